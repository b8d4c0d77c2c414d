/- Contracts of DelayOf, the program's and the model's; the walks of the exact laws of PeakOf and DelayOf. -/
import Derived.Test.YthfaejhiabdkbabMfB
import Derived.Test.YthfaejhiabdkbabMfQ
import Derived.Test.YthfaejhiabdkbabPuX
namespace Go.Proofs.Ythfaejhiabdkbab
open Go.ChangeShapes Go.WideShapes Go.ChangeAt Go.RowKit Go.Shelf Num
set_option linter.unusedVariables false
set_option linter.unusedSimpArgs false

set_option maxRecDepth 100000 in
set_option maxHeartbeats 2000000 in
theorem idl_any (w : World) (a b : Option Addr) (c d : Nat) (ss ps : List Int) (l1 : ss.length ≤ 1048576) (l2 : ps.length ≤ 1048576) (hc : ss.length ≤ c) (hz : Ints .i64 w w.heap.size a ss) (hy : Ints .i64 w w.heap.size b ps) :
    Calls Try.prog 21 #[.slice a ss.length c, .slice b ps.length d] w fun e w' => e = .returned (.tuple #[.int .i64 (dlV ss ps), .int .i64 (mtC ss ps)]) ∧ Below w.heap.size w w' := by
  have HZ := Lib.hid hz
  have HY := Lib.hid hy
  clear hz hy
  by_cases h : mtC ss ps = 0
  · have H1 : Hid (dlV ss ps = ((pkV (mtL ss ps) : Nat) : Int)) := Lib.hid (by unfold dlV; rw [if_pos h])
    have HC := Lib.hid h
    obtain ⟨hs1, hs2, hp0, hpl⟩ := mtC_0 h
    have HSM : Hid (smlL 1000000000000 (mtL ss ps)) := Lib.hid (fun i => by have := mtK_sml (sigB_t hs1).2 (sigB_t hs2).2 (sigB_t hs2).1 (mtN ss ps) i; unfold mtL; omega)
    have HLn : Hid ((mtL ss ps).length = ss.length - ps.length + 1) := Lib.hid (mtL_len ss ps)
    have h4 := (sigB_t hs1).1
    clear hs1 hs2
    go_enter Try.func21, Try.ntmps21
    go_wp2_with fail
    refine (imq_any w a b c d ss ps l1 l2 HZ.out HY.out).mono ?_
    rintro e w1 ⟨rfl, hb⟩
    have HB := Lib.hid hb
    have HB0 := Lib.hid hb
    have HZ1 := Lib.hid ((HZ.out.below hb).more hb.size)
    have HY1 := Lib.hid ((HY.out.below hb).more hb.size)
    clear hb
    rw [HC.out]
    go_wp2_with fail
    refine (mto_any w1 a b c d ss ps HC.out hc HZ1.out HY1.out).mono ?_
    rintro e w2 ⟨g, c', rfl, ho, hb⟩
    have HO := Lib.hid ho
    replace HB := Lib.hid (bel_end HB.out hb)
    clear ho hb
    obtain ⟨L, hL⟩ : ∃ L, mtL ss ps = L := ⟨_, rfl⟩
    rw [hL] at HO HSM HLn H1 ⊢
    clear hL
    have hL0 : 0 < L.length := by rw [HLn.out]; omega
    have hL4 : L.length ≤ 1048576 := by rw [HLn.out]; omega
    go_wp2_with fail
    refine (ipo2_any w2 _ _ L hL0 hL4 HSM.out HO.out.ints).mono ?_
    rintro e w3 ⟨rfl, hb⟩
    replace HB := Lib.hid (bel_end HB.out hb)
    clear hb
    have hfl := fld_mk (.int .i64 ((pkV L : Nat) : Int)) (.int .i64 (L[pkV L]?.getD 0))
    rw [List.getD_eq_getElem?_getD]
    go_wp2
    go_ret2
    exact ⟨ret_int2 H1.out.symm HC.out.symm, HB.out⟩
  · have H1 : Hid (dlV ss ps = 0) := Lib.hid (by unfold dlV; rw [if_neg h])
    have hC : (mtC ss ps != 0) = true := by simpa using h
    go_enter Try.func21, Try.ntmps21
    go_wp2_with fail
    refine (imq_any w a b c d ss ps l1 l2 HZ.out HY.out).mono ?_
    rintro e w1 ⟨rfl, hb⟩
    have HB := Lib.hid hb
    have HB0 := Lib.hid hb
    have HZ1 := Lib.hid ((HZ.out.below hb).more hb.size)
    have HY1 := Lib.hid ((HY.out.below hb).more hb.size)
    clear hb
    go_wp2
    go_ret2
    exact ⟨ret_int2 H1.out.symm rfl, HB.out⟩

set_option maxRecDepth 100000 in
set_option maxHeartbeats 2000000 in
theorem sdl_any (w : World) (a b : Option Addr) (c d : Nat) (ss ps : List Int) (l1 : ss.length ≤ 1048576) (l2 : ps.length ≤ 1048576) (hz : Ints .i64 w w.heap.size a ss) (hy : Ints .i64 w w.heap.size b ps) :
    Calls Try.prog 22 #[.slice a ss.length c, .slice b ps.length d] w fun e w' => e = .returned (.tuple #[.int .i64 (dlV ss ps), .int .i64 (mtC ss ps)]) ∧ Below w.heap.size w w' := by
  have HZ := Lib.hid hz
  have HY := Lib.hid hy
  clear hz hy
  by_cases h : mtC ss ps = 0
  · have H1 : Hid (dlV ss ps = ((pkV (mtL ss ps) : Nat) : Int)) := Lib.hid (by unfold dlV; rw [if_pos h])
    have HC := Lib.hid h
    obtain ⟨hs1, hs2, hp0, hpl⟩ := mtC_0 h
    have HSM : Hid (smlL 1000000000000 (mtL ss ps)) := Lib.hid (fun i => by have := mtK_sml (sigB_t hs1).2 (sigB_t hs2).2 (sigB_t hs2).1 (mtN ss ps) i; unfold mtL; omega)
    have HLn : Hid ((mtL ss ps).length = ss.length - ps.length + 1) := Lib.hid (mtL_len ss ps)
    have h4 := (sigB_t hs1).1
    clear hs1 hs2
    go_enter Try.func22, Try.ntmps22
    go_wp2_with fail
    refine (smc_any w _ _ a b c d ss ps l1 l2 HZ.out HY.out).mono ?_
    rintro e w1 ⟨rfl, rfl⟩
    have HB := Lib.hid (Below.refl w.heap.size w)
    have HB0 := Lib.hid (Below.refl w.heap.size w)
    rw [HC.out]
    go_wp2_with fail
    refine (ltm_any w a b c d ss ps HC.out HZ.out HY.out).mono ?_
    rintro e w2 ⟨g, c', rfl, ho, hb⟩
    have HO := Lib.hid ho
    replace HB := Lib.hid (bel_end HB.out hb)
    clear ho hb
    obtain ⟨L, hL⟩ : ∃ L, mtL ss ps = L := ⟨_, rfl⟩
    rw [hL] at HO HSM HLn H1 ⊢
    clear hL
    have hL0 : 0 < L.length := by rw [HLn.out]; omega
    have hL4 : L.length ≤ 1048576 := by rw [HLn.out]; omega
    go_wp2_with fail
    refine (lpk_any w2 _ _ L hL0 hL4 HSM.out HO.out.ints).mono ?_
    rintro e w3 ⟨rfl, hb⟩
    replace HB := Lib.hid (bel_end HB.out hb)
    clear hb
    go_wp2
    go_ret2
    exact ⟨ret_int2 H1.out.symm HC.out.symm, HB.out⟩
  · have H1 : Hid (dlV ss ps = 0) := Lib.hid (by unfold dlV; rw [if_neg h])
    have hC : (mtC ss ps != 0) = true := by simpa using h
    go_enter Try.func22, Try.ntmps22
    go_wp2_with fail
    refine (smc_any w _ _ a b c d ss ps l1 l2 HZ.out HY.out).mono ?_
    rintro e w1 ⟨rfl, rfl⟩
    have HB := Lib.hid (Below.refl w.heap.size w)
    have HB0 := Lib.hid (Below.refl w.heap.size w)
    go_wp2
    go_ret2
    exact ⟨ret_int2 H1.out.symm rfl, HB.out⟩

end Go.Proofs.Ythfaejhiabdkbab
