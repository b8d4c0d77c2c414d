/- Contracts of DelayOf, the program's and the model's; the walks of the exact laws of PeakOf and DelayOf. -/
import Derived.Test.YtmofljncnfllcaaMfB
import Derived.Test.YtmofljncnfllcaaMfQ
import Derived.Test.YtmofljncnfllcaaPuX
namespace Go.Proofs.Ytmofljncnfllcaa
open Go.ChangeShapes Go.WideShapes Go.ChangeAt Go.RowKit Go.Shelf Num
set_option linter.unusedVariables false
set_option linter.unusedSimpArgs false

set_option maxRecDepth 100000 in
set_option maxHeartbeats 2000000 in
theorem idl_any (w : World) (a b : Option Addr) (c d : Nat) (ss ps : List Int) (l1 : ss.length ≤ 1048576) (l2 : ps.length ≤ 1048576) (hc : ss.length ≤ c) (hz : Ints .i64 w w.heap.size a ss) (hy : Ints .i64 w w.heap.size b ps) :
    Calls Try.prog 20 #[.slice a ss.length c, .slice b ps.length d] w fun e w' => e = .returned (.tuple #[.int .i64 (dlV ss ps), .int .i64 (mtC ss ps)]) ∧ Below w.heap.size w w' := by
  have HZ := Lib.hid hz
  have HY := Lib.hid hy
  clear hz hy
  by_cases h : mtC ss ps = 0
  · have H1 : Hid (dlV ss ps = ((pkV (mtL ss ps) : Nat) : Int)) := Lib.hid (by unfold dlV; rw [if_pos h])
    have HC := Lib.hid h
    obtain ⟨hs1, hs2, hp0, hpl⟩ := mtC_0 h
    have HSM : Hid (smlL 1000000000000 (mtL ss ps)) := Lib.hid (fun i => by have := mtK_sml (sigB_t hs1).2 (sigB_t hs2).2 (sigB_t hs2).1 (mtN ss ps) i; unfold mtL; omega)
    have HLn : Hid ((mtL ss ps).length = ss.length - ps.length + 1) := Lib.hid (mtL_len ss ps)
    have h4 := (sigB_t hs1).1
    clear hs1 hs2
    go_enter Try.func20, Try.ntmps20
    go_wp2_with fail
    refine (imq_any w a b c d ss ps l1 l2 HZ.out HY.out).mono ?_
    rintro e w1 ⟨rfl, hb⟩
    have HB := Lib.hid hb
    have HB0 := Lib.hid hb
    have HZ1 := Lib.hid ((HZ.out.below hb).more hb.size)
    have HY1 := Lib.hid ((HY.out.below hb).more hb.size)
    clear hb
    rw [HC.out]
    go_wp2_with fail
    refine (mto_any w1 a b c d ss ps HC.out hc HZ1.out HY1.out).mono ?_
    rintro e w2 ⟨g, c', rfl, ho, hb⟩
    have HO := Lib.hid ho
    replace HB := Lib.hid (bel_end HB.out hb)
    clear ho hb
    obtain ⟨L, hL⟩ : ∃ L, mtL ss ps = L := ⟨_, rfl⟩
    rw [hL] at HO HSM HLn H1 ⊢
    clear hL
    have hL0 : 0 < L.length := by rw [HLn.out]; omega
    have hL4 : L.length ≤ 1048576 := by rw [HLn.out]; omega
    go_wp2_with fail
    refine (ipo2_any w2 _ _ L hL0 hL4 HSM.out HO.out.ints).mono ?_
    rintro e w3 ⟨rfl, hb⟩
    replace HB := Lib.hid (bel_end HB.out hb)
    clear hb
    have hfl := fld_mk (.int .i64 ((pkV L : Nat) : Int)) (.int .i64 (L[pkV L]?.getD 0))
    rw [List.getD_eq_getElem?_getD]
    go_wp2
    go_ret2
    exact ⟨ret_int2 H1.out.symm HC.out.symm, HB.out⟩
  · have H1 : Hid (dlV ss ps = 0) := Lib.hid (by unfold dlV; rw [if_neg h])
    have hC : (mtC ss ps != 0) = true := by simpa using h
    go_enter Try.func20, Try.ntmps20
    go_wp2_with fail
    refine (imq_any w a b c d ss ps l1 l2 HZ.out HY.out).mono ?_
    rintro e w1 ⟨rfl, hb⟩
    have HB := Lib.hid hb
    have HB0 := Lib.hid hb
    have HZ1 := Lib.hid ((HZ.out.below hb).more hb.size)
    have HY1 := Lib.hid ((HY.out.below hb).more hb.size)
    clear hb
    go_wp2
    go_ret2
    exact ⟨ret_int2 H1.out.symm rfl, HB.out⟩

set_option maxRecDepth 100000 in
set_option maxHeartbeats 2000000 in
theorem sdl_any (w : World) (a b : Option Addr) (c d : Nat) (ss ps : List Int) (l1 : ss.length ≤ 1048576) (l2 : ps.length ≤ 1048576) (hz : Ints .i64 w w.heap.size a ss) (hy : Ints .i64 w w.heap.size b ps) :
    Calls Try.prog 19 #[.slice a ss.length c, .slice b ps.length d] w fun e w' => e = .returned (.tuple #[.int .i64 (dlV ss ps), .int .i64 (mtC ss ps)]) ∧ Below w.heap.size w w' := by
  have HZ := Lib.hid hz
  have HY := Lib.hid hy
  clear hz hy
  by_cases h : mtC ss ps = 0
  · have H1 : Hid (dlV ss ps = ((pkV (mtL ss ps) : Nat) : Int)) := Lib.hid (by unfold dlV; rw [if_pos h])
    have HC := Lib.hid h
    obtain ⟨hs1, hs2, hp0, hpl⟩ := mtC_0 h
    have HSM : Hid (smlL 1000000000000 (mtL ss ps)) := Lib.hid (fun i => by have := mtK_sml (sigB_t hs1).2 (sigB_t hs2).2 (sigB_t hs2).1 (mtN ss ps) i; unfold mtL; omega)
    have HLn : Hid ((mtL ss ps).length = ss.length - ps.length + 1) := Lib.hid (mtL_len ss ps)
    have h4 := (sigB_t hs1).1
    clear hs1 hs2
    go_enter Try.func19, Try.ntmps19
    go_wp2_with fail
    refine (smc_any w _ _ a b c d ss ps l1 l2 HZ.out HY.out).mono ?_
    rintro e w1 ⟨rfl, rfl⟩
    have HB := Lib.hid (Below.refl w.heap.size w)
    have HB0 := Lib.hid (Below.refl w.heap.size w)
    rw [HC.out]
    go_wp2_with fail
    refine (ltm_any w a b c d ss ps HC.out HZ.out HY.out).mono ?_
    rintro e w2 ⟨g, c', rfl, ho, hb⟩
    have HO := Lib.hid ho
    replace HB := Lib.hid (bel_end HB.out hb)
    clear ho hb
    obtain ⟨L, hL⟩ : ∃ L, mtL ss ps = L := ⟨_, rfl⟩
    rw [hL] at HO HSM HLn H1 ⊢
    clear hL
    have hL0 : 0 < L.length := by rw [HLn.out]; omega
    have hL4 : L.length ≤ 1048576 := by rw [HLn.out]; omega
    go_wp2_with fail
    refine (lpk_any w2 _ _ L hL0 hL4 HSM.out HO.out.ints).mono ?_
    rintro e w3 ⟨rfl, hb⟩
    replace HB := Lib.hid (bel_end HB.out hb)
    clear hb
    go_wp2
    go_ret2
    exact ⟨ret_int2 H1.out.symm HC.out.symm, HB.out⟩
  · have H1 : Hid (dlV ss ps = 0) := Lib.hid (by unfold dlV; rw [if_neg h])
    have hC : (mtC ss ps != 0) = true := by simpa using h
    go_enter Try.func19, Try.ntmps19
    go_wp2_with fail
    refine (smc_any w _ _ a b c d ss ps l1 l2 HZ.out HY.out).mono ?_
    rintro e w1 ⟨rfl, rfl⟩
    have HB := Lib.hid (Below.refl w.heap.size w)
    have HB0 := Lib.hid (Below.refl w.heap.size w)
    go_wp2
    go_ret2
    exact ⟨ret_int2 H1.out.symm rfl, HB.out⟩

set_option maxRecDepth 100000 in
set_option maxHeartbeats 8000000 in
theorem lpko (a0 : Option Addr) (len0 cap0 : Nat) (z0 : List Int) (w : World) (w0 : IsRow .i64 w a0 len0 cap0 z0) :
    Calls Try.prog 4 #[.slice a0 len0 cap0] w fun e w' => e = .returned (.bool true) ∧ Below w.heap.size w w' := by
  obtain ⟨hm0, hlen, hz0, -⟩ := Ints.of_row w0
  obtain ⟨zs, hzs⟩ : ∃ zs, z0.take len0 = zs := ⟨_, rfl⟩
  rw [hzs] at hz0 hlen
  subst hlen
  clear hzs w0
  have Hzs := Lib.hid (IntL.of hz0)
  clear hz0
  have HB := Lib.hid (Below.refl w.heap.size w)
  by_cases hbzs : 1048576 < zs.length
  · go_enter Try.func4, Try.ntmps4
    go_wp2
    go_ret
    exact ⟨rfl, Below.refl _ _⟩
  go_enter Try.func4, Try.ntmps4
  go_wp2_with fail
  refine (to_any _ _ _ zs (by omega) Hzs.out.ints).mono ?_
  rintro e w1 ⟨g1, rfl, hg, hr, hb⟩
  replace Hzs := Lib.hid (Hzs.out.on hb)
  replace HB := Lib.hid (bel_end HB.out hb)
  have q1 := hb.size
  have Szs := Lib.hid (ownA_new hr hg (by omega))
  clear hb hg hr
  go_wp2_with fail
  refine (spk_any _ _ _ zs (by omega) Szs.out.ints).mono ?_
  rintro e w2 ⟨rfl, hb⟩
  replace Hzs := Lib.hid (Hzs.out.on hb)
  replace Szs := Lib.hid (Szs.out.on hb)
  replace HB := Lib.hid (bel_end HB.out hb)
  have q2 := hb.size
  clear hb
  clear Szs
  go_wp2_with fail
  refine (to_any _ _ _ zs (by omega) Hzs.out.ints).mono ?_
  rintro e w3 ⟨g3, rfl, hg, hr, hb⟩
  replace Hzs := Lib.hid (Hzs.out.on hb)
  replace HB := Lib.hid (bel_end HB.out hb)
  have q3 := hb.size
  have Xzs := Lib.hid (ownA_new hr hg (by omega))
  clear hb hg hr
  go_wp2_with fail
  refine (ipk_any _ _ _ zs (by omega) Xzs.out.ints).mono ?_
  rintro e w4 ⟨rfl, hb⟩
  replace Hzs := Lib.hid (Hzs.out.on hb)
  replace Xzs := Lib.hid (Xzs.out.on hb)
  replace HB := Lib.hid (bel_end HB.out hb)
  have q4 := hb.size
  clear hb
  go_wp2_with fail
  refine (to_any _ _ _ zs (by omega) Hzs.out.ints).mono ?_
  rintro e w5 ⟨g5, rfl, hg, hr, hb⟩
  replace Hzs := Lib.hid (Hzs.out.on hb)
  replace Xzs := Lib.hid (Xzs.out.on hb)
  replace HB := Lib.hid (bel_end HB.out hb)
  have q5 := hb.size
  have C := Lib.hid (ownA_new hr hg (by omega))
  clear hb hg hr
  go_wp2_with fail
  refine (eql_any _ _ _ _ _ zs (by omega) Xzs.out.ints C.out.ints).mono ?_
  rintro e w6 ⟨rfl, hb⟩
  replace Hzs := Lib.hid (Hzs.out.on hb)
  replace Xzs := Lib.hid (Xzs.out.on hb)
  replace C := Lib.hid (C.out.on hb)
  replace HB := Lib.hid (bel_end HB.out hb)
  have q6 := hb.size
  clear hb
  clear C
  go_wp2
  go_ret
  exact ⟨rfl, HB.out⟩

set_option maxRecDepth 100000 in
set_option maxHeartbeats 8000000 in
theorem ldly (a0 : Option Addr) (len0 cap0 : Nat) (z0 : List Int) (a1 : Option Addr) (len1 cap1 : Nat) (z1 : List Int) (w : World) (w0 : IsRow .i64 w a0 len0 cap0 z0) (w1 : IsRow .i64 w a1 len1 cap1 z1) :
    Calls Try.prog 5 #[.slice a0 len0 cap0, .slice a1 len1 cap1] w fun e w' => e = .returned (.bool true) ∧ Below w.heap.size w w' := by
  obtain ⟨hm0, hlen, hz0, -⟩ := Ints.of_row w0
  obtain ⟨ss, hzs⟩ : ∃ zs, z0.take len0 = zs := ⟨_, rfl⟩
  rw [hzs] at hz0 hlen
  subst hlen
  clear hzs w0
  obtain ⟨hm1, hlen, hz1, -⟩ := Ints.of_row w1
  obtain ⟨ps, hzs⟩ : ∃ zs, z1.take len1 = zs := ⟨_, rfl⟩
  rw [hzs] at hz1 hlen
  subst hlen
  clear hzs w1
  have Hss := Lib.hid (IntL.of hz0)
  have Hps := Lib.hid (IntL.of hz1)
  clear hz0 hz1
  have HB := Lib.hid (Below.refl w.heap.size w)
  by_cases hbss : 1048576 < ss.length
  · go_enter Try.func5, Try.ntmps5
    go_wp2
    go_ret
    exact ⟨rfl, Below.refl _ _⟩
  by_cases hbps : 1048576 < ps.length
  · go_enter Try.func5, Try.ntmps5
    go_wp2
    go_ret
    exact ⟨rfl, Below.refl _ _⟩
  go_enter Try.func5, Try.ntmps5
  go_wp2_with fail
  refine (to_any _ _ _ ss (by omega) Hss.out.ints).mono ?_
  rintro e w1 ⟨g1, rfl, hg, hr, hb⟩
  replace Hss := Lib.hid (Hss.out.on hb)
  replace Hps := Lib.hid (Hps.out.on hb)
  replace HB := Lib.hid (bel_end HB.out hb)
  have q1 := hb.size
  have Sss := Lib.hid (ownA_new hr hg (by omega))
  clear hb hg hr
  go_wp2_with fail
  refine (to_any _ _ _ ps (by omega) Hps.out.ints).mono ?_
  rintro e w2 ⟨g2, rfl, hg, hr, hb⟩
  replace Hss := Lib.hid (Hss.out.on hb)
  replace Hps := Lib.hid (Hps.out.on hb)
  replace Sss := Lib.hid (Sss.out.on hb)
  replace HB := Lib.hid (bel_end HB.out hb)
  have q2 := hb.size
  have Sps := Lib.hid (ownA_new hr hg (by omega))
  clear hb hg hr
  go_wp2_with fail
  refine (sdl_any _ _ _ _ _ ss ps (by omega) (by omega) Sss.out.ints Sps.out.ints).mono ?_
  rintro e w3 ⟨rfl, hb⟩
  replace Hss := Lib.hid (Hss.out.on hb)
  replace Hps := Lib.hid (Hps.out.on hb)
  replace Sss := Lib.hid (Sss.out.on hb)
  replace Sps := Lib.hid (Sps.out.on hb)
  replace HB := Lib.hid (bel_end HB.out hb)
  have q3 := hb.size
  clear hb
  clear Sss Sps
  go_wp2_with fail
  refine (to_any _ _ _ ss (by omega) Hss.out.ints).mono ?_
  rintro e w4 ⟨g4, rfl, hg, hr, hb⟩
  replace Hss := Lib.hid (Hss.out.on hb)
  replace Hps := Lib.hid (Hps.out.on hb)
  replace HB := Lib.hid (bel_end HB.out hb)
  have q4 := hb.size
  have Xss := Lib.hid (ownA_new hr hg (by omega))
  clear hb hg hr
  go_wp2_with fail
  refine (to_any _ _ _ ps (by omega) Hps.out.ints).mono ?_
  rintro e w5 ⟨g5, rfl, hg, hr, hb⟩
  replace Hss := Lib.hid (Hss.out.on hb)
  replace Hps := Lib.hid (Hps.out.on hb)
  replace Xss := Lib.hid (Xss.out.on hb)
  replace HB := Lib.hid (bel_end HB.out hb)
  have q5 := hb.size
  have Xps := Lib.hid (ownA_new hr hg (by omega))
  clear hb hg hr
  go_wp2_with fail
  refine (idl_any _ _ _ _ _ ss ps (by omega) (by omega) (ownA_cap Xss.out) Xss.out.ints Xps.out.ints).mono ?_
  rintro e w6 ⟨rfl, hb⟩
  replace Hss := Lib.hid (Hss.out.on hb)
  replace Hps := Lib.hid (Hps.out.on hb)
  replace Xss := Lib.hid (Xss.out.on hb)
  replace Xps := Lib.hid (Xps.out.on hb)
  replace HB := Lib.hid (bel_end HB.out hb)
  have q6 := hb.size
  clear hb
  go_wp2_with fail
  refine (to_any _ _ _ ss (by omega) Hss.out.ints).mono ?_
  rintro e w7 ⟨g7, rfl, hg, hr, hb⟩
  replace Hss := Lib.hid (Hss.out.on hb)
  replace Hps := Lib.hid (Hps.out.on hb)
  replace Xss := Lib.hid (Xss.out.on hb)
  replace Xps := Lib.hid (Xps.out.on hb)
  replace HB := Lib.hid (bel_end HB.out hb)
  have q7 := hb.size
  have C := Lib.hid (ownA_new hr hg (by omega))
  clear hb hg hr
  go_wp2_with fail
  refine (eql_any _ _ _ _ _ ss (by omega) Xss.out.ints C.out.ints).mono ?_
  rintro e w8 ⟨rfl, hb⟩
  replace Hss := Lib.hid (Hss.out.on hb)
  replace Hps := Lib.hid (Hps.out.on hb)
  replace Xss := Lib.hid (Xss.out.on hb)
  replace Xps := Lib.hid (Xps.out.on hb)
  replace C := Lib.hid (C.out.on hb)
  replace HB := Lib.hid (bel_end HB.out hb)
  have q8 := hb.size
  clear hb
  clear C
  go_wp2_with fail
  refine (to_any _ _ _ ps (by omega) Hps.out.ints).mono ?_
  rintro e w9 ⟨g9, rfl, hg, hr, hb⟩
  replace Hss := Lib.hid (Hss.out.on hb)
  replace Hps := Lib.hid (Hps.out.on hb)
  replace Xss := Lib.hid (Xss.out.on hb)
  replace Xps := Lib.hid (Xps.out.on hb)
  replace HB := Lib.hid (bel_end HB.out hb)
  have q9 := hb.size
  have C := Lib.hid (ownA_new hr hg (by omega))
  clear hb hg hr
  go_wp2_with fail
  refine (eql_any _ _ _ _ _ ps (by omega) Xps.out.ints C.out.ints).mono ?_
  rintro e w10 ⟨rfl, hb⟩
  replace Hss := Lib.hid (Hss.out.on hb)
  replace Hps := Lib.hid (Hps.out.on hb)
  replace Xss := Lib.hid (Xss.out.on hb)
  replace Xps := Lib.hid (Xps.out.on hb)
  replace C := Lib.hid (C.out.on hb)
  replace HB := Lib.hid (bel_end HB.out hb)
  have q10 := hb.size
  clear hb
  clear C
  go_wp2
  go_ret
  exact ⟨rfl, HB.out⟩
end Go.Proofs.Ytmofljncnfllcaa
