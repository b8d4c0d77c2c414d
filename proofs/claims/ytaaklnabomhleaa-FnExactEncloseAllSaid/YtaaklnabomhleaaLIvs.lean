/- The walks of the exact laws of SumIntervals and EncloseAll: each returns true and writes nothing that was there. -/
import Derived.Test.YtaaklnabomhleaaIvc
import Derived.Test.YtaaklnabomhleaaPairs
namespace Go.Proofs.Ytaaklnabomhleaa
open Go.ChangeShapes Go.WideShapes Go.ChangeAt Go.RowKit
set_option linter.unusedVariables false

set_option maxRecDepth 100000 in
set_option maxHeartbeats 2000000 in
theorem leni (a0 : Option Addr) (len0 cap0 : Nat) (z0 : List Int) (w : World) (w0 : IsRow2 w a0 len0 cap0 z0) :
    Calls Try.prog 11 #[.slice a0 len0 cap0] w fun e w' => e = .returned (.bool true) ∧ Below w.heap.size w w' := by
  obtain ⟨hl, hcap, ps, hps, hz⟩ := Ivs.of_row2 w0
  subst hps
  have HZ := Lib.hid hz
  clear w0 hz hcap
  by_cases hbig : 1048576 < ps.length
  · have hs : (if 1048576 < ps.length then (-1 : Int) else 1048576 - (ps.length : Int)) = -1 := if_pos hbig
    have HS := Lib.hid hs
    clear hs hbig
    go_enter Try.func11, Try.ntmps11
    go_wp2_with fail
    refine (szs_any _ _ _ _ hl).mono ?_
    rw [HS.out]
    rintro e w' ⟨rfl, rfl⟩
    go_wp2
    go_ret
    exact ⟨rfl, Below.refl _ _⟩
  · have hs : (if 1048576 < ps.length then (-1 : Int) else 1048576 - (ps.length : Int)) = 1048576 - (ps.length : Int) := if_neg hbig
    have HS := Lib.hid hs
    have hlen : ps.length ≤ 1048576 := by omega
    have hs0 : ¬ (1048576 : Int) - (ps.length : Int) < 0 := by omega
    clear hs hbig
    go_enter Try.func11, Try.ntmps11
    go_wp2_with fail
    refine (szs_any _ _ _ _ hl).mono ?_
    rw [HS.out]
    rintro e w' ⟨rfl, rfl⟩
    go_wp2_with fail
    refine (tos_any _ _ _ ps hlen HZ.out).mono ?_
    rintro e w1 ⟨g1, rfl, hg1, hz1, hb⟩
    have B1 := Lib.hid hb
    have Z1 := Lib.hid hz1
    clear hb hz1 hg1
    go_wp2_with fail
    refine (sen_any _ _ _ ps hlen Z1.out).mono ?_
    rintro e w2 ⟨rfl, hb⟩
    have B2 := Lib.hid (bel_end B1.out hb)
    have hw2 : w.heap.size ≤ w2.heap.size := B2.out.size
    clear hb
    go_wp2_with fail
    have B2a := Lib.hid (B2.out.alloc hw2 (.cells #[.int .i64 (encT ps).1, .int .i64 (encT ps).2.1] 48))
    refine (tos_any _ _ _ ps hlen ((HZ.out.below B2a.out).more B2a.out.size)).mono ?_
    rintro e w3 ⟨g3, rfl, hg3, hz3, hb⟩
    have x0 : w3.cell? ⟨w2.heap.size, 0, none⟩ = some (.int .i64 (encT ps).1) := (hb.cell (p := ⟨w2.heap.size, 0, none⟩) (by simp)).trans (by simp [go_sem])
    have x1 : w3.cell? ⟨w2.heap.size, 1, none⟩ = some (.int .i64 (encT ps).2.1) := (hb.cell (p := ⟨w2.heap.size, 1, none⟩) (by simp)).trans (by simp [go_sem])
    have hs3 : w2.heap.size < w3.heap.size := by have := hb.size; simp at this; omega
    have B3 := Lib.hid (bel_end B2a.out hb)
    have Z3 := Lib.hid hz3
    clear hb hz3 hg3 B2a
    go_wp2_with fail
    refine (ien_any _ _ _ ps hlen (Nat.le_refl _) Z3.out).mono ?_
    rintro e w4 ⟨rfl, hb⟩
    have y0 := kpI x0 hb hs3
    have y1 := kpI x1 hb hs3
    have Z4 := Lib.hid (Z3.out.below hb)
    have B4 := Lib.hid (bel_end B3.out hb)
    have hs4 : w2.heap.size < w4.heap.size := Nat.lt_of_lt_of_le hs3 hb.size
    have hs34 : w3.heap.size ≤ w4.heap.size := hb.size
    clear hb x0 x1
    go_wp2_with fail
    have B4a := Lib.hid ((Below.refl w4.heap.size w4).alloc (Nat.le_refl _) (.cells #[.int .i64 (encT ps).1, .int .i64 (encT ps).2.1] 48))
    refine (eqv_any _ _ _ _ _).mono ?_
    rintro e w5 ⟨rfl, hb⟩
    have B5 := Lib.hid (bel_end (B4.out.alloc B4.out.size _) hb)
    have Z5 := Lib.hid ((Z4.out.below (B4a.out.mono hs34)).below (hb.mono (Nat.le_trans hs34 B4a.out.size)))
    have hs35 : w3.heap.size ≤ w5.heap.size := Nat.le_trans (Nat.le_trans hs34 B4a.out.size) hb.size
    clear hb
    go_wp2_with fail
    refine (tos_any _ _ _ ps hlen ((HZ.out.below B5.out).more B5.out.size)).mono ?_
    rintro e w6 ⟨g6, rfl, hg6, hz6, hb⟩
    have Z6 := Lib.hid hz6
    have Z56 := Lib.hid (Z5.out.below (hb.mono hs35))
    have hs36 : w3.heap.size ≤ w6.heap.size := Nat.le_trans hs35 hb.size
    have B6 := Lib.hid (bel_end B5.out hb)
    clear hb hz6 hg6
    go_wp2_with fail
    refine (eqs_any _ w6.heap.size _ _ _ _ ps hlen (Nat.le_refl _) (Z56.out.more hs36) Z6.out).mono ?_
    rintro e w7 ⟨rfl, hb⟩
    have B7 := Lib.hid (bel_end B6.out hb)
    clear hb
    go_wp2
    go_ret
    exact ⟨rfl, B7.out⟩
end Go.Proofs.Ytaaklnabomhleaa
