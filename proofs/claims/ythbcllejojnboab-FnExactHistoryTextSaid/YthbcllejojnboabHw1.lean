/- The walk of the exact law of HistoryText. -/
import Derived.Test.YthbcllejojnboabHst
import Derived.Test.YthbcllejojnboabBas
namespace Go.Proofs.Ythbcllejojnboab
open Go.ChangeShapes Go.WideShapes Go.ChangeAt Go.RowKit Go.Shelf Num
set_option linter.unusedVariables false
set_option maxRecDepth 100000 in
set_option maxHeartbeats 4000000 in
theorem lht (a0 : Option Addr) (len0 cap0 : Nat) (z0 : List Int) (w : World) (w0 : IsRow .i64 w a0 len0 cap0 z0) :
    Calls Try.prog 4 #[.slice a0 len0 cap0] w fun e w' => e = .returned (.bool true) ∧ Below w.heap.size w w' := by
  obtain ⟨hm, hlen, hz, hwf⟩ := Ints.of_row w0
  clear w0 hwf
  obtain ⟨zs, hzs⟩ : ∃ zs, z0.take len0 = zs := ⟨_, rfl⟩
  rw [hzs] at hz hlen
  subst hlen
  clear hzs
  by_cases hbig : 1048576 < zs.length
  · have hbi : (1048576 : Int) < (zs.length : Int) := by omega
    go_enter Try.func4, Try.ntmps4
    go_wp2
    go_ret
    exact ⟨rfl, Below.refl _ _⟩
  · have HZ := Lib.hid hz
    have hbi : ¬ (1048576 : Int) < (zs.length : Int) := by omega
    obtain ⟨T, hT⟩ : ∃ T, hstT zs = T := ⟨_, rfl⟩
    have K1 : Hid (∀ (W : World) (a : Option Addr) (c : Nat), Ints .i64 W W.heap.size a zs → Calls Try.prog 12 #[.slice a zs.length c] W fun e w' => e = .returned (.string T) ∧ Below W.heap.size W w') := Lib.hid (fun W a c h => by rw [← hT]; exact sht_any W a c zs (by omega) h)
    have K2 : Hid (∀ (W : World) (a : Option Addr) (c : Nat), Ints .i64 W W.heap.size a zs → Calls Try.prog 8 #[.slice a zs.length c] W fun e w' => e = .returned (.string T) ∧ Below W.heap.size W w') := Lib.hid (fun W a c h => by rw [← hT]; exact iht_any W a c zs (by omega) h)
    clear hz hT
    go_enter Try.func4, Try.ntmps4
    go_wp2_with fail
    refine (to_any _ _ _ zs (by omega) HZ.out).mono ?_
    rintro e w1 ⟨g1, rfl, hg1, hr1, hb1⟩
    have R1 := Lib.hid hr1
    have B1 := Lib.hid hb1
    clear hr1 hb1
    go_wp2_with fail
    (with_reducible refine Calls.mono (K1.out _ _ _ (Ints.of_rowIs R1.out)) ?_)
    rintro e w2 ⟨rfl, hb⟩
    have B2 := Lib.hid (bel_end B1.out hb)
    clear hb B1 R1
    go_wp2_with fail
    refine (to_any _ _ _ zs (by omega) ((HZ.out.below B2.out).more B2.out.size)).mono ?_
    rintro e w3 ⟨g3, rfl, hg3, hr3, hb3⟩
    have R3 := Lib.hid (Ints.of_rowIs hr3)
    have B3 := Lib.hid (bel_end B2.out hb3)
    clear hr3 hb3 B2
    go_wp2_with fail
    (with_reducible refine Calls.mono (K2.out _ _ _ R3.out) ?_)
    rintro e w4 ⟨rfl, hb⟩
    have B4 := Lib.hid (bel_end B3.out hb)
    have R4 := Lib.hid ((R3.out.below hb).more hb.size)
    clear hb B3 R3
    go_wp2_with fail
    refine (to_any _ _ _ zs (by omega) ((HZ.out.below B4.out).more B4.out.size)).mono ?_
    rintro e w5 ⟨g5, rfl, hg5, hr5, hb5⟩
    have R5 := Lib.hid (Ints.of_rowIs hr5)
    have B5 := Lib.hid (bel_end B4.out hb5)
    have R6 := Lib.hid ((R4.out.below hb5).more hb5.size)
    clear hr5 hb5 B4 R4
    go_wp2_with fail
    refine (eqi_any _ _ _ _ _ _ zs zs (by omega) (by omega) R6.out R5.out).mono ?_
    rw [sameB_t rfl]
    rintro e w' ⟨rfl, n2, rfl⟩
    go_wp2
    go_ret
    exact ⟨rfl, bel_drewN B5.out _⟩
end Go.Proofs.Ythbcllejojnboab
