/- The walk of the exact law of ReadHistory. -/
import Derived.Test.YthbcllejojnboabHsr
import Derived.Test.YthbcllejojnboabBas
import Derived.Test.YthbcllejojnboabLys
namespace Go.Proofs.Ythbcllejojnboab
open Go.ChangeShapes Go.WideShapes Go.ChangeAt Go.RowKit Go.Shelf Num
set_option linter.unusedVariables false
set_option maxRecDepth 100000 in
set_option maxHeartbeats 8000000 in
theorem lrh (a0 : ByteArray) (w0 : a0.size ≤ maxLen) (w : World) :
    Calls Try.prog 5 #[.string a0] w fun e w' => e = .returned (.bool true) ∧ Below w.heap.size w w' := by
  by_cases hbig : 1048576 < a0.size
  · have hbi : (1048576 : Int) < (a0.size : Int) := by omega
    go_enter Try.func5, Try.ntmps5
    go_wp2
    go_ret
    exact ⟨rfl, Below.refl _ _⟩
  · have hbi : ¬ (1048576 : Int) < (a0.size : Int) := by omega
    have l12 := hrL_len a0
    obtain ⟨LL, hL⟩ : ∃ x, hrL a0 = x := ⟨_, rfl⟩
    obtain ⟨q, hq⟩ : ∃ x, hrOk a0 = x := ⟨_, rfl⟩
    rw [hL] at l12
    have K1 : Hid (∀ W : World, Calls Try.prog 11 #[.string a0] W fun e w' => ∃ (a' : Option Addr) (c' : Nat), e = .returned (.tuple #[.slice a' LL.length c', .bool q]) ∧ OwnA w' W.heap.size w'.heap.size a' c' LL ∧ Below W.heap.size W w') := Lib.hid (fun W => by have := srh_any W a0 (by omega); rw [hL, hq] at this; exact this)
    have K2 : Hid (∀ W : World, Calls Try.prog 9 #[.string a0] W fun e w' => ∃ (a' : Option Addr) (c' : Nat), e = .returned (.tuple #[.slice a' LL.length c', .bool q]) ∧ OwnA w' W.heap.size w'.heap.size a' c' LL ∧ Below W.heap.size W w') := Lib.hid (fun W => by have := irh_any W a0 (by omega); rw [hL, hq] at this; exact this)
    have hqq : (q != q) = false := by cases q <;> rfl
    clear hL hq w0
    go_enter Try.func5, Try.ntmps5
    go_wp2_with fail
    (with_reducible refine Calls.mono (K1.out _) ?_)
    rintro e w1 ⟨sa, sc, rfl, hs, hb⟩
    have HS := Lib.hid (IntL.of hs.ints)
    have B1 := Lib.hid hb
    clear hs hb K1
    go_wp2_with fail
    (with_reducible refine Calls.mono (K2.out _) ?_)
    rintro e w2 ⟨ga, gc, rfl, hs, hb⟩
    have HG := Lib.hid hs
    have h1 := B1.out.size
    have h2 := hb.size
    have hle := HS.out.le
    have B2 := Lib.hid (bel_end B1.out hb)
    replace HS := Lib.hid (HS.out.on hb)
    clear hs hb B1
    go_wp2_with fail
    refine (eql_any _ _ _ _ _ LL (by omega) HG.out.ints HS.out.ints).mono ?_
    rintro e w3 ⟨rfl, hb⟩
    have h3 := hb.size
    replace HG := Lib.hid (HG.out.on hb)
    replace HS := Lib.hid (HS.out.on hb)
    replace B2 := Lib.hid (bel_end B2.out hb)
    clear hb
    go_wp2_with fail
    have hup := HG.out.up
    refine (mka_any _ _ _ _ _ LL 1 HG.out (by omega) (by omega) (by omega)).mono ?_
    rintro e w4 ⟨rfl, ho, hk⟩
    replace HS := Lib.hid (HS.out.kept hk (by omega) (by omega))
    replace B2 := Lib.hid (B2.out.trans ((hk.below (by omega)).mono (by omega)))
    replace HG := Lib.hid ho
    clear ho hk
    go_wp2_with fail
    refine (hdi_any _ _ _ _ LL.length 1 HG.out.ints (by omega) (by omega) (by omega)).mono ?_
    rintro e w5 ⟨rfl, rfl⟩
    go_wp2_with fail
    (with_reducible refine Calls.mono (K2.out _) ?_)
    rintro e w6 ⟨ha, hc, rfl, hs, hb⟩
    have HI := Lib.hid hs
    replace HG := Lib.hid (HG.out.on hb)
    replace HS := Lib.hid (HS.out.on hb)
    replace B2 := Lib.hid (bel_end B2.out hb)
    clear hs hb
    go_wp2_with fail
    refine (eql_any _ _ _ _ _ LL (by omega) HI.out.ints HS.out.ints).mono ?_
    rintro e w7 ⟨rfl, hb⟩
    replace HG := Lib.hid (HG.out.on hb)
    replace B2 := Lib.hid (bel_end B2.out hb)
    clear hb
    go_wp2_with fail
    refine (hdi_any _ _ _ _ LL.length 1 HG.out.ints (by omega) (by omega) (by omega)).mono ?_
    rintro e w8 ⟨rfl, rfl⟩
    go_wp2
    go_ret
    exact ⟨rfl, B2.out⟩
end Go.Proofs.Ythbcllejojnboab
