/- Contracts of ConfirmScan, the program's and the model's. -/
import Derived.Test.YtgdnapioboodbaaThP
namespace Go.Proofs.Ytgdnapioboodbaa
open Go.ChangeShapes Go.WideShapes Go.ChangeAt Go.RowKit Go.Shelf Num
set_option linter.unusedVariables false
set_option linter.unusedSimpArgs false

theorem bits_of {zs : List Int} (h : anyLack 0 1 zs = false) : bitsL zs := by
  intro j
  by_cases hj : j < zs.length
  · have := anyLack_all h hj
    omega
  · left
    rw [List.getD_eq_getElem?_getD, List.getElem?_eq_none (by omega)]
    rfl
theorem cfS_neg {zs : List Int} {m : Int} {u : Nat} (h : cfS zs m u < 0) : cfS zs m u = -1 := by
  rcases cfF_ge (zs := zs) (m := m) (w := u) zs.length 0 with e | e
  · exact e
  · unfold cfS at h; omega
theorem cfR_pos {zs : List Int} {m : Int} {u : Nat} (h : ¬ cfS zs m u < 0) : cfR zs m u = cfS zs m u ∧ cfK zs m u = true := by
  unfold cfR cfK
  rw [if_neg h, decide_eq_false h]
  exact ⟨rfl, rfl⟩
theorem cfR_neg {zs : List Int} {m : Int} {u : Nat} (h : cfS zs m u < 0) : cfK zs m u = false := by
  unfold cfK
  rw [decide_eq_true h]
  rfl

set_option maxRecDepth 100000 in
set_option maxHeartbeats 4000000 in
theorem ics_any (w : World) (a : Option Addr) (cap n : Nat) (zs : List Int) (m v : Int) (hn : zs.length = n) (hl : n ≤ 9223372036854775807) (hz : Ints .i64 w w.heap.size a zs) :
    Calls Try.prog 35 #[.slice a n cap, .int .i64 m, .int .i64 v] w fun e w' => e = .returned (.tuple #[.int .i64 (csT zs m v).1, .int .i64 (csT zs m v).2]) ∧ Below w.heap.size w w' := by
  have HZ := Lib.hid hz
  have HN := Lib.hid hn
  have hb : Below w.heap.size w (w.alloc (.cells #[.int .i64 0, .int .i64 1] 75)) := (by repeat (first | exact Below.refl _ _ | (refine Below.alloc ?_ (by simp <;> omega) _) | (refine Below.setCell ?_ (by simp <;> omega) _) | (refine Below.drew ?_) | (refine bel_drewN ?_ _)))
  have HB := Lib.hid hb
  clear hz hn
  by_cases hn2 : n ≤ 200
  case neg =>
    have HE : Hid (csT zs m v = (0, 2)) := Lib.hid (by unfold csT cfB; rw [HN.out, decide_eq_false hn2]; rfl)
    clear hb HZ
    go_enter Try.func35, Try.ntmps35
    go_wp2
    go_ret2
    exact ⟨ret_int2 (by rw [HE.out]) (by rw [HE.out]), HB.out⟩
  case pos =>
    have KA := Lib.hid (are_any (w.alloc (.cells #[.int .i64 0, .int .i64 1] 75)) a cap n zs 0 1 HN.out hl ((HZ.out.below hb).more hb.size))
    clear hb
    cases hA : anyLack 0 1 zs
    case true =>
      have HE : Hid (csT zs m v = (0, 2)) := Lib.hid (by unfold csT cfB; rw [HN.out, decide_eq_true hn2, hA]; rfl)
      rw [hA] at KA
      clear hA HZ
      go_enter Try.func35, Try.ntmps35
      go_wp2_with (go_at_call 59; with_reducible refine Calls.mono KA.out ?_; rintro e w1 ⟨rfl, hb1⟩)
      go_ret2
      exact ⟨ret_int2 (by rw [HE.out]) (by rw [HE.out]), bel_end HB.out hb1⟩
    case false =>
      have HBT := Lib.hid (bits_of hA)
      cases hW : wiB m v
      case false =>
        have HE : Hid (csT zs m v = (0, 2)) := Lib.hid (by unfold csT cfB; rw [HN.out, decide_eq_true hn2, hA, hW]; rfl)
        have KW : Hid (∀ W : World, Calls Try.prog 54 #[.int .i64 m, .int .i64 v] W fun e w' => e = .returned (.bool false) ∧ W = w') := Lib.hid (fun W => by have := iwd_any W m v; rwa [hW] at this)
        rw [hA] at KA
        clear hA hW HZ
        go_enter Try.func35, Try.ntmps35
        go_wp2_with (first | (go_at_call 59; with_reducible refine Calls.mono KA.out ?_; rintro e w1 ⟨rfl, hb1⟩) | (go_at_call 54; with_reducible refine Calls.mono (KW.out _) ?_; rintro e wc ⟨rfl, rfl⟩))
        go_ret2
        exact ⟨ret_int2 (by rw [HE.out]) (by rw [HE.out]), bel_end HB.out hb1⟩
      case true =>
        obtain ⟨⟨v1, v2⟩, m1, m2⟩ := wiB_t hW
        obtain ⟨u, rfl⟩ : ∃ u : Nat, v = (u : Int) := ⟨v.toNat, by omega⟩
        have HE0 : Hid (csT zs m (u : Int) = if cfS zs m u < 0 then (0, 4) else (cfS zs m u, 0)) := Lib.hid (by unfold csT cfB; rw [HN.out, decide_eq_true hn2, hA, hW]; rfl)
        have KW : Hid (∀ W : World, Calls Try.prog 54 #[.int .i64 m, .int .i64 (u : Int)] W fun e w' => e = .returned (.bool true) ∧ W = w') := Lib.hid (fun W => by have := iwd_any W m u; rwa [hW] at this)
        have KC : Hid (∀ W : World, Below (w.alloc (.cells #[.int .i64 0, .int .i64 1] 75)).heap.size (w.alloc (.cells #[.int .i64 0, .int .i64 1] 75)) W → Calls Try.prog 60 #[.slice a n cap, .int .i64 m, .int .i64 (u : Int)] W fun e w' => e = .returned (.tuple #[.int .i64 (cfR zs m u), .bool (cfK zs m u)]) ∧ W = w') := Lib.hid (fun W hb => cfa_any W W.heap.size n a cap u m zs HN.out (by omega) (by omega) (by omega) m1 (by omega) HBT.out (((HZ.out.below (HB.out.trans (hb.mono HB.out.size))).more (HB.out.trans (hb.mono HB.out.size)).size)))
        rw [hA] at KA
        clear hA hW HZ m1 m2 v1 v2
        by_cases hc : cfS zs m u < 0
        case pos =>
          have HE : Hid (csT zs m (u : Int) = (0, 4)) := Lib.hid (by rw [HE0.out, if_pos hc])
          rw [cfR_neg hc] at KC
          clear hc HE0
          obtain ⟨R, hR⟩ : ∃ q, cfR zs m u = q := ⟨_, rfl⟩
          rw [hR] at KC
          clear hR
          go_enter Try.func35, Try.ntmps35
          go_wp2_with (first | (go_at_call 59; with_reducible refine Calls.mono KA.out ?_; rintro e w1 ⟨rfl, hb1⟩) | (go_at_call 54; with_reducible refine Calls.mono (KW.out _) ?_; rintro e wc ⟨rfl, rfl⟩) | (go_at_call 60; with_reducible refine Calls.mono (KC.out _ hb1) ?_; rintro e wc ⟨rfl, rfl⟩))
          go_ret2
          exact ⟨ret_int2 (by rw [HE.out]) (by rw [HE.out]), bel_end HB.out hb1⟩
        case neg =>
          have HE : Hid (csT zs m (u : Int) = (cfS zs m u, 0)) := Lib.hid (by rw [HE0.out, if_neg hc])
          rw [(cfR_pos hc).1, (cfR_pos hc).2] at KC
          clear hc HE0
          obtain ⟨R, hR⟩ : ∃ q, cfS zs m u = q := ⟨_, rfl⟩
          rw [hR] at KC HE
          clear hR
          go_enter Try.func35, Try.ntmps35
          go_wp2_with (first | (go_at_call 59; with_reducible refine Calls.mono KA.out ?_; rintro e w1 ⟨rfl, hb1⟩) | (go_at_call 54; with_reducible refine Calls.mono (KW.out _) ?_; rintro e wc ⟨rfl, rfl⟩) | (go_at_call 60; with_reducible refine Calls.mono (KC.out _ hb1) ?_; rintro e wc ⟨rfl, rfl⟩))
          go_ret2
          exact ⟨ret_int2 (by rw [HE.out]) (by rw [HE.out]), bel_end HB.out hb1⟩

set_option maxRecDepth 100000 in
set_option maxHeartbeats 4000000 in
theorem scs13_any (w : World) (a : Option Addr) (cap n : Nat) (zs : List Int) (m v : Int) (hn : zs.length = n) (hl : n ≤ 9223372036854775807) (hcap : n ≤ cap) (hz : Ints .i64 w w.heap.size a zs) :
    Calls Try.prog 36 #[.slice a n cap, .int .i64 m, .int .i64 v] w fun e w' => e = .returned (.tuple #[.int .i64 (csT zs m v).1, .int .i64 (csT zs m v).2]) ∧ w = w' := by
  have HZ := Lib.hid hz
  have HN := Lib.hid hn
  clear hz hn
  cases hA : withB zs 200 0 1
  case false =>
    have HE : Hid (csT zs m v = (0, 2)) := Lib.hid (by unfold csT cfB; have : (decide (zs.length ≤ 200) && (!anyLack 0 1 zs)) = false := (by rw [Bool.and_comm, ← hA]; unfold withB; congr 1; rw [Bool.eq_iff_iff]; simp; (try omega)); rw [this]; rfl)
    have KA : Hid (∀ W : World, W = w → Calls Try.prog 61 #[.slice a n cap, .int .i64 200, .int .i64 0, .int .i64 1] W fun e w' => e = .returned (.bool false) ∧ W = w') := Lib.hid (fun W hw => by subst hw; have := wth_any W W.heap.size a cap zs 200 0 1 (by rw [HN.out]; exact hl) HZ.out; rwa [hA, HN.out] at this)
    clear hA HZ
    go_enter Try.func36, Try.ntmps36
    go_wp2_with (go_at_call 61; with_reducible refine Calls.mono (KA.out _ rfl) ?_; rintro e wc ⟨rfl, rfl⟩)
    go_ret2
    exact ⟨ret_int2 (by rw [HE.out]) (by rw [HE.out]), rfl⟩
  case true =>
    have hA2 : anyLack 0 1 zs = false ∧ n ≤ 200 := by
      unfold withB at hA
      rw [Bool.and_eq_true, HN.out] at hA
      exact ⟨by simpa using hA.1, by have := of_decide_eq_true hA.2; omega⟩
    obtain ⟨hA3, hn2⟩ := hA2
    have HBT := Lib.hid (bits_of hA3)
    have KA : Hid (∀ W : World, W = w → Calls Try.prog 61 #[.slice a n cap, .int .i64 200, .int .i64 0, .int .i64 1] W fun e w' => e = .returned (.bool true) ∧ W = w') := Lib.hid (fun W hw => by subst hw; have := wth_any W W.heap.size a cap zs 200 0 1 (by rw [HN.out]; exact hl) HZ.out; rwa [hA, HN.out] at this)
    clear hA
    cases hW : wiB m v
    case false =>
      have HE : Hid (csT zs m v = (0, 2)) := Lib.hid (by unfold csT cfB; rw [HN.out, decide_eq_true hn2, hA3, hW]; rfl)
      have KW : Hid (∀ W : World, Calls Try.prog 56 #[.int .i64 m, .int .i64 v] W fun e w' => e = .returned (.bool false) ∧ W = w') := Lib.hid (fun W => by have := lru_any W m v; rwa [hW] at this)
      clear hA3 hW HZ
      go_enter Try.func36, Try.ntmps36
      go_wp2_with (first | (go_at_call 61; with_reducible refine Calls.mono (KA.out _ rfl) ?_; rintro e wc ⟨rfl, rfl⟩) | (go_at_call 56; with_reducible refine Calls.mono (KW.out _) ?_; rintro e wc ⟨rfl, rfl⟩))
      go_ret2
      exact ⟨ret_int2 (by rw [HE.out]) (by rw [HE.out]), rfl⟩
    case true =>
      obtain ⟨⟨v1, v2⟩, m1, m2⟩ := wiB_t hW
      obtain ⟨u, rfl⟩ : ∃ u : Nat, v = (u : Int) := ⟨v.toNat, by omega⟩
      have HE0 : Hid (csT zs m (u : Int) = if cfS zs m u < 0 then (0, 4) else (cfS zs m u, 0)) := Lib.hid (by unfold csT cfB; rw [HN.out, decide_eq_true hn2, hA3, hW]; rfl)
      have KW : Hid (∀ W : World, Calls Try.prog 56 #[.int .i64 m, .int .i64 (u : Int)] W fun e w' => e = .returned (.bool true) ∧ W = w') := Lib.hid (fun W => by have := lru_any W m u; rwa [hW] at this)
      have KC : Hid (∀ W : World, W = w → Calls Try.prog 62 #[.slice a n cap, .int .i64 m, .int .i64 (u : Int)] W fun e w' => e = .returned (.int .i64 (cfS zs m u)) ∧ W = w') := Lib.hid (fun W hw => by subst hw; exact lcf_any W W.heap.size n a cap u m zs HN.out (by omega) hcap (by omega) (by omega) m1 (by omega) HBT.out HZ.out)
      clear hA3 hW HZ m1 m2 v1 v2
      obtain ⟨R, hR⟩ : ∃ q, cfS zs m u = q := ⟨_, rfl⟩
      rw [hR] at KC HE0
      clear hR
      by_cases hc : R < 0
      case pos =>
        have HE : Hid (csT zs m (u : Int) = (0, 4)) := Lib.hid (by rw [HE0.out, if_pos hc])
        clear HE0
        go_enter Try.func36, Try.ntmps36
        go_wp2_with (first | (go_at_call 61; with_reducible refine Calls.mono (KA.out _ rfl) ?_; rintro e wc ⟨rfl, rfl⟩) | (go_at_call 56; with_reducible refine Calls.mono (KW.out _) ?_; rintro e wc ⟨rfl, rfl⟩) | (go_at_call 62; with_reducible refine Calls.mono (KC.out _ rfl) ?_; rintro e wc ⟨rfl, rfl⟩))
        go_ret2
        exact ⟨ret_int2 (by rw [HE.out]) (by rw [HE.out]), rfl⟩
      case neg =>
        have HE : Hid (csT zs m (u : Int) = (R, 0)) := Lib.hid (by rw [HE0.out, if_neg hc])
        clear HE0
        go_enter Try.func36, Try.ntmps36
        go_wp2_with (first | (go_at_call 61; with_reducible refine Calls.mono (KA.out _ rfl) ?_; rintro e wc ⟨rfl, rfl⟩) | (go_at_call 56; with_reducible refine Calls.mono (KW.out _) ?_; rintro e wc ⟨rfl, rfl⟩) | (go_at_call 62; with_reducible refine Calls.mono (KC.out _ rfl) ?_; rintro e wc ⟨rfl, rfl⟩))
        go_ret2
        exact ⟨ret_int2 (by rw [HE.out]) (by rw [HE.out]), rfl⟩
end Go.Proofs.Ytgdnapioboodbaa
