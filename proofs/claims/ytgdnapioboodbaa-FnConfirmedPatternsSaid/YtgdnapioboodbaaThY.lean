/- Contracts of ConfirmCount and ConfirmPatterns, the program's and the model's. -/
import Derived.Test.YtgdnapioboodbaaThX
import Derived.Test.YtgdnapioboodbaaThW
namespace Go.Proofs.Ytgdnapioboodbaa
open Go.ChangeShapes Go.WideShapes Go.ChangeAt Go.RowKit Go.Shelf Num
set_option linter.unusedVariables false
set_option linter.unusedSimpArgs false

theorem cnt_sm (v : List Int → Int) (n : Nat) : smN (fun x => v (bo n x)) (2 ^ n) = cntF v n [] := by
  rw [cnt_sum]
  rfl

set_option maxRecDepth 100000 in
set_option maxHeartbeats 8000000 in
theorem ick_any (w : World) (n a m v : Int) :
    Calls Try.prog 30 #[.int .i64 n, .int .i64 a, .int .i64 m, .int .i64 v] w fun e w' => e = .returned (.tuple #[.int .i64 (ckT n a m v).1, .int .i64 (ckT n a m v).2]) ∧ Below w.heap.size w w' := by
  cases hP : scB n
  case false =>
    have HE : Hid (ckT n a m v = (0, 2)) := Lib.hid (by unfold ckT; rw [hP]; rfl)
    have KS : Hid (∀ W : World, Calls Try.prog 42 #[.int .i64 n] W fun e w' => e = .returned (.bool false) ∧ W = w') := Lib.hid (fun W => by have := isc_any W n; rwa [hP] at this)
    clear hP
    go_enter Try.func30, Try.ntmps30
    go_wp2_with (go_at_call 42; with_reducible refine Calls.mono (KS.out _) ?_; rintro e wc ⟨rfl, rfl⟩)
    go_ret2
    exact ⟨ret_int2 (by rw [HE.out]) (by rw [HE.out]), Below.refl _ _⟩
  case true =>
    have hn := inB_t (show inB n 0 12 = true from hP)
    obtain ⟨k, rfl⟩ : ∃ k : Nat, n = (k : Int) := ⟨n.toNat, by omega⟩
    have KS : Hid (∀ W : World, Calls Try.prog 42 #[.int .i64 (k : Int)] W fun e w' => e = .returned (.bool true) ∧ W = w') := Lib.hid (fun W => by have := isc_any W k; rwa [hP] at this)
    cases hA : chB a
    case false =>
      have HE : Hid (ckT k a m v = (0, 2)) := Lib.hid (by unfold ckT; rw [hP, hA]; rfl)
      have KA : Hid (∀ W : World, Calls Try.prog 43 #[.slice (some ⟨W.heap.size, 0, none⟩) 1 1] (W.alloc (.cells #[.int .i64 a] 2)) fun e w' => e = .returned (.bool false) ∧ Below W.heap.size W w') := Lib.hid (fun W => by have := arc1_any W a; rwa [hA] at this)
      clear hA hP
      go_enter Try.func30, Try.ntmps30
      go_wp2_with (first | (go_at_call 42; with_reducible refine Calls.mono (KS.out _) ?_; rintro e wc ⟨rfl, rfl⟩) | (go_at_call 43; with_reducible refine Calls.mono (KA.out _) ?_; rintro e wba ⟨rfl, hba⟩))
      go_ret2
      exact ⟨ret_int2 (by rw [HE.out]) (by rw [HE.out]), hba⟩
    case true =>
      have KA : Hid (∀ W : World, Calls Try.prog 43 #[.slice (some ⟨W.heap.size, 0, none⟩) 1 1] (W.alloc (.cells #[.int .i64 a] 2)) fun e w' => e = .returned (.bool true) ∧ Below W.heap.size W w') := Lib.hid (fun W => by have := arc1_any W a; rwa [hA] at this)
      obtain ⟨a0, a1⟩ := inB_t (show inB a 0 16 = true from hA)
      cases hW : wiB m v
      case false =>
        have HE : Hid (ckT k a m v = (0, 2)) := Lib.hid (by unfold ckT; rw [hP, hA, hW]; rfl)
        have KW : Hid (∀ W : World, Calls Try.prog 54 #[.int .i64 m, .int .i64 v] W fun e w' => e = .returned (.bool false) ∧ W = w') := Lib.hid (fun W => by have := iwd_any W m v; rwa [hW] at this)
        clear hA hP hW
        go_enter Try.func30, Try.ntmps30
        go_wp2_with (first | (go_at_call 42; with_reducible refine Calls.mono (KS.out _) ?_; rintro e wc ⟨rfl, rfl⟩) | (go_at_call 43; with_reducible refine Calls.mono (KA.out _) ?_; rintro e wba ⟨rfl, hba⟩) | (go_at_call 54; with_reducible refine Calls.mono (KW.out _) ?_; rintro e wc ⟨rfl, rfl⟩))
        go_ret2
        exact ⟨ret_int2 (by rw [HE.out]) (by rw [HE.out]), hba⟩
      case true =>
        obtain ⟨⟨v1, v2⟩, m1, m2⟩ := wiB_t hW
        obtain ⟨u, rfl⟩ : ∃ u : Nat, v = (u : Int) := ⟨v.toNat, by omega⟩
        have HE : Hid (ckT k a m (u : Int) = (cntF (vlP (16 - a) a m u) k [], 0)) := Lib.hid (by unfold ckT; rw [hP, hA, hW]; rfl)
        have KW : Hid (∀ W : World, Calls Try.prog 54 #[.int .i64 m, .int .i64 (u : Int)] W fun e w' => e = .returned (.bool true) ∧ W = w') := Lib.hid (fun W => by have := iwd_any W m (u : Int); rwa [hW] at this)
        have KC : Hid (∀ W : World, Calls Try.prog 55 #[.int .i64 (k : Int), .agg #[.int .i64 (16 - a), .int .i64 a], .int .i64 m, .int .i64 (u : Int)] W fun e w' => e = .returned (.int .i64 (cntF (vlP (16 - a) a m u) k [])) ∧ Below W.heap.size W w') := Lib.hid (fun W => by have := ccs_any W k u (16 - a) a m (by omega) (by omega) (by omega) a0 a1 (by omega) (by omega) m1 (by omega); rwa [cnt_sm] at this)
        obtain ⟨A2, hA2⟩ : ∃ q, 16 - a = q := ⟨_, rfl⟩
        have e3 : IntKind.wrap .i64 (16 - a) = A2 := by rw [IntWalk.i64_in _ (by omega)]; exact hA2
        rw [hA2] at KC HE
        obtain ⟨X, hX⟩ : ∃ q, cntF (vlP A2 a m u) k [] = q := ⟨_, rfl⟩
        rw [hX] at KC HE
        clear hA hP hW hA2 hX a0 a1 m1 m2 v1 v2 hn
        go_enter Try.func30, Try.ntmps30
        go_wp2_with (first | (go_at_call 42; with_reducible refine Calls.mono (KS.out _) ?_; rintro e wc ⟨rfl, rfl⟩) | (go_at_call 43; with_reducible refine Calls.mono (KA.out _) ?_; rintro e wba ⟨rfl, hba⟩) | (go_at_call 54; with_reducible refine Calls.mono (KW.out _) ?_; rintro e wc ⟨rfl, rfl⟩) | (go_at_call 55; with_reducible refine Calls.mono (KC.out _) ?_; rintro e wbc ⟨rfl, hbc⟩))
        go_ret2
        exact ⟨ret_int2 (by rw [HE.out]) (by rw [HE.out]), bel_end hba hbc⟩

set_option maxRecDepth 100000 in
set_option maxHeartbeats 8000000 in
theorem icp_any (w : World) (n m v : Int) :
    Calls Try.prog 32 #[.int .i64 n, .int .i64 m, .int .i64 v] w fun e w' => e = .returned (.tuple #[.int .i64 (cpT n m v).1, .int .i64 (cpT n m v).2]) ∧ Below w.heap.size w w' := by
  cases hP : scB n
  case false =>
    have HE : Hid (cpT n m v = (0, 2)) := Lib.hid (by unfold cpT; rw [hP]; rfl)
    have KS : Hid (∀ W : World, Calls Try.prog 42 #[.int .i64 n] W fun e w' => e = .returned (.bool false) ∧ W = w') := Lib.hid (fun W => by have := isc_any W n; rwa [hP] at this)
    clear hP
    go_enter Try.func32, Try.ntmps32
    go_wp2_with (go_at_call 42; with_reducible refine Calls.mono (KS.out _) ?_; rintro e wc ⟨rfl, rfl⟩)
    go_ret2
    exact ⟨ret_int2 (by rw [HE.out]) (by rw [HE.out]), Below.refl _ _⟩
  case true =>
    have hn := inB_t (show inB n 0 12 = true from hP)
    obtain ⟨k, rfl⟩ : ∃ k : Nat, n = (k : Int) := ⟨n.toNat, by omega⟩
    have KS : Hid (∀ W : World, Calls Try.prog 42 #[.int .i64 (k : Int)] W fun e w' => e = .returned (.bool true) ∧ W = w') := Lib.hid (fun W => by have := isc_any W k; rwa [hP] at this)
    cases hW : wiB m v
    case false =>
      have HE : Hid (cpT k m v = (0, 2)) := Lib.hid (by unfold cpT; rw [hP, hW]; rfl)
      have KW : Hid (∀ W : World, Calls Try.prog 54 #[.int .i64 m, .int .i64 v] W fun e w' => e = .returned (.bool false) ∧ W = w') := Lib.hid (fun W => by have := iwd_any W m v; rwa [hW] at this)
      clear hP hW
      go_enter Try.func32, Try.ntmps32
      go_wp2_with (first | (go_at_call 42; with_reducible refine Calls.mono (KS.out _) ?_; rintro e wc ⟨rfl, rfl⟩) | (go_at_call 54; with_reducible refine Calls.mono (KW.out _) ?_; rintro e wc ⟨rfl, rfl⟩))
      go_ret2
      exact ⟨ret_int2 (by rw [HE.out]) (by rw [HE.out]), Below.refl _ _⟩
    case true =>
      obtain ⟨⟨v1, v2⟩, m1, m2⟩ := wiB_t hW
      obtain ⟨u, rfl⟩ : ∃ u : Nat, v = (u : Int) := ⟨v.toNat, by omega⟩
      have HE : Hid (cpT k m (u : Int) = (cntF (vlP 1 1 m u) k [], 0)) := Lib.hid (by unfold cpT; rw [hP, hW]; rfl)
      have KW : Hid (∀ W : World, Calls Try.prog 54 #[.int .i64 m, .int .i64 (u : Int)] W fun e w' => e = .returned (.bool true) ∧ W = w') := Lib.hid (fun W => by have := iwd_any W m (u : Int); rwa [hW] at this)
      have KC : Hid (∀ W : World, Calls Try.prog 55 #[.int .i64 (k : Int), .agg #[.int .i64 1, .int .i64 1], .int .i64 m, .int .i64 (u : Int)] W fun e w' => e = .returned (.int .i64 (cntF (vlP 1 1 m u) k [])) ∧ Below W.heap.size W w') := Lib.hid (fun W => by have := ccs_any W k u 1 1 m (by omega) (by omega) (by omega) (by omega) (by omega) (by omega) (by omega) m1 (by omega); rwa [cnt_sm] at this)
      obtain ⟨X, hX⟩ : ∃ q, cntF (vlP 1 1 m u) k [] = q := ⟨_, rfl⟩
      rw [hX] at KC HE
      clear hP hW hX m1 m2 v1 v2 hn
      go_enter Try.func32, Try.ntmps32
      go_wp2_with (first | (go_at_call 42; with_reducible refine Calls.mono (KS.out _) ?_; rintro e wc ⟨rfl, rfl⟩) | (go_at_call 54; with_reducible refine Calls.mono (KW.out _) ?_; rintro e wc ⟨rfl, rfl⟩) | (go_at_call 55; with_reducible refine Calls.mono (KC.out _) ?_; rintro e wbc ⟨rfl, hbc⟩))
      go_ret2
      exact ⟨ret_int2 (by rw [HE.out]) (by rw [HE.out]), hbc⟩

set_option maxRecDepth 100000 in
set_option maxHeartbeats 8000000 in
theorem sck_any (w : World) (n a m v : Int) :
    Calls Try.prog 31 #[.int .i64 n, .int .i64 a, .int .i64 m, .int .i64 v] w fun e w' => e = .returned (.tuple #[.int .i64 (ckT n a m v).1, .int .i64 (ckT n a m v).2]) ∧ Below w.heap.size w w' := by
  cases hP : (scB n && chB a)
  case false =>
    have HE : Hid (ckT n a m v = (0, 2)) := Lib.hid (by unfold ckT; rw [hP]; rfl)
    have KS : Hid (∀ W : World, Calls Try.prog 45 #[.int .i64 n, .int .i64 a] W fun e w' => e = .returned (.bool false) ∧ W = w') := Lib.hid (fun W => by have := lsc_any W n a; rwa [hP] at this)
    clear hP
    go_enter Try.func31, Try.ntmps31
    go_wp2_with (go_at_call 45; with_reducible refine Calls.mono (KS.out _) ?_; rintro e wc ⟨rfl, rfl⟩)
    go_ret2
    exact ⟨ret_int2 (by rw [HE.out]) (by rw [HE.out]), Below.refl _ _⟩
  case true =>
    have KS : Hid (∀ W : World, Calls Try.prog 45 #[.int .i64 n, .int .i64 a] W fun e w' => e = .returned (.bool true) ∧ W = w') := Lib.hid (fun W => by have := lsc_any W n a; rwa [hP] at this)
    have hP2 := hP
    rw [Bool.and_eq_true] at hP2
    have hn := inB_t (show inB n 0 12 = true from hP2.1)
    obtain ⟨a0, a1⟩ := inB_t (show inB a 0 16 = true from hP2.2)
    clear hP2
    obtain ⟨k, rfl⟩ : ∃ k : Nat, n = (k : Int) := ⟨n.toNat, by omega⟩
    cases hW : wiB m v
    case false =>
      have HE : Hid (ckT k a m v = (0, 2)) := Lib.hid (by unfold ckT; rw [hP, hW]; rfl)
      have KW : Hid (∀ W : World, Calls Try.prog 56 #[.int .i64 m, .int .i64 v] W fun e w' => e = .returned (.bool false) ∧ W = w') := Lib.hid (fun W => by have := lru_any W m v; rwa [hW] at this)
      clear hP hW
      go_enter Try.func31, Try.ntmps31
      go_wp2_with (first | (go_at_call 45; with_reducible refine Calls.mono (KS.out _) ?_; rintro e wc ⟨rfl, rfl⟩) | (go_at_call 56; with_reducible refine Calls.mono (KW.out _) ?_; rintro e wc ⟨rfl, rfl⟩))
      go_ret2
      exact ⟨ret_int2 (by rw [HE.out]) (by rw [HE.out]), Below.refl _ _⟩
    case true =>
      obtain ⟨⟨v1, v2⟩, m1, m2⟩ := wiB_t hW
      obtain ⟨u, rfl⟩ : ∃ u : Nat, v = (u : Int) := ⟨v.toNat, by omega⟩
      have HE : Hid (ckT k a m (u : Int) = (cntF (vlP (16 - a) a m u) k [], 0)) := Lib.hid (by unfold ckT; rw [hP, hW]; rfl)
      have KW : Hid (∀ W : World, Calls Try.prog 56 #[.int .i64 m, .int .i64 (u : Int)] W fun e w' => e = .returned (.bool true) ∧ W = w') := Lib.hid (fun W => by have := lru_any W m (u : Int); rwa [hW] at this)
      have KC : Hid (∀ W : World, Calls Try.prog 57 #[.slice none 0 0, .int .i64 (k : Int), .int .i64 a, .int .i64 m, .int .i64 (u : Int)] W fun e w' => e = .returned (.int .i64 (cntF (vlP (16 - a) a m u) k [])) ∧ Below W.heap.size W w') := Lib.hid (fun W => lct_any a m u k (16 - a) a (by omega) (by omega) (by omega) (by omega) m1 (by omega) k [] (by simp) (fun j => by left; simp) W none 0 0 rfl (Nat.le_refl _) (fun _ => rfl) (fun h => absurd h (by simp)))
      obtain ⟨X, hX⟩ : ∃ q, cntF (vlP (16 - a) a m u) k [] = q := ⟨_, rfl⟩
      rw [hX] at KC HE
      clear hP hW hX m1 m2 v1 v2 hn
      go_enter Try.func31, Try.ntmps31
      go_wp2_with (first | (go_at_call 45; with_reducible refine Calls.mono (KS.out _) ?_; rintro e wc ⟨rfl, rfl⟩) | (go_at_call 56; with_reducible refine Calls.mono (KW.out _) ?_; rintro e wc ⟨rfl, rfl⟩) | (go_at_call 57; with_reducible refine Calls.mono (KC.out _) ?_; rintro e wbc ⟨rfl, hbc⟩))
      go_ret2
      exact ⟨ret_int2 (by rw [HE.out]) (by rw [HE.out]), hbc⟩

set_option maxRecDepth 100000 in
set_option maxHeartbeats 8000000 in
theorem scp_any (w : World) (n m v : Int) :
    Calls Try.prog 33 #[.int .i64 n, .int .i64 m, .int .i64 v] w fun e w' => e = .returned (.tuple #[.int .i64 (cpT n m v).1, .int .i64 (cpT n m v).2]) ∧ Below w.heap.size w w' := by
  cases hP : scB n
  case false =>
    have HE : Hid (cpT n m v = (0, 2)) := Lib.hid (by unfold cpT; rw [hP]; rfl)
    have KS : Hid (∀ W : World, Calls Try.prog 45 #[.int .i64 n, .int .i64 0] W fun e w' => e = .returned (.bool false) ∧ W = w') := Lib.hid (fun W => by have := lsc_any W n 0; rwa [show chB 0 = true from rfl, Bool.and_true, hP] at this)
    clear hP
    go_enter Try.func33, Try.ntmps33
    go_wp2_with (go_at_call 45; with_reducible refine Calls.mono (KS.out _) ?_; rintro e wc ⟨rfl, rfl⟩)
    go_ret2
    exact ⟨ret_int2 (by rw [HE.out]) (by rw [HE.out]), Below.refl _ _⟩
  case true =>
    have KS : Hid (∀ W : World, Calls Try.prog 45 #[.int .i64 n, .int .i64 0] W fun e w' => e = .returned (.bool true) ∧ W = w') := Lib.hid (fun W => by have := lsc_any W n 0; rwa [show chB 0 = true from rfl, Bool.and_true, hP] at this)
    have hP2 := hP
    have hn := inB_t (show inB n 0 12 = true from hP2)
    clear hP2
    obtain ⟨k, rfl⟩ : ∃ k : Nat, n = (k : Int) := ⟨n.toNat, by omega⟩
    cases hW : wiB m v
    case false =>
      have HE : Hid (cpT k m v = (0, 2)) := Lib.hid (by unfold cpT; rw [hP, hW]; rfl)
      have KW : Hid (∀ W : World, Calls Try.prog 56 #[.int .i64 m, .int .i64 v] W fun e w' => e = .returned (.bool false) ∧ W = w') := Lib.hid (fun W => by have := lru_any W m v; rwa [hW] at this)
      clear hP hW
      go_enter Try.func33, Try.ntmps33
      go_wp2_with (first | (go_at_call 45; with_reducible refine Calls.mono (KS.out _) ?_; rintro e wc ⟨rfl, rfl⟩) | (go_at_call 56; with_reducible refine Calls.mono (KW.out _) ?_; rintro e wc ⟨rfl, rfl⟩))
      go_ret2
      exact ⟨ret_int2 (by rw [HE.out]) (by rw [HE.out]), Below.refl _ _⟩
    case true =>
      obtain ⟨⟨v1, v2⟩, m1, m2⟩ := wiB_t hW
      obtain ⟨u, rfl⟩ : ∃ u : Nat, v = (u : Int) := ⟨v.toNat, by omega⟩
      have HE : Hid (cpT k m (u : Int) = (cntF (vlP 1 1 m u) k [], 0)) := Lib.hid (by unfold cpT; rw [hP, hW]; rfl)
      have KW : Hid (∀ W : World, Calls Try.prog 56 #[.int .i64 m, .int .i64 (u : Int)] W fun e w' => e = .returned (.bool true) ∧ W = w') := Lib.hid (fun W => by have := lru_any W m (u : Int); rwa [hW] at this)
      have KC : Hid (∀ W : World, Calls Try.prog 57 #[.slice none 0 0, .int .i64 (k : Int), .int .i64 (-1), .int .i64 m, .int .i64 (u : Int)] W fun e w' => e = .returned (.int .i64 (cntF (vlP 1 1 m u) k [])) ∧ Below W.heap.size W w') := Lib.hid (fun W => lct_any (-1) m u k 1 1 (by omega) (by omega) (by omega) (by omega) m1 (by omega) k [] (by simp) (fun j => by left; simp) W none 0 0 rfl (Nat.le_refl _) (fun _ => rfl) (fun h => absurd h (by simp)))
      obtain ⟨X, hX⟩ : ∃ q, cntF (vlP 1 1 m u) k [] = q := ⟨_, rfl⟩
      rw [hX] at KC HE
      clear hP hW hX m1 m2 v1 v2 hn
      go_enter Try.func33, Try.ntmps33
      go_wp2_with (first | (go_at_call 45; with_reducible refine Calls.mono (KS.out _) ?_; rintro e wc ⟨rfl, rfl⟩) | (go_at_call 56; with_reducible refine Calls.mono (KW.out _) ?_; rintro e wc ⟨rfl, rfl⟩) | (go_at_call 57; with_reducible refine Calls.mono (KC.out _) ?_; rintro e wbc ⟨rfl, hbc⟩))
      go_ret2
      exact ⟨ret_int2 (by rw [HE.out]) (by rw [HE.out]), hbc⟩
end Go.Proofs.Ytgdnapioboodbaa
