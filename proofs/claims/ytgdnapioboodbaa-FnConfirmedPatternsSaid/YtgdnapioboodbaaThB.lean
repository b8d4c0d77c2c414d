/- Contracts of the model's counts and thresholds. -/
import Derived.Test.YtgdnapioboodbaaThA
namespace Go.Proofs.Ytgdnapioboodbaa
open Go.ChangeShapes Go.WideShapes Go.ChangeAt Go.RowKit Go.Shelf Num
set_option linter.unusedVariables false
set_option linter.unusedSimpArgs false

set_option maxRecDepth 100000 in
set_option maxHeartbeats 4000000 in
theorem lcc_any (w : World) (n : Int) :
    Calls Try.prog 19 #[.int .i64 n] w fun e w' => e = .returned (.tuple #[.int .i64 (ccT n).1, .int .i64 (ccT n).2]) ∧ w = w' := by
  cases hP : scB n
  case false =>
    have HE : Hid (ccT n = (0, 2)) := Lib.hid (by unfold ccT; rw [hP]; rfl)
    have KS : Hid (∀ W : World, Calls Try.prog 45 #[.int .i64 n, .int .i64 0] W fun e w' => e = .returned (.bool false) ∧ W = w') := Lib.hid (fun W => by have := lsc_any W n 0; rwa [hP] at this)
    clear hP
    go_enter Try.func19, Try.ntmps19
    go_wp2_with (go_at_call 45; with_reducible refine Calls.mono (KS.out _) ?_; rintro e wc ⟨rfl, rfl⟩)
    go_ret2
    exact ⟨ret_int2 (by rw [HE.out]) (by rw [HE.out]), rfl⟩
  case true =>
    have hn := inB_t (show inB n 0 12 = true from hP)
    obtain ⟨k, rfl⟩ : ∃ k : Nat, n = (k : Int) := ⟨n.toNat, by omega⟩
    have HE : Hid (ccT (k : Int) = (pw k, 0)) := Lib.hid (by unfold ccT; rw [if_pos hP, Int.toNat_natCast])
    have KS : Hid (∀ W : World, Calls Try.prog 45 #[.int .i64 (k : Int), .int .i64 0] W fun e w' => e = .returned (.bool true) ∧ W = w') := Lib.hid (fun W => by have := lsc_any W k 0; rwa [hP] at this)
    clear hP
    have KW : Hid (∀ W : World, Calls Try.prog 49 #[.int .i64 (k : Int)] W fun e w' => e = .returned (.int .i64 (pw k)) ∧ W = w') := Lib.hid (fun W => lpw_any W k (by omega))
    go_enter Try.func19, Try.ntmps19
    go_wp2_with (first | (go_at_call 45; with_reducible refine Calls.mono (KS.out _) ?_; rintro e wc ⟨rfl, rfl⟩) | (go_at_call 49; with_reducible refine Calls.mono (KW.out _) ?_; rintro e wc ⟨rfl, rfl⟩))
    go_ret2
    exact ⟨ret_int2 (by rw [HE.out]) (by rw [HE.out]), rfl⟩

set_option maxRecDepth 100000 in
set_option maxHeartbeats 4000000 in
theorem ltc_any (w : World) (n a m : Int) :
    Calls Try.prog 17 #[.int .i64 n, .int .i64 a, .int .i64 m] w fun e w' => e = .returned (.tuple #[.int .i64 (tcT n a m).1, .int .i64 (tcT n a m).2]) ∧ w = w' := by
  cases hP : (scB n && chB a)
  case false =>
    have HE : Hid (tcT n a m = (0, 2)) := Lib.hid (by unfold tcT tcB; rw [hP]; rfl)
    have KS : Hid (∀ W : World, Calls Try.prog 45 #[.int .i64 n, .int .i64 a] W fun e w' => e = .returned (.bool false) ∧ W = w') := Lib.hid (fun W => by have := lsc_any W n a; rwa [hP] at this)
    clear hP
    go_enter Try.func17, Try.ntmps17
    go_wp2_with (go_at_call 45; with_reducible refine Calls.mono (KS.out _) ?_; rintro e wc ⟨rfl, rfl⟩)
    go_ret2
    exact ⟨ret_int2 (by rw [HE.out]) (by rw [HE.out]), rfl⟩
  case true =>
    have hP2 := hP
    rw [Bool.and_eq_true] at hP2
    have hn := inB_t (show inB n 0 12 = true from hP2.1)
    have ha := inB_t (show inB a 0 16 = true from hP2.2)
    clear hP2
    obtain ⟨k, rfl⟩ : ∃ k : Nat, n = (k : Int) := ⟨n.toNat, by omega⟩
    have KS : Hid (∀ W : World, Calls Try.prog 45 #[.int .i64 (k : Int), .int .i64 a] W fun e w' => e = .returned (.bool true) ∧ W = w') := Lib.hid (fun W => by have := lsc_any W k a; rwa [hP] at this)
    cases hQ : inB m 0 ((k : Int) + 1)
    case false =>
      have HE : Hid (tcT k a m = (0, 2)) := Lib.hid (by unfold tcT tcB; rw [hP, hQ]; rfl)
      have KI : Hid (∀ W : World, Calls Try.prog 46 #[.int .i64 m, .int .i64 0, .int .i64 ((k : Int) + 1)] W fun e w' => e = .returned (.bool false) ∧ W = w') := Lib.hid (fun W => by have := lin_any m 0 ((k : Int) + 1) W; rwa [hQ] at this)
      clear hP hQ
      go_enter Try.func17, Try.ntmps17
      go_wp2_with (first | (go_at_call 45; with_reducible refine Calls.mono (KS.out _) ?_; rintro e wc ⟨rfl, rfl⟩) | (go_at_call 46; with_reducible refine Calls.mono (KI.out _) ?_; rintro e wc ⟨rfl, rfl⟩))
      go_ret2
      exact ⟨ret_int2 (by rw [HE.out]) (by rw [HE.out]), rfl⟩
    case true =>
      have hm := inB_t hQ
      have HE : Hid (tcT k a m = (tl a k m, 0)) := Lib.hid (by unfold tcT tcB; rw [hP, hQ]; rfl)
      have KI : Hid (∀ W : World, Calls Try.prog 46 #[.int .i64 m, .int .i64 0, .int .i64 ((k : Int) + 1)] W fun e w' => e = .returned (.bool true) ∧ W = w') := Lib.hid (fun W => by have := lin_any m 0 ((k : Int) + 1) W; rwa [hQ] at this)
      have KT : Hid (∀ W : World, Calls Try.prog 47 #[.int .i64 (k : Int), .int .i64 a, .int .i64 m] W fun e w' => e = .returned (.int .i64 (tl a k m)) ∧ W = w') := Lib.hid (fun W => ltl_any W a k m (by omega) (by omega) (by omega) (by omega) (by omega))
      clear hP hQ hm ha
      go_enter Try.func17, Try.ntmps17
      go_wp2_with (first | (go_at_call 45; with_reducible refine Calls.mono (KS.out _) ?_; rintro e wc ⟨rfl, rfl⟩) | (go_at_call 46; with_reducible refine Calls.mono (KI.out _) ?_; rintro e wc ⟨rfl, rfl⟩) | (go_at_call 47; with_reducible refine Calls.mono (KT.out _) ?_; rintro e wc ⟨rfl, rfl⟩))
      go_ret2
      exact ⟨ret_int2 (by rw [HE.out]) (by rw [HE.out]), rfl⟩

set_option maxRecDepth 100000 in
set_option maxHeartbeats 8000000 in
theorem llt_any (w : World) (n a num den : Int) :
    Calls Try.prog 22 #[.int .i64 n, .int .i64 a, .int .i64 num, .int .i64 den] w fun e w' => e = .returned (.tuple #[.int .i64 (ltT n a num den).1, .int .i64 (ltT n a num den).2]) ∧ w = w' := by
  cases hP : (scB n && chB a)
  case false =>
    have HE : Hid (ltT n a num den = (0, 2)) := Lib.hid (by unfold ltT ltB; rw [hP]; rfl)
    have KS : Hid (∀ W : World, Calls Try.prog 45 #[.int .i64 n, .int .i64 a] W fun e w' => e = .returned (.bool false) ∧ W = w') := Lib.hid (fun W => by have := lsc_any W n a; rwa [hP] at this)
    clear hP
    go_enter Try.func22, Try.ntmps22
    go_wp2_with (go_at_call 45; with_reducible refine Calls.mono (KS.out _) ?_; rintro e wc ⟨rfl, rfl⟩)
    go_ret2
    exact ⟨ret_int2 (by rw [HE.out]) (by rw [HE.out]), rfl⟩
  case true =>
    have hP2 := hP
    rw [Bool.and_eq_true] at hP2
    have hn := inB_t (show inB n 0 12 = true from hP2.1)
    have ha := inB_t (show inB a 0 16 = true from hP2.2)
    clear hP2
    obtain ⟨k, rfl⟩ : ∃ k : Nat, n = (k : Int) := ⟨n.toNat, by omega⟩
    have KS : Hid (∀ W : World, Calls Try.prog 45 #[.int .i64 (k : Int), .int .i64 a] W fun e w' => e = .returned (.bool true) ∧ W = w') := Lib.hid (fun W => by have := lsc_any W k a; rwa [hP] at this)
    cases hQ : frB num den
    case false =>
      have HE : Hid (ltT k a num den = (0, 2)) := Lib.hid (by unfold ltT ltB; rw [hP, hQ]; rfl)
      have KI : Hid (∀ W : World, Calls Try.prog 52 #[.int .i64 num, .int .i64 den] W fun e w' => e = .returned (.bool false) ∧ W = w') := Lib.hid (fun W => by have := lpt13_any W num den; rwa [hQ] at this)
      clear hP hQ
      go_enter Try.func22, Try.ntmps22
      go_wp2_with (first | (go_at_call 45; with_reducible refine Calls.mono (KS.out _) ?_; rintro e wc ⟨rfl, rfl⟩) | (go_at_call 52; with_reducible refine Calls.mono (KI.out _) ?_; rintro e wc ⟨rfl, rfl⟩))
      go_ret2
      exact ⟨ret_int2 (by rw [HE.out]) (by rw [HE.out]), rfl⟩
    case true =>
      have hf := frB_t hQ
      have HE : Hid (ltT k a num den = (thM a k num den, 0)) := Lib.hid (by unfold ltT ltB; rw [hP, hQ]; rfl)
      have KI : Hid (∀ W : World, Calls Try.prog 52 #[.int .i64 num, .int .i64 den] W fun e w' => e = .returned (.bool true) ∧ W = w') := Lib.hid (fun W => by have := lpt13_any W num den; rwa [hQ] at this)
      clear hP hQ
      obtain ⟨⟨d1, d2⟩, n1, n2⟩ := hf
      go_enter Try.func22, Try.ntmps22
      go_wp2_with (first | (go_at_call 45; with_reducible refine Calls.mono (KS.out _) ?_; rintro e wc ⟨rfl, rfl⟩) | (go_at_call 52; with_reducible refine Calls.mono (KI.out _) ?_; rintro e wc ⟨rfl, rfl⟩))
      clear KS KI
      go_loop [10] (fun v => ∃ (j : Nat) (m : Int), 0 ≤ m ∧ m + j = (k : Int) + 1 ∧ thM a k num den = lsF (thP a k num den) j m ∧ v = .int .i64 m) (fun v => ((k : Int) + 1 - intOf v).toNat)
      case atStart => exact ⟨k + 1, 0, by omega, by omega, rfl, rfl⟩
      case round =>
        obtain ⟨j, m, m0, m1, hV, rfl⟩ := hrel
        have HV := Lib.hid hV
        clear hV
        have KT : Hid (∀ W : World, Calls Try.prog 47 #[.int .i64 (k : Int), .int .i64 a, .int .i64 m] W fun e w' => e = .returned (.int .i64 (tl a k m)) ∧ W = w') := Lib.hid (fun W => ltl_any W a k m (by omega) (by omega) (by omega) (by omega) (by omega))
        have KW : Hid (∀ W : World, Calls Try.prog 49 #[.int .i64 (k : Int)] W fun e w' => e = .returned (.int .i64 (pw k)) ∧ W = w') := Lib.hid (fun W => lpw_any W k (by omega))
        have HP : Hid (thP a k num den m = decide (tl a k m * den ≤ num * pw k)) := Lib.hid rfl
        have tb := tl_bd ha.1 ha.2 k m
        have hp := pw_le (n := k) (by omega)
        have hp0 := pw_pos k
        have m1 := prd48 (x := tl a k m) (y := den) (by omega) (by omega) (by omega) (by omega)
        have m2 := prd48 (x := pw k) (y := num) (by omega) (by omega) (by omega) (by omega)
        rw [Int.mul_comm] at m2
        have w1_ : IntKind.wrap .i64 (tl a k m * den) = tl a k m * den := IntWalk.i64_in _ (by omega)
        have w2_ : IntKind.wrap .i64 (num * pw k) = num * pw k := IntWalk.i64_in _ (by omega)
        obtain ⟨Tm, hT⟩ : ∃ q, tl a k m = q := ⟨_, rfl⟩
        obtain ⟨Pk, hPk⟩ : ∃ q, pw k = q := ⟨_, rfl⟩
        rw [hT, hPk] at HP
        rw [hT] at w1_ KT
        rw [hPk] at w2_ KW
        obtain ⟨U, hU⟩ : ∃ q, Tm * den = q := ⟨_, rfl⟩
        obtain ⟨V, hV⟩ : ∃ q, num * Pk = q := ⟨_, rfl⟩
        rw [hU, hV] at HP
        have e1 : IntKind.wrap .i64 (Tm * den) = U := by rw [w1_]; exact hU
        have e2 : IntKind.wrap .i64 (num * Pk) = V := by rw [w2_]; exact hV
        clear w1_ w2_ hU hV hT hPk m1 m2 tb hp hp0
        by_cases hUV : U ≤ V
        case pos =>
          have HM : Hid (thM a k num den = m) := Lib.hid (by
            rw [HV.out]
            cases j with
            | zero => rfl
            | succ j => rw [lsF, if_pos (by rw [HP.out]; exact decide_eq_true hUV)])
          clear HP HV
          go_wp2_with (first | (go_at_call 47; with_reducible refine Calls.mono (KT.out _) ?_; rintro e wc ⟨rfl, rfl⟩) | (go_at_call 49; with_reducible refine Calls.mono (KW.out _) ?_; rintro e wc ⟨rfl, rfl⟩))
          go_ret2
          exact ⟨ret_int2 (by rw [HE.out]; exact HM.out.symm) (by rw [HE.out]), rfl⟩
        case neg =>
          have hj : ¬ j = 0 := fun e => hUV (by
            subst e
            obtain rfl : m = (k : Int) + 1 := by omega
            have t := thP_top (a := a) (n := k) (num := num) (den := den) (by omega)
            rw [show (0 : Int) + ((k + 1 : Nat) : Int) = (k : Int) + 1 by omega, HP.out] at t
            exact of_decide_eq_true t)
          obtain ⟨j, rfl⟩ : ∃ q, j = q + 1 := ⟨j - 1, by omega⟩
          have HM : Hid (thM a k num den = lsF (thP a k num den) j (m + 1)) := Lib.hid (by rw [HV.out, lsF, if_neg (by rw [HP.out]; simpa using hUV)])
          clear HP HV hj
          go_wp2_with (first | (go_at_call 47; with_reducible refine Calls.mono (KT.out _) ?_; rintro e wc ⟨rfl, rfl⟩) | (go_at_call 49; with_reducible refine Calls.mono (KW.out _) ?_; rintro e wc ⟨rfl, rfl⟩))
          go_round
          case rel => exact ⟨j, m + 1, by omega, by omega, HM.out, rfl⟩
          case measure => simp [intOf]; omega

set_option maxRecDepth 100000 in
set_option maxHeartbeats 8000000 in
theorem lbt_any (w : World) (n p q : Int) :
    Calls Try.prog 25 #[.int .i64 n, .int .i64 p, .int .i64 q] w fun e w' => e = .returned (.tuple #[.int .i64 (btT n p q).1, .int .i64 (btT n p q).2]) ∧ w = w' := by
  cases hP1 : (scB n && chB p)
  case false =>
    have HE : Hid (btT n p q = (0, 2)) := Lib.hid (by unfold btT btB; rw [if_neg (fun e => by rw [Bool.and_eq_true, Bool.and_eq_true] at e; rw [e.1, e.2.1] at hP1; cases hP1)])
    have KS1 : Hid (∀ W : World, Calls Try.prog 45 #[.int .i64 n, .int .i64 p] W fun e w' => e = .returned (.bool false) ∧ W = w') := Lib.hid (fun W => by have := lsc_any W n p; rwa [hP1] at this)
    clear hP1
    go_enter Try.func25, Try.ntmps25
    go_wp2_with (go_at_call 45; with_reducible refine Calls.mono (KS1.out _) ?_; rintro e wc ⟨rfl, rfl⟩)
    go_ret2
    exact ⟨ret_int2 (by rw [HE.out]) (by rw [HE.out]), rfl⟩
  case true =>
    have KS1 : Hid (∀ W : World, Calls Try.prog 45 #[.int .i64 n, .int .i64 p] W fun e w' => e = .returned (.bool true) ∧ W = w') := Lib.hid (fun W => by have := lsc_any W n p; rwa [hP1] at this)
    cases hP2 : (scB n && chB q)
    case false =>
      have HE : Hid (btT n p q = (0, 2)) := Lib.hid (by unfold btT btB; rw [if_neg (fun e => by rw [Bool.and_eq_true, Bool.and_eq_true] at e; rw [e.1, e.2.2] at hP2; cases hP2)])
      have KS2 : Hid (∀ W : World, Calls Try.prog 45 #[.int .i64 n, .int .i64 q] W fun e w' => e = .returned (.bool false) ∧ W = w') := Lib.hid (fun W => by have := lsc_any W n q; rwa [hP2] at this)
      clear hP1 hP2
      go_enter Try.func25, Try.ntmps25
      go_wp2_with (first | (go_at_call 45; with_reducible refine Calls.mono (KS1.out _) ?_; rintro e wc ⟨rfl, rfl⟩) | (go_at_call 45; with_reducible refine Calls.mono (KS2.out _) ?_; rintro e wc ⟨rfl, rfl⟩))
      go_ret2
      exact ⟨ret_int2 (by rw [HE.out]) (by rw [HE.out]), rfl⟩
    case true =>
      have KS2 : Hid (∀ W : World, Calls Try.prog 45 #[.int .i64 n, .int .i64 q] W fun e w' => e = .returned (.bool true) ∧ W = w') := Lib.hid (fun W => by have := lsc_any W n q; rwa [hP2] at this)
      rw [Bool.and_eq_true] at hP1 hP2
      have hn := inB_t (show inB n 0 12 = true from hP1.1)
      have hp := inB_t (show inB p 0 16 = true from hP1.2)
      have hq := inB_t (show inB q 0 16 = true from hP2.2)
      have HE : Hid (btT n p q = (bsM p q n.toNat, 0)) := Lib.hid (by unfold btT btB; rw [hP1.1, hP1.2, hP2.2]; rfl)
      clear hP1 hP2
      obtain ⟨k, rfl⟩ : ∃ k : Nat, n = (k : Int) := ⟨n.toNat, by omega⟩
      rw [Int.toNat_natCast] at HE
      have HK : Hid (∀ (x : Int) (m : Int), 0 ≤ x → x ≤ 16 → 0 ≤ m → m ≤ (k : Int) + 1 → ∀ W : World, Calls Try.prog 47 #[.int .i64 (k : Int), .int .i64 x, .int .i64 m] W fun e w' => e = .returned (.int .i64 (tl x k m)) ∧ W = w') := Lib.hid (fun x m x0 x1 m0 m1 W => ltl_any W x k m x0 x1 (by omega) m0 m1)
      have HTB : Hid (∀ x m : Int, 0 ≤ x → x ≤ 16 → 0 ≤ tl x k m ∧ tl x k m ≤ 281474976710656) := Lib.hid (fun x m x0 x1 => by have a := tl_bd x0 x1 k m; have b := pw_le (n := k) (by omega); omega)
      obtain ⟨p0, p1⟩ := hp
      obtain ⟨q0, q1⟩ := hq
      go_enter Try.func25, Try.ntmps25
      go_wp2_with (first | (go_at_call 45; with_reducible refine Calls.mono (KS1.out _) ?_; rintro e wc ⟨rfl, rfl⟩) | (go_at_call 45; with_reducible refine Calls.mono (KS2.out _) ?_; rintro e wc ⟨rfl, rfl⟩))
      clear KS1 KS2
      go_loop [8, 9] (fun v i => ∃ (j : Nat) (b m : Int), 0 ≤ b ∧ b < m ∧ m + j = (k : Int) + 2 ∧ bsM p q k = bsF (dfD p q k) j m b ∧ v = .int .i64 b ∧ i = .int .i64 m) (fun _ i => ((k : Int) + 2 - intOf i).toNat)
      case atStart => exact ⟨k + 1, 0, 1, by omega, by omega, by omega, rfl, rfl, rfl⟩
      case round =>
        obtain ⟨j, b, m, b0, bm, mj, hV, rfl, rfl⟩ := hrel
        have HV := Lib.hid hV
        clear hV
        by_cases hlt : m ≤ (k : Int) + 1
        case pos =>
          obtain ⟨j, rfl⟩ : ∃ q, j = q + 1 := ⟨j - 1, by omega⟩
          have HS : Hid (bsM p q k = bsF (dfD p q k) j (m + 1) (if dfD p q k b < dfD p q k m then m else b)) := Lib.hid HV.out
          have HD : Hid (∀ x, dfD p q k x = tl q k x - tl p k x) := Lib.hid (fun x => rfl)
          have K0 := Lib.hid (HK.out q m q0 q1 (by omega) (by omega))
          have t0 := HTB.out q m q0 q1
          have K1 := Lib.hid (HK.out p m p0 p1 (by omega) (by omega))
          have t1 := HTB.out p m p0 p1
          have K2 := Lib.hid (HK.out q b q0 q1 (by omega) (by omega))
          have t2 := HTB.out q b q0 q1
          have K3 := Lib.hid (HK.out p b p0 p1 (by omega) (by omega))
          have t3 := HTB.out p b p0 p1
          have d1 := HD.out m
          have d2 := HD.out b
          obtain ⟨X, hX⟩ : ∃ qq, tl q k m = qq := ⟨_, rfl⟩
          rw [hX] at K0 t0 d1
          obtain ⟨Y, hY⟩ : ∃ qq, tl p k m = qq := ⟨_, rfl⟩
          rw [hY] at K1 t1 d1
          obtain ⟨Z, hZ⟩ : ∃ qq, tl q k b = qq := ⟨_, rfl⟩
          rw [hZ] at K2 t2 d2
          obtain ⟨R, hR⟩ : ∃ qq, tl p k b = qq := ⟨_, rfl⟩
          rw [hR] at K3 t3 d2
          rw [d1, d2] at HS
          clear hX hY hZ hR d1 d2 HD HV
          obtain ⟨x0, x1⟩ := t0
          obtain ⟨y0, y1⟩ := t1
          obtain ⟨z0, z1⟩ := t2
          obtain ⟨r0, r1⟩ := t3
          by_cases hd : Z - R < X - Y
          case pos =>
            rw [if_pos hd] at HS
            go_wp2_with (first | (go_at_call 47; with_reducible refine Calls.mono (K0.out _) ?_; rintro e wc ⟨rfl, rfl⟩) | (go_at_call 47; with_reducible refine Calls.mono (K1.out _) ?_; rintro e wc ⟨rfl, rfl⟩) | (go_at_call 47; with_reducible refine Calls.mono (K2.out _) ?_; rintro e wc ⟨rfl, rfl⟩) | (go_at_call 47; with_reducible refine Calls.mono (K3.out _) ?_; rintro e wc ⟨rfl, rfl⟩))
            go_round
            case rel => exact ⟨j, m, m + 1, by omega, by omega, by omega, HS.out, rfl, rfl⟩
            case measure => simp [intOf]; omega
          case neg =>
            rw [if_neg hd] at HS
            go_wp2_with (first | (go_at_call 47; with_reducible refine Calls.mono (K0.out _) ?_; rintro e wc ⟨rfl, rfl⟩) | (go_at_call 47; with_reducible refine Calls.mono (K1.out _) ?_; rintro e wc ⟨rfl, rfl⟩) | (go_at_call 47; with_reducible refine Calls.mono (K2.out _) ?_; rintro e wc ⟨rfl, rfl⟩) | (go_at_call 47; with_reducible refine Calls.mono (K3.out _) ?_; rintro e wc ⟨rfl, rfl⟩))
            go_round
            case rel => exact ⟨j, b, m + 1, by omega, by omega, by omega, HS.out, rfl, rfl⟩
            case measure => simp [intOf]; omega
        case neg =>
          obtain rfl : j = 0 := by omega
          have HM : Hid (bsM p q k = b) := Lib.hid HV.out
          clear HV HK HTB
          go_wp2
          go_ret2
          exact ⟨ret_int2 (by rw [HE.out]; exact HM.out.symm) (by rw [HE.out]), rfl⟩

set_option maxRecDepth 100000 in
set_option maxHeartbeats 8000000 in
theorem ltr_any (w : World) (a num den : Int) :
    Calls Try.prog 28 #[.int .i64 a, .int .i64 num, .int .i64 den] w fun e w' => e = .returned (.tuple #[.int .i64 (trT a num den).1, .int .i64 (trT a num den).2]) ∧ w = w' := by
  cases hP : chB a
  case false =>
    have HE : Hid (trT a num den = (0, 2)) := Lib.hid (by unfold trT; rw [hP]; rfl)
    have KS : Hid (∀ W : World, Calls Try.prog 45 #[.int .i64 0, .int .i64 a] W fun e w' => e = .returned (.bool false) ∧ W = w') := Lib.hid (fun W => by have := lsc_any W 0 a; rwa [show scB 0 = true from rfl, Bool.true_and, hP] at this)
    clear hP
    go_enter Try.func28, Try.ntmps28
    go_wp2_with (go_at_call 45; with_reducible refine Calls.mono (KS.out _) ?_; rintro e wc ⟨rfl, rfl⟩)
    go_ret2
    exact ⟨ret_int2 (by rw [HE.out]) (by rw [HE.out]), rfl⟩
  case true =>
    have KS : Hid (∀ W : World, Calls Try.prog 45 #[.int .i64 0, .int .i64 a] W fun e w' => e = .returned (.bool true) ∧ W = w') := Lib.hid (fun W => by have := lsc_any W 0 a; rwa [show scB 0 = true from rfl, Bool.true_and, hP] at this)
    have ha := inB_t (show inB a 0 16 = true from hP)
    cases hQ : frB num den
    case false =>
      have HE : Hid (trT a num den = (0, 2)) := Lib.hid (by unfold trT; rw [hP, hQ]; rfl)
      have KI : Hid (∀ W : World, Calls Try.prog 52 #[.int .i64 num, .int .i64 den] W fun e w' => e = .returned (.bool false) ∧ W = w') := Lib.hid (fun W => by have := lpt13_any W num den; rwa [hQ] at this)
      clear hP hQ
      go_enter Try.func28, Try.ntmps28
      go_wp2_with (first | (go_at_call 45; with_reducible refine Calls.mono (KS.out _) ?_; rintro e wc ⟨rfl, rfl⟩) | (go_at_call 52; with_reducible refine Calls.mono (KI.out _) ?_; rintro e wc ⟨rfl, rfl⟩))
      go_ret2
      exact ⟨ret_int2 (by rw [HE.out]) (by rw [HE.out]), rfl⟩
    case true =>
      have hf := frB_t hQ
      have HE : Hid (trT a num den = if trM a num den < 13 then (trM a num den, 0) else (0, 4)) := Lib.hid (by unfold trT; rw [hP, hQ]; rfl)
      have KI : Hid (∀ W : World, Calls Try.prog 52 #[.int .i64 num, .int .i64 den] W fun e w' => e = .returned (.bool true) ∧ W = w') := Lib.hid (fun W => by have := lpt13_any W num den; rwa [hQ] at this)
      clear hP hQ
      obtain ⟨⟨d1, d2⟩, n1, n2⟩ := hf
      go_enter Try.func28, Try.ntmps28
      go_wp2_with (first | (go_at_call 45; with_reducible refine Calls.mono (KS.out _) ?_; rintro e wc ⟨rfl, rfl⟩) | (go_at_call 52; with_reducible refine Calls.mono (KI.out _) ?_; rintro e wc ⟨rfl, rfl⟩))
      clear KS KI
      go_loop [8] (fun v => ∃ (j k : Nat), k + j = 13 ∧ trM a num den = lsF (trP a num den) j (k : Int) ∧ v = .int .i64 (k : Int)) (fun v => (13 - intOf v).toNat)
      case atStart => exact ⟨13, 0, rfl, rfl, rfl⟩
      case round =>
        obtain ⟨j, k, hj, hV, rfl⟩ := hrel
        have HV := Lib.hid hV
        clear hV
        by_cases hk : k ≤ 12
        case pos =>
          obtain ⟨j, rfl⟩ : ∃ q, j = q + 1 := ⟨j - 1, by omega⟩
          have KT : Hid (∀ W : World, Calls Try.prog 47 #[.int .i64 (k : Int), .int .i64 a, .int .i64 1] W fun e w' => e = .returned (.int .i64 (tl a k 1)) ∧ W = w') := Lib.hid (fun W => ltl_any W a k 1 (by omega) (by omega) hk (by omega) (by omega))
          have KW : Hid (∀ W : World, Calls Try.prog 49 #[.int .i64 (k : Int)] W fun e w' => e = .returned (.int .i64 (pw k)) ∧ W = w') := Lib.hid (fun W => lpw_any W k hk)
          have HP : Hid (trP a num den (k : Int) = decide (num * pw k ≤ tl a k 1 * den)) := Lib.hid rfl
          have tb := tl_bd ha.1 ha.2 k 1
          have hp := pw_le (n := k) (by omega)
          have hp0 := pw_pos k
          have m1 := prd48 (x := tl a k 1) (y := den) (by omega) (by omega) (by omega) (by omega)
          have m2 := prd48 (x := pw k) (y := num) (by omega) (by omega) (by omega) (by omega)
          rw [Int.mul_comm] at m2
          have w1_ : IntKind.wrap .i64 (tl a k 1 * den) = tl a k 1 * den := IntWalk.i64_in _ (by omega)
          have w2_ : IntKind.wrap .i64 (num * pw k) = num * pw k := IntWalk.i64_in _ (by omega)
          obtain ⟨Tm, hT⟩ : ∃ q, tl a k 1 = q := ⟨_, rfl⟩
          obtain ⟨Pk, hPk⟩ : ∃ q, pw k = q := ⟨_, rfl⟩
          rw [hT, hPk] at HP
          rw [hT] at w1_ KT
          rw [hPk] at w2_ KW
          obtain ⟨U, hU⟩ : ∃ q, Tm * den = q := ⟨_, rfl⟩
          obtain ⟨V, hV⟩ : ∃ q, num * Pk = q := ⟨_, rfl⟩
          rw [hU, hV] at HP
          have e1 : IntKind.wrap .i64 (Tm * den) = U := by rw [w1_]; exact hU
          have e2 : IntKind.wrap .i64 (num * Pk) = V := by rw [w2_]; exact hV
          clear w1_ w2_ hU hV hT hPk m1 m2 tb hp hp0
          by_cases hUV : V ≤ U
          case pos =>
            have HM : Hid (trM a num den = (k : Int)) := Lib.hid (by rw [HV.out, lsF, if_pos (by rw [HP.out]; exact decide_eq_true hUV)])
            have HF : Hid (trT a num den = ((k : Int), 0)) := Lib.hid (by rw [HE.out, HM.out, if_pos (by omega)])
            clear HP HV HM HE
            go_wp2_with (first | (go_at_call 47; with_reducible refine Calls.mono (KT.out _) ?_; rintro e wc ⟨rfl, rfl⟩) | (go_at_call 49; with_reducible refine Calls.mono (KW.out _) ?_; rintro e wc ⟨rfl, rfl⟩))
            go_ret2
            exact ⟨ret_int2 (by rw [HF.out]) (by rw [HF.out]), rfl⟩
          case neg =>
            have HM : Hid (trM a num den = lsF (trP a num den) j ((k : Int) + 1)) := Lib.hid (by rw [HV.out, lsF, if_neg (by rw [HP.out]; simpa using hUV)])
            clear HP HV
            go_wp2_with (first | (go_at_call 47; with_reducible refine Calls.mono (KT.out _) ?_; rintro e wc ⟨rfl, rfl⟩) | (go_at_call 49; with_reducible refine Calls.mono (KW.out _) ?_; rintro e wc ⟨rfl, rfl⟩))
            go_round
            case rel => exact ⟨j, k + 1, by omega, HM.out, rfl⟩
            case measure => simp [intOf]; omega
        case neg =>
          obtain rfl : j = 0 := by omega
          have HF : Hid (trT a num den = (0, 4)) := Lib.hid (by rw [HE.out, HV.out, lsF, if_neg (by omega)])
          clear HV HE
          go_wp2
          go_ret2
          exact ⟨ret_int2 (by rw [HF.out]) (by rw [HF.out]), rfl⟩
end Go.Proofs.Ytgdnapioboodbaa
