/- Contracts of the program's counts and thresholds. -/
import Derived.Test.YtgdnapioboodbaaThS
namespace Go.Proofs.Ytgdnapioboodbaa
open Go.ChangeShapes Go.WideShapes Go.ChangeAt Go.RowKit Go.Shelf Num
set_option linter.unusedVariables false
set_option linter.unusedSimpArgs false

set_option maxRecDepth 100000 in
set_option maxHeartbeats 4000000 in
theorem icc_any (w : World) (n : Int) :
    Calls Try.prog 18 #[.int .i64 n] w fun e w' => e = .returned (.tuple #[.int .i64 (ccT n).1, .int .i64 (ccT n).2]) ∧ w = w' := by
  cases hP : scB n
  case false =>
    have HE : Hid (ccT n = (0, 2)) := Lib.hid (by unfold ccT; rw [hP]; rfl)
    have KS : Hid (∀ W : World, Calls Try.prog 42 #[.int .i64 n] W fun e w' => e = .returned (.bool false) ∧ W = w') := Lib.hid (fun W => by have := isc_any W n; rwa [hP] at this)
    clear hP
    go_enter Try.func18, Try.ntmps18
    go_wp2_with (go_at_call 42; with_reducible refine Calls.mono (KS.out _) ?_; rintro e wc ⟨rfl, rfl⟩)
    go_ret2
    exact ⟨ret_int2 (by rw [HE.out]) (by rw [HE.out]), rfl⟩
  case true =>
    have hn := inB_t (show inB n 0 12 = true from hP)
    obtain ⟨k, rfl⟩ : ∃ k : Nat, n = (k : Int) := ⟨n.toNat, by omega⟩
    have HE : Hid (ccT (k : Int) = (pw k, 0)) := Lib.hid (by unfold ccT; rw [if_pos hP, Int.toNat_natCast])
    have KS : Hid (∀ W : World, Calls Try.prog 42 #[.int .i64 (k : Int)] W fun e w' => e = .returned (.bool true) ∧ W = w') := Lib.hid (fun W => by have := isc_any W k; rwa [hP] at this)
    clear hP
    have KW : Hid (∀ W : World, Calls Try.prog 48 #[.int .i64 (k : Int)] W fun e w' => e = .returned (.int .i64 (pw k)) ∧ W = w') := Lib.hid (fun W => csf_any W k (by omega))
    go_enter Try.func18, Try.ntmps18
    go_wp2_with (first | (go_at_call 42; with_reducible refine Calls.mono (KS.out _) ?_; rintro e wc ⟨rfl, rfl⟩) | (go_at_call 48; with_reducible refine Calls.mono (KW.out _) ?_; rintro e wc ⟨rfl, rfl⟩))
    go_ret2
    exact ⟨ret_int2 (by rw [HE.out]) (by rw [HE.out]), rfl⟩

set_option maxRecDepth 100000 in
set_option maxHeartbeats 8000000 in
theorem itc_any (w : World) (n a m : Int) :
    Calls Try.prog 16 #[.int .i64 n, .int .i64 a, .int .i64 m] w fun e w' => e = .returned (.tuple #[.int .i64 (tcT n a m).1, .int .i64 (tcT n a m).2]) ∧ Below w.heap.size w w' := by
  cases hP : scB n
  case false =>
    have HE : Hid (tcT n a m = (0, 2)) := Lib.hid (by unfold tcT tcB; rw [hP]; rfl)
    have KS : Hid (∀ W : World, Calls Try.prog 42 #[.int .i64 n] W fun e w' => e = .returned (.bool false) ∧ W = w') := Lib.hid (fun W => by have := isc_any W n; rwa [hP] at this)
    clear hP
    go_enter Try.func16, Try.ntmps16
    go_wp2_with (go_at_call 42; with_reducible refine Calls.mono (KS.out _) ?_; rintro e wc ⟨rfl, rfl⟩)
    go_ret2
    exact ⟨ret_int2 (by rw [HE.out]) (by rw [HE.out]), Below.refl _ _⟩
  case true =>
    have hn := inB_t (show inB n 0 12 = true from hP)
    obtain ⟨k, rfl⟩ : ∃ k : Nat, n = (k : Int) := ⟨n.toNat, by omega⟩
    have KS : Hid (∀ W : World, Calls Try.prog 42 #[.int .i64 (k : Int)] W fun e w' => e = .returned (.bool true) ∧ W = w') := Lib.hid (fun W => by have := isc_any W k; rwa [hP] at this)
    cases hA : chB a
    case false =>
      have HE : Hid (tcT k a m = (0, 2)) := Lib.hid (by unfold tcT tcB; rw [hP, hA]; rfl)
      have KA : Hid (∀ W : World, Calls Try.prog 43 #[.slice (some ⟨W.heap.size, 0, none⟩) 1 1] (W.alloc (.cells #[.int .i64 a] 2)) fun e w' => e = .returned (.bool false) ∧ Below W.heap.size W w') := Lib.hid (fun W => by have := arc1_any W a; rwa [hA] at this)
      clear hA hP
      go_enter Try.func16, Try.ntmps16
      go_wp2_with (first | (go_at_call 42; with_reducible refine Calls.mono (KS.out _) ?_; rintro e wc ⟨rfl, rfl⟩) | (go_at_call 43; with_reducible refine Calls.mono (KA.out _) ?_; rintro e wba ⟨rfl, hba⟩))
      go_ret2
      exact ⟨ret_int2 (by rw [HE.out]) (by rw [HE.out]), hba⟩
    case true =>
      have KA : Hid (∀ W : World, Calls Try.prog 43 #[.slice (some ⟨W.heap.size, 0, none⟩) 1 1] (W.alloc (.cells #[.int .i64 a] 2)) fun e w' => e = .returned (.bool true) ∧ Below W.heap.size W w') := Lib.hid (fun W => by have := arc1_any W a; rwa [hA] at this)
      have ha := inB_t (show inB a 0 16 = true from hA)
      by_cases m0 : m < 0
      case pos =>
        have HE : Hid (tcT k a m = (0, 2)) := Lib.hid (by unfold tcT tcB; rw [hP, hA, inB_lo m0]; rfl)
        clear hA hP
        go_enter Try.func16, Try.ntmps16
        go_wp2_with (first | (go_at_call 42; with_reducible refine Calls.mono (KS.out _) ?_; rintro e wc ⟨rfl, rfl⟩) | (go_at_call 43; with_reducible refine Calls.mono (KA.out _) ?_; rintro e wba ⟨rfl, hba⟩))
        go_ret2
        exact ⟨ret_int2 (by rw [HE.out]) (by rw [HE.out]), hba⟩
      case neg =>
        by_cases m1 : (k : Int) + 1 < m
        case pos =>
          have HE : Hid (tcT k a m = (0, 2)) := Lib.hid (by unfold tcT tcB; rw [hP, hA, inB_hi m1]; rfl)
          clear hA hP
          go_enter Try.func16, Try.ntmps16
          go_wp2_with (first | (go_at_call 42; with_reducible refine Calls.mono (KS.out _) ?_; rintro e wc ⟨rfl, rfl⟩) | (go_at_call 43; with_reducible refine Calls.mono (KA.out _) ?_; rintro e wba ⟨rfl, hba⟩))
          go_ret2
          exact ⟨ret_int2 (by rw [HE.out]) (by rw [HE.out]), hba⟩
        case neg =>
          obtain ⟨q, rfl⟩ : ∃ q : Nat, m = (q : Int) := ⟨m.toNat, by omega⟩
          have HE : Hid (tcT k a q = (tl a k q, 0)) := Lib.hid (by unfold tcT tcB; rw [hP, hA, inB_mk (by omega) (by omega)]; rfl)
          have KN : Hid (∀ W : World, Calls Try.prog 44 #[.pointer (some ⟨W.heap.size, 0, none⟩), .int .i64 (k : Int), .int .i64 (q : Int)] (W.alloc (.cells (tlsC a) 65)) fun e w' => e = .returned (.int .i64 (tl a k q)) ∧ Below W.heap.size W w') := Lib.hid (fun W => cnt_new W a k q (by omega) (by omega) (by omega) (by omega))
          have hst := tls_store a
          clear hA hP ha
          go_enter Try.func16, Try.ntmps16
          go_wp2_with (first | (go_at_call 42; with_reducible refine Calls.mono (KS.out _) ?_; rintro e wc ⟨rfl, rfl⟩) | (go_at_call 43; with_reducible refine Calls.mono (KA.out _) ?_; rintro e wba ⟨rfl, hba⟩) | (go_at_call 44; with_reducible refine Calls.mono (KN.out _) ?_; rintro e wbn ⟨rfl, hbn⟩))
          go_ret2
          exact ⟨ret_int2 (by rw [HE.out]) (by rw [HE.out]), bel_end hba hbn⟩

set_option maxRecDepth 100000 in
set_option maxHeartbeats 8000000 in
theorem ilt_any (w : World) (n a num den : Int) :
    Calls Try.prog 21 #[.int .i64 n, .int .i64 a, .int .i64 num, .int .i64 den] w fun e w' => e = .returned (.tuple #[.int .i64 (ltT n a num den).1, .int .i64 (ltT n a num den).2]) ∧ Below w.heap.size w w' := by
  cases hP : scB n
  case false =>
    have HE : Hid (ltT n a num den = (0, 2)) := Lib.hid (by unfold ltT ltB; rw [hP]; rfl)
    have KS : Hid (∀ W : World, Calls Try.prog 42 #[.int .i64 n] W fun e w' => e = .returned (.bool false) ∧ W = w') := Lib.hid (fun W => by have := isc_any W n; rwa [hP] at this)
    clear hP
    go_enter Try.func21, Try.ntmps21
    go_wp2_with (go_at_call 42; with_reducible refine Calls.mono (KS.out _) ?_; rintro e wc ⟨rfl, rfl⟩)
    go_ret2
    exact ⟨ret_int2 (by rw [HE.out]) (by rw [HE.out]), Below.refl _ _⟩
  case true =>
    have hn := inB_t (show inB n 0 12 = true from hP)
    obtain ⟨k, rfl⟩ : ∃ k : Nat, n = (k : Int) := ⟨n.toNat, by omega⟩
    have KS : Hid (∀ W : World, Calls Try.prog 42 #[.int .i64 (k : Int)] W fun e w' => e = .returned (.bool true) ∧ W = w') := Lib.hid (fun W => by have := isc_any W k; rwa [hP] at this)
    cases hA : chB a
    case false =>
      have HE : Hid (ltT k a num den = (0, 2)) := Lib.hid (by unfold ltT ltB; rw [hP, hA]; rfl)
      have KA : Hid (∀ W : World, Calls Try.prog 43 #[.slice (some ⟨W.heap.size, 0, none⟩) 1 1] (W.alloc (.cells #[.int .i64 a] 2)) fun e w' => e = .returned (.bool false) ∧ Below W.heap.size W w') := Lib.hid (fun W => by have := arc1_any W a; rwa [hA] at this)
      clear hA hP
      go_enter Try.func21, Try.ntmps21
      go_wp2_with (first | (go_at_call 42; with_reducible refine Calls.mono (KS.out _) ?_; rintro e wc ⟨rfl, rfl⟩) | (go_at_call 43; with_reducible refine Calls.mono (KA.out _) ?_; rintro e wba ⟨rfl, hba⟩))
      go_ret2
      exact ⟨ret_int2 (by rw [HE.out]) (by rw [HE.out]), hba⟩
    case true =>
      have KA : Hid (∀ W : World, Calls Try.prog 43 #[.slice (some ⟨W.heap.size, 0, none⟩) 1 1] (W.alloc (.cells #[.int .i64 a] 2)) fun e w' => e = .returned (.bool true) ∧ Below W.heap.size W w') := Lib.hid (fun W => by have := arc1_any W a; rwa [hA] at this)
      obtain ⟨a0, a1⟩ := inB_t (show inB a 0 16 = true from hA)
      cases hQ : frB num den
      case false =>
        have HE : Hid (ltT k a num den = (0, 2)) := Lib.hid (by unfold ltT ltB; rw [hP, hA, hQ]; rfl)
        have KF : Hid (∀ W : World, Calls Try.prog 51 #[.int .i64 num, .int .i64 den] W fun e w' => e = .returned (.bool false) ∧ W = w') := Lib.hid (fun W => by have := ifr_any W num den; rwa [hQ] at this)
        clear hA hP hQ
        go_enter Try.func21, Try.ntmps21
        go_wp2_with (first | (go_at_call 42; with_reducible refine Calls.mono (KS.out _) ?_; rintro e wc ⟨rfl, rfl⟩) | (go_at_call 43; with_reducible refine Calls.mono (KA.out _) ?_; rintro e wba ⟨rfl, hba⟩) | (go_at_call 51; with_reducible refine Calls.mono (KF.out _) ?_; rintro e wc ⟨rfl, rfl⟩))
        go_ret2
        exact ⟨ret_int2 (by rw [HE.out]) (by rw [HE.out]), hba⟩
      case true =>
        obtain ⟨⟨d1, d2⟩, n1, n2⟩ := frB_t hQ
        have HE : Hid (ltT k a num den = (thM a k num den, 0)) := Lib.hid (by unfold ltT ltB; rw [hP, hA, hQ]; rfl)
        have KF : Hid (∀ W : World, Calls Try.prog 51 #[.int .i64 num, .int .i64 den] W fun e w' => e = .returned (.bool true) ∧ W = w') := Lib.hid (fun W => by have := ifr_any W num den; rwa [hQ] at this)
        have hst := tls_store a
        clear hA hP hQ
        go_enter Try.func21, Try.ntmps21
        go_wp2_with (first | (go_at_call 42; with_reducible refine Calls.mono (KS.out _) ?_; rintro e wc ⟨rfl, rfl⟩) | (go_at_call 43; with_reducible refine Calls.mono (KA.out _) ?_; rintro e wba ⟨rfl, hba⟩) | (go_at_call 51; with_reducible refine Calls.mono (KF.out _) ?_; rintro e wc ⟨rfl, rfl⟩))
        clear KS KA KF hst
        generalize hW : World.alloc _ _ = W
        obtain ⟨g, hg⟩ : ∃ g, g = wba.heap.size := ⟨_, rfl⟩
        have hT : Tls W g a := by rw [← hW, hg]; exact Tls.new (Bk.new _ _ _)
        have HB : Hid (Below w.heap.size w W) := Lib.hid (by rw [← hW]; exact hba.alloc hba.size _)
        have lg : w.heap.size ≤ g := by rw [hg]; exact hba.size
        try rw [← hg]
        clear hW hg hba
        have HT := Lib.hid hT
        clear hT
        go_loopw [11] (fun v wr => ∃ (j q : Nat), q + j = k + 1 ∧ thM a k num den = lsF (thP a k num den) j (q : Int) ∧ v = .int .i64 (q : Int) ∧ Tls wr g a ∧ Below w.heap.size w wr) (fun v _ => ((k : Int) + 1 - intOf v).toNat)
        case atStart => exact ⟨k + 1, 0, by omega, rfl, rfl, HT.out, HB.out⟩
        case round =>
          clear HT HB
          obtain ⟨j, q, mj, hV, rfl, hT, hB⟩ := hrel
          have HV := Lib.hid hV
          have HT := Lib.hid hT
          have HB := Lib.hid hB
          clear hV hT hB
          have KT : Hid (∀ W : World, Tls W g a → Calls Try.prog 44 #[.pointer (some ⟨g, 0, none⟩), .int .i64 (k : Int), .int .i64 (q : Int)] W fun e w' => e = .returned (.int .i64 (tl a k q)) ∧ Tls w' g a ∧ W.grownBy w' (some g)) := Lib.hid (fun W h => cnt_any W g a k q (by omega) (by omega) (by omega) (by omega) h)
          have KW : Hid (∀ W : World, Calls Try.prog 48 #[.int .i64 (k : Int)] W fun e w' => e = .returned (.int .i64 (pw k)) ∧ W = w') := Lib.hid (fun W => csf_any W k (by omega))
          have HP : Hid (thP a k num den q = decide (tl a k q * den ≤ num * pw k)) := Lib.hid rfl
          have tb := tl_bd a0 a1 k q
          have hp := pw_le (n := k) (by omega)
          have hp0 := pw_pos k
          have m1 := prd48 (x := tl a k q) (y := den) (by omega) (by omega) (by omega) (by omega)
          have m2 := prd48 (x := pw k) (y := num) (by omega) (by omega) (by omega) (by omega)
          rw [Int.mul_comm] at m2
          have w1_ : IntKind.wrap .i64 (tl a k q * den) = tl a k q * den := IntWalk.i64_in _ (by omega)
          have w2_ : IntKind.wrap .i64 (num * pw k) = num * pw k := IntWalk.i64_in _ (by omega)
          obtain ⟨Tm, hT1⟩ : ∃ x, tl a k q = x := ⟨_, rfl⟩
          obtain ⟨Pk, hPk⟩ : ∃ x, pw k = x := ⟨_, rfl⟩
          rw [hT1, hPk] at HP
          rw [hT1] at w1_ KT
          rw [hPk] at w2_ KW
          obtain ⟨U, hU⟩ : ∃ x, Tm * den = x := ⟨_, rfl⟩
          obtain ⟨V, hV⟩ : ∃ x, num * Pk = x := ⟨_, rfl⟩
          rw [hU, hV] at HP
          have e1 : IntKind.wrap .i64 (Tm * den) = U := by rw [w1_]; exact hU
          have e2 : IntKind.wrap .i64 (num * Pk) = V := by rw [w2_]; exact hV
          clear w1_ w2_ hU hV hT1 hPk m1 m2 tb hp hp0
          by_cases hUV : U ≤ V
          case pos =>
            have HM : Hid (thM a k num den = q) := Lib.hid (by
              rw [HV.out]
              cases j with
              | zero => rfl
              | succ j => rw [lsF, if_pos (by rw [HP.out]; exact decide_eq_true hUV)])
            clear HP HV
            go_wp2_with (first | (go_at_call 44; with_reducible refine Calls.mono (KT.out _ HT.out) ?_; rintro e wt ⟨rfl, hT2, hg2⟩; have HX := Lib.hid (And.intro hT2 hg2); clear hT2 hg2) | (go_at_call 48; with_reducible refine Calls.mono (KW.out _) ?_; rintro e wc ⟨rfl, rfl⟩))
            go_ret2
            exact ⟨ret_int2 (by rw [HE.out]; exact HM.out.symm) (by rw [HE.out]), HB.out.trans (below_of_grown HX.out.2 lg HB.out.size)⟩
          case neg =>
            have hj : ¬ j = 0 := fun e => hUV (by
              subst e
              obtain rfl : q = k + 1 := by omega
              have t := thP_top (a := a) (n := k) (num := num) (den := den) (by omega)
              rw [show (0 : Int) + ((k + 1 : Nat) : Int) = ((k + 1 : Nat) : Int) by omega, HP.out] at t
              exact of_decide_eq_true t)
            obtain ⟨j, rfl⟩ : ∃ x, j = x + 1 := ⟨j - 1, by omega⟩
            have HM : Hid (thM a k num den = lsF (thP a k num den) j ((q + 1 : Nat) : Int)) := Lib.hid (by rw [HV.out, lsF, if_neg (by rw [HP.out]; simpa using hUV)]; rfl)
            clear HP HV hj
            go_wp2_with (first | (go_at_call 44; with_reducible refine Calls.mono (KT.out _ HT.out) ?_; rintro e wt ⟨rfl, hT2, hg2⟩; have HX := Lib.hid (And.intro hT2 hg2); clear hT2 hg2) | (go_at_call 48; with_reducible refine Calls.mono (KW.out _) ?_; rintro e wc ⟨rfl, rfl⟩))
            have hB2 := HB.out.trans (below_of_grown HX.out.2 lg HB.out.size)
            go_roundw
            case rel => exact ⟨j, q + 1, by omega, HM.out, by go_num, HX.out.1, hB2⟩
            case measure => simp [intOf]; omega

set_option maxRecDepth 100000 in
set_option maxHeartbeats 8000000 in
theorem ibt_any (w : World) (n p q : Int) :
    Calls Try.prog 24 #[.int .i64 n, .int .i64 p, .int .i64 q] w fun e w' => e = .returned (.tuple #[.int .i64 (btT n p q).1, .int .i64 (btT n p q).2]) ∧ Below w.heap.size w w' := by
  cases hP : scB n
  case false =>
    have HE : Hid (btT n p q = (0, 2)) := Lib.hid (by unfold btT btB; rw [hP]; rfl)
    have KS : Hid (∀ W : World, Calls Try.prog 42 #[.int .i64 n] W fun e w' => e = .returned (.bool false) ∧ W = w') := Lib.hid (fun W => by have := isc_any W n; rwa [hP] at this)
    clear hP
    go_enter Try.func24, Try.ntmps24
    go_wp2_with (go_at_call 42; with_reducible refine Calls.mono (KS.out _) ?_; rintro e wc ⟨rfl, rfl⟩)
    go_ret2
    exact ⟨ret_int2 (by rw [HE.out]) (by rw [HE.out]), Below.refl _ _⟩
  case true =>
    have hn := inB_t (show inB n 0 12 = true from hP)
    obtain ⟨k, rfl⟩ : ∃ k : Nat, n = (k : Int) := ⟨n.toNat, by omega⟩
    have KS : Hid (∀ W : World, Calls Try.prog 42 #[.int .i64 (k : Int)] W fun e w' => e = .returned (.bool true) ∧ W = w') := Lib.hid (fun W => by have := isc_any W k; rwa [hP] at this)
    cases hA : (chB p && chB q)
    case false =>
      have HE : Hid (btT k p q = (0, 2)) := Lib.hid (by unfold btT btB; rw [hP, hA]; rfl)
      have KA : Hid (∀ W : World, Calls Try.prog 43 #[.slice (some ⟨W.heap.size, 0, none⟩) 2 2] (W.alloc (.cells #[.int .i64 p, .int .i64 q] 2)) fun e w' => e = .returned (.bool false) ∧ Below W.heap.size W w') := Lib.hid (fun W => by have := arc2_any W p q; rwa [hA] at this)
      clear hA hP
      go_enter Try.func24, Try.ntmps24
      go_wp2_with (first | (go_at_call 42; with_reducible refine Calls.mono (KS.out _) ?_; rintro e wc ⟨rfl, rfl⟩) | (go_at_call 43; with_reducible refine Calls.mono (KA.out _) ?_; rintro e wba ⟨rfl, hba⟩))
      go_ret2
      exact ⟨ret_int2 (by rw [HE.out]) (by rw [HE.out]), hba⟩
    case true =>
      have KA : Hid (∀ W : World, Calls Try.prog 43 #[.slice (some ⟨W.heap.size, 0, none⟩) 2 2] (W.alloc (.cells #[.int .i64 p, .int .i64 q] 2)) fun e w' => e = .returned (.bool true) ∧ Below W.heap.size W w') := Lib.hid (fun W => by have := arc2_any W p q; rwa [hA] at this)
      have HE : Hid (btT k p q = (bsM p q k, 0)) := Lib.hid (by unfold btT btB; rw [hP, hA]; rfl)
      rw [Bool.and_eq_true] at hA
      obtain ⟨p0, p1⟩ := inB_t (show inB p 0 16 = true from hA.1)
      obtain ⟨q0, q1⟩ := inB_t (show inB q 0 16 = true from hA.2)
      have hs1 := tls_store2 p
      have hs2 := fun w : World => tls_store q (w.alloc (.cells (tlsC p) 65))
      have hs3 : ∀ w : World, (storeCells ⟨w.heap.size + 1, 0, none⟩ (Try.zeroCells65.toList.set 0 (.int .i64 q))).run Try.prog ((w.alloc (.cells (tlsC p) 65)).alloc (.cells Try.zeroCells65 65)) = .ok () ((w.alloc (.cells (tlsC p) 65)).alloc (.cells (tlsC q) 65)) := fun w => by have := hs2 w; rwa [show (w.alloc (.cells (tlsC p) 65)).heap.size = w.heap.size + 1 by simp] at this
      clear hA hP hs2
      have H00 : Hid (dfD p q k 0 = 0) := Lib.hid (by unfold dfD; rw [tl_le _ (by omega), tl_le _ (by omega)]; omega)
      go_enter Try.func24, Try.ntmps24
      go_wp2_with (first | (go_at_call 42; with_reducible refine Calls.mono (KS.out _) ?_; rintro e wc ⟨rfl, rfl⟩) | (go_at_call 43; with_reducible refine Calls.mono (KA.out _) ?_; rintro e wba ⟨rfl, hba⟩))
      clear KS KA hs1 hs3
      obtain ⟨g, hg⟩ : ∃ g, g = wba.heap.size := ⟨_, rfl⟩
      obtain ⟨g2, hg2⟩ : ∃ g, g = wba.heap.size + 1 := ⟨_, rfl⟩
      generalize hW : World.alloc (World.alloc _ _) _ = W
      have hTp : Tls W g p := by rw [← hW, hg]; exact Tls.new ((Bk.new _ _ _).alloc _)
      have hTq : Tls W g2 q := by rw [← hW, hg2]; exact Tls.new (Bk.new' (by simp))
      have HB : Hid (Below w.heap.size w W) := Lib.hid (by rw [← hW]; exact (hba.alloc hba.size _).alloc (by have := hba.size; simp; omega) _)
      have lg : w.heap.size ≤ g := by rw [hg]; exact hba.size
      have lg2 : w.heap.size ≤ g2 := by have := hba.size; omega
      have gne : g ≠ g2 := by omega
      try rw [← hg2]
      try rw [← hg]
      clear hW hg hg2 hba
      go_loopw [10, 11, 12] (fun v d i wr => ∃ (j : Nat) (bb : Int) (m : Nat), 0 ≤ bb ∧ bb < m ∧ m + j = k + 2 ∧ bsM p q k = bsF (dfD p q k) j (m : Int) bb ∧ v = .int .i64 bb ∧ d = .int .i64 (dfD p q k bb) ∧ i = .int .i64 (m : Int) ∧ Tls wr g p ∧ Tls wr g2 q ∧ Below w.heap.size w wr) (fun _ _ i _ => ((k : Int) + 2 - intOf i).toNat)
      case atStart => exact ⟨k + 1, 0, 1, by omega, by omega, by omega, rfl, rfl, by rw [H00.out], rfl, hTp, hTq, HB.out⟩
      case round =>
        clear HB hTp hTq
        obtain ⟨j, bb, m, b0, bm, mj, hV, rfl, rfl, rfl, hTp, hTq, hB⟩ := hrel
        have HV := Lib.hid hV
        have HTP := Lib.hid hTp
        have HTQ := Lib.hid hTq
        have HB := Lib.hid hB
        clear hV hTp hTq hB
        by_cases hlt : (m : Int) ≤ (k : Int) + 1
        case pos =>
          obtain ⟨j, rfl⟩ : ∃ x, j = x + 1 := ⟨j - 1, by omega⟩
          have HS : Hid (bsM p q k = bsF (dfD p q k) j ((m + 1 : Nat) : Int) (if dfD p q k bb < dfD p q k m then (m : Int) else bb)) := Lib.hid HV.out
          have HD : Hid (dfD p q k m = tl q k m - tl p k m) := Lib.hid rfl
          have KQ : Hid (∀ W : World, Tls W g2 q → Calls Try.prog 44 #[.pointer (some ⟨g2, 0, none⟩), .int .i64 (k : Int), .int .i64 (m : Int)] W fun e w' => e = .returned (.int .i64 (tl q k (m : Int))) ∧ Tls w' g2 q ∧ W.grownBy w' (some g2)) := Lib.hid (fun W h => cnt_any W g2 q k m (by omega) (by omega) (by omega) (by omega) h)
          have KP : Hid (∀ W : World, Tls W g p → Calls Try.prog 44 #[.pointer (some ⟨g, 0, none⟩), .int .i64 (k : Int), .int .i64 (m : Int)] W fun e w' => e = .returned (.int .i64 (tl p k (m : Int))) ∧ Tls w' g p ∧ W.grownBy w' (some g)) := Lib.hid (fun W h => cnt_any W g p k m (by omega) (by omega) (by omega) (by omega) h)
          have t1 := tl_bd q0 q1 k m
          have t2 := tl_bd p0 p1 k m
          have hp := pw_le (n := k) (by omega)
          obtain ⟨X, hX⟩ : ∃ x, tl q k m = x := ⟨_, rfl⟩
          obtain ⟨Y, hY⟩ : ∃ x, tl p k m = x := ⟨_, rfl⟩
          obtain ⟨D, hD⟩ : ∃ x, dfD p q k m = x := ⟨_, rfl⟩
          obtain ⟨G, hG⟩ : ∃ x, dfD p q k bb = x := ⟨_, rfl⟩
          rw [hX] at KQ HD t1
          rw [hY] at KP HD t2
          rw [hD] at HD
          rw [hD, hG] at HS
          have HG := Lib.hid hG
          have HDD := Lib.hid hD
          rw [hG]
          have e1 : IntKind.wrap .i64 (X - Y) = D := by rw [HD.out]; exact IntWalk.i64_in _ (by omega)
          clear hX hY hD hG t1 t2 hp HD HV
          by_cases hd : G < D
          case pos =>
            rw [if_pos hd] at HS
            go_wp2_with (first | (go_at_call 44; with_reducible refine Calls.mono (KQ.out _ HTQ.out) ?_; rintro e wt ⟨rfl, hT2, hg2⟩; have HX := Lib.hid (And.intro hT2 (And.intro (HTP.out.kept hg2 (by simpa using gne)) (HB.out.trans (below_of_grown hg2 lg2 HB.out.size)))); clear hT2 hg2) | (go_at_call 44; with_reducible refine Calls.mono (KP.out _ HX.out.2.1) ?_; rintro e wu ⟨rfl, hT2, hg2⟩; have HY := Lib.hid (And.intro hT2 (And.intro (HX.out.1.kept hg2 (by simpa using gne.symm)) (HX.out.2.2.trans (below_of_grown hg2 lg HX.out.2.2.size)))); clear hT2 hg2))
            go_roundw
            case rel => exact ⟨j, (m : Int), m + 1, by omega, by omega, by omega, HS.out, rfl, by rw [HDD.out], by go_num, HY.out.1, HY.out.2.1, HY.out.2.2⟩
            case measure => simp [intOf]; omega
          case neg =>
            rw [if_neg hd] at HS
            go_wp2_with (first | (go_at_call 44; with_reducible refine Calls.mono (KQ.out _ HTQ.out) ?_; rintro e wt ⟨rfl, hT2, hg2⟩; have HX := Lib.hid (And.intro hT2 (And.intro (HTP.out.kept hg2 (by simpa using gne)) (HB.out.trans (below_of_grown hg2 lg2 HB.out.size)))); clear hT2 hg2) | (go_at_call 44; with_reducible refine Calls.mono (KP.out _ HX.out.2.1) ?_; rintro e wu ⟨rfl, hT2, hg2⟩; have HY := Lib.hid (And.intro hT2 (And.intro (HX.out.1.kept hg2 (by simpa using gne.symm)) (HX.out.2.2.trans (below_of_grown hg2 lg HX.out.2.2.size)))); clear hT2 hg2))
            go_roundw
            case rel => exact ⟨j, bb, m + 1, b0, by omega, by omega, HS.out, rfl, by rw [HG.out], by go_num, HY.out.1, HY.out.2.1, HY.out.2.2⟩
            case measure => simp [intOf]; omega
        case neg =>
          obtain rfl : j = 0 := by omega
          have HM : Hid (bsM p q k = bb) := Lib.hid HV.out
          clear HV
          go_wp2
          go_ret2
          exact ⟨ret_int2 (by rw [HE.out]; exact HM.out.symm) (by rw [HE.out]), HB.out⟩

set_option maxRecDepth 100000 in
set_option maxHeartbeats 8000000 in
theorem itr_any (w : World) (a num den : Int) :
    Calls Try.prog 27 #[.int .i64 a, .int .i64 num, .int .i64 den] w fun e w' => e = .returned (.tuple #[.int .i64 (trT a num den).1, .int .i64 (trT a num den).2]) ∧ Below w.heap.size w w' := by
  cases hA : chB a
  case false =>
    have HE : Hid (trT a num den = (0, 2)) := Lib.hid (by unfold trT; rw [hA]; rfl)
    have KA : Hid (∀ W : World, Calls Try.prog 43 #[.slice (some ⟨W.heap.size, 0, none⟩) 1 1] (W.alloc (.cells #[.int .i64 a] 2)) fun e w' => e = .returned (.bool false) ∧ Below W.heap.size W w') := Lib.hid (fun W => by have := arc1_any W a; rwa [hA] at this)
    clear hA
    go_enter Try.func27, Try.ntmps27
    go_wp2_with (go_at_call 43; with_reducible refine Calls.mono (KA.out _) ?_; rintro e wba ⟨rfl, hba⟩)
    go_ret2
    exact ⟨ret_int2 (by rw [HE.out]) (by rw [HE.out]), hba⟩
  case true =>
    have KA : Hid (∀ W : World, Calls Try.prog 43 #[.slice (some ⟨W.heap.size, 0, none⟩) 1 1] (W.alloc (.cells #[.int .i64 a] 2)) fun e w' => e = .returned (.bool true) ∧ Below W.heap.size W w') := Lib.hid (fun W => by have := arc1_any W a; rwa [hA] at this)
    obtain ⟨a0, a1⟩ := inB_t (show inB a 0 16 = true from hA)
    cases hQ : frB num den
    case false =>
      have HE : Hid (trT a num den = (0, 2)) := Lib.hid (by unfold trT; rw [hA, hQ]; rfl)
      have KF : Hid (∀ W : World, Calls Try.prog 51 #[.int .i64 num, .int .i64 den] W fun e w' => e = .returned (.bool false) ∧ W = w') := Lib.hid (fun W => by have := ifr_any W num den; rwa [hQ] at this)
      clear hA hQ
      go_enter Try.func27, Try.ntmps27
      go_wp2_with (first | (go_at_call 43; with_reducible refine Calls.mono (KA.out _) ?_; rintro e wba ⟨rfl, hba⟩) | (go_at_call 51; with_reducible refine Calls.mono (KF.out _) ?_; rintro e wc ⟨rfl, rfl⟩))
      go_ret2
      exact ⟨ret_int2 (by rw [HE.out]) (by rw [HE.out]), hba⟩
    case true =>
      obtain ⟨⟨d1, d2⟩, n1, n2⟩ := frB_t hQ
      have HE : Hid (trT a num den = if trM a num den < 13 then (trM a num den, 0) else (0, 4)) := Lib.hid (by unfold trT; rw [hA, hQ]; rfl)
      have KF : Hid (∀ W : World, Calls Try.prog 51 #[.int .i64 num, .int .i64 den] W fun e w' => e = .returned (.bool true) ∧ W = w') := Lib.hid (fun W => by have := ifr_any W num den; rwa [hQ] at this)
      have hst := tls_store a
      clear hA hQ
      go_enter Try.func27, Try.ntmps27
      go_wp2_with (first | (go_at_call 43; with_reducible refine Calls.mono (KA.out _) ?_; rintro e wba ⟨rfl, hba⟩) | (go_at_call 51; with_reducible refine Calls.mono (KF.out _) ?_; rintro e wc ⟨rfl, rfl⟩))
      clear KA KF hst
      generalize hW : World.alloc _ _ = W
      obtain ⟨g, hg⟩ : ∃ g, g = wba.heap.size := ⟨_, rfl⟩
      have hT : Tls W g a := by rw [← hW, hg]; exact Tls.new (Bk.new _ _ _)
      have HB : Hid (Below w.heap.size w W) := Lib.hid (by rw [← hW]; exact hba.alloc hba.size _)
      have lg : w.heap.size ≤ g := by rw [hg]; exact hba.size
      try rw [← hg]
      clear hW hg hba
      go_loopw [22] (fun v wr => ∃ (j k : Nat), k + j = 13 ∧ trM a num den = lsF (trP a num den) j (k : Int) ∧ v = .int .i64 (k : Int) ∧ Tls wr g a ∧ Below w.heap.size w wr) (fun v _ => (13 - intOf v).toNat)
      case atStart => exact ⟨13, 0, rfl, rfl, rfl, hT, HB.out⟩
      case round =>
        clear hT HB
        obtain ⟨j, k, hj, hV, rfl, hT, hB⟩ := hrel
        have HV := Lib.hid hV
        have HT := Lib.hid hT
        have HB := Lib.hid hB
        clear hV hT hB
        by_cases hk : k < 13
        case pos =>
          obtain ⟨j, rfl⟩ : ∃ x, j = x + 1 := ⟨j - 1, by omega⟩
          have KT : Hid (∀ W : World, Tls W g a → Calls Try.prog 44 #[.pointer (some ⟨g, 0, none⟩), .int .i64 (k : Int), .int .i64 1] W fun e w' => e = .returned (.int .i64 (tl a k 1)) ∧ Tls w' g a ∧ W.grownBy w' (some g)) := Lib.hid (fun W h => cnt_any W g a k 1 (by omega) (by omega) (by omega) (by omega) h)
          have KW : Hid (∀ W : World, Calls Try.prog 48 #[.int .i64 (k : Int)] W fun e w' => e = .returned (.int .i64 (pw k)) ∧ W = w') := Lib.hid (fun W => csf_any W k (by omega))
          have HP : Hid (trP a num den (k : Int) = decide (num * pw k ≤ tl a k 1 * den)) := Lib.hid rfl
          have tb := tl_bd a0 a1 k 1
          have hp := pw_le (n := k) (by omega)
          have hp0 := pw_pos k
          have m1 := prd48 (x := tl a k 1) (y := den) (by omega) (by omega) (by omega) (by omega)
          have m2 := prd48 (x := pw k) (y := num) (by omega) (by omega) (by omega) (by omega)
          rw [Int.mul_comm] at m2
          have w1_ : IntKind.wrap .i64 (tl a k 1 * den) = tl a k 1 * den := IntWalk.i64_in _ (by omega)
          have w2_ : IntKind.wrap .i64 (num * pw k) = num * pw k := IntWalk.i64_in _ (by omega)
          obtain ⟨Tm, hT1⟩ : ∃ x, tl a k 1 = x := ⟨_, rfl⟩
          obtain ⟨Pk, hPk⟩ : ∃ x, pw k = x := ⟨_, rfl⟩
          rw [hT1, hPk] at HP
          rw [hT1] at w1_ KT
          rw [hPk] at w2_ KW
          obtain ⟨U, hU⟩ : ∃ x, Tm * den = x := ⟨_, rfl⟩
          obtain ⟨V, hV⟩ : ∃ x, num * Pk = x := ⟨_, rfl⟩
          rw [hU, hV] at HP
          have e1 : IntKind.wrap .i64 (Tm * den) = U := by rw [w1_]; exact hU
          have e2 : IntKind.wrap .i64 (num * Pk) = V := by rw [w2_]; exact hV
          clear w1_ w2_ hU hV hT1 hPk m1 m2 tb hp hp0
          by_cases hUV : V ≤ U
          case pos =>
            have HM : Hid (trM a num den = (k : Int)) := Lib.hid (by rw [HV.out, lsF, if_pos (by rw [HP.out]; exact decide_eq_true hUV)])
            have HF : Hid (trT a num den = ((k : Int), 0)) := Lib.hid (by rw [HE.out, HM.out, if_pos (by omega)])
            clear HP HV HM HE
            go_wp2_with (first | (go_at_call 44; with_reducible refine Calls.mono (KT.out _ HT.out) ?_; rintro e wt ⟨rfl, hT2, hg2⟩; have HX := Lib.hid (And.intro hT2 hg2); clear hT2 hg2) | (go_at_call 48; with_reducible refine Calls.mono (KW.out _) ?_; rintro e wc ⟨rfl, rfl⟩))
            go_ret2
            exact ⟨ret_int2 (by rw [HF.out]) (by rw [HF.out]), HB.out.trans (below_of_grown HX.out.2 lg HB.out.size)⟩
          case neg =>
            have HM : Hid (trM a num den = lsF (trP a num den) j ((k + 1 : Nat) : Int)) := Lib.hid (by rw [HV.out, lsF, if_neg (by rw [HP.out]; simpa using hUV)]; rfl)
            clear HP HV
            go_wp2_with (first | (go_at_call 44; with_reducible refine Calls.mono (KT.out _ HT.out) ?_; rintro e wt ⟨rfl, hT2, hg2⟩; have HX := Lib.hid (And.intro hT2 hg2); clear hT2 hg2) | (go_at_call 48; with_reducible refine Calls.mono (KW.out _) ?_; rintro e wc ⟨rfl, rfl⟩))
            have hB2 := HB.out.trans (below_of_grown HX.out.2 lg HB.out.size)
            go_roundw
            case rel => exact ⟨j, k + 1, by omega, HM.out, by go_num, HX.out.1, hB2⟩
            case measure => simp [intOf]; omega
        case neg =>
          obtain rfl : j = 0 := by omega
          have HF : Hid (trT a num den = (0, 4)) := Lib.hid (by rw [HE.out, HV.out, lsF, if_neg (by omega)])
          clear HV HE
          go_wp2
          go_ret2
          exact ⟨ret_int2 (by rw [HF.out]) (by rw [HF.out]), HB.out⟩
end Go.Proofs.Ytgdnapioboodbaa
