/- Contracts of ScaledInterval, the program's and the model's. -/
import Derived.Test.YtaamfgpdfakakaaIvl2
namespace Go.Proofs.Ytaamfgpdfakakaa
open Go.ChangeShapes Go.WideShapes Go.ChangeAt Go.RowKit Num
set_option linter.unusedVariables false
/-- the scaled interval -/
def scT (a b n d : Int) : Int × Int × Int := if vldB a b then (if hasB (-1000000) 1000000 n && hasB 1 1000000 d then within ((min (a * n) (b * n)).fdiv d) (cdiv (max (a * n) (b * n)) d) else (0, 0, 2)) else (0, 0, 1)
theorem vldB_t {a b : Int} (h : vldB a b = true) : -1000000000000 ≤ a ∧ a ≤ 1000000000000 ∧ -1000000000000 ≤ b ∧ b ≤ 1000000000000 ∧ a ≤ b := by
  unfold vldB at h
  simp only [Bool.and_eq_true, decide_eq_true_eq] at h
  obtain ⟨⟨h1, h2⟩, h3⟩ := h
  have := valB_t h1
  have := valB_t h2
  omega
theorem hasB_t {a b x : Int} (h : hasB a b x = true) : a ≤ x ∧ x ≤ b := by
  unfold hasB at h
  simpa only [Bool.and_eq_true, decide_eq_true_eq] using h
theorem resT_eq {T U : Int × Int × Int} (e : T = U) : Ending.returned (.tuple #[.agg #[.int .i64 U.1, .int .i64 U.2.1], .int .i64 U.2.2]) = .returned (.tuple #[.agg #[.int .i64 T.1, .int .i64 T.2.1], .int .i64 T.2.2]) := by rw [e]
theorem lih_any (x a b : Int) (w : World) :
    Calls Try.prog 98 #[.int .i64 x, .int .i64 a, .int .i64 b] w fun e w' => e = .returned (.bool (hasB a b x)) ∧ w = w' :=
  (lin_any x a b w).mono fun e w' h => ⟨by rw [h.1, inB_has], h.2⟩

set_option maxHeartbeats 2000000 in
theorem isc_any (a b n d : Int) (w : World) :
    Calls Try.prog 49 #[.agg #[.int .i64 a, .int .i64 b], .int .i64 n, .int .i64 d] w fun e w' => e = .returned (.tuple #[.agg #[.int .i64 (scT a b n d).1, .int .i64 (scT a b n d).2.1], .int .i64 (scT a b n d).2.2]) ∧ Below w.heap.size w w' := by
  cases hv : vldB a b
  · have h0 : True := trivial
    go_enter Try.func49, Try.ntmps49
    go_wp2_with (first | (go_at_call 87; refine (vld_any _ _ _).mono ?_; rintro e w' ⟨rfl, rfl⟩) | (go_at_call 92; refine (lacks_any _ _ _ _).mono ?_; rintro e w' ⟨rfl, rfl⟩) | (go_at_call 65; refine (fq_any _ _ (by omega) (by omega) (by omega) (by omega) h0 _).mono ?_; rintro e w' ⟨rfl, rfl⟩) | (go_at_call 66; refine (cq_any _ _ (by omega) (by omega) (by omega) (by omega) h0 _).mono ?_; rintro e w' ⟨rfl, rfl⟩))
    exact bodyPost_ret (v := .tuple #[.agg #[.int .i64 0, .int .i64 0], .int .i64 1]) (by simp [results, Try.results49, go_sem]) rfl ⟨resT_of (by unfold scT; rw [hv]; rfl), (by repeat (first | exact Below.refl _ _ | (refine Below.alloc ?_ (by simp <;> omega) _) | (refine Below.setCell ?_ (by simp <;> omega) _) | (refine Below.drew ?_) | (refine bel_drewN ?_ _)))⟩
  · cases hn : hasB (-1000000) 1000000 n <;> cases hd : hasB 1 1000000 d
    case true.true =>
      obtain ⟨a1, a2, b1, b2, ab⟩ := vldB_t hv
      obtain ⟨n1, n2⟩ := hasB_t hn
      obtain ⟨d1, d2⟩ := hasB_t hd
      have pa := mul_abs (a := a) (n := n) (A := 1000000000000) (N := 1000000) (by omega) (by omega)
      have pb := mul_abs (a := b) (n := n) (A := 1000000000000) (N := 1000000) (by omega) (by omega)
      have HT : Hid (scT a b n d = within ((min (a * n) (b * n)).fdiv d) (cdiv (max (a * n) (b * n)) d)) := Lib.hid (by unfold scT; rw [hv, hn, hd]; rfl)
      have p1 : -1000000000000000000 ≤ a * n := by omega
      have p2 : a * n ≤ 1000000000000000000 := by omega
      have p3 : -1000000000000000000 ≤ b * n := by omega
      have p4 : b * n ≤ 1000000000000000000 := by omega
      have h0 : ¬ d = 0 := by omega
      clear pa pb
      by_cases h1 : b * n < a * n
      · have HM : Hid (min (a * n) (b * n) = b * n) := Lib.hid (by omega)
        have HX : Hid (max (a * n) (b * n) = a * n) := Lib.hid (by omega)
        have h2 : ¬ a * n < b * n := by omega
        go_enter Try.func49, Try.ntmps49
        go_wp2_with (first | (go_at_call 87; refine (vld_any _ _ _).mono ?_; rintro e w' ⟨rfl, rfl⟩) | (go_at_call 92; refine (lacks_any _ _ _ _).mono ?_; rintro e w' ⟨rfl, rfl⟩) | (go_at_call 65; refine (fq_any _ _ (by omega) (by omega) (by omega) (by omega) h0 _).mono ?_; rintro e w' ⟨rfl, rfl⟩) | (go_at_call 66; refine (cq_any _ _ (by omega) (by omega) (by omega) (by omega) h0 _).mono ?_; rintro e w' ⟨rfl, rfl⟩))
        go_quiet (fail)
        go_wp2_with (first | (go_at_call 87; refine (vld_any _ _ _).mono ?_; rintro e w' ⟨rfl, rfl⟩) | (go_at_call 92; refine (lacks_any _ _ _ _).mono ?_; rintro e w' ⟨rfl, rfl⟩) | (go_at_call 65; refine (fq_any _ _ (by omega) (by omega) (by omega) (by omega) h0 _).mono ?_; rintro e w' ⟨rfl, rfl⟩) | (go_at_call 66; refine (cq_any _ _ (by omega) (by omega) (by omega) (by omega) h0 _).mono ?_; rintro e w' ⟨rfl, rfl⟩))
        refine (wvs_any _ _ _).mono ?_
        rintro e w1 ⟨rfl, hb⟩
        obtain ⟨hc, hf, hz⟩ := bel_rules hb
        have HB := Lib.hid hb
        clear hb
        go_wp2
        exact bodyPost_ret (v := .tuple #[.agg #[.int .i64 (within ((b * n).fdiv d) (cdiv (a * n) d)).1, .int .i64 (within ((b * n).fdiv d) (cdiv (a * n) d)).2.1], .int .i64 (within ((b * n).fdiv d) (cdiv (a * n) d)).2.2]) (by simp [results, Try.results49, go_sem, hc]) rfl ⟨resT_eq (by rw [HT.out, HM.out, HX.out]), (bel_end (by repeat (first | exact Below.refl _ _ | (refine Below.alloc ?_ (by simp <;> omega) _) | (refine Below.setCell ?_ (by simp <;> omega) _) | (refine Below.drew ?_) | (refine bel_drewN ?_ _))) HB.out).setCell (by simp) _ |>.setCell (by simp) _⟩
      · by_cases h2 : a * n < b * n
        · have HM : Hid (min (a * n) (b * n) = a * n) := Lib.hid (by omega)
          have HX : Hid (max (a * n) (b * n) = b * n) := Lib.hid (by omega)
          go_enter Try.func49, Try.ntmps49
          go_wp2_with (first | (go_at_call 87; refine (vld_any _ _ _).mono ?_; rintro e w' ⟨rfl, rfl⟩) | (go_at_call 92; refine (lacks_any _ _ _ _).mono ?_; rintro e w' ⟨rfl, rfl⟩) | (go_at_call 65; refine (fq_any _ _ (by omega) (by omega) (by omega) (by omega) h0 _).mono ?_; rintro e w' ⟨rfl, rfl⟩) | (go_at_call 66; refine (cq_any _ _ (by omega) (by omega) (by omega) (by omega) h0 _).mono ?_; rintro e w' ⟨rfl, rfl⟩))
          go_quiet (fail)
          go_wp2_with (first | (go_at_call 87; refine (vld_any _ _ _).mono ?_; rintro e w' ⟨rfl, rfl⟩) | (go_at_call 92; refine (lacks_any _ _ _ _).mono ?_; rintro e w' ⟨rfl, rfl⟩) | (go_at_call 65; refine (fq_any _ _ (by omega) (by omega) (by omega) (by omega) h0 _).mono ?_; rintro e w' ⟨rfl, rfl⟩) | (go_at_call 66; refine (cq_any _ _ (by omega) (by omega) (by omega) (by omega) h0 _).mono ?_; rintro e w' ⟨rfl, rfl⟩))
          refine (wvs_any _ _ _).mono ?_
          rintro e w1 ⟨rfl, hb⟩
          obtain ⟨hc, hf, hz⟩ := bel_rules hb
          have HB := Lib.hid hb
          clear hb
          go_wp2
          exact bodyPost_ret (v := .tuple #[.agg #[.int .i64 (within ((a * n).fdiv d) (cdiv (b * n) d)).1, .int .i64 (within ((a * n).fdiv d) (cdiv (b * n) d)).2.1], .int .i64 (within ((a * n).fdiv d) (cdiv (b * n) d)).2.2]) (by simp [results, Try.results49, go_sem, hc]) rfl ⟨resT_eq (by rw [HT.out, HM.out, HX.out]), (bel_end (by repeat (first | exact Below.refl _ _ | (refine Below.alloc ?_ (by simp <;> omega) _) | (refine Below.setCell ?_ (by simp <;> omega) _) | (refine Below.drew ?_) | (refine bel_drewN ?_ _))) HB.out).setCell (by simp) _ |>.setCell (by simp) _⟩
        · have HM : Hid (min (a * n) (b * n) = a * n) := Lib.hid (by omega)
          have HX : Hid (max (a * n) (b * n) = a * n) := Lib.hid (by omega)
          go_enter Try.func49, Try.ntmps49
          go_wp2_with (first | (go_at_call 87; refine (vld_any _ _ _).mono ?_; rintro e w' ⟨rfl, rfl⟩) | (go_at_call 92; refine (lacks_any _ _ _ _).mono ?_; rintro e w' ⟨rfl, rfl⟩) | (go_at_call 65; refine (fq_any _ _ (by omega) (by omega) (by omega) (by omega) h0 _).mono ?_; rintro e w' ⟨rfl, rfl⟩) | (go_at_call 66; refine (cq_any _ _ (by omega) (by omega) (by omega) (by omega) h0 _).mono ?_; rintro e w' ⟨rfl, rfl⟩))
          go_quiet (fail)
          go_wp2_with (first | (go_at_call 87; refine (vld_any _ _ _).mono ?_; rintro e w' ⟨rfl, rfl⟩) | (go_at_call 92; refine (lacks_any _ _ _ _).mono ?_; rintro e w' ⟨rfl, rfl⟩) | (go_at_call 65; refine (fq_any _ _ (by omega) (by omega) (by omega) (by omega) h0 _).mono ?_; rintro e w' ⟨rfl, rfl⟩) | (go_at_call 66; refine (cq_any _ _ (by omega) (by omega) (by omega) (by omega) h0 _).mono ?_; rintro e w' ⟨rfl, rfl⟩))
          refine (wvs_any _ _ _).mono ?_
          rintro e w1 ⟨rfl, hb⟩
          obtain ⟨hc, hf, hz⟩ := bel_rules hb
          have HB := Lib.hid hb
          clear hb
          go_wp2
          exact bodyPost_ret (v := .tuple #[.agg #[.int .i64 (within ((a * n).fdiv d) (cdiv (a * n) d)).1, .int .i64 (within ((a * n).fdiv d) (cdiv (a * n) d)).2.1], .int .i64 (within ((a * n).fdiv d) (cdiv (a * n) d)).2.2]) (by simp [results, Try.results49, go_sem, hc]) rfl ⟨resT_eq (by rw [HT.out, HM.out, HX.out]), (bel_end (by repeat (first | exact Below.refl _ _ | (refine Below.alloc ?_ (by simp <;> omega) _) | (refine Below.setCell ?_ (by simp <;> omega) _) | (refine Below.drew ?_) | (refine bel_drewN ?_ _))) HB.out).setCell (by simp) _ |>.setCell (by simp) _⟩
    all_goals
      have h0 : True := trivial
      go_enter Try.func49, Try.ntmps49
      go_wp2_with (first | (go_at_call 87; refine (vld_any _ _ _).mono ?_; rintro e w' ⟨rfl, rfl⟩) | (go_at_call 92; refine (lacks_any _ _ _ _).mono ?_; rintro e w' ⟨rfl, rfl⟩) | (go_at_call 65; refine (fq_any _ _ (by omega) (by omega) (by omega) (by omega) h0 _).mono ?_; rintro e w' ⟨rfl, rfl⟩) | (go_at_call 66; refine (cq_any _ _ (by omega) (by omega) (by omega) (by omega) h0 _).mono ?_; rintro e w' ⟨rfl, rfl⟩))
      exact bodyPost_ret (v := .tuple #[.agg #[.int .i64 0, .int .i64 0], .int .i64 2]) (by simp [results, Try.results49, go_sem]) rfl ⟨resT_of (by unfold scT; rw [hv, hn, hd]; rfl), (by repeat (first | exact Below.refl _ _ | (refine Below.alloc ?_ (by simp <;> omega) _) | (refine Below.setCell ?_ (by simp <;> omega) _) | (refine Below.drew ?_) | (refine bel_drewN ?_ _)))⟩

set_option maxHeartbeats 2000000 in
theorem ssc_any (a b n d : Int) (w : World) :
    Calls Try.prog 50 #[.agg #[.int .i64 a, .int .i64 b], .int .i64 n, .int .i64 d] w fun e w' => e = .returned (.tuple #[.agg #[.int .i64 (scT a b n d).1, .int .i64 (scT a b n d).2.1], .int .i64 (scT a b n d).2.2]) ∧ Below w.heap.size w w' := by
  cases hv : vldB a b
  · have h0 : True := trivial
    go_enter Try.func50, Try.ntmps50
    go_wp2_with (first | (go_at_call 51; refine (svl_any _ _ _).mono ?_; rintro e w' ⟨rfl, rfl⟩) | (go_at_call 98; refine (lih_any _ _ _ _).mono ?_; rintro e w' ⟨rfl, rfl⟩) | (go_at_call 68; refine (lfl_any _ _ (by omega) (by omega) (by omega) (by omega) h0 _).mono ?_; rintro e w' ⟨rfl, rfl⟩) | (go_at_call 69; refine (lce_any _ _ (by omega) (by omega) (by omega) (by omega) h0 _).mono ?_; rintro e w' ⟨rfl, rfl⟩))
    exact bodyPost_ret (v := .tuple #[.agg #[.int .i64 0, .int .i64 0], .int .i64 1]) (by simp [results, Try.results50, go_sem]) rfl ⟨resT_of (by unfold scT; rw [hv]; rfl), (by repeat (first | exact Below.refl _ _ | (refine Below.alloc ?_ (by simp <;> omega) _) | (refine Below.setCell ?_ (by simp <;> omega) _) | (refine Below.drew ?_) | (refine bel_drewN ?_ _)))⟩
  · cases hn : hasB (-1000000) 1000000 n <;> cases hd : hasB 1 1000000 d
    case true.true =>
      obtain ⟨a1, a2, b1, b2, ab⟩ := vldB_t hv
      obtain ⟨n1, n2⟩ := hasB_t hn
      obtain ⟨d1, d2⟩ := hasB_t hd
      have pa := mul_abs (a := a) (n := n) (A := 1000000000000) (N := 1000000) (by omega) (by omega)
      have pb := mul_abs (a := b) (n := n) (A := 1000000000000) (N := 1000000) (by omega) (by omega)
      have HT : Hid (scT a b n d = within ((min (a * n) (b * n)).fdiv d) (cdiv (max (a * n) (b * n)) d)) := Lib.hid (by unfold scT; rw [hv, hn, hd]; rfl)
      have p1 : -1000000000000000000 ≤ a * n := by omega
      have p2 : a * n ≤ 1000000000000000000 := by omega
      have p3 : -1000000000000000000 ≤ b * n := by omega
      have p4 : b * n ≤ 1000000000000000000 := by omega
      have h0 : ¬ d = 0 := by omega
      clear pa pb
      by_cases h1 : b * n < a * n
      · have HM : Hid (min (a * n) (b * n) = b * n) := Lib.hid (by omega)
        have HX : Hid (max (a * n) (b * n) = a * n) := Lib.hid (by omega)
        have h2 : ¬ a * n < b * n := by omega
        go_enter Try.func50, Try.ntmps50
        go_wp2_with (first | (go_at_call 51; refine (svl_any _ _ _).mono ?_; rintro e w' ⟨rfl, rfl⟩) | (go_at_call 98; refine (lih_any _ _ _ _).mono ?_; rintro e w' ⟨rfl, rfl⟩) | (go_at_call 68; refine (lfl_any _ _ (by omega) (by omega) (by omega) (by omega) h0 _).mono ?_; rintro e w' ⟨rfl, rfl⟩) | (go_at_call 69; refine (lce_any _ _ (by omega) (by omega) (by omega) (by omega) h0 _).mono ?_; rintro e w' ⟨rfl, rfl⟩))
        go_quiet (fail)
        go_wp2_with (first | (go_at_call 51; refine (svl_any _ _ _).mono ?_; rintro e w' ⟨rfl, rfl⟩) | (go_at_call 98; refine (lih_any _ _ _ _).mono ?_; rintro e w' ⟨rfl, rfl⟩) | (go_at_call 68; refine (lfl_any _ _ (by omega) (by omega) (by omega) (by omega) h0 _).mono ?_; rintro e w' ⟨rfl, rfl⟩) | (go_at_call 69; refine (lce_any _ _ (by omega) (by omega) (by omega) (by omega) h0 _).mono ?_; rintro e w' ⟨rfl, rfl⟩))
        refine (lre_any _ _ _).mono ?_
        rintro e w1 ⟨rfl, hb⟩
        obtain ⟨hc, hf, hz⟩ := bel_rules hb
        have HB := Lib.hid hb
        clear hb
        go_wp2
        exact bodyPost_ret (v := .tuple #[.agg #[.int .i64 (within ((b * n).fdiv d) (cdiv (a * n) d)).1, .int .i64 (within ((b * n).fdiv d) (cdiv (a * n) d)).2.1], .int .i64 (within ((b * n).fdiv d) (cdiv (a * n) d)).2.2]) (by simp [results, Try.results50, go_sem, hc]) rfl ⟨resT_eq (by rw [HT.out, HM.out, HX.out]), (bel_end (by repeat (first | exact Below.refl _ _ | (refine Below.alloc ?_ (by simp <;> omega) _) | (refine Below.setCell ?_ (by simp <;> omega) _) | (refine Below.drew ?_) | (refine bel_drewN ?_ _))) HB.out).setCell (by simp) _ |>.setCell (by simp) _⟩
      · by_cases h2 : a * n < b * n
        · have HM : Hid (min (a * n) (b * n) = a * n) := Lib.hid (by omega)
          have HX : Hid (max (a * n) (b * n) = b * n) := Lib.hid (by omega)
          go_enter Try.func50, Try.ntmps50
          go_wp2_with (first | (go_at_call 51; refine (svl_any _ _ _).mono ?_; rintro e w' ⟨rfl, rfl⟩) | (go_at_call 98; refine (lih_any _ _ _ _).mono ?_; rintro e w' ⟨rfl, rfl⟩) | (go_at_call 68; refine (lfl_any _ _ (by omega) (by omega) (by omega) (by omega) h0 _).mono ?_; rintro e w' ⟨rfl, rfl⟩) | (go_at_call 69; refine (lce_any _ _ (by omega) (by omega) (by omega) (by omega) h0 _).mono ?_; rintro e w' ⟨rfl, rfl⟩))
          go_quiet (fail)
          go_wp2_with (first | (go_at_call 51; refine (svl_any _ _ _).mono ?_; rintro e w' ⟨rfl, rfl⟩) | (go_at_call 98; refine (lih_any _ _ _ _).mono ?_; rintro e w' ⟨rfl, rfl⟩) | (go_at_call 68; refine (lfl_any _ _ (by omega) (by omega) (by omega) (by omega) h0 _).mono ?_; rintro e w' ⟨rfl, rfl⟩) | (go_at_call 69; refine (lce_any _ _ (by omega) (by omega) (by omega) (by omega) h0 _).mono ?_; rintro e w' ⟨rfl, rfl⟩))
          refine (lre_any _ _ _).mono ?_
          rintro e w1 ⟨rfl, hb⟩
          obtain ⟨hc, hf, hz⟩ := bel_rules hb
          have HB := Lib.hid hb
          clear hb
          go_wp2
          exact bodyPost_ret (v := .tuple #[.agg #[.int .i64 (within ((a * n).fdiv d) (cdiv (b * n) d)).1, .int .i64 (within ((a * n).fdiv d) (cdiv (b * n) d)).2.1], .int .i64 (within ((a * n).fdiv d) (cdiv (b * n) d)).2.2]) (by simp [results, Try.results50, go_sem, hc]) rfl ⟨resT_eq (by rw [HT.out, HM.out, HX.out]), (bel_end (by repeat (first | exact Below.refl _ _ | (refine Below.alloc ?_ (by simp <;> omega) _) | (refine Below.setCell ?_ (by simp <;> omega) _) | (refine Below.drew ?_) | (refine bel_drewN ?_ _))) HB.out).setCell (by simp) _ |>.setCell (by simp) _⟩
        · have HM : Hid (min (a * n) (b * n) = a * n) := Lib.hid (by omega)
          have HX : Hid (max (a * n) (b * n) = a * n) := Lib.hid (by omega)
          go_enter Try.func50, Try.ntmps50
          go_wp2_with (first | (go_at_call 51; refine (svl_any _ _ _).mono ?_; rintro e w' ⟨rfl, rfl⟩) | (go_at_call 98; refine (lih_any _ _ _ _).mono ?_; rintro e w' ⟨rfl, rfl⟩) | (go_at_call 68; refine (lfl_any _ _ (by omega) (by omega) (by omega) (by omega) h0 _).mono ?_; rintro e w' ⟨rfl, rfl⟩) | (go_at_call 69; refine (lce_any _ _ (by omega) (by omega) (by omega) (by omega) h0 _).mono ?_; rintro e w' ⟨rfl, rfl⟩))
          go_quiet (fail)
          go_wp2_with (first | (go_at_call 51; refine (svl_any _ _ _).mono ?_; rintro e w' ⟨rfl, rfl⟩) | (go_at_call 98; refine (lih_any _ _ _ _).mono ?_; rintro e w' ⟨rfl, rfl⟩) | (go_at_call 68; refine (lfl_any _ _ (by omega) (by omega) (by omega) (by omega) h0 _).mono ?_; rintro e w' ⟨rfl, rfl⟩) | (go_at_call 69; refine (lce_any _ _ (by omega) (by omega) (by omega) (by omega) h0 _).mono ?_; rintro e w' ⟨rfl, rfl⟩))
          refine (lre_any _ _ _).mono ?_
          rintro e w1 ⟨rfl, hb⟩
          obtain ⟨hc, hf, hz⟩ := bel_rules hb
          have HB := Lib.hid hb
          clear hb
          go_wp2
          exact bodyPost_ret (v := .tuple #[.agg #[.int .i64 (within ((a * n).fdiv d) (cdiv (a * n) d)).1, .int .i64 (within ((a * n).fdiv d) (cdiv (a * n) d)).2.1], .int .i64 (within ((a * n).fdiv d) (cdiv (a * n) d)).2.2]) (by simp [results, Try.results50, go_sem, hc]) rfl ⟨resT_eq (by rw [HT.out, HM.out, HX.out]), (bel_end (by repeat (first | exact Below.refl _ _ | (refine Below.alloc ?_ (by simp <;> omega) _) | (refine Below.setCell ?_ (by simp <;> omega) _) | (refine Below.drew ?_) | (refine bel_drewN ?_ _))) HB.out).setCell (by simp) _ |>.setCell (by simp) _⟩
    all_goals
      have h0 : True := trivial
      go_enter Try.func50, Try.ntmps50
      go_wp2_with (first | (go_at_call 51; refine (svl_any _ _ _).mono ?_; rintro e w' ⟨rfl, rfl⟩) | (go_at_call 98; refine (lih_any _ _ _ _).mono ?_; rintro e w' ⟨rfl, rfl⟩) | (go_at_call 68; refine (lfl_any _ _ (by omega) (by omega) (by omega) (by omega) h0 _).mono ?_; rintro e w' ⟨rfl, rfl⟩) | (go_at_call 69; refine (lce_any _ _ (by omega) (by omega) (by omega) (by omega) h0 _).mono ?_; rintro e w' ⟨rfl, rfl⟩))
      exact bodyPost_ret (v := .tuple #[.agg #[.int .i64 0, .int .i64 0], .int .i64 2]) (by simp [results, Try.results50, go_sem]) rfl ⟨resT_of (by unfold scT; rw [hv, hn, hd]; rfl), (by repeat (first | exact Below.refl _ _ | (refine Below.alloc ?_ (by simp <;> omega) _) | (refine Below.setCell ?_ (by simp <;> omega) _) | (refine Below.drew ?_) | (refine bel_drewN ?_ _)))⟩
end Go.Proofs.Ytaamfgpdfakakaa
