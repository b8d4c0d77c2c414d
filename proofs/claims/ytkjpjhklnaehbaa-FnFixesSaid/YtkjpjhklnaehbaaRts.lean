/- Contracts of valid fractions and of lowest terms, the program's and the model's. Contracts of the sum, the product, the mediant, the inverse of fractions, of made and compared ones and of bounds of multiples, the program's and the model's. The walks of the exact laws of IsRatio, MakeRatio, InvertRatio and RatioBounds: each returns true and writes nothing that was there. -/
import Derived.Test.YtkjpjhklnaehbaaBas
namespace Go.Proofs.Ytkjpjhklnaehbaa
open Go.ChangeShapes Go.WideShapes Go.ChangeAt Go.RowKit Num
set_option linter.unusedVariables false

theorem irt_any (a b : Int) (w : World) :
    Calls Try.prog 90 #[.agg #[.int .i64 a, .int .i64 b]] w fun e w' => e = .returned (.bool (ratB a b)) ∧ Below w.heap.size w w' := by
  by_cases h0 : a < -1000000000
  · have H := Lib.hid (ratB_no (a := a) (b := b) (by omega))
    go_enter Try.func90, Try.ntmps90
    go_wp2
    go_ret
    exact ⟨ret_bool H.out.symm, (by repeat (first | exact Below.refl _ _ | (refine Below.alloc ?_ (by simp <;> omega) _) | (refine Below.setCell ?_ (by simp <;> omega) _) | (refine Below.drew ?_) | (refine bel_drewN ?_ _)))⟩
  · have u0 : True := trivial
    by_cases h1 : 1000000000 < a
    · have H := Lib.hid (ratB_no (a := a) (b := b) (by omega))
      go_enter Try.func90, Try.ntmps90
      go_wp2
      go_ret
      exact ⟨ret_bool H.out.symm, (by repeat (first | exact Below.refl _ _ | (refine Below.alloc ?_ (by simp <;> omega) _) | (refine Below.setCell ?_ (by simp <;> omega) _) | (refine Below.drew ?_) | (refine bel_drewN ?_ _)))⟩
    · have u1 : True := trivial
      by_cases h2 : b < 1
      · have H := Lib.hid (ratB_no (a := a) (b := b) (by omega))
        go_enter Try.func90, Try.ntmps90
        go_wp2
        go_ret
        exact ⟨ret_bool H.out.symm, (by repeat (first | exact Below.refl _ _ | (refine Below.alloc ?_ (by simp <;> omega) _) | (refine Below.setCell ?_ (by simp <;> omega) _) | (refine Below.drew ?_) | (refine bel_drewN ?_ _)))⟩
      · have u2 : True := trivial
        by_cases h3 : 1000000000 < b
        · have H := Lib.hid (ratB_no (a := a) (b := b) (by omega))
          go_enter Try.func90, Try.ntmps90
          go_wp2
          go_ret
          exact ⟨ret_bool H.out.symm, (by repeat (first | exact Below.refl _ _ | (refine Below.alloc ?_ (by simp <;> omega) _) | (refine Below.setCell ?_ (by simp <;> omega) _) | (refine Below.drew ?_) | (refine bel_drewN ?_ _)))⟩
        · have u3 : True := trivial
          have H := Lib.hid (ratB_mk (a := a) (b := b) (by omega) (by omega) (by omega) (by omega))
          go_enter Try.func90, Try.ntmps90
          go_wp2_with (go_at_call 94; refine (igd_any _ _ (by omega) (by omega) (by omega) (by omega) _).mono ?_; rintro e w' ⟨rfl, nd, rfl⟩)
          go_ret
          exact ⟨ret_bool H.out.symm, (by repeat (first | exact Below.refl _ _ | (refine Below.alloc ?_ (by simp <;> omega) _) | (refine Below.setCell ?_ (by simp <;> omega) _) | (refine Below.drew ?_) | (refine bel_drewN ?_ _)))⟩

theorem srt_any (a b : Int) (w : World) :
    Calls Try.prog 88 #[.agg #[.int .i64 a, .int .i64 b]] w fun e w' => e = .returned (.bool (ratB a b)) ∧ Below w.heap.size w w' := by
  cases ha : inB a (-1000000000) 1000000000 <;> cases hb : inB b 1 1000000000
  case true.true =>
    obtain ⟨a1, a2⟩ := inB_t ha
    obtain ⟨b1, b2⟩ := inB_t hb
    have H := Lib.hid (ratB_mk (a := a) (b := b) (by omega) (by omega) (by omega) (by omega))
    go_enter Try.func88, Try.ntmps88
    go_wp2_with (first | (go_at_call 63; refine (lin_any _ _ _ _).mono ?_; rintro e w' ⟨rfl, rfl⟩) | (go_at_call 87; refine (ldv_any _ _ (by omega) (by omega) (by omega) (by omega) _).mono ?_; rintro e w' ⟨rfl, nd, rfl⟩))
    go_ret
    exact ⟨ret_bool H.out.symm, (by repeat (first | exact Below.refl _ _ | (refine Below.alloc ?_ (by simp <;> omega) _) | (refine Below.setCell ?_ (by simp <;> omega) _) | (refine Below.drew ?_) | (refine bel_drewN ?_ _)))⟩
  all_goals
    have H := Lib.hid (ratB_no (a := a) (b := b) (by first | (have := inB_f ha; omega) | (have := inB_f hb; omega)))
    go_enter Try.func88, Try.ntmps88
    go_wp2_with (go_at_call 63; refine (lin_any _ _ _ _).mono ?_; rintro e w' ⟨rfl, rfl⟩)
    go_ret
    exact ⟨ret_bool H.out.symm, (by repeat (first | exact Below.refl _ _ | (refine Below.alloc ?_ (by simp <;> omega) _) | (refine Below.setCell ?_ (by simp <;> omega) _) | (refine Below.drew ?_) | (refine bel_drewN ?_ _)))⟩

theorem lot_any (n d : Int) (n1 : -9000000000000000000 ≤ n) (n2 : n ≤ 9000000000000000000) (d1 : -9000000000000000000 ≤ d) (d2 : d ≤ 9000000000000000000) (h0 : ¬ d = 0) (w : World) :
    Calls Try.prog 89 #[.int .i64 n, .int .i64 d] w fun e w' => e = .returned (.tuple #[.int .i64 (lowN n d), .int .i64 (lowD n d)]) ∧ ∃ k, w' = w.drewN k := by
  have g1 := gc_pos (a := n) h0
  have g2 := gc_le (a := n) h0
  have t1 := tdiv_bd n (sgc n d)
  have t2 := tdiv_bd d (sgc n d)
  obtain ⟨g, hg⟩ : ∃ g, gc n d = g := ⟨_, rfl⟩
  have HG := Lib.hid hg
  by_cases hd : d < 0
  · have e : sgc n d = -g := by unfold sgc; rw [if_pos hd, hg]
    have HN : lowN n d = -(n.tdiv g) := by unfold lowN; rw [e, Int.tdiv_neg]
    have HD : lowD n d = -(d.tdiv g) := by unfold lowD; rw [e, Int.tdiv_neg]
    rw [e, Int.tdiv_neg] at t1 t2
    rw [hg] at g1 g2
    have HN : Hid (-(n.tdiv g) = lowN n d) := Lib.hid HN.symm
    have HD : Hid (-(d.tdiv g) = lowD n d) := Lib.hid HD.symm
    have l1 : -9000000000000000000 ≤ n.tdiv g := by omega
    have l2 : n.tdiv g ≤ 9000000000000000000 := by omega
    have l3 : -9000000000000000000 ≤ d.tdiv g := by omega
    have l4 : d.tdiv g ≤ 9000000000000000000 := by omega
    have gz : ¬ -g = 0 := by omega
    have gb : (-g == 0) = false := by simp; omega
    clear hg e t1 t2
    go_enter Try.func89, Try.ntmps89
    go_wp2_with (go_at_call 94; refine (igd_any _ _ (by omega) (by omega) (by omega) (by omega) _).mono ?_; rw [HG.out]; rintro e w' ⟨rfl, nd, rfl⟩)
    go_quiet (fail)
    go_wp2
    go_ret2
    exact ⟨ret_int2 HN.out HD.out, _, World.drewN_drewN _ _ _⟩
  · have e : sgc n d = g := by unfold sgc; rw [if_neg hd, hg]
    have HN : Hid (lowN n d = n.tdiv g) := Lib.hid (by unfold lowN; rw [e])
    have HD : Hid (lowD n d = d.tdiv g) := Lib.hid (by unfold lowD; rw [e])
    rw [e] at t1 t2
    rw [hg] at g1 g2
    have l1 : -9000000000000000000 ≤ n.tdiv g := by omega
    have l2 : n.tdiv g ≤ 9000000000000000000 := by omega
    have l3 : -9000000000000000000 ≤ d.tdiv g := by omega
    have l4 : d.tdiv g ≤ 9000000000000000000 := by omega
    have gz : ¬ g = 0 := by omega
    have gb : (g == 0) = false := by simp; omega
    clear hg e t1 t2
    go_enter Try.func89, Try.ntmps89
    go_wp2_with (go_at_call 94; refine (igd_any _ _ (by omega) (by omega) (by omega) (by omega) _).mono ?_; rw [HG.out]; rintro e w' ⟨rfl, nd, rfl⟩)
    go_quiet (fail)
    go_wp2
    go_ret2
    exact ⟨ret_int2 HN.out.symm HD.out.symm, _, World.drewN_drewN _ _ _⟩

theorem mkT_y {n d p q : Int} (hp : lowN n d = p) (hq : lowD n d = q) (h : ratB p q = true) : mkT n d = (p, q, 0) := by unfold mkT; rw [hp, hq, h]; rfl
theorem mkT_n {n d p q : Int} (hp : lowN n d = p) (hq : lowD n d = q) (h : ratB p q = false) : mkT n d = (0, 0, 2) := by unfold mkT; rw [hp, hq, h]; rfl
set_option maxHeartbeats 1000000 in
theorem rof_any (n d : Int) (n1 : -9000000000000000000 ≤ n) (n2 : n ≤ 9000000000000000000) (d1 : -9000000000000000000 ≤ d) (d2 : d ≤ 9000000000000000000) (h0 : ¬ d = 0) (w : World) :
    Calls Try.prog 84 #[.int .i64 n, .int .i64 d] w fun e w' => e = .returned (.tuple #[.agg #[.int .i64 (mkT n d).1, .int .i64 (mkT n d).2.1], .int .i64 (mkT n d).2.2]) ∧ Below w.heap.size w w' := by
  obtain ⟨p, hp⟩ : ∃ p, lowN n d = p := ⟨_, rfl⟩
  obtain ⟨q, hq⟩ : ∃ q, lowD n d = q := ⟨_, rfl⟩
  have HPQ := Lib.hid (And.intro hp hq)
  cases hr : ratB p q
  · have HM := Lib.hid (mkT_n hp hq hr)
    have HR := Lib.hid hr
    clear hp hq hr
    go_enter Try.func84, Try.ntmps84
    go_wp2_with (go_at_call 89; refine (lot_any _ _ (by omega) (by omega) (by omega) (by omega) h0 _).mono ?_; rw [HPQ.out.1, HPQ.out.2]; rintro e w' ⟨rfl, nd, rfl⟩)
    refine (irt_any _ _ _).mono ?_
    rw [HR.out]
    rintro e w1 ⟨rfl, hb⟩
    have c0 : w1.cell? ⟨w.heap.size, 0, none⟩ = some (.int .i64 0) := (hb.cell (p := ⟨w.heap.size, 0, none⟩) (by first | (simp; done) | (simp; omega))).trans (by go_simp)
    have c1 : w1.cell? ⟨w.heap.size, 1, none⟩ = some (.int .i64 0) := (hb.cell (p := ⟨w.heap.size, 1, none⟩) (by first | (simp; done) | (simp; omega))).trans (by go_simp)
    have x0 : w1.cell? ⟨w.heap.size + 1, 0, none⟩ = some (.int .i64 p) := (hb.cell (p := ⟨w.heap.size + 1, 0, none⟩) (by first | (simp; done) | (simp; omega))).trans (by go_simp)
    have x1 : w1.cell? ⟨w.heap.size + 1, 1, none⟩ = some (.int .i64 q) := (hb.cell (p := ⟨w.heap.size + 1, 1, none⟩) (by first | (simp; done) | (simp; omega))).trans (by go_simp)
    obtain ⟨-, hf, hz⟩ := bel_rules hb
    have HB := Lib.hid hb
    clear hb
    go_wp2
    exact bodyPost_ret (v := .tuple #[.agg #[.int .i64 0, .int .i64 0], .int .i64 2]) (by simp [results, Try.results84, go_sem, c0, c1]) rfl ⟨resT_of HM.out, by repeat (first | exact bel_end (by repeat (first | exact Below.refl _ _ | (refine Below.alloc ?_ (by simp <;> omega) _) | (refine Below.setCell ?_ (by simp <;> omega) _) | (refine Below.drew ?_) | (refine bel_drewN ?_ _))) HB.out | (refine Below.setCell ?_ (by simp <;> omega) _) | (refine Below.alloc ?_ (by simp <;> omega) _) | (refine Below.drew ?_))⟩
  · have HM := Lib.hid (mkT_y hp hq hr)
    have HR := Lib.hid hr
    clear hp hq hr
    go_enter Try.func84, Try.ntmps84
    go_wp2_with (go_at_call 89; refine (lot_any _ _ (by omega) (by omega) (by omega) (by omega) h0 _).mono ?_; rw [HPQ.out.1, HPQ.out.2]; rintro e w' ⟨rfl, nd, rfl⟩)
    refine (irt_any _ _ _).mono ?_
    rw [HR.out]
    rintro e w1 ⟨rfl, hb⟩
    have c0 : w1.cell? ⟨w.heap.size, 0, none⟩ = some (.int .i64 0) := (hb.cell (p := ⟨w.heap.size, 0, none⟩) (by first | (simp; done) | (simp; omega))).trans (by go_simp)
    have c1 : w1.cell? ⟨w.heap.size, 1, none⟩ = some (.int .i64 0) := (hb.cell (p := ⟨w.heap.size, 1, none⟩) (by first | (simp; done) | (simp; omega))).trans (by go_simp)
    have x0 : w1.cell? ⟨w.heap.size + 1, 0, none⟩ = some (.int .i64 p) := (hb.cell (p := ⟨w.heap.size + 1, 0, none⟩) (by first | (simp; done) | (simp; omega))).trans (by go_simp)
    have x1 : w1.cell? ⟨w.heap.size + 1, 1, none⟩ = some (.int .i64 q) := (hb.cell (p := ⟨w.heap.size + 1, 1, none⟩) (by first | (simp; done) | (simp; omega))).trans (by go_simp)
    obtain ⟨-, hf, hz⟩ := bel_rules hb
    have HB := Lib.hid hb
    clear hb
    go_wp2
    exact bodyPost_ret (v := .tuple #[.agg #[.int .i64 p, .int .i64 q], .int .i64 0]) (by simp [results, Try.results84, go_sem, c0, c1]) rfl ⟨resT_of HM.out, by repeat (first | exact bel_end (by repeat (first | exact Below.refl _ _ | (refine Below.alloc ?_ (by simp <;> omega) _) | (refine Below.setCell ?_ (by simp <;> omega) _) | (refine Below.drew ?_) | (refine bel_drewN ?_ _))) HB.out | (refine Below.setCell ?_ (by simp <;> omega) _) | (refine Below.alloc ?_ (by simp <;> omega) _) | (refine Below.drew ?_))⟩

set_option maxHeartbeats 2000000 in
theorem lmk_any (n d : Int) (n1 : -9000000000000000000 ≤ n) (n2 : n ≤ 9000000000000000000) (d1 : -9000000000000000000 ≤ d) (d2 : d ≤ 9000000000000000000) (h0 : ¬ d = 0) (w : World) :
    Calls Try.prog 83 #[.int .i64 n, .int .i64 d] w fun e w' => e = .returned (.tuple #[.agg #[.int .i64 (mkT n d).1, .int .i64 (mkT n d).2.1], .int .i64 (mkT n d).2.2]) ∧ Below w.heap.size w w' := by
  have g1 := gc_pos (a := n) h0
  have g2 := gc_le (a := n) h0
  obtain ⟨g, hg⟩ : ∃ g, gc n d = g := ⟨_, rfl⟩
  rw [hg] at g1 g2
  have gz : ¬ g = 0 := by omega
  have gb : (g == 0) = false := by simp; omega
  obtain ⟨p, hp⟩ : ∃ p, lowN n d = p := ⟨_, rfl⟩
  obtain ⟨q, hq⟩ : ∃ q, lowD n d = q := ⟨_, rfl⟩
  by_cases hd : d < 0
  · skip
    have e : sgc n d = -g := by unfold sgc; rw [if_pos hd, hg]
    have hp2 : (-n).tdiv g = p := by rw [← hp]; unfold lowN; rw [e]; rw [Int.tdiv_neg, Int.neg_tdiv]
    have hq2 : (-d) / g = q := by rw [← hq]; unfold lowD; rw [e, ← Int.tdiv_eq_ediv_of_nonneg (by omega)]; rw [Int.tdiv_neg, Int.neg_tdiv]
    have t1 := tdiv_bd (-n) g
    have t2 := tdiv_bd (-d) g
    rw [Int.tdiv_eq_ediv_of_nonneg (show 0 ≤ (-d) by omega)] at t2
    have HG := Lib.hid (show gc (-n) (-d) = g by rw [gc_neg]; exact hg)
    rw [hp2] at t1
    rw [hq2] at t2
    rw [← Int.tdiv_eq_ediv_of_nonneg (by omega)] at hq2
    rw [Int.neg_tdiv] at hp2 hq2
    have HPQ : Hid (wrap64 (-(n.tdiv g)) = p ∧ wrap64 (-(d.tdiv g)) = q) := Lib.hid (by rw [hp2, hq2]; unfold wrap64; omega)
    have l1 : -9000000000000000000 ≤ p := by omega
    have l2 : p ≤ 9000000000000000000 := by omega
    have l3 : -9000000000000000000 ≤ q := by omega
    have l4 : q ≤ 9000000000000000000 := by omega
    clear t1 t2 e hp2 hq2
    cases hr : ratB p q
    · skip
      have HM := Lib.hid (mkT_n hp hq hr)
      have HR := Lib.hid hr
      clear hp hq hr hg
      go_enter Try.func83, Try.ntmps83
      go_wp2_with (go_at_call 87; refine (ldv_any _ _ (by omega) (by omega) (by omega) (by omega) _).mono ?_; rw [HG.out]; rintro e w' ⟨rfl, nd, rfl⟩)
      go_region
      go_wp2_with fail
      rw [HPQ.out.1, HPQ.out.2]
      refine (srt_any _ _ _).mono ?_
      rw [HR.out]
      rintro e w1 ⟨rfl, hb⟩
      have c0 : w1.cell? ⟨w.heap.size, 0, none⟩ = some (.int .i64 0) := (hb.cell (p := ⟨w.heap.size, 0, none⟩) (by first | (simp; done) | (simp; omega))).trans (by go_simp)
      have c1 : w1.cell? ⟨w.heap.size, 1, none⟩ = some (.int .i64 0) := (hb.cell (p := ⟨w.heap.size, 1, none⟩) (by first | (simp; done) | (simp; omega))).trans (by go_simp)
      have x0 : w1.cell? ⟨w.heap.size + 1, 0, none⟩ = some (.int .i64 p) := (hb.cell (p := ⟨w.heap.size + 1, 0, none⟩) (by first | (simp; done) | (simp; omega))).trans (by go_simp)
      have x1 : w1.cell? ⟨w.heap.size + 1, 1, none⟩ = some (.int .i64 q) := (hb.cell (p := ⟨w.heap.size + 1, 1, none⟩) (by first | (simp; done) | (simp; omega))).trans (by go_simp)
      obtain ⟨-, hf, hz⟩ := bel_rules hb
      have HB := Lib.hid hb
      clear hb
      go_wp2
      exact bodyPost_ret (v := .tuple #[.agg #[.int .i64 0, .int .i64 0], .int .i64 2]) (by simp [results, Try.results83, go_sem, c0, c1]) rfl ⟨resT_of HM.out, (by repeat (first | exact bel_end (by repeat (first | exact Below.refl _ _ | (refine Below.alloc ?_ (by simp <;> omega) _) | (refine Below.setCell ?_ (by simp <;> omega) _) | (refine Below.drew ?_) | (refine bel_drewN ?_ _))) HB.out | (refine Below.setCell ?_ (by simp <;> omega) _) | (refine Below.alloc ?_ (by simp <;> omega) _) | (refine Below.drew ?_)))⟩
    · skip
      have HM := Lib.hid (mkT_y hp hq hr)
      have HR := Lib.hid hr
      clear hp hq hr hg
      go_enter Try.func83, Try.ntmps83
      go_wp2_with (go_at_call 87; refine (ldv_any _ _ (by omega) (by omega) (by omega) (by omega) _).mono ?_; rw [HG.out]; rintro e w' ⟨rfl, nd, rfl⟩)
      go_region
      go_wp2_with fail
      rw [HPQ.out.1, HPQ.out.2]
      refine (srt_any _ _ _).mono ?_
      rw [HR.out]
      rintro e w1 ⟨rfl, hb⟩
      have c0 : w1.cell? ⟨w.heap.size, 0, none⟩ = some (.int .i64 0) := (hb.cell (p := ⟨w.heap.size, 0, none⟩) (by first | (simp; done) | (simp; omega))).trans (by go_simp)
      have c1 : w1.cell? ⟨w.heap.size, 1, none⟩ = some (.int .i64 0) := (hb.cell (p := ⟨w.heap.size, 1, none⟩) (by first | (simp; done) | (simp; omega))).trans (by go_simp)
      have x0 : w1.cell? ⟨w.heap.size + 1, 0, none⟩ = some (.int .i64 p) := (hb.cell (p := ⟨w.heap.size + 1, 0, none⟩) (by first | (simp; done) | (simp; omega))).trans (by go_simp)
      have x1 : w1.cell? ⟨w.heap.size + 1, 1, none⟩ = some (.int .i64 q) := (hb.cell (p := ⟨w.heap.size + 1, 1, none⟩) (by first | (simp; done) | (simp; omega))).trans (by go_simp)
      obtain ⟨-, hf, hz⟩ := bel_rules hb
      have HB := Lib.hid hb
      clear hb
      go_wp2
      exact bodyPost_ret (v := .tuple #[.agg #[.int .i64 p, .int .i64 q], .int .i64 0]) (by simp [results, Try.results83, go_sem, c0, c1]) rfl ⟨resT_of HM.out, (by repeat (first | exact bel_end (by repeat (first | exact Below.refl _ _ | (refine Below.alloc ?_ (by simp <;> omega) _) | (refine Below.setCell ?_ (by simp <;> omega) _) | (refine Below.drew ?_) | (refine bel_drewN ?_ _))) HB.out | (refine Below.setCell ?_ (by simp <;> omega) _) | (refine Below.alloc ?_ (by simp <;> omega) _) | (refine Below.drew ?_)))⟩
  · skip
    have e : sgc n d = g := by unfold sgc; rw [if_neg hd, hg]
    have hp2 : n.tdiv g = p := by rw [← hp]; unfold lowN; rw [e]
    have hq2 : d / g = q := by rw [← hq]; unfold lowD; rw [e, ← Int.tdiv_eq_ediv_of_nonneg (by omega)]
    have t1 := tdiv_bd n g
    have t2 := tdiv_bd d g
    rw [Int.tdiv_eq_ediv_of_nonneg (show 0 ≤ d by omega)] at t2
    have HG := Lib.hid (show gc n d = g by exact hg)
    rw [hp2] at t1
    rw [hq2] at t2
    have HPQ := Lib.hid (And.intro hp2 hq2)
    have l1 : -9000000000000000000 ≤ p := by omega
    have l2 : p ≤ 9000000000000000000 := by omega
    have l3 : -9000000000000000000 ≤ q := by omega
    have l4 : q ≤ 9000000000000000000 := by omega
    clear t1 t2 e hp2 hq2
    cases hr : ratB p q
    · skip
      have HM := Lib.hid (mkT_n hp hq hr)
      have HR := Lib.hid hr
      clear hp hq hr hg
      go_enter Try.func83, Try.ntmps83
      go_wp2_with (go_at_call 87; refine (ldv_any _ _ (by omega) (by omega) (by omega) (by omega) _).mono ?_; rw [HG.out]; rintro e w' ⟨rfl, nd, rfl⟩)
      go_region
      go_wp2_with fail
      rw [HPQ.out.1, HPQ.out.2]
      refine (srt_any _ _ _).mono ?_
      rw [HR.out]
      rintro e w1 ⟨rfl, hb⟩
      have c0 : w1.cell? ⟨w.heap.size, 0, none⟩ = some (.int .i64 0) := (hb.cell (p := ⟨w.heap.size, 0, none⟩) (by first | (simp; done) | (simp; omega))).trans (by go_simp)
      have c1 : w1.cell? ⟨w.heap.size, 1, none⟩ = some (.int .i64 0) := (hb.cell (p := ⟨w.heap.size, 1, none⟩) (by first | (simp; done) | (simp; omega))).trans (by go_simp)
      have x0 : w1.cell? ⟨w.heap.size + 1, 0, none⟩ = some (.int .i64 p) := (hb.cell (p := ⟨w.heap.size + 1, 0, none⟩) (by first | (simp; done) | (simp; omega))).trans (by go_simp)
      have x1 : w1.cell? ⟨w.heap.size + 1, 1, none⟩ = some (.int .i64 q) := (hb.cell (p := ⟨w.heap.size + 1, 1, none⟩) (by first | (simp; done) | (simp; omega))).trans (by go_simp)
      obtain ⟨-, hf, hz⟩ := bel_rules hb
      have HB := Lib.hid hb
      clear hb
      go_wp2
      exact bodyPost_ret (v := .tuple #[.agg #[.int .i64 0, .int .i64 0], .int .i64 2]) (by simp [results, Try.results83, go_sem, c0, c1]) rfl ⟨resT_of HM.out, (by repeat (first | exact bel_end (by repeat (first | exact Below.refl _ _ | (refine Below.alloc ?_ (by simp <;> omega) _) | (refine Below.setCell ?_ (by simp <;> omega) _) | (refine Below.drew ?_) | (refine bel_drewN ?_ _))) HB.out | (refine Below.setCell ?_ (by simp <;> omega) _) | (refine Below.alloc ?_ (by simp <;> omega) _) | (refine Below.drew ?_)))⟩
    · skip
      have HM := Lib.hid (mkT_y hp hq hr)
      have HR := Lib.hid hr
      clear hp hq hr hg
      go_enter Try.func83, Try.ntmps83
      go_wp2_with (go_at_call 87; refine (ldv_any _ _ (by omega) (by omega) (by omega) (by omega) _).mono ?_; rw [HG.out]; rintro e w' ⟨rfl, nd, rfl⟩)
      go_region
      go_wp2_with fail
      rw [HPQ.out.1, HPQ.out.2]
      refine (srt_any _ _ _).mono ?_
      rw [HR.out]
      rintro e w1 ⟨rfl, hb⟩
      have c0 : w1.cell? ⟨w.heap.size, 0, none⟩ = some (.int .i64 0) := (hb.cell (p := ⟨w.heap.size, 0, none⟩) (by first | (simp; done) | (simp; omega))).trans (by go_simp)
      have c1 : w1.cell? ⟨w.heap.size, 1, none⟩ = some (.int .i64 0) := (hb.cell (p := ⟨w.heap.size, 1, none⟩) (by first | (simp; done) | (simp; omega))).trans (by go_simp)
      have x0 : w1.cell? ⟨w.heap.size + 1, 0, none⟩ = some (.int .i64 p) := (hb.cell (p := ⟨w.heap.size + 1, 0, none⟩) (by first | (simp; done) | (simp; omega))).trans (by go_simp)
      have x1 : w1.cell? ⟨w.heap.size + 1, 1, none⟩ = some (.int .i64 q) := (hb.cell (p := ⟨w.heap.size + 1, 1, none⟩) (by first | (simp; done) | (simp; omega))).trans (by go_simp)
      obtain ⟨-, hf, hz⟩ := bel_rules hb
      have HB := Lib.hid hb
      clear hb
      go_wp2
      exact bodyPost_ret (v := .tuple #[.agg #[.int .i64 p, .int .i64 q], .int .i64 0]) (by simp [results, Try.results83, go_sem, c0, c1]) rfl ⟨resT_of HM.out, (by repeat (first | exact bel_end (by repeat (first | exact Below.refl _ _ | (refine Below.alloc ?_ (by simp <;> omega) _) | (refine Below.setCell ?_ (by simp <;> omega) _) | (refine Below.drew ?_) | (refine bel_drewN ?_ _))) HB.out | (refine Below.setCell ?_ (by simp <;> omega) _) | (refine Below.alloc ?_ (by simp <;> omega) _) | (refine Below.drew ?_)))⟩
end Go.Proofs.Ytkjpjhklnaehbaa
namespace Go.Proofs.Ytkjpjhklnaehbaa
open Go.ChangeShapes Go.WideShapes Go.ChangeAt Go.RowKit Num
set_option linter.unusedVariables false
theorem kp1 {W w2 : World} {m o : Nat} {v0 : Value} (c0 : W.cell? ⟨m, o, none⟩ = some v0) (h : Below W.heap.size W w2) : w2.cell? ⟨m, o, none⟩ = some v0 := (h.cell (p := ⟨m, o, none⟩) (World.block_lt_of_cell? W _ c0)).trans c0
theorem kp_fr {W w2 : World} {m o : Nat} {v0 : Value} {b : Bool} (f0 : W.frozen? ⟨m, o, none⟩ = b) (c0 : W.cell? ⟨m, o, none⟩ = some v0) (h : Below W.heap.size W w2) : w2.frozen? ⟨m, o, none⟩ = b := (h.frozen (p := ⟨m, o, none⟩) (World.block_lt_of_cell? W _ c0)).trans f0
theorem irt_is {a b : Int} {r : Bool} (h : ratB a b = r) (w : World) :
    Calls Try.prog 90 #[.agg #[.int .i64 a, .int .i64 b]] w fun e w' => e = .returned (.bool r) ∧ Below w.heap.size w w' := by subst h; exact irt_any a b w
theorem srt_is {a b : Int} {r : Bool} (h : ratB a b = r) (w : World) :
    Calls Try.prog 88 #[.agg #[.int .i64 a, .int .i64 b]] w fun e w' => e = .returned (.bool r) ∧ Below w.heap.size w w' := by subst h; exact srt_any a b w
theorem rof_is {n d : Int} {U : Int × Int × Int} (hU : mkT n d = U) (n1 : -9000000000000000000 ≤ n) (n2 : n ≤ 9000000000000000000) (d1 : -9000000000000000000 ≤ d) (d2 : d ≤ 9000000000000000000) (h0 : ¬ d = 0) (w : World) :
    Calls Try.prog 84 #[.int .i64 n, .int .i64 d] w fun e w' => e = .returned (.tuple #[.agg #[.int .i64 U.1, .int .i64 U.2.1], .int .i64 U.2.2]) ∧ Below w.heap.size w w' := by subst hU; exact rof_any n d n1 n2 d1 d2 h0 w
theorem lmk_is {n d : Int} {U : Int × Int × Int} (hU : mkT n d = U) (n1 : -9000000000000000000 ≤ n) (n2 : n ≤ 9000000000000000000) (d1 : -9000000000000000000 ≤ d) (d2 : d ≤ 9000000000000000000) (h0 : ¬ d = 0) (w : World) :
    Calls Try.prog 83 #[.int .i64 n, .int .i64 d] w fun e w' => e = .returned (.tuple #[.agg #[.int .i64 U.1, .int .i64 U.2.1], .int .i64 U.2.2]) ∧ Below w.heap.size w w' := by subst hU; exact lmk_any n d n1 n2 d1 d2 h0 w

/-- the fraction of two numbers -/
def madT (n d : Int) : Int × Int × Int := if dcode n d = 0 then mkT n d else (0, 0, dcode n d)
theorem madT_no {n d c : Int} (h : dcode n d = c) (g : ¬ c = 0) : madT n d = (0, 0, c) := by unfold madT; rw [h, if_neg g]
theorem madT_ok {n d : Int} (h : dcode n d = 0) : madT n d = mkT n d := by unfold madT; rw [if_pos h]
theorem dcode_cases (n d : Int) : dcode n d = 0 ∨ dcode n d = 2 ∨ dcode n d = 5 := by
  unfold dcode; split
  · split <;> simp
  · simp
end Go.Proofs.Ytkjpjhklnaehbaa
namespace Go.Proofs.Ytkjpjhklnaehbaa
open Go.ChangeShapes Go.WideShapes Go.ChangeAt Go.RowKit Num
set_option linter.unusedVariables false
theorem eqr_any (a b c d : Int) (w : World) :
    Calls Try.prog 25 #[.agg #[.int .i64 a, .int .i64 b], .agg #[.int .i64 c, .int .i64 d]] w fun e w' => e = .returned (.bool (a == c && b == d)) ∧ Below w.heap.size w w' := by
  cases ha : (a == c) <;> cases hb : (b == d)
  all_goals
    have ha' : (a != c) = !(a == c) := rfl
    have hb' : (b != d) = !(b == d) := rfl
    rw [ha] at ha'
    rw [hb] at hb'
    go_enter Try.func25, Try.ntmps25
    go_wp2
    go_ret
    exact ⟨rfl, (by repeat (first | exact Below.refl _ _ | (refine Below.alloc ?_ (by simp <;> omega) _) | (refine Below.setCell ?_ (by simp <;> omega) _) | (refine Below.drew ?_) | (refine bel_drewN ?_ _)))⟩

end Go.Proofs.Ytkjpjhklnaehbaa
