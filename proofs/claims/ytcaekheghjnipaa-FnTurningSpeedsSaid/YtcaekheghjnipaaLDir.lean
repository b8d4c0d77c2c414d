/- The walks of the exact laws of functions of directions: each returns true and writes nothing that was there. -/
import Derived.Test.YtcaekheghjnipaaDrc
import Derived.Test.YtcaekheghjnipaaDrm
import Derived.Deep.RegionHeld3
import Derived.Deep.DeepCutAuto
import Derived.Deep.DrawnRows
import Derived.Outline
namespace Go.Proofs.Ytcaekheghjnipaa
open Go.ChangeShapes Go.WideShapes Go.ChangeAt Go.RowKit Num
set_option linter.unusedVariables false
attribute [local go_sem ↓] Go.wp_at_zero Go.wp_at_succ
theorem tod_any (a b g : Int) (w : World) :
    Calls Try.prog 16 #[.agg #[.int .i64 a, .int .i64 b, .int .i64 g]] w fun e w' => e = .returned (.agg #[.int .i64 a, .int .i64 b, .int .i64 g]) ∧ Below w.heap.size w w' := by
  go_enter Try.func16, Try.ntmps16
  go_wp2
  exact bodyPost_ret (v := .agg #[.int .i64 a, .int .i64 b, .int .i64 g]) (by simp [results, Try.results16, go_sem]) rfl ⟨rfl, (by repeat (first | exact Below.refl _ _ | (refine Below.alloc ?_ (by simp <;> omega) _) | (refine Below.setCell ?_ (by simp <;> omega) _) | (refine Below.drew ?_) | (refine bel_drewN ?_ _)))⟩
theorem eqd_any (a b g c d h : Int) (w : World) :
    Calls Try.prog 20 #[.agg #[.int .i64 a, .int .i64 b, .int .i64 g], .agg #[.int .i64 c, .int .i64 d, .int .i64 h]] w fun e w' => e = .returned (.bool (a == c && b == d && g == h)) ∧ Below w.heap.size w w' := by
  cases ha : (a == c) <;> cases hb : (b == d) <;> cases hc : (g == h)
  all_goals
    have ha' : (a != c) = !(a == c) := rfl
    have hb' : (b != d) = !(b == d) := rfl
    have hc' : (g != h) = !(g == h) := rfl
    rw [ha] at ha'
    rw [hb] at hb'
    rw [hc] at hc'
    go_enter Try.func20, Try.ntmps20
    go_wp2
    go_ret
    exact ⟨rfl, (by repeat (first | exact Below.refl _ _ | (refine Below.alloc ?_ (by simp <;> omega) _) | (refine Below.setCell ?_ (by simp <;> omega) _) | (refine Below.drew ?_) | (refine bel_drewN ?_ _)))⟩
theorem lisd (a0 b0 g0 : Int) (w : World) :
    Calls Try.prog 3 #[.agg #[.int .i64 a0, .int .i64 b0, .int .i64 g0]] w fun e w' => e = .returned (.bool true) ∧ Below w.heap.size w w' := by
  go_enter Try.func3, Try.ntmps3
  go_wp2_with fail
  refine (tod_any _ _ _ _).mono ?_
  rintro e w1 ⟨rfl, hb⟩
  have B1 := Lib.hid hb
  clear hb
  obtain ⟨hc, -, -⟩ := bel_rules B1.out
  go_wp2_with fail
  refine (sdr_any _ _ _ _).mono ?_
  rintro e w2 ⟨rfl, hb⟩
  have B2 := Lib.hid (B1.out.trans (hb.mono B1.out.size))
  clear hb hc
  obtain ⟨hc, -, -⟩ := bel_rules B2.out
  go_wp2_with fail
  refine (tod_any _ _ _ _).mono ?_
  rintro e w3 ⟨rfl, hb⟩
  have B3 := Lib.hid (B2.out.trans (hb.mono B2.out.size))
  clear hb hc
  obtain ⟨hc, -, -⟩ := bel_rules B3.out
  go_wp2_with fail
  refine (idr_any _ _ _ _).mono ?_
  rintro e w4 ⟨rfl, hb⟩
  have B4 := Lib.hid (B3.out.trans (hb.mono B3.out.size))
  clear hb hc
  obtain ⟨hc, -, -⟩ := bel_rules B4.out
  go_wp2
  go_ret
  exact ⟨rfl, bel_end (by repeat (first | exact Below.refl _ _ | (refine Below.alloc ?_ (by simp <;> omega) _) | (refine Below.setCell ?_ (by simp <;> omega) _) | (refine Below.drew ?_) | (refine bel_drewN ?_ _))) B4.out⟩

set_option maxHeartbeats 1000000 in
theorem lmkd (a0 a1 : Int) (d : Bool) (v0 : (Lit.int .i64 a0).wf = true) (v1 : (Lit.int .i64 a1).wf = true) (w : World) :
    Calls Try.prog 4 #[.int .i64 a0, .int .i64 a1, .bool d] w fun e w' => e = .returned (.bool true) ∧ Below w.heap.size w w' := by
  obtain ⟨⟨p, q, r, c⟩, hU⟩ : ∃ U, mdT a0 a1 d = U := ⟨_, rfl⟩
  have HU := Lib.hid hU
  clear hU
  go_enter Try.func4, Try.ntmps4
  go_wp2_with fail
  refine (smd_any _ _ _ _).mono ?_
  rw [HU.out]
  rintro e w2 ⟨rfl, hb⟩
  have HB := Lib.hid hb
  clear hb
  go_wp2_with fail
  generalize hW : World.alloc _ _ = W3
  have hb : Below w2.heap.size w2 W3 := by rw [← hW]; exact (by repeat (first | exact Below.refl _ _ | (refine Below.alloc ?_ (by simp <;> omega) _) | (refine Below.setCell ?_ (by simp <;> omega) _) | (refine Below.drew ?_) | (refine bel_drewN ?_ _)))
  have bR : Bk W3 w2.heap.size #[.int .i64 p, .int .i64 q, .int .i64 r] 25 := by rw [← hW]; exact Bk.new' rfl
  replace HB := Lib.hid (bel_end HB.out hb)
  clear hW hb
  refine (imd_any _ _ _ _).mono ?_
  rw [HU.out]
  rintro e w5 ⟨rfl, hb⟩
  replace bR := bR.on hb
  replace HB := Lib.hid (bel_end HB.out hb)
  clear hb
  have r0 := bR.cell 0 rfl
  have r1 := bR.cell 1 rfl
  have r2 := bR.cell 2 rfl
  have rl := bR.lt
  go_wp2_with fail
  generalize hW : World.alloc _ _ = W6
  have hb : Below w5.heap.size w5 W6 := by rw [← hW]; exact (by repeat (first | exact Below.refl _ _ | (refine Below.alloc ?_ (by simp <;> omega) _) | (refine Below.setCell ?_ (by simp <;> omega) _) | (refine Below.drew ?_) | (refine bel_drewN ?_ _)))
  replace HB := Lib.hid (bel_end HB.out hb)
  clear hW hb
  refine (eqd_any _ _ _ _ _ _ _).mono ?_
  simp only [beq_self_eq_true, Bool.and_self]
  rintro e w7 ⟨rfl, hb⟩
  replace HB := Lib.hid (bel_end HB.out hb)
  clear hb
  go_wp2
  go_ret
  exact ⟨rfl, HB.out⟩

set_option maxHeartbeats 1000000 in
theorem lmid (a0 b0 g0 : Int) (w : World) :
    Calls Try.prog 5 #[.agg #[.int .i64 a0, .int .i64 b0, .int .i64 g0]] w fun e w' => e = .returned (.bool true) ∧ Below w.heap.size w w' := by
  obtain ⟨⟨p, q, r, c⟩, hU⟩ : ∃ U, miT a0 b0 g0 = U := ⟨_, rfl⟩
  have HU := Lib.hid hU
  clear hU
  go_enter Try.func5, Try.ntmps5
  go_wp2_with fail
  generalize hW : World.alloc _ _ = W
  have bX : Bk W w.heap.size #[.int .i64 a0, .int .i64 b0, .int .i64 g0] 23 := by rw [← hW]; exact Bk.new' rfl
  have HB : Hid (Below w.heap.size w W) := Lib.hid (by rw [← hW]; exact (by repeat (first | exact Below.refl _ _ | (refine Below.alloc ?_ (by simp <;> omega) _) | (refine Below.setCell ?_ (by simp <;> omega) _) | (refine Below.drew ?_) | (refine bel_drewN ?_ _))))
  clear hW
  have x0 := bX.cell 0 rfl
  have x1 := bX.cell 1 rfl
  have x2 := bX.cell 2 rfl
  refine (tod_any _ _ _ _).mono ?_
  rintro e w1 ⟨rfl, hb⟩
  replace bX := bX.on hb
  replace HB := Lib.hid (bel_end HB.out hb)
  clear hb x0 x1 x2
  go_wp2_with fail
  refine (smi_any _ _ _ _).mono ?_
  rw [HU.out]
  rintro e w2 ⟨rfl, hb⟩
  replace bX := bX.on hb
  replace HB := Lib.hid (bel_end HB.out hb)
  clear hb
  have x0 := bX.cell 0 rfl
  have x1 := bX.cell 1 rfl
  have x2 := bX.cell 2 rfl
  have xl := bX.lt
  go_wp2_with fail
  generalize hW : World.alloc _ _ = W3
  have hb : Below w2.heap.size w2 W3 := by rw [← hW]; exact (by repeat (first | exact Below.refl _ _ | (refine Below.alloc ?_ (by simp <;> omega) _) | (refine Below.setCell ?_ (by simp <;> omega) _) | (refine Below.drew ?_) | (refine bel_drewN ?_ _)))
  have bR : Bk W3 w2.heap.size #[.int .i64 p, .int .i64 q, .int .i64 r] 25 := by rw [← hW]; exact Bk.new' rfl
  replace HB := Lib.hid (bel_end HB.out hb)
  replace bX := bX.on hb
  clear hW hb x0 x1 x2 xl
  refine (tod_any _ _ _ _).mono ?_
  rintro e w4 ⟨rfl, hb⟩
  replace bR := bR.on hb
  replace HB := Lib.hid (bel_end HB.out hb)
  clear hb
  go_wp2_with fail
  refine (imi_any _ _ _ _).mono ?_
  rw [HU.out]
  rintro e w5 ⟨rfl, hb⟩
  replace bR := bR.on hb
  replace HB := Lib.hid (bel_end HB.out hb)
  clear hb
  have r0 := bR.cell 0 rfl
  have r1 := bR.cell 1 rfl
  have r2 := bR.cell 2 rfl
  have rl := bR.lt
  go_wp2_with fail
  generalize hW : World.alloc _ _ = W6
  have hb : Below w5.heap.size w5 W6 := by rw [← hW]; exact (by repeat (first | exact Below.refl _ _ | (refine Below.alloc ?_ (by simp <;> omega) _) | (refine Below.setCell ?_ (by simp <;> omega) _) | (refine Below.drew ?_) | (refine bel_drewN ?_ _)))
  replace HB := Lib.hid (bel_end HB.out hb)
  clear hW hb
  refine (eqd_any _ _ _ _ _ _ _).mono ?_
  simp only [beq_self_eq_true, Bool.and_self]
  rintro e w7 ⟨rfl, hb⟩
  replace HB := Lib.hid (bel_end HB.out hb)
  clear hb
  go_wp2
  go_ret
  exact ⟨rfl, HB.out⟩

set_option maxHeartbeats 2000000 in
theorem lcpd (a0 b0 g0 a1 b1 g1 : Int) (w : World) :
    Calls Try.prog 6 #[.agg #[.int .i64 a0, .int .i64 b0, .int .i64 g0], .agg #[.int .i64 a1, .int .i64 b1, .int .i64 g1]] w fun e w' => e = .returned (.bool true) ∧ Below w.heap.size w w' := by
  go_enter Try.func6, Try.ntmps6
  go_upto_region 1 with fail
  generalize hW : World.alloc _ _ = W
  have bX : Bk W w.heap.size #[.int .i64 a0, .int .i64 b0, .int .i64 g0] 23 := by rw [← hW]; repeat (first | exact Bk.new' (by simp) | refine Bk.alloc ?_ _)
  have bY : Bk W (w.heap.size + 1) #[.int .i64 a1, .int .i64 b1, .int .i64 g1] 23 := by rw [← hW]; repeat (first | exact Bk.new' (by simp) | refine Bk.alloc ?_ _)
  have HB : Hid (Below w.heap.size w W) := Lib.hid (by rw [← hW]; exact (by repeat (first | exact Below.refl _ _ | (refine Below.alloc ?_ (by simp <;> omega) _) | (refine Below.setCell ?_ (by simp <;> omega) _) | (refine Below.drew ?_) | (refine bel_drewN ?_ _))))
  clear hW
  go_cut [5, 6] (fun s5 s6 wx => s5 = .int .i64 (cdV a0 b0 g0 a1 b1 g1) ∧ s6 = .int .i64 (cdC a0 b0 g0 a1 b1 g1) ∧ Below W.heap.size W wx)
  case first =>
    go_region_held3 (fun w' => w'.cell? ⟨w.heap.size, 0, none⟩ = some (.int .i64 a0) ∧ w'.cell? ⟨w.heap.size, 1, none⟩ = some (.int .i64 b0) ∧ w'.cell? ⟨w.heap.size, 2, none⟩ = some (.int .i64 g0) ∧ w'.cell? ⟨w.heap.size + 1, 0, none⟩ = some (.int .i64 a1) ∧ w'.cell? ⟨w.heap.size + 1, 1, none⟩ = some (.int .i64 b1) ∧ w'.cell? ⟨w.heap.size + 1, 2, none⟩ = some (.int .i64 g1) ∧ Below W.heap.size W w')
      (first
        | (exact at33 bX bY (Below.refl _ W).drew)
        | (go_split_ands; exact at33 bX bY (bel_in hb (by assumption) (Nat.le_refl _)))
        | (go_split_ands; exact at33 bX bY (bel_al (by assumption) (Nat.le_refl _))))
      (first
        | (go_at_call 16; refine (tod_any _ _ _ _).mono ?_; rintro e w1 ⟨rfl, hb⟩; obtain ⟨hc, hf, hz⟩ := bel_rules hb; (try have hy := lt_trans_rule (by assumption) hz); have hk := bel_in hb (by go_split_ands; assumption) (Nat.le_refl _); have hn := hk.size)
        | (go_at_call 23; refine (scm_any _ _ _ _ _ _ _).mono ?_; rintro e w1 ⟨rfl, hb⟩; obtain ⟨hc, hf, hz⟩ := bel_rules hb; (try have hy := lt_trans_rule (by assumption) hz); have hk := bel_in hb (by go_split_ands; assumption) (Nat.le_refl _); have hn := hk.size))
    all_goals (go_wp2_with fail; go_meet; go_split_ands)
    all_goals (exact ⟨rfl, rfl, by assumption⟩)
  case rest =>
    obtain ⟨rfl, rfl, hB⟩ := hcut
    replace bX := bX.on hB
    replace bY := bY.on hB
    have HB2 := Lib.hid (bel_end HB.out hB)
    clear hB HB
    go_upto_region 2 with fail
    go_cut [7, 8] (fun s5 s6 wx => s5 = .int .i64 (cdV a0 b0 g0 a1 b1 g1) ∧ s6 = .int .i64 (cdC a0 b0 g0 a1 b1 g1) ∧ Below wc.heap.size wc wx)
    case first =>
      go_region_held3 (fun w' => w'.cell? ⟨w.heap.size, 0, none⟩ = some (.int .i64 a0) ∧ w'.cell? ⟨w.heap.size, 1, none⟩ = some (.int .i64 b0) ∧ w'.cell? ⟨w.heap.size, 2, none⟩ = some (.int .i64 g0) ∧ w'.cell? ⟨w.heap.size + 1, 0, none⟩ = some (.int .i64 a1) ∧ w'.cell? ⟨w.heap.size + 1, 1, none⟩ = some (.int .i64 b1) ∧ w'.cell? ⟨w.heap.size + 1, 2, none⟩ = some (.int .i64 g1) ∧ Below wc.heap.size wc w')
        (first
          | (exact at33 bX bY (Below.refl _ wc).drew)
          | (go_split_ands; exact at33 bX bY (bel_in hb (by assumption) (Nat.le_refl _)))
          | (go_split_ands; exact at33 bX bY (bel_al (by assumption) (Nat.le_refl _))))
        (first
          | (go_at_call 16; refine (tod_any _ _ _ _).mono ?_; rintro e w1 ⟨rfl, hb⟩; obtain ⟨hc, hf, hz⟩ := bel_rules hb; (try have hy := lt_trans_rule (by assumption) hz); have hk := bel_in hb (by go_split_ands; assumption) (Nat.le_refl _); have hn := hk.size)
          | (go_at_call 24; refine (icm_any _ _ _ _ _ _ _).mono ?_; rintro e w1 ⟨rfl, hb⟩; obtain ⟨hc, hf, hz⟩ := bel_rules hb; (try have hy := lt_trans_rule (by assumption) hz); have hk := bel_in hb (by go_split_ands; assumption) (Nat.le_refl _); have hn := hk.size))
      all_goals (go_wp2_with fail; go_meet; go_split_ands)
      all_goals (exact ⟨rfl, rfl, by assumption⟩)
    case rest =>
      obtain ⟨rfl, rfl, hB⟩ := hcut
      have HB3 := Lib.hid (bel_end HB2.out hB)
      clear hB HB2 bX bY
      go_wp2
      go_ret
      exact ⟨rfl, HB3.out⟩
end Go.Proofs.Ytcaekheghjnipaa
