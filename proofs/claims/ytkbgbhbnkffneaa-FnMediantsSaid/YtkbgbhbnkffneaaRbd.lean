/- Contracts of bounds of multiples of a fraction, the program's and the model's. -/
import Derived.Test.YtkbgbhbnkffneaaRat2
import Derived.Test.YtkbgbhbnkffneaaTwo
import Derived.Deep.RegionHeld3
import Derived.Deep.DeepCutAuto
import Derived.Deep.DrawnRows
import Derived.StillTailTactics
namespace Go.Proofs.Ytkbgbhbnkffneaa
open Go.ChangeShapes Go.WideShapes Go.ChangeAt Go.RowKit Num
set_option linter.unusedVariables false
attribute [local go_sem ↓] Go.wp_at_zero Go.wp_at_succ
/-- the bounds of a multiple -/
def rbT (a b k : Int) : Int × Int × Int := if ratB a b then (if hasB 0 1000000 k then within ((k * a).fdiv b) (cdiv (k * a) b) else (0, 0, 2)) else (0, 0, 1)
theorem lre_is {l h : Int} {U : Int × Int × Int} (e : within l h = U) (w : World) :
    Calls Try.prog 78 #[.int .i64 l, .int .i64 h] w fun e w' => e = .returned (.tuple #[.agg #[.int .i64 U.1, .int .i64 U.2.1], .int .i64 U.2.2]) ∧ Below w.heap.size w w' := by subst e; exact lre_any l h w
theorem wvs_is {l h : Int} {U : Int × Int × Int} (e : within l h = U) (w : World) :
    Calls Try.prog 77 #[.agg #[.int .i64 l, .int .i64 h]] w fun e w' => e = .returned (.tuple #[.agg #[.int .i64 U.1, .int .i64 U.2.1], .int .i64 U.2.2]) ∧ Below w.heap.size w w' := by subst e; exact wvs_any l h w
theorem lacks_is {a b x : Int} {r : Bool} (h : hasB a b x = r) (w : World) :
    Calls Try.prog 74 #[.agg #[.int .i64 a, .int .i64 b], .int .i64 x] w fun e w' => e = .returned (.bool (!r)) ∧ Below w.heap.size w w' := by
  subst h
  exact (lacks_any a b x w).mono fun e w' h => ⟨h.1, by rw [h.2]; exact (by repeat (first | exact Below.refl _ _ | (refine Below.alloc ?_ (by simp <;> omega) _) | (refine Below.setCell ?_ (by simp <;> omega) _) | (refine Below.drew ?_) | (refine bel_drewN ?_ _)))⟩
theorem keep2x {W w2 : World} {m : Nat} {v0 v1 : Value} (c0 : W.cell? ⟨m, 0, none⟩ = some v0) (c1 : W.cell? ⟨m, 1, none⟩ = some v1) (h : Below W.heap.size W w2) : w2.cell? ⟨m, 0, none⟩ = some v0 ∧ w2.cell? ⟨m, 1, none⟩ = some v1 ∧ Below W.heap.size W w2 := ⟨kp1 c0 h, kp1 c1 h, h⟩
/-- a new struct of two lies in a block of the call's own -/
def CutR (W wx : World) (s : Value) (x y : Int) : Prop := ∃ g : Nat, s = .pointer (some ⟨g, 0, none⟩) ∧ wx.cell? ⟨g, 0, none⟩ = some (.int .i64 x) ∧ wx.cell? ⟨g, 1, none⟩ = some (.int .i64 y) ∧ W.heap.size ≤ g ∧ Below W.heap.size W wx
def gotC (w : World) (p : Addr) : Value := (w.cell? p).getD undef
theorem gotC_mk {w : World} {p : Addr} {v : Value} (h : w.cell? p = some v) : w.cell? p = some (gotC w p) := by unfold gotC; rw [h]; rfl
theorem set2_old {w : World} {m o : Nat} {a b v : Value} (h : w.cell? ⟨m, o, none⟩ = some v) : ((w.setCell ⟨m + 1, 0, none⟩ a).setCell ⟨m + 1, 1, none⟩ b).cell? ⟨m, o, none⟩ = some v := by simp [h, go_sem]
theorem set2_fr {w : World} {p m o : Nat} {a b : Value} {r : Bool} (h : w.frozen? ⟨m, o, none⟩ = r) : ((w.setCell ⟨p, 0, none⟩ a).setCell ⟨p, 1, none⟩ b).frozen? ⟨m, o, none⟩ = r := by simp [h, go_sem]
theorem lfl_st {a b : Int} (ha : -9000000000000000000 ≤ a) (ha' : a ≤ 9000000000000000000) (hb : -9000000000000000000 ≤ b) (hb' : b ≤ 9000000000000000000) (h0 : ¬ b = 0) (w : World) :
    Calls Try.prog 79 #[.int .i64 a, .int .i64 b] w fun e w' => e = .returned (.int .i64 (a.fdiv b)) ∧ w' = w := (lfl_any a b ha ha' hb hb' h0 w).mono fun e w' h => ⟨h.1, h.2.symm⟩
theorem lce_st {a b : Int} (ha : -9000000000000000000 ≤ a) (ha' : a ≤ 9000000000000000000) (hb : -9000000000000000000 ≤ b) (hb' : b ≤ 9000000000000000000) (h0 : ¬ b = 0) (w : World) :
    Calls Try.prog 80 #[.int .i64 a, .int .i64 b] w fun e w' => e = .returned (.int .i64 (cdiv a b)) ∧ w' = w := (lce_any a b ha ha' hb hb' h0 w).mono fun e w' h => ⟨h.1, h.2.symm⟩
theorem lih_is {x a b : Int} {r : Bool} (h : hasB a b x = r) (w : World) :
    Calls Try.prog 68 #[.int .i64 x, .int .i64 a, .int .i64 b] w fun e w' => e = .returned (.bool r) ∧ w = w' := by subst h; exact lih_any x a b w

set_option maxRecDepth 100000 in
set_option maxHeartbeats 4000000 in
theorem srb_any (a b k : Int) (w : World) :
    Calls Try.prog 51 #[.agg #[.int .i64 a, .int .i64 b], .int .i64 k] w fun e w' => e = .returned (.tuple #[.agg #[.int .i64 (rbT a b k).1, .int .i64 (rbT a b k).2.1], .int .i64 (rbT a b k).2.2]) ∧ Below w.heap.size w w' := by
  cases ha : ratB a b
  · have HT : Hid (rbT a b k = (0, 0, 1)) := Lib.hid (by unfold rbT; rw [ha]; rfl)
    have HA := Lib.hid ha
    clear ha
    go_enter Try.func51, Try.ntmps51
    go_wp2_with fail
    obtain ⟨W, hW⟩ : ∃ W, W = ((w.alloc (.cells #[.int .i64 a, .int .i64 b] 42)).alloc (.cells #[.int .i64 0, .int .i64 0] 29)) := ⟨_, rfl⟩
    have c0 : W.cell? ⟨w.heap.size, 0, none⟩ = some (.int .i64 a) := by rw [hW]; simp [go_sem]
    have c1 : W.cell? ⟨w.heap.size, 1, none⟩ = some (.int .i64 b) := by rw [hW]; simp [go_sem]
    have c2 : W.cell? ⟨w.heap.size + 1, 0, none⟩ = some (.int .i64 0) := by rw [hW]; simp [go_sem]
    have c3 : W.cell? ⟨w.heap.size + 1, 1, none⟩ = some (.int .i64 0) := by rw [hW]; simp [go_sem]
    have f0 : W.frozen? ⟨w.heap.size + 1, 0, none⟩ = false := by rw [hW]; simp [go_sem]
    have f1 : W.frozen? ⟨w.heap.size + 1, 1, none⟩ = false := by rw [hW]; simp [go_sem]
    have HB : Hid (Below w.heap.size w W) := Lib.hid (by rw [hW]; exact (by repeat (first | exact Below.refl _ _ | (refine Below.alloc ?_ (by simp <;> omega) _) | (refine Below.setCell ?_ (by simp <;> omega) _) | (refine Below.drew ?_) | (refine bel_drewN ?_ _))))
    have hlt : w.heap.size ≤ W.heap.size := HB.out.size
    rw [← hW]
    clear hW
    refine (srt_is HA.out _).mono ?_
    rintro e w1 ⟨rfl, hb⟩
    replace f0 := kp_fr f0 c2 hb
    replace f1 := kp_fr f1 c3 hb
    replace c0 := kp1 c0 hb
    replace c1 := kp1 c1 hb
    replace c2 := kp1 c2 hb
    replace c3 := kp1 c3 hb
    replace HB := Lib.hid (bel_end HB.out hb)
    clear hb
    go_wp2
    exact bodyPost_ret (v := .tuple #[.agg #[.int .i64 0, .int .i64 0], .int .i64 1]) (by simp [results, Try.results51, go_sem, c2, c3]) rfl ⟨resT_of HT.out, (by repeat (first | exact HB.out | (refine Below.setCell ?_ (by simp <;> omega) _) | (refine Below.alloc ?_ (by simp <;> omega) _) | (refine Below.drew ?_)))⟩
  · cases hk : hasB 0 1000000 k
    · have HT : Hid (rbT a b k = (0, 0, 2)) := Lib.hid (by unfold rbT; rw [ha, hk]; rfl)
      have HA := Lib.hid ha
      have HK := Lib.hid hk
      clear ha hk
      go_enter Try.func51, Try.ntmps51
      go_wp2_with fail
      obtain ⟨W, hW⟩ : ∃ W, W = ((w.alloc (.cells #[.int .i64 a, .int .i64 b] 42)).alloc (.cells #[.int .i64 0, .int .i64 0] 29)) := ⟨_, rfl⟩
      have c0 : W.cell? ⟨w.heap.size, 0, none⟩ = some (.int .i64 a) := by rw [hW]; simp [go_sem]
      have c1 : W.cell? ⟨w.heap.size, 1, none⟩ = some (.int .i64 b) := by rw [hW]; simp [go_sem]
      have c2 : W.cell? ⟨w.heap.size + 1, 0, none⟩ = some (.int .i64 0) := by rw [hW]; simp [go_sem]
      have c3 : W.cell? ⟨w.heap.size + 1, 1, none⟩ = some (.int .i64 0) := by rw [hW]; simp [go_sem]
      have f0 : W.frozen? ⟨w.heap.size + 1, 0, none⟩ = false := by rw [hW]; simp [go_sem]
      have f1 : W.frozen? ⟨w.heap.size + 1, 1, none⟩ = false := by rw [hW]; simp [go_sem]
      have HB : Hid (Below w.heap.size w W) := Lib.hid (by rw [hW]; exact (by repeat (first | exact Below.refl _ _ | (refine Below.alloc ?_ (by simp <;> omega) _) | (refine Below.setCell ?_ (by simp <;> omega) _) | (refine Below.drew ?_) | (refine bel_drewN ?_ _))))
      have hlt : w.heap.size ≤ W.heap.size := HB.out.size
      rw [← hW]
      clear hW
      refine (srt_is HA.out _).mono ?_
      rintro e w1 ⟨rfl, hb⟩
      replace f0 := kp_fr f0 c2 hb
      replace f1 := kp_fr f1 c3 hb
      replace c0 := kp1 c0 hb
      replace c1 := kp1 c1 hb
      replace c2 := kp1 c2 hb
      replace c3 := kp1 c3 hb
      replace HB := Lib.hid (bel_end HB.out hb)
      clear hb
      go_wp2_with (go_at_call 68; refine (lih_is HK.out _).mono ?_; rintro e w' ⟨rfl, rfl⟩)
      exact bodyPost_ret (v := .tuple #[.agg #[.int .i64 0, .int .i64 0], .int .i64 2]) (by simp [results, Try.results51, go_sem, c2, c3]) rfl ⟨resT_of HT.out, (by repeat (first | exact HB.out | (refine Below.setCell ?_ (by simp <;> omega) _) | (refine Below.alloc ?_ (by simp <;> omega) _) | (refine Below.drew ?_)))⟩
    · have HT : Hid (rbT a b k = within ((k * a).fdiv b) (cdiv (k * a) b)) := Lib.hid (by unfold rbT; rw [ha, hk]; rfl)
      obtain ⟨a1, a2, b1, b2, -⟩ := ratB_t ha
      obtain ⟨k1, k2⟩ := hasB_t hk
      have p0 := mul_abs (a := k) (n := a) (A := 1000000) (N := 1000000000) (by omega) (by omega)
      have l0 : -1000000000000000000 ≤ k * a := by omega
      have u0 : k * a ≤ 1000000000000000000 := by omega
      have z : ¬ b = 0 := by omega
      have HA := Lib.hid ha
      have HK := Lib.hid hk
      clear ha hk p0
      obtain ⟨U, hU⟩ : ∃ U, within ((k * a).fdiv b) (cdiv (k * a) b) = U := ⟨_, rfl⟩
      rw [hU] at HT
      have HU := Lib.hid hU
      clear hU
      go_enter Try.func51, Try.ntmps51
      go_wp2_with fail
      obtain ⟨W, hW⟩ : ∃ W, W = ((w.alloc (.cells #[.int .i64 a, .int .i64 b] 42)).alloc (.cells #[.int .i64 0, .int .i64 0] 29)) := ⟨_, rfl⟩
      have c0 : W.cell? ⟨w.heap.size, 0, none⟩ = some (.int .i64 a) := by rw [hW]; simp [go_sem]
      have c1 : W.cell? ⟨w.heap.size, 1, none⟩ = some (.int .i64 b) := by rw [hW]; simp [go_sem]
      have c2 : W.cell? ⟨w.heap.size + 1, 0, none⟩ = some (.int .i64 0) := by rw [hW]; simp [go_sem]
      have c3 : W.cell? ⟨w.heap.size + 1, 1, none⟩ = some (.int .i64 0) := by rw [hW]; simp [go_sem]
      have f0 : W.frozen? ⟨w.heap.size + 1, 0, none⟩ = false := by rw [hW]; simp [go_sem]
      have f1 : W.frozen? ⟨w.heap.size + 1, 1, none⟩ = false := by rw [hW]; simp [go_sem]
      have HB : Hid (Below w.heap.size w W) := Lib.hid (by rw [hW]; exact (by repeat (first | exact Below.refl _ _ | (refine Below.alloc ?_ (by simp <;> omega) _) | (refine Below.setCell ?_ (by simp <;> omega) _) | (refine Below.drew ?_) | (refine bel_drewN ?_ _))))
      have hlt : w.heap.size ≤ W.heap.size := HB.out.size
      rw [← hW]
      clear hW
      refine (srt_is HA.out _).mono ?_
      rintro e w1 ⟨rfl, hb⟩
      replace f0 := kp_fr f0 c2 hb
      replace f1 := kp_fr f1 c3 hb
      replace c0 := kp1 c0 hb
      replace c1 := kp1 c1 hb
      replace c2 := kp1 c2 hb
      replace c3 := kp1 c3 hb
      replace HB := Lib.hid (bel_end HB.out hb)
      clear hb
      have E : IntKind.i64.wrap (k * a) = k * a := IntWalk.i64_in _ (by omega)
      go_wp2_with (go_at_call 68; refine (lih_is HK.out _).mono ?_; rintro e w' ⟨rfl, rfl⟩)
      go_region_held3 (fun w' => w'.cell? ⟨w.heap.size, 0, none⟩ = some (.int .i64 a) ∧ w'.cell? ⟨w.heap.size, 1, none⟩ = some (.int .i64 b) ∧ w'.cell? ⟨w.heap.size + 1, 0, none⟩ = some (gotC w' ⟨w.heap.size + 1, 0, none⟩) ∧ w'.cell? ⟨w.heap.size + 1, 1, none⟩ = some (gotC w' ⟨w.heap.size + 1, 1, none⟩) ∧ w'.frozen? ⟨w.heap.size + 1, 0, none⟩ = false ∧ w'.frozen? ⟨w.heap.size + 1, 1, none⟩ = false ∧ Below w.heap.size w w')
        (first
          | (exact ⟨c0, c1, gotC_mk c2, gotC_mk c3, f0, f1, HB.out.drew⟩)
          | (go_split_ands; exact ⟨by assumption, by assumption, by assumption, by assumption, by assumption, by assumption, by assumption⟩)
          | (go_split_ands; exact ⟨kp1 (by assumption) hb, kp1 (by assumption) hb, gotC_mk (kp1 (by assumption) hb), gotC_mk (kp1 (by assumption) hb), kp_fr (by assumption) (by assumption) hb, kp_fr (by assumption) (by assumption) hb, bel_end (by assumption) hb⟩)
          | (go_split_ands; exact ⟨set2_old (by assumption), set2_old (by assumption), gotC_mk (set2_cells (by assumption) (by assumption)).1, gotC_mk (set2_cells (by assumption) (by assumption)).2, set2_fr (by assumption), set2_fr (by assumption), Below.setCell (Below.setCell (by assumption) (by simp) _) (by simp) _⟩))
        (first
          | (go_at_call 79; (try rw [E]); refine (lfl_any _ _ (by omega) (by omega) (by omega) (by omega) z _).mono ?_; rintro e wt ⟨rfl, rfl⟩)
          | (go_at_call 80; (try rw [E]); refine (lce_any _ _ (by omega) (by omega) (by omega) (by omega) z _).mono ?_; rintro e wt ⟨rfl, rfl⟩)
          | (go_at_call 78; refine (lre_is HU.out _).mono ?_; rintro e w5 ⟨rfl, hb⟩))
      have c2 := kp1 (show w1.drew.cell? ⟨w.heap.size + 1, 0, none⟩ = some (.int .i64 0) from c2) hb
      have c3 := kp1 (show w1.drew.cell? ⟨w.heap.size + 1, 1, none⟩ = some (.int .i64 0) from c3) hb
      have HB := Lib.hid (bel_end HB.out.drew hb)
      go_wp2
      exact bodyPost_ret (v := .tuple #[.agg #[.int .i64 U.1, .int .i64 U.2.1], .int .i64 U.2.2]) (by simp [results, Try.results51, go_sem, c2, c3]) rfl ⟨resT_eq HT.out, (by repeat (first | exact HB.out | (refine Below.setCell ?_ (by simp <;> omega) _) | (refine Below.alloc ?_ (by simp <;> omega) _) | (refine Below.drew ?_)))⟩

set_option maxRecDepth 100000 in
set_option maxHeartbeats 4000000 in
theorem irb_any (a b k : Int) (w : World) :
    Calls Try.prog 50 #[.agg #[.int .i64 a, .int .i64 b], .int .i64 k] w fun e w' => e = .returned (.tuple #[.agg #[.int .i64 (rbT a b k).1, .int .i64 (rbT a b k).2.1], .int .i64 (rbT a b k).2.2]) ∧ Below w.heap.size w w' := by
  cases ha : ratB a b
  · have HT : Hid (rbT a b k = (0, 0, 1)) := Lib.hid (by unfold rbT; rw [ha]; rfl)
    have HA := Lib.hid ha
    clear ha
    go_enter Try.func50, Try.ntmps50
    go_wp2_with fail
    obtain ⟨W, hW⟩ : ∃ W, W = ((w.alloc (.cells #[.int .i64 a, .int .i64 b] 42)).alloc (.cells #[.int .i64 0, .int .i64 0] 29)) := ⟨_, rfl⟩
    have c0 : W.cell? ⟨w.heap.size, 0, none⟩ = some (.int .i64 a) := by rw [hW]; simp [go_sem]
    have c1 : W.cell? ⟨w.heap.size, 1, none⟩ = some (.int .i64 b) := by rw [hW]; simp [go_sem]
    have c2 : W.cell? ⟨w.heap.size + 1, 0, none⟩ = some (.int .i64 0) := by rw [hW]; simp [go_sem]
    have c3 : W.cell? ⟨w.heap.size + 1, 1, none⟩ = some (.int .i64 0) := by rw [hW]; simp [go_sem]
    have f0 : W.frozen? ⟨w.heap.size + 1, 0, none⟩ = false := by rw [hW]; simp [go_sem]
    have f1 : W.frozen? ⟨w.heap.size + 1, 1, none⟩ = false := by rw [hW]; simp [go_sem]
    have HB : Hid (Below w.heap.size w W) := Lib.hid (by rw [hW]; exact (by repeat (first | exact Below.refl _ _ | (refine Below.alloc ?_ (by simp <;> omega) _) | (refine Below.setCell ?_ (by simp <;> omega) _) | (refine Below.drew ?_) | (refine bel_drewN ?_ _))))
    have hlt : w.heap.size ≤ W.heap.size := HB.out.size
    rw [← hW]
    clear hW
    refine (irt_is HA.out _).mono ?_
    rintro e w1 ⟨rfl, hb⟩
    replace f0 := kp_fr f0 c2 hb
    replace f1 := kp_fr f1 c3 hb
    replace c0 := kp1 c0 hb
    replace c1 := kp1 c1 hb
    replace c2 := kp1 c2 hb
    replace c3 := kp1 c3 hb
    replace HB := Lib.hid (bel_end HB.out hb)
    clear hb
    go_wp2
    exact bodyPost_ret (v := .tuple #[.agg #[.int .i64 0, .int .i64 0], .int .i64 1]) (by simp [results, Try.results50, go_sem, c2, c3]) rfl ⟨resT_of HT.out, (by repeat (first | exact HB.out | (refine Below.setCell ?_ (by simp <;> omega) _) | (refine Below.alloc ?_ (by simp <;> omega) _) | (refine Below.drew ?_)))⟩
  · cases hk : hasB 0 1000000 k
    · have HT : Hid (rbT a b k = (0, 0, 2)) := Lib.hid (by unfold rbT; rw [ha, hk]; rfl)
      have HA := Lib.hid ha
      have HK := Lib.hid hk
      clear ha hk
      go_enter Try.func50, Try.ntmps50
      go_wp2_with fail
      obtain ⟨W, hW⟩ : ∃ W, W = ((w.alloc (.cells #[.int .i64 a, .int .i64 b] 42)).alloc (.cells #[.int .i64 0, .int .i64 0] 29)) := ⟨_, rfl⟩
      have c0 : W.cell? ⟨w.heap.size, 0, none⟩ = some (.int .i64 a) := by rw [hW]; simp [go_sem]
      have c1 : W.cell? ⟨w.heap.size, 1, none⟩ = some (.int .i64 b) := by rw [hW]; simp [go_sem]
      have c2 : W.cell? ⟨w.heap.size + 1, 0, none⟩ = some (.int .i64 0) := by rw [hW]; simp [go_sem]
      have c3 : W.cell? ⟨w.heap.size + 1, 1, none⟩ = some (.int .i64 0) := by rw [hW]; simp [go_sem]
      have f0 : W.frozen? ⟨w.heap.size + 1, 0, none⟩ = false := by rw [hW]; simp [go_sem]
      have f1 : W.frozen? ⟨w.heap.size + 1, 1, none⟩ = false := by rw [hW]; simp [go_sem]
      have HB : Hid (Below w.heap.size w W) := Lib.hid (by rw [hW]; exact (by repeat (first | exact Below.refl _ _ | (refine Below.alloc ?_ (by simp <;> omega) _) | (refine Below.setCell ?_ (by simp <;> omega) _) | (refine Below.drew ?_) | (refine bel_drewN ?_ _))))
      have hlt : w.heap.size ≤ W.heap.size := HB.out.size
      rw [← hW]
      clear hW
      refine (irt_is HA.out _).mono ?_
      rintro e w1 ⟨rfl, hb⟩
      replace f0 := kp_fr f0 c2 hb
      replace f1 := kp_fr f1 c3 hb
      replace c0 := kp1 c0 hb
      replace c1 := kp1 c1 hb
      replace c2 := kp1 c2 hb
      replace c3 := kp1 c3 hb
      replace HB := Lib.hid (bel_end HB.out hb)
      clear hb
      have hsz : w.heap.size ≤ w1.heap.size := HB.out.size
      go_wp2_with fail
      refine (lacks_is HK.out _).mono ?_
      rintro e w2 ⟨rfl, hb⟩
      have al : Below w1.heap.size w1 (w1.alloc (.cells #[.int .i64 0, .int .i64 1000000] 29)) := (Below.refl _ _).alloc (Nat.le_refl _) _
      replace hb := bel_end al hb
      replace f0 := kp_fr f0 c2 hb
      replace f1 := kp_fr f1 c3 hb
      replace c0 := kp1 c0 hb
      replace c1 := kp1 c1 hb
      replace c2 := kp1 c2 hb
      replace c3 := kp1 c3 hb
      replace HB := Lib.hid (bel_end HB.out hb)
      clear hb
      go_wp2
      exact bodyPost_ret (v := .tuple #[.agg #[.int .i64 0, .int .i64 0], .int .i64 2]) (by simp [results, Try.results50, go_sem, c2, c3]) rfl ⟨resT_of HT.out, (by repeat (first | exact HB.out | (refine Below.setCell ?_ (by simp <;> omega) _) | (refine Below.alloc ?_ (by simp <;> omega) _) | (refine Below.drew ?_)))⟩
    · have HT : Hid (rbT a b k = within ((k * a).fdiv b) (cdiv (k * a) b)) := Lib.hid (by unfold rbT; rw [ha, hk]; rfl)
      obtain ⟨a1, a2, b1, b2, -⟩ := ratB_t ha
      obtain ⟨k1, k2⟩ := hasB_t hk
      have p0 := mul_abs (a := k) (n := a) (A := 1000000) (N := 1000000000) (by omega) (by omega)
      have l0 : -1000000000000000000 ≤ k * a := by omega
      have u0 : k * a ≤ 1000000000000000000 := by omega
      have z : ¬ b = 0 := by omega
      have HA := Lib.hid ha
      have HK := Lib.hid hk
      clear ha hk p0
      obtain ⟨U, hU⟩ : ∃ U, within ((k * a).fdiv b) (cdiv (k * a) b) = U := ⟨_, rfl⟩
      rw [hU] at HT
      have HU := Lib.hid hU
      clear hU
      go_enter Try.func50, Try.ntmps50
      go_wp2_with fail
      obtain ⟨W, hW⟩ : ∃ W, W = ((w.alloc (.cells #[.int .i64 a, .int .i64 b] 42)).alloc (.cells #[.int .i64 0, .int .i64 0] 29)) := ⟨_, rfl⟩
      have c0 : W.cell? ⟨w.heap.size, 0, none⟩ = some (.int .i64 a) := by rw [hW]; simp [go_sem]
      have c1 : W.cell? ⟨w.heap.size, 1, none⟩ = some (.int .i64 b) := by rw [hW]; simp [go_sem]
      have c2 : W.cell? ⟨w.heap.size + 1, 0, none⟩ = some (.int .i64 0) := by rw [hW]; simp [go_sem]
      have c3 : W.cell? ⟨w.heap.size + 1, 1, none⟩ = some (.int .i64 0) := by rw [hW]; simp [go_sem]
      have f0 : W.frozen? ⟨w.heap.size + 1, 0, none⟩ = false := by rw [hW]; simp [go_sem]
      have f1 : W.frozen? ⟨w.heap.size + 1, 1, none⟩ = false := by rw [hW]; simp [go_sem]
      have HB : Hid (Below w.heap.size w W) := Lib.hid (by rw [hW]; exact (by repeat (first | exact Below.refl _ _ | (refine Below.alloc ?_ (by simp <;> omega) _) | (refine Below.setCell ?_ (by simp <;> omega) _) | (refine Below.drew ?_) | (refine bel_drewN ?_ _))))
      have hlt : w.heap.size ≤ W.heap.size := HB.out.size
      rw [← hW]
      clear hW
      refine (irt_is HA.out _).mono ?_
      rintro e w1 ⟨rfl, hb⟩
      replace f0 := kp_fr f0 c2 hb
      replace f1 := kp_fr f1 c3 hb
      replace c0 := kp1 c0 hb
      replace c1 := kp1 c1 hb
      replace c2 := kp1 c2 hb
      replace c3 := kp1 c3 hb
      replace HB := Lib.hid (bel_end HB.out hb)
      clear hb
      have hsz : w.heap.size ≤ w1.heap.size := HB.out.size
      go_wp2_with fail
      refine (lacks_is HK.out _).mono ?_
      rintro e w2 ⟨rfl, hb⟩
      have al : Below w1.heap.size w1 (w1.alloc (.cells #[.int .i64 0, .int .i64 1000000] 29)) := (Below.refl _ _).alloc (Nat.le_refl _) _
      replace hb := bel_end al hb
      replace f0 := kp_fr f0 c2 hb
      replace f1 := kp_fr f1 c3 hb
      replace c0 := kp1 c0 hb
      replace c1 := kp1 c1 hb
      replace c2 := kp1 c2 hb
      replace c3 := kp1 c3 hb
      replace HB := Lib.hid (bel_end HB.out hb)
      clear hb
      go_upto_region 7 with fail
      go_cut [8] (fun s wx => CutR w2 wx s ((k * a).fdiv b) (cdiv (k * a) b))
      case first =>
       go_region_held3 (fun w' => w'.cell? ⟨w.heap.size, 0, none⟩ = some (.int .i64 a) ∧ w'.cell? ⟨w.heap.size, 1, none⟩ = some (.int .i64 b) ∧ Below w2.heap.size w2 w')
        (first
          | (exact keep2x c0 c1 (Below.refl _ w2).drew)
          | (exact keep2x c0 c1 ((Below.refl _ w2).alloc (Nat.le_refl _) _).drew)
          | (go_split_ands; exact ⟨by assumption, by assumption, by assumption⟩)
          | (go_split_ands; exact keep2x c0 c1 (bel_al (by assumption) (Nat.le_refl _)))
          | (go_split_ands; refine keep2x c0 c1 (Below.setCell (by assumption) ?_ _); (dsimp only; omega))
          | (go_split_ands; refine keep2x c0 c1 (Below.setCell (Below.setCell (by assumption) ?_ _) ?_ _) <;> (dsimp only; omega)))
        (first
          | (go_at_call 75; refine (fq_any _ _ (by omega) (by omega) (by omega) (by omega) z _).mono ?_; rintro e wt ⟨rfl, rfl⟩)
          | (go_at_call 76; refine (cq_any _ _ (by omega) (by omega) (by omega) (by omega) z _).mono ?_; rintro e wt ⟨rfl, rfl⟩))
       all_goals (go_wp2_with fail; go_meet; go_split_ands)
       all_goals (refine ⟨_, rfl, ?_, ?_, ?_, by assumption⟩)
       all_goals first | (go_simp; done) | (refine (set2_cells (x := .int .i64 0) (y := .int .i64 0) ?_ ?_).1 <;> (go_simp; done)) | (refine (set2_cells (x := .int .i64 0) (y := .int .i64 0) ?_ ?_).2 <;> (go_simp; done)) | omega
      case rest =>
       obtain ⟨g, rfl, x0, x1, hg, hb⟩ := hcut
       replace f0 := kp_fr f0 c2 hb
       replace f1 := kp_fr f1 c3 hb
       replace c2 := kp1 c2 hb
       replace c3 := kp1 c3 hb
       replace HB := Lib.hid (bel_end HB.out hb)
       clear hb c0 c1 hg
       go_wp2_with fail
       refine (wvs_is HU.out _).mono ?_
       rintro e w5 ⟨rfl, hb⟩
       replace f0 := kp_fr f0 c2 hb
       replace f1 := kp_fr f1 c3 hb
       replace c2 := kp1 c2 hb
       replace c3 := kp1 c3 hb
       replace HB := Lib.hid (bel_end HB.out hb)
       clear hb x0 x1
       go_wp2
       exact bodyPost_ret (v := .tuple #[.agg #[.int .i64 U.1, .int .i64 U.2.1], .int .i64 U.2.2]) (by simp [results, Try.results50, go_sem, c2, c3]) rfl ⟨resT_eq HT.out, (by repeat (first | exact HB.out | (refine Below.setCell ?_ (by simp <;> omega) _) | (refine Below.alloc ?_ (by simp <;> omega) _) | (refine Below.drew ?_)))⟩
end Go.Proofs.Ytkbgbhbnkffneaa
