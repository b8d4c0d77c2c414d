import Derived.Test.YtgecbfbmmbfnmaaGreatPrs
import Derived.Test.YtgecbfbmmbfnmaaGreatBas
import Derived.StillTailTactics
import Derived.Deep.QuietTactic
import Derived.BigQuiet
import Derived.Deep.RegionHeld3
import Derived.Deep.DrawnRows
namespace Go.Proofs.YtgecbfbmmbfnmaaGreat
section
/- Contracts of 'corners' at the three functions that it is called with. -/
open Go.ChangeShapes Go.WideShapes Go.ChangeAt Go.RowKit Num
set_option linter.unusedVariables false
attribute [local go_sem ↓] Go.wp_at_zero Go.wp_at_succ
/-- a new slice of four numbers -/
def New4 (w : World) (p q r s : Int) (e : Ending) (w' : World) : Prop :=
  ∃ g, e = .returned (.slice (some ⟨g, 0, none⟩) 4 4) ∧ Ints .i64 w' w'.heap.size (some ⟨g, 0, none⟩) [p, q, r, s] ∧ Below w.heap.size w w'
theorem ints4 {W : World} {t : TypeId} {p q r s : Int} : Ints .i64 ((W.alloc (.cells #[.int .i64 p, .int .i64 q, .int .i64 r, .int .i64 s] t)).drew) ((W.alloc (.cells #[.int .i64 p, .int .i64 q, .int .i64 r, .int .i64 s] t)).drew).heap.size (some ⟨W.heap.size, 0, none⟩) [p, q, r, s] :=
  fun _ => ⟨W.heap.size, 0, rfl, by simp, fun j hj => by
    have hj4 : j < 4 := hj
    match j, hj4 with
    | 0, _ => simp [go_sem]
    | 1, _ => simp [go_sem]
    | 2, _ => simp [go_sem]
    | 3, _ => simp [go_sem]⟩

set_option maxHeartbeats 2000000 in
theorem cof_any (a b c d : Int) (ha1 : -9000000000000000000 ≤ a) (ha2 : a ≤ 9000000000000000000) (hb1 : -9000000000000000000 ≤ b) (hb2 : b ≤ 9000000000000000000) (hc1 : -9000000000000000000 ≤ c) (hc2 : c ≤ 9000000000000000000) (hd1 : -9000000000000000000 ≤ d) (hd2 : d ≤ 9000000000000000000) (hc0 : ¬ c = 0) (hd0 : ¬ d = 0) (w : World) :
    Calls Tryz.prog 118 #[.agg #[.int .i64 a, .int .i64 b], .agg #[.int .i64 c, .int .i64 d], .func (.func 119) #[] #[]] w (New4 w (a.fdiv c) (a.fdiv d) (b.fdiv c) (b.fdiv d)) := by
  go_enter Tryz.func118, Tryz.ntmps118
  go_wp2_with fail
  obtain ⟨W, hW⟩ : ∃ W, W = (w.alloc (.cells #[.int .i64 a, .int .i64 b] 34)).alloc (.cells #[.int .i64 c, .int .i64 d] 34) := ⟨_, rfl⟩
  have c0 : W.cell? ⟨w.heap.size, 0, none⟩ = some (.int .i64 a) := by rw [hW]; simp [go_sem]
  have c1 : W.cell? ⟨w.heap.size, 1, none⟩ = some (.int .i64 b) := by rw [hW]; simp [go_sem]
  have c2 : W.cell? ⟨w.heap.size + 1, 0, none⟩ = some (.int .i64 c) := by rw [hW]; simp [go_sem]
  have c3 : W.cell? ⟨w.heap.size + 1, 1, none⟩ = some (.int .i64 d) := by rw [hW]; simp [go_sem]
  have HB : Hid (Below w.heap.size w W) := Lib.hid (by rw [hW]; exact (by repeat (first | exact Below.refl _ _ | (refine Below.alloc ?_ (by simp <;> omega) _) | (refine Below.setCell ?_ (by simp <;> omega) _) | (refine Below.drew ?_) | (refine bel_drewN ?_ _))))
  rw [← hW]
  clear hW
  go_region_held3 (fun w' => w'.cell? ⟨w.heap.size, 0, none⟩ = some (.int .i64 a) ∧ w'.cell? ⟨w.heap.size, 1, none⟩ = some (.int .i64 b) ∧
       w'.cell? ⟨w.heap.size + 1, 0, none⟩ = some (.int .i64 c) ∧ w'.cell? ⟨w.heap.size + 1, 1, none⟩ = some (.int .i64 d))
      (go_keep)
      (first | (go_at_call 119; refine (fq_any _ _ (by assumption) (by assumption) (by assumption) (by assumption) (by assumption) _).mono ?_; rintro e w1 ⟨rfl, rfl⟩))
  go_wp2
  go_ret
  exact ⟨W.heap.size, rfl, ints4, (HB.out.alloc HB.out.size _).drew⟩

set_option maxHeartbeats 2000000 in
theorem coc_any (a b c d : Int) (ha1 : -9000000000000000000 ≤ a) (ha2 : a ≤ 9000000000000000000) (hb1 : -9000000000000000000 ≤ b) (hb2 : b ≤ 9000000000000000000) (hc1 : -9000000000000000000 ≤ c) (hc2 : c ≤ 9000000000000000000) (hd1 : -9000000000000000000 ≤ d) (hd2 : d ≤ 9000000000000000000) (hc0 : ¬ c = 0) (hd0 : ¬ d = 0) (w : World) :
    Calls Tryz.prog 118 #[.agg #[.int .i64 a, .int .i64 b], .agg #[.int .i64 c, .int .i64 d], .func (.func 121) #[] #[]] w (New4 w (cdiv a c) (cdiv a d) (cdiv b c) (cdiv b d)) := by
  go_enter Tryz.func118, Tryz.ntmps118
  go_wp2_with fail
  obtain ⟨W, hW⟩ : ∃ W, W = (w.alloc (.cells #[.int .i64 a, .int .i64 b] 34)).alloc (.cells #[.int .i64 c, .int .i64 d] 34) := ⟨_, rfl⟩
  have c0 : W.cell? ⟨w.heap.size, 0, none⟩ = some (.int .i64 a) := by rw [hW]; simp [go_sem]
  have c1 : W.cell? ⟨w.heap.size, 1, none⟩ = some (.int .i64 b) := by rw [hW]; simp [go_sem]
  have c2 : W.cell? ⟨w.heap.size + 1, 0, none⟩ = some (.int .i64 c) := by rw [hW]; simp [go_sem]
  have c3 : W.cell? ⟨w.heap.size + 1, 1, none⟩ = some (.int .i64 d) := by rw [hW]; simp [go_sem]
  have HB : Hid (Below w.heap.size w W) := Lib.hid (by rw [hW]; exact (by repeat (first | exact Below.refl _ _ | (refine Below.alloc ?_ (by simp <;> omega) _) | (refine Below.setCell ?_ (by simp <;> omega) _) | (refine Below.drew ?_) | (refine bel_drewN ?_ _))))
  rw [← hW]
  clear hW
  go_region_held3 (fun w' => w'.cell? ⟨w.heap.size, 0, none⟩ = some (.int .i64 a) ∧ w'.cell? ⟨w.heap.size, 1, none⟩ = some (.int .i64 b) ∧
       w'.cell? ⟨w.heap.size + 1, 0, none⟩ = some (.int .i64 c) ∧ w'.cell? ⟨w.heap.size + 1, 1, none⟩ = some (.int .i64 d))
      (go_keep)
      (first | (go_at_call 121; refine (cq_any _ _ (by assumption) (by assumption) (by assumption) (by assumption) (by assumption) _).mono ?_; rintro e w1 ⟨rfl, rfl⟩))
  go_wp2
  go_ret
  exact ⟨W.heap.size, rfl, ints4, (HB.out.alloc HB.out.size _).drew⟩
end
section
/- Contracts of ProductInterval, the program's and the model's. -/
open Go.ChangeShapes Go.WideShapes Go.ChangeAt Go.RowKit Num
set_option linter.unusedVariables false
def mn4 (p q r s : Int) : Int := mnTo [p, q, r, s] 3
def mx4 (p q r s : Int) : Int := mxTo [p, q, r, s] 3
section
variable {P : Program} {w : World}
theorem run_min_four (ts : Array TypeId) (t : TypeId) (x y z u : Int) : (Builtin.min_ ts t #[.int .i64 x, .int .i64 y, .int .i64 z, .int .i64 u]).run P w = .ok (.int .i64 (mn4 x y z u)) w := by
  simp [Builtin.min_, Builtin.min2, mn4, mnTo]
theorem run_max_four (ts : Array TypeId) (t : TypeId) (x y z u : Int) : (Builtin.max_ ts t #[.int .i64 x, .int .i64 y, .int .i64 z, .int .i64 u]).run P w = .ok (.int .i64 (mx4 x y z u)) w := by
  simp [Builtin.max_, Builtin.max2, mx4, mxTo]
end
attribute [local go_sem] run_min_four run_max_four
theorem min4_any (w : World) (B g : Nat) (p q r s : Int) (hz : Ints .i64 w B (some ⟨g, 0, none⟩) [p, q, r, s]) :
    Calls Tryz.prog 117 #[.slice (some ⟨g, 0, none⟩) 4 4] w fun e w' => e = .returned (.int .i64 (mn4 p q r s)) ∧ w = w' := mini_any w B _ 4 [p, q, r, s] (by simp) (by simp) hz
theorem max4_any (w : World) (B g : Nat) (p q r s : Int) (hz : Ints .i64 w B (some ⟨g, 0, none⟩) [p, q, r, s]) :
    Calls Tryz.prog 120 #[.slice (some ⟨g, 0, none⟩) 4 4] w fun e w' => e = .returned (.int .i64 (mx4 p q r s)) ∧ w = w' := maxi_any w B _ 4 [p, q, r, s] (by simp) (by simp) hz
end
section
/- Contracts of QuotientInterval, the program's and the model's. -/
open Go.ChangeShapes Go.WideShapes Go.ChangeAt Go.RowKit Num
set_option linter.unusedVariables false
attribute [local go_sem] run_min_four run_max_four
section
variable {P : Program} {f : FuncId} {args : Array Value} {w : World} {v : Value}
end
set_option maxHeartbeats 4000000 in
theorem dvb_any (a b c d : Int) (a1 : -9000000000000000000 ≤ a) (a2 : a ≤ 9000000000000000000) (b1 : -9000000000000000000 ≤ b) (b2 : b ≤ 9000000000000000000) (c1 : -9000000000000000000 ≤ c) (c2 : c ≤ 9000000000000000000) (d1 : -9000000000000000000 ≤ d) (d2 : d ≤ 9000000000000000000) (c0 : ¬ c = 0) (d0 : ¬ d = 0) (w : World) :
    Calls Tryz.prog 115 #[.agg #[.int .i64 a, .int .i64 b], .agg #[.int .i64 c, .int .i64 d]] w fun e w' => e = .returned (.agg #[.int .i64 (mn4 (a.fdiv c) (a.fdiv d) (b.fdiv c) (b.fdiv d)), .int .i64 (mx4 (cdiv a c) (cdiv a d) (cdiv b c) (cdiv b d))]) ∧ Below w.heap.size w w' := by
  go_enter Tryz.func115, Tryz.ntmps115
  go_wp2_with fail
  refine (cof_any _ _ _ _ (by omega) (by omega) (by omega) (by omega) (by omega) (by omega) (by omega) (by omega) c0 d0 _).mono ?_
  rintro e w1 ⟨g, rfl, hz4, hb⟩
  have HZ := Lib.hid hz4
  have HB := Lib.hid hb
  clear hb hz4
  obtain ⟨hc, hf, hz⟩ := bel_rules HB.out
  go_wp2_with (go_at_call 117; refine (min4_any _ _ _ _ _ _ _ HZ.out).mono ?_; rintro e w' ⟨rfl, rfl⟩)
  refine (coc_any _ _ _ _ (by omega) (by omega) (by omega) (by omega) (by omega) (by omega) (by omega) (by omega) c0 d0 _).mono ?_
  rintro e w2 ⟨g2, rfl, hz4, hb⟩
  have HZ2 := Lib.hid hz4
  have HB2 := Lib.hid (HB.out.trans (hb.mono HB.out.size))
  clear hb hc hf hz hz4
  obtain ⟨hc, hf, hz⟩ := bel_rules HB2.out
  go_wp2_with (go_at_call 120; refine (max4_any _ _ _ _ _ _ _ HZ2.out).mono ?_; rintro e w' ⟨rfl, rfl⟩)
  exact bodyPost_ret (v := .agg #[.int .i64 (mn4 (a.fdiv c) (a.fdiv d) (b.fdiv c) (b.fdiv d)), .int .i64 (mx4 (cdiv a c) (cdiv a d) (cdiv b c) (cdiv b d))]) (by simp [results, Tryz.results115, go_sem, hc]) rfl ⟨rfl, (bel_end (by repeat (first | exact Below.refl _ _ | (refine Below.alloc ?_ (by simp <;> omega) _) | (refine Below.setCell ?_ (by simp <;> omega) _) | (refine Below.drew ?_) | (refine bel_drewN ?_ _))) HB2.out).setCell (by simp <;> omega) _ |>.setCell (by simp <;> omega) _⟩
end
end Go.Proofs.YtgecbfbmmbfnmaaGreat
