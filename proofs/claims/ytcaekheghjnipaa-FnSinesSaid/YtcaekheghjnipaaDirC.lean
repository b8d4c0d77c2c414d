/- Contracts of CompareDirections, the program's and the model's, and of their helpers. -/
import Derived.Test.YtcaekheghjnipaaDirM
import Derived.Test.YtcaekheghjnipaaDirMap
import Derived.Deep.RegionHeld3
namespace Go.Proofs.Ytcaekheghjnipaa
open Go.ChangeShapes Go.WideShapes Go.ChangeAt Go.RowKit Num
set_option linter.unusedVariables false
/-- the set of two directions, in a block of a world -/
def Set2 (w w' : World) (c s h : Int) (m : Nat) : Prop := ∃ k j n, w'.heap[m]? = some (.map #[en3 c s h k, en3 c (-s) h j] n) ∨ w'.heap[m]? = some (.map #[en3 c (-s) h k, en3 c s h j] n)

theorem ins1e (w : World) (r : Nat) (a b c : Int) (hb : w.heap[r]? = some (.map #[] 0)) :
    (Instr.mapUpdate 83 (.map (some r)) (.agg #[.int .i64 a, .int .i64 b, .int .i64 c]) (.bool true)).run Try.prog w = .ok () (setM w r (.map #[en3 a b c 0] 1)) := ins1 w r 0 a b c (.bool true) hb
theorem setM_at {w : World} {r : Nat} {o : Obj} (h : r < w.heap.size) : (setM w r o).heap[r]? = some o := by simp [setM, h]
theorem al2_at {w : World} {r : Nat} {x : Obj} (o o' : Obj) (h : w.heap[r]? = some x) : ((w.alloc o).alloc o').heap[r]? = some x := by
  have hlt := (Array.getElem?_eq_some_iff.1 h).1
  rw [Below.heap_alloc (w.alloc o) o' r (by simp; omega), Below.heap_alloc w o r hlt]; exact h
theorem setM_cell (v : World) (r m : Nat) (o : Obj) (k : Nat) (h : ¬ r = m) : (setM v r o).cell? ⟨m, k, none⟩ = v.cell? ⟨m, k, none⟩ :=
  World.cell?_of_block (w := v) (w' := setM v r o) (a := ⟨m, k, none⟩) (by
    show (v.heap.setIfInBounds r o)[m]? = _
    rw [Array.getElem?_setIfInBounds_ne h])
theorem setM_size (w : World) (r : Nat) (o : Obj) : (setM w r o).heap.size = w.heap.size := by simp [setM]
theorem setM_bel {W w : World} {B r : Nat} {o : Obj} (h : Below B W w) (hr : B ≤ r) : Below B W (setM w r o) := ⟨h.os, h.tape, h.output, by rw [setM_size]; exact h.size, fun k hk => by
  show (w.heap.setIfInBounds r o)[k]? = _
  rw [Array.getElem?_setIfInBounds_ne (by omega)]
  exact h.block k hk⟩
theorem at3 {W w2 : World} {m : Nat} {v0 v1 v2 : Value} {t : TypeId} (h : Bk W m #[v0, v1, v2] t) (hb : Below W.heap.size W w2) :
    w2.cell? ⟨m, 0, none⟩ = some v0 ∧ w2.cell? ⟨m, 1, none⟩ = some v1 ∧ w2.cell? ⟨m, 2, none⟩ = some v2 ∧ Below W.heap.size W w2 := ⟨(h.on hb).cell 0 rfl, (h.on hb).cell 1 rfl, (h.on hb).cell 2 rfl, hb⟩
set_option maxRecDepth 100000 in
set_option maxHeartbeats 1000000 in
theorem flt_any (c s h : Int) (o : DirOk c s h) (w : World) :
    Calls Try.prog 61 #[.agg #[.int .i64 c, .int .i64 s, .int .i64 h]] w fun e w' => ∃ m, e = .returned (.map (some m)) ∧ Set2 w w' c s h m ∧ Below w.heap.size w w' := by
  have o1 := o.s1
  have o2 := o.s2
  have o3 := o.h2
  have o4 := o.s0
  have ne1 : (c == c && (s == -s && h == h)) = false := by simp; omega
  have ne2 : (c == c && (-s == s && h == h)) = false := by simp; omega
  have M : Hid (∀ w : World, Calls Try.prog 59 #[.agg #[.int .i64 c, .int .i64 s, .int .i64 h]] w fun e w' => e = .returned (.agg #[.int .i64 c, .int .i64 (-s), .int .i64 h]) ∧ w' = (w.alloc (.cells #[.int .i64 c, .int .i64 (-s), .int .i64 h] 25)).alloc (.cells #[.int .i64 c, .int .i64 (-s), .int .i64 h] 25)) := Lib.hid (fun w => mir_any c s h (by omega) (by omega) w)
  have hmm := @run_makeMap Try.prog
  clear o1 o2 o3 o4 o
  go_enter Try.func61, Try.ntmps61
  go_wp2_with fail
  generalize hW : World.alloc _ _ = W
  have bX : Bk W w.heap.size #[.int .i64 c, .int .i64 s, .int .i64 h] 25 := by rw [← hW]; repeat (first | exact Bk.new' (by simp) | refine Bk.alloc ?_ _)
  have HB : Hid (Below w.heap.size w W) := Lib.hid (by rw [← hW]; exact (by repeat (first | exact Below.refl _ _ | (refine Below.alloc ?_ (by simp <;> omega) _) | (refine Below.setCell ?_ (by simp <;> omega) _) | (refine Below.drew ?_) | (refine bel_drewN ?_ _))))
  clear hW
  have x0 : W.cell? ⟨w.heap.size, 0, none⟩ = some (.int .i64 c) := bX.cell 0 rfl
  have x1 : W.cell? ⟨w.heap.size, 1, none⟩ = some (.int .i64 s) := bX.cell 1 rfl
  have x2 : W.cell? ⟨w.heap.size, 2, none⟩ = some (.int .i64 h) := bX.cell 2 rfl
  have xl := bX.lt
  have q1 := ins1e (W.alloc (.map #[] 0)).drew W.heap.size c s h (heap_alloc_new W _)
  have q2 := ins2 (((setM (W.alloc (.map #[] 0)).drew W.heap.size (.map #[en3 c s h 0] 1)).alloc (.cells #[.int .i64 c, .int .i64 (-s), .int .i64 h] 25)).alloc (.cells #[.int .i64 c, .int .i64 (-s), .int .i64 h] 25)) W.heap.size 0 1 c (-s) h c s h (al2_at _ _ (setM_at (by simp))) ne2
  have q3 := ins1e (((W.alloc (.map #[] 0)).alloc (.cells #[.int .i64 c, .int .i64 (-s), .int .i64 h] 25)).alloc (.cells #[.int .i64 c, .int .i64 (-s), .int .i64 h] 25)).drew W.heap.size c s h (al2_at _ _ (heap_alloc_new W _))
  have q4 := ins2 (setM (((W.alloc (.map #[] 0)).alloc (.cells #[.int .i64 c, .int .i64 (-s), .int .i64 h] 25)).alloc (.cells #[.int .i64 c, .int .i64 (-s), .int .i64 h] 25)).drew W.heap.size (.map #[en3 c s h 0] 1)) W.heap.size 0 1 c (-s) h c s h (setM_at (by simp; omega)) ne2
  have q5 := ins1e (((W.alloc (.cells #[.int .i64 c, .int .i64 (-s), .int .i64 h] 25)).alloc (.cells #[.int .i64 c, .int .i64 (-s), .int .i64 h] 25)).alloc (.map #[] 0)).drew (W.heap.size + 1 + 1) c s h (by rw [show W.heap.size + 1 + 1 = ((W.alloc (.cells #[.int .i64 c, .int .i64 (-s), .int .i64 h] 25)).alloc (.cells #[.int .i64 c, .int .i64 (-s), .int .i64 h] 25)).heap.size by simp]; exact heap_alloc_new _ _)
  have q6 := ins2 (setM (((W.alloc (.cells #[.int .i64 c, .int .i64 (-s), .int .i64 h] 25)).alloc (.cells #[.int .i64 c, .int .i64 (-s), .int .i64 h] 25)).alloc (.map #[] 0)).drew (W.heap.size + 1 + 1) (.map #[en3 c s h 0] 1)) (W.heap.size + 1 + 1) 0 1 c (-s) h c s h (setM_at (by simp)) ne2
  have q7 := ins1e (((W.alloc (.map #[] 0)).alloc (.cells #[.int .i64 c, .int .i64 (-s), .int .i64 h] 25)).alloc (.cells #[.int .i64 c, .int .i64 (-s), .int .i64 h] 25)).drew W.heap.size c (-s) h (al2_at _ _ (heap_alloc_new W _))
  have q8 := ins2 (setM (((W.alloc (.map #[] 0)).alloc (.cells #[.int .i64 c, .int .i64 (-s), .int .i64 h] 25)).alloc (.cells #[.int .i64 c, .int .i64 (-s), .int .i64 h] 25)).drew W.heap.size (.map #[en3 c (-s) h 0] 1)) W.heap.size 0 1 c s h c (-s) h (setM_at (by simp; omega)) ne1
  have q9 := ins1e (((W.alloc (.cells #[.int .i64 c, .int .i64 (-s), .int .i64 h] 25)).alloc (.cells #[.int .i64 c, .int .i64 (-s), .int .i64 h] 25)).alloc (.map #[] 0)).drew (W.heap.size + 1 + 1) c (-s) h (by rw [show W.heap.size + 1 + 1 = ((W.alloc (.cells #[.int .i64 c, .int .i64 (-s), .int .i64 h] 25)).alloc (.cells #[.int .i64 c, .int .i64 (-s), .int .i64 h] 25)).heap.size by simp]; exact heap_alloc_new _ _)
  have q10 := ins2 (setM (((W.alloc (.cells #[.int .i64 c, .int .i64 (-s), .int .i64 h] 25)).alloc (.cells #[.int .i64 c, .int .i64 (-s), .int .i64 h] 25)).alloc (.map #[] 0)).drew (W.heap.size + 1 + 1) (.map #[en3 c (-s) h 0] 1)) (W.heap.size + 1 + 1) 0 1 c s h c (-s) h (setM_at (by simp)) ne1
  go_region_held3 (fun w' => w'.cell? ⟨w.heap.size, 0, none⟩ = some (.int .i64 c) ∧ w'.cell? ⟨w.heap.size, 1, none⟩ = some (.int .i64 s) ∧ w'.cell? ⟨w.heap.size, 2, none⟩ = some (.int .i64 h) ∧ Below W.heap.size W w')
    (first
      | ((refine at3 bX ?_); (repeat (first | (with_reducible exact Below.refl W.heap.size W) | (refine Below.drew ?_) | (refine Below.alloc ?_ (by first | (simp; done) | (simp [setM_size]; done) | (simp [setM_size]; omega)) _) | (refine setM_bel ?_ (by first | (with_reducible exact Nat.le_refl _) | omega | (simp; done) | (simp; omega)))))))
    (first | (go_at_call 59; (with_reducible refine Calls.mono (M.out _) ?_); rintro e w1 ⟨rfl, rfl⟩))
  all_goals
    go_wp2
    go_ret
    refine ⟨_, rfl, ⟨0, 1, 2, ?_⟩, bel_end HB.out ?_⟩
    · first | exact .inl (setM_at (by first | (simp [setM_size]; done) | (simp [setM_size]; omega))) | exact .inr (setM_at (by first | (simp [setM_size]; done) | (simp [setM_size]; omega)))
    · (repeat (first | (with_reducible exact Below.refl W.heap.size W) | (refine Below.drew ?_) | (refine Below.alloc ?_ (by first | (simp; done) | (simp [setM_size]; done) | (simp [setM_size]; omega)) _) | (refine setM_bel ?_ (by first | (with_reducible exact Nat.le_refl _) | omega | (simp; done) | (simp; omega)))))

theorem lco_any (c s h x y z : Int) (o : DirOk c s h) (p : DirOk x y z) (w : World) :
    Calls Try.prog 60 #[.agg #[.int .i64 c, .int .i64 s, .int .i64 h], .agg #[.int .i64 x, .int .i64 y, .int .i64 z]] w fun e w' => e = .returned (.int .i64 (sgn (c * z) (x * h))) ∧ Below w.heap.size w w' := by
  have o1 := o.c1
  have o2 := o.c2
  have o3 := o.h2
  have p1 := p.c1
  have p2 := p.c2
  have p3 := p.h2
  have e1 : IntKind.wrap .i64 (c * z) = c * z := wr_mul (A := 1000) (B := 1000) (by omega) (by omega) (by omega) (by omega) (by omega) (by omega)
  have e2 : IntKind.wrap .i64 (x * h) = x * h := wr_mul (A := 1000) (B := 1000) (by omega) (by omega) (by omega) (by omega) (by omega) (by omega)
  obtain ⟨u, hu⟩ : ∃ u, c * z = u := ⟨_, rfl⟩
  obtain ⟨v, hv⟩ : ∃ u, x * h = u := ⟨_, rfl⟩
  rw [hu] at e1 ⊢
  rw [hv] at e2 ⊢
  have E1 : IntKind.wrap .i64 (c * z) = u := by rw [hu]; exact e1
  have E2 : IntKind.wrap .i64 (x * h) = v := by rw [hv]; exact e2
  have HU := Lib.hid (And.intro hu hv)
  clear hu hv o p o1 o2 o3 p1 p2 p3 e1 e2
  go_enter Try.func60, Try.ntmps60
  go_wp2_with fail
  go_quiet (fail)
  by_cases h1 : u < v
  · have h2 : ¬ v < u := by omega
    go_wp2
    go_ret
    exact ⟨ret_int (by unfold sgn; rw [if_pos h1]), (by repeat (first | exact Below.refl _ _ | (refine Below.alloc ?_ (by simp <;> omega) _) | (refine Below.setCell ?_ (by simp <;> omega) _) | (refine Below.drew ?_) | (refine bel_drewN ?_ _)))⟩
  · by_cases h2 : v < u
    · go_wp2
      go_ret
      exact ⟨ret_int (by unfold sgn; rw [if_neg (by omega), if_pos (by omega)]), (by repeat (first | exact Below.refl _ _ | (refine Below.alloc ?_ (by simp <;> omega) _) | (refine Below.setCell ?_ (by simp <;> omega) _) | (refine Below.drew ?_) | (refine bel_drewN ?_ _)))⟩
    · go_wp2
      go_ret
      exact ⟨ret_int (by unfold sgn; rw [if_neg (by omega), if_neg (by omega)]), (by repeat (first | exact Below.refl _ _ | (refine Below.alloc ?_ (by simp <;> omega) _) | (refine Below.setCell ?_ (by simp <;> omega) _) | (refine Below.drew ?_) | (refine bel_drewN ?_ _)))⟩
end Go.Proofs.Ytcaekheghjnipaa
