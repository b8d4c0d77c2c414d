/- Results of four numbers. Contracts of MakeDirection and MirrorDirection, the program's and the model's. Runs on the set of directions: a map of two entries, keyed by structs of three integers. Contracts of CompareDirections, the program's and the model's, and of their helpers. Contracts of CompareDirections, the program's and the model's. -/
import Derived.Test.YtaaklnabomhleaaDir
import Derived.Test.YtaaklnabomhleaaDirI
import Derived.Test.YtaaklnabomhleaaDirS
import Derived.Deep.RegionHeld3
namespace Go.Proofs.Ytaaklnabomhleaa
open Go.ChangeShapes Go.WideShapes Go.ChangeAt Go.RowKit Num
set_option linter.unusedVariables false
/-- a result of four numbers, of which three are a struct -/
theorem res4 {t : Int × Int × Int × Int} {a b c d : Int} (h : t = (a, b, c, d)) : Ending.returned (.tuple #[.agg #[.int .i64 a, .int .i64 b, .int .i64 c], .int .i64 d]) = .returned (.tuple #[.agg #[.int .i64 t.1, .int .i64 t.2.1, .int .i64 t.2.2.1], .int .i64 t.2.2.2]) := by subst h; rfl
/-- the mirrored direction, and the code -/
def miT (c s h : Int) : Int × Int × Int × Int := if dirB c s h then (c, -s, h, 0) else (0, 0, 0, 1)
end Go.Proofs.Ytaaklnabomhleaa
namespace Go.Proofs.Ytaaklnabomhleaa
open Go.ChangeShapes Go.WideShapes Go.ChangeAt Go.RowKit Num
set_option linter.unusedVariables false

end Go.Proofs.Ytaaklnabomhleaa
namespace Go.Proofs.Ytaaklnabomhleaa
open Go.ChangeShapes Go.WideShapes Go.ChangeAt Go.RowKit Num
set_option linter.unusedVariables false
theorem eq3 (w : World) (a b c x y z : Int) : (Op.equal 32 (.agg #[.int .i64 a, .int .i64 b, .int .i64 c]) (.agg #[.int .i64 x, .int .i64 y, .int .i64 z])).run Try.prog w = .ok (a == x && (b == y && c == z)) w := by
  show (Op.equalIn 10000 32 (.agg #[.int .i64 a, .int .i64 b, .int .i64 c]) (.agg #[.int .i64 x, .int .i64 y, .int .i64 z])).run Try.prog w = _
  cases h1 : (a == x) <;> cases h2 : (b == y) <;> cases h3 : (c == z) <;> simp [go_sem, h1, h2, h3]
theorem ckk1 (w : World) (e : Bool) (a : Int) : (Instr.checkKey e 9999 2 (.int .i64 a)).run Try.prog w = .ok () w := MapKept.run_checkKey (n := 9998) Try.underlying2 (by simp [MapKept.IsKey]) e
theorem ck3 (w : World) (e : Bool) (a b c : Int) : (Instr.checkKey e 10000 32 (.agg #[.int .i64 a, .int .i64 b, .int .i64 c])).run Try.prog w = .ok () w := by
  rw [show (10000 : Nat) = 9998 + 1 + 1 from rfl]
  unfold Instr.checkKey
  simp [go_sem, ckk1]
/-- a map's block is written -/
def setM (w : World) (r : Nat) (o : Obj) : World := { w with heap := w.heap.setIfInBounds r o }
theorem ins1 (w : World) (r clock : Nat) (a b c : Int) (v : Value) (hb : w.heap[r]? = some (.map #[] clock)) :
    (Instr.mapUpdate 112 (.map (some r)) (.agg #[.int .i64 a, .int .i64 b, .int .i64 c]) v).run Try.prog w = .ok () (setM w r (.map #[{ key := .agg #[.int .i64 a, .int .i64 b, .int .i64 c], val := v, born := clock }] (clock + 1))) := by
  simp [Instr.mapUpdate, run_underlying Try.underlying112, MapKept.run_getObj_map hb, ck3, MapKept.run_setObj_map _ hb, Result.andThen, Instr.findKey, Instr.findNow, run_underlying Try.underlying32]
  rfl
/-- an entry of the set -/
def en3 (a b c : Int) (k : Nat) : MapEntry := { key := .agg #[.int .i64 a, .int .i64 b, .int .i64 c], val := .bool true, born := k }
theorem ins2 (w : World) (r k clock : Nat) (a b c x y z : Int) (hb : w.heap[r]? = some (.map #[en3 x y z k] clock)) (hne : (a == x && (b == y && c == z)) = false) :
    (Instr.mapUpdate 112 (.map (some r)) (.agg #[.int .i64 a, .int .i64 b, .int .i64 c]) (.bool true)).run Try.prog w = .ok () (setM w r (.map #[en3 x y z k, en3 a b c clock] (clock + 1))) := by
  simp [Instr.mapUpdate, run_underlying Try.underlying112, MapKept.run_getObj_map hb, ck3, MapKept.run_setObj_map _ hb, Result.andThen, Instr.findKey, Instr.findNow, Instr.sameNow, Instr.findAsking, en3, eq3, hne, run_underlying Try.underlying32]
  rfl
theorem look2 (w : World) (r k j clock : Nat) (a b c x y z u v t : Int) (hb : w.heap[r]? = some (.map #[en3 x y z k, en3 u v t j] clock)) :
    (Instr.lookup 112 (.map (some r)) (.agg #[.int .i64 a, .int .i64 b, .int .i64 c]) false).run Try.prog w = .ok (.bool ((a == x && (b == y && c == z)) || (a == u && (b == v && c == t)))) w := by
  have hz : (zeroValue 4).run Try.prog w = .ok (.bool false) w := by kernel_rfl
  cases h1 : (a == x && (b == y && c == z)) <;> cases h2 : (a == u && (b == v && c == t))
  all_goals simp [Instr.lookup, run_underlying Try.underlying112, MapKept.run_getObj_map hb, ck3, Result.andThen, Instr.findKey, Instr.findNow, Instr.sameNow, Instr.findAsking, en3, eq3, h1, h2, hz, run_underlying Try.underlying32]
end Go.Proofs.Ytaaklnabomhleaa
namespace Go.Proofs.Ytaaklnabomhleaa
open Go.ChangeShapes Go.WideShapes Go.ChangeAt Go.RowKit Num
set_option linter.unusedVariables false
/-- the set of two directions, in a block of a world -/
def Set2 (w w' : World) (c s h : Int) (m : Nat) : Prop := ∃ k j n, w'.heap[m]? = some (.map #[en3 c s h k, en3 c (-s) h j] n) ∨ w'.heap[m]? = some (.map #[en3 c (-s) h k, en3 c s h j] n)

theorem ins1e (w : World) (r : Nat) (a b c : Int) (hb : w.heap[r]? = some (.map #[] 0)) :
    (Instr.mapUpdate 112 (.map (some r)) (.agg #[.int .i64 a, .int .i64 b, .int .i64 c]) (.bool true)).run Try.prog w = .ok () (setM w r (.map #[en3 a b c 0] 1)) := ins1 w r 0 a b c (.bool true) hb
theorem setM_at {w : World} {r : Nat} {o : Obj} (h : r < w.heap.size) : (setM w r o).heap[r]? = some o := by simp [setM, h]
theorem al2_at {w : World} {r : Nat} {x : Obj} (o o' : Obj) (h : w.heap[r]? = some x) : ((w.alloc o).alloc o').heap[r]? = some x := by
  have hlt := (Array.getElem?_eq_some_iff.1 h).1
  rw [Below.heap_alloc (w.alloc o) o' r (by simp; omega), Below.heap_alloc w o r hlt]; exact h
theorem setM_cell (v : World) (r m : Nat) (o : Obj) (k : Nat) (h : ¬ r = m) : (setM v r o).cell? ⟨m, k, none⟩ = v.cell? ⟨m, k, none⟩ :=
  World.cell?_of_block (w := v) (w' := setM v r o) (a := ⟨m, k, none⟩) (by
    show (v.heap.setIfInBounds r o)[m]? = _
    rw [Array.getElem?_setIfInBounds_ne h])
theorem setM_size (w : World) (r : Nat) (o : Obj) : (setM w r o).heap.size = w.heap.size := by simp [setM]
theorem setM_bel {W w : World} {B r : Nat} {o : Obj} (h : Below B W w) (hr : B ≤ r) : Below B W (setM w r o) := ⟨h.os, h.tape, h.output, by rw [setM_size]; exact h.size, fun k hk => by
  show (w.heap.setIfInBounds r o)[k]? = _
  rw [Array.getElem?_setIfInBounds_ne (by omega)]
  exact h.block k hk⟩
theorem at3 {W w2 : World} {m : Nat} {v0 v1 v2 : Value} {t : TypeId} (h : Bk W m #[v0, v1, v2] t) (hb : Below W.heap.size W w2) :
    w2.cell? ⟨m, 0, none⟩ = some v0 ∧ w2.cell? ⟨m, 1, none⟩ = some v1 ∧ w2.cell? ⟨m, 2, none⟩ = some v2 ∧ Below W.heap.size W w2 := ⟨(h.on hb).cell 0 rfl, (h.on hb).cell 1 rfl, (h.on hb).cell 2 rfl, hb⟩
set_option maxRecDepth 100000 in
set_option maxHeartbeats 1000000 in
theorem flt_any (c s h : Int) (o : DirOk c s h) (w : World) :
    Calls Try.prog 87 #[.agg #[.int .i64 c, .int .i64 s, .int .i64 h]] w fun e w' => ∃ m, e = .returned (.map (some m)) ∧ Set2 w w' c s h m ∧ Below w.heap.size w w' := by
  have o1 := o.s1
  have o2 := o.s2
  have o3 := o.h2
  have o4 := o.s0
  have ne1 : (c == c && (s == -s && h == h)) = false := by simp; omega
  have ne2 : (c == c && (-s == s && h == h)) = false := by simp; omega
  have M : Hid (∀ w : World, Calls Try.prog 126 #[.agg #[.int .i64 c, .int .i64 s, .int .i64 h]] w fun e w' => e = .returned (.agg #[.int .i64 c, .int .i64 (-s), .int .i64 h]) ∧ w' = (w.alloc (.cells #[.int .i64 c, .int .i64 (-s), .int .i64 h] 32)).alloc (.cells #[.int .i64 c, .int .i64 (-s), .int .i64 h] 32)) := Lib.hid (fun w => mir_any c s h (by omega) (by omega) w)
  have hmm := @run_makeMap Try.prog
  clear o1 o2 o3 o4 o
  go_enter Try.func87, Try.ntmps87
  go_wp2_with fail
  generalize hW : World.alloc _ _ = W
  have bX : Bk W w.heap.size #[.int .i64 c, .int .i64 s, .int .i64 h] 32 := by rw [← hW]; repeat (first | exact Bk.new' (by simp) | refine Bk.alloc ?_ _)
  have HB : Hid (Below w.heap.size w W) := Lib.hid (by rw [← hW]; exact (by repeat (first | exact Below.refl _ _ | (refine Below.alloc ?_ (by simp <;> omega) _) | (refine Below.setCell ?_ (by simp <;> omega) _) | (refine Below.drew ?_) | (refine bel_drewN ?_ _))))
  clear hW
  have x0 : W.cell? ⟨w.heap.size, 0, none⟩ = some (.int .i64 c) := bX.cell 0 rfl
  have x1 : W.cell? ⟨w.heap.size, 1, none⟩ = some (.int .i64 s) := bX.cell 1 rfl
  have x2 : W.cell? ⟨w.heap.size, 2, none⟩ = some (.int .i64 h) := bX.cell 2 rfl
  have xl := bX.lt
  have q1 := ins1e (W.alloc (.map #[] 0)).drew W.heap.size c s h (heap_alloc_new W _)
  have q2 := ins2 (((setM (W.alloc (.map #[] 0)).drew W.heap.size (.map #[en3 c s h 0] 1)).alloc (.cells #[.int .i64 c, .int .i64 (-s), .int .i64 h] 32)).alloc (.cells #[.int .i64 c, .int .i64 (-s), .int .i64 h] 32)) W.heap.size 0 1 c (-s) h c s h (al2_at _ _ (setM_at (by simp))) ne2
  have q3 := ins1e (((W.alloc (.map #[] 0)).alloc (.cells #[.int .i64 c, .int .i64 (-s), .int .i64 h] 32)).alloc (.cells #[.int .i64 c, .int .i64 (-s), .int .i64 h] 32)).drew W.heap.size c s h (al2_at _ _ (heap_alloc_new W _))
  have q4 := ins2 (setM (((W.alloc (.map #[] 0)).alloc (.cells #[.int .i64 c, .int .i64 (-s), .int .i64 h] 32)).alloc (.cells #[.int .i64 c, .int .i64 (-s), .int .i64 h] 32)).drew W.heap.size (.map #[en3 c s h 0] 1)) W.heap.size 0 1 c (-s) h c s h (setM_at (by simp; omega)) ne2
  have q5 := ins1e (((W.alloc (.cells #[.int .i64 c, .int .i64 (-s), .int .i64 h] 32)).alloc (.cells #[.int .i64 c, .int .i64 (-s), .int .i64 h] 32)).alloc (.map #[] 0)).drew (W.heap.size + 1 + 1) c s h (by rw [show W.heap.size + 1 + 1 = ((W.alloc (.cells #[.int .i64 c, .int .i64 (-s), .int .i64 h] 32)).alloc (.cells #[.int .i64 c, .int .i64 (-s), .int .i64 h] 32)).heap.size by simp]; exact heap_alloc_new _ _)
  have q6 := ins2 (setM (((W.alloc (.cells #[.int .i64 c, .int .i64 (-s), .int .i64 h] 32)).alloc (.cells #[.int .i64 c, .int .i64 (-s), .int .i64 h] 32)).alloc (.map #[] 0)).drew (W.heap.size + 1 + 1) (.map #[en3 c s h 0] 1)) (W.heap.size + 1 + 1) 0 1 c (-s) h c s h (setM_at (by simp)) ne2
  have q7 := ins1e (((W.alloc (.map #[] 0)).alloc (.cells #[.int .i64 c, .int .i64 (-s), .int .i64 h] 32)).alloc (.cells #[.int .i64 c, .int .i64 (-s), .int .i64 h] 32)).drew W.heap.size c (-s) h (al2_at _ _ (heap_alloc_new W _))
  have q8 := ins2 (setM (((W.alloc (.map #[] 0)).alloc (.cells #[.int .i64 c, .int .i64 (-s), .int .i64 h] 32)).alloc (.cells #[.int .i64 c, .int .i64 (-s), .int .i64 h] 32)).drew W.heap.size (.map #[en3 c (-s) h 0] 1)) W.heap.size 0 1 c s h c (-s) h (setM_at (by simp; omega)) ne1
  have q9 := ins1e (((W.alloc (.cells #[.int .i64 c, .int .i64 (-s), .int .i64 h] 32)).alloc (.cells #[.int .i64 c, .int .i64 (-s), .int .i64 h] 32)).alloc (.map #[] 0)).drew (W.heap.size + 1 + 1) c (-s) h (by rw [show W.heap.size + 1 + 1 = ((W.alloc (.cells #[.int .i64 c, .int .i64 (-s), .int .i64 h] 32)).alloc (.cells #[.int .i64 c, .int .i64 (-s), .int .i64 h] 32)).heap.size by simp]; exact heap_alloc_new _ _)
  have q10 := ins2 (setM (((W.alloc (.cells #[.int .i64 c, .int .i64 (-s), .int .i64 h] 32)).alloc (.cells #[.int .i64 c, .int .i64 (-s), .int .i64 h] 32)).alloc (.map #[] 0)).drew (W.heap.size + 1 + 1) (.map #[en3 c (-s) h 0] 1)) (W.heap.size + 1 + 1) 0 1 c s h c (-s) h (setM_at (by simp)) ne1
  go_region_held3 (fun w' => w'.cell? ⟨w.heap.size, 0, none⟩ = some (.int .i64 c) ∧ w'.cell? ⟨w.heap.size, 1, none⟩ = some (.int .i64 s) ∧ w'.cell? ⟨w.heap.size, 2, none⟩ = some (.int .i64 h) ∧ Below W.heap.size W w')
    (first
      | ((refine at3 bX ?_); (repeat (first | (with_reducible exact Below.refl W.heap.size W) | (refine Below.drew ?_) | (refine Below.alloc ?_ (by first | (simp; done) | (simp [setM_size]; done) | (simp [setM_size]; omega)) _) | (refine setM_bel ?_ (by first | (with_reducible exact Nat.le_refl _) | omega | (simp; done) | (simp; omega)))))))
    (first | (go_at_call 126; (with_reducible refine Calls.mono (M.out _) ?_); rintro e w1 ⟨rfl, rfl⟩))
  all_goals
    go_wp2
    go_ret
    refine ⟨_, rfl, ⟨0, 1, 2, ?_⟩, bel_end HB.out ?_⟩
    · first | exact .inl (setM_at (by first | (simp [setM_size]; done) | (simp [setM_size]; omega))) | exact .inr (setM_at (by first | (simp [setM_size]; done) | (simp [setM_size]; omega)))
    · (repeat (first | (with_reducible exact Below.refl W.heap.size W) | (refine Below.drew ?_) | (refine Below.alloc ?_ (by first | (simp; done) | (simp [setM_size]; done) | (simp [setM_size]; omega)) _) | (refine setM_bel ?_ (by first | (with_reducible exact Nat.le_refl _) | omega | (simp; done) | (simp; omega)))))

theorem lco_any (c s h x y z : Int) (o : DirOk c s h) (p : DirOk x y z) (w : World) :
    Calls Try.prog 79 #[.agg #[.int .i64 c, .int .i64 s, .int .i64 h], .agg #[.int .i64 x, .int .i64 y, .int .i64 z]] w fun e w' => e = .returned (.int .i64 (sgn (c * z) (x * h))) ∧ Below w.heap.size w w' := by
  have o1 := o.c1
  have o2 := o.c2
  have o3 := o.h2
  have p1 := p.c1
  have p2 := p.c2
  have p3 := p.h2
  have e1 : IntKind.wrap .i64 (c * z) = c * z := wr_mul (A := 1000) (B := 1000) (by omega) (by omega) (by omega) (by omega) (by omega) (by omega)
  have e2 : IntKind.wrap .i64 (x * h) = x * h := wr_mul (A := 1000) (B := 1000) (by omega) (by omega) (by omega) (by omega) (by omega) (by omega)
  obtain ⟨u, hu⟩ : ∃ u, c * z = u := ⟨_, rfl⟩
  obtain ⟨v, hv⟩ : ∃ u, x * h = u := ⟨_, rfl⟩
  rw [hu] at e1 ⊢
  rw [hv] at e2 ⊢
  have E1 : IntKind.wrap .i64 (c * z) = u := by rw [hu]; exact e1
  have E2 : IntKind.wrap .i64 (x * h) = v := by rw [hv]; exact e2
  have HU := Lib.hid (And.intro hu hv)
  clear hu hv o p o1 o2 o3 p1 p2 p3 e1 e2
  go_enter Try.func79, Try.ntmps79
  go_wp2_with fail
  go_quiet (fail)
  by_cases h1 : u < v
  · have h2 : ¬ v < u := by omega
    go_wp2
    go_ret
    exact ⟨ret_int (by unfold sgn; rw [if_pos h1]), (by repeat (first | exact Below.refl _ _ | (refine Below.alloc ?_ (by simp <;> omega) _) | (refine Below.setCell ?_ (by simp <;> omega) _) | (refine Below.drew ?_) | (refine bel_drewN ?_ _)))⟩
  · by_cases h2 : v < u
    · go_wp2
      go_ret
      exact ⟨ret_int (by unfold sgn; rw [if_neg (by omega), if_pos (by omega)]), (by repeat (first | exact Below.refl _ _ | (refine Below.alloc ?_ (by simp <;> omega) _) | (refine Below.setCell ?_ (by simp <;> omega) _) | (refine Below.drew ?_) | (refine bel_drewN ?_ _)))⟩
    · go_wp2
      go_ret
      exact ⟨ret_int (by unfold sgn; rw [if_neg (by omega), if_neg (by omega)]), (by repeat (first | exact Below.refl _ _ | (refine Below.alloc ?_ (by simp <;> omega) _) | (refine Below.setCell ?_ (by simp <;> omega) _) | (refine Below.drew ?_) | (refine bel_drewN ?_ _)))⟩
end Go.Proofs.Ytaaklnabomhleaa
namespace Go.Proofs.Ytaaklnabomhleaa
open Go.ChangeShapes Go.WideShapes Go.ChangeAt Go.RowKit Num
set_option linter.unusedVariables false
theorem cd_no {c s h x y z : Int} (e : (dirB c s h && dirB x y z) = false) : cdV c s h x y z = 0 ∧ cdC c s h x y z = 1 := by unfold cdV cdC; rw [e]; exact ⟨rfl, rfl⟩
theorem cd_ok {c s h x y z : Int} (e : (dirB c s h && dirB x y z) = true) : cdV c s h x y z = sgn (c * z) (x * h) ∧ cdC c s h x y z = 0 := by unfold cdV cdC; rw [e]; exact ⟨rfl, rfl⟩
theorem ret2i {a b a' b' : Int} (h : a' = a ∧ b' = b) : Ending.returned (.tuple #[.int .i64 a, .int .i64 b]) = .returned (.tuple #[.int .i64 a', .int .i64 b']) := by rw [h.1, h.2]
theorem at33 {W w2 : World} {m n : Nat} {v0 v1 v2 u0 u1 u2 : Value} {t t' : TypeId} (h : Bk W m #[v0, v1, v2] t) (g : Bk W n #[u0, u1, u2] t') (hb : Below W.heap.size W w2) :
    w2.cell? ⟨m, 0, none⟩ = some v0 ∧ w2.cell? ⟨m, 1, none⟩ = some v1 ∧ w2.cell? ⟨m, 2, none⟩ = some v2 ∧ w2.cell? ⟨n, 0, none⟩ = some u0 ∧ w2.cell? ⟨n, 1, none⟩ = some u1 ∧ w2.cell? ⟨n, 2, none⟩ = some u2 ∧ Below W.heap.size W w2 :=
  ⟨(h.on hb).cell 0 rfl, (h.on hb).cell 1 rfl, (h.on hb).cell 2 rfl, (g.on hb).cell 0 rfl, (g.on hb).cell 1 rfl, (g.on hb).cell 2 rfl, hb⟩
/-- the look-up in the set of two -/
theorem set2_look {w w' : World} {c s h : Int} {m : Nat} (q : Set2 w w' c s h m) (x y z : Int) :
    (Instr.lookup 112 (.map (some m)) (.agg #[.int .i64 x, .int .i64 y, .int .i64 z]) false).run Try.prog w' = .ok (.bool ((x == c && (y == s && z == h)) || (x == c && (y == -s && z == h)))) w' := by
  obtain ⟨k, j, n, q | q⟩ := q
  · exact look2 w' m k j n x y z c s h c (-s) h q
  · have := look2 w' m k j n x y z c (-s) h c s h q
    rwa [Bool.or_comm] at this
theorem set2_flat {c s h x y z : Int} (o : DirOk c s h) (p : DirOk x y z) : ((x == c && (y == s && z == h)) || (x == c && (y == -s && z == h))) = decide (c * z = x * h) := by
  rw [Bool.eq_iff_iff, decide_eq_true_eq, flat_iff o p]
  simp

set_option maxRecDepth 100000 in
set_option maxHeartbeats 2000000 in
theorem icm_any (c s h x y z : Int) (w : World) :
    Calls Try.prog 31 #[.agg #[.int .i64 c, .int .i64 s, .int .i64 h], .agg #[.int .i64 x, .int .i64 y, .int .i64 z]] w fun e w' => e = .returned (.tuple #[.int .i64 (cdV c s h x y z), .int .i64 (cdC c s h x y z)]) ∧ Below w.heap.size w w' := by
  cases hx : dirB c s h
  · have HT := Lib.hid (cd_no (c := c) (s := s) (h := h) (x := x) (y := y) (z := z) (by rw [hx]; rfl))
    have HX := Lib.hid hx
    clear hx
    go_enter Try.func31, Try.ntmps31
    go_wp2_with fail
    generalize hW : World.alloc _ _ = W
    have bX : Bk W w.heap.size #[.int .i64 c, .int .i64 s, .int .i64 h] 32 := by rw [← hW]; repeat (first | exact Bk.new' (by simp) | refine Bk.alloc ?_ _)
    have bY : Bk W (w.heap.size + 1) #[.int .i64 x, .int .i64 y, .int .i64 z] 32 := by rw [← hW]; repeat (first | exact Bk.new' (by simp) | refine Bk.alloc ?_ _)
    have HB : Hid (Below w.heap.size w W) := Lib.hid (by rw [← hW]; exact (by repeat (first | exact Below.refl _ _ | (refine Below.alloc ?_ (by simp <;> omega) _) | (refine Below.setCell ?_ (by simp <;> omega) _) | (refine Below.drew ?_) | (refine bel_drewN ?_ _))))
    clear hW
    refine (idr_any c s h _).mono ?_
    rw [HX.out]
    rintro e w1 ⟨rfl, hb⟩
    replace bX := bX.on hb
    replace bY := bY.on hb
    replace HB := Lib.hid (bel_end HB.out hb)
    clear hb
    go_wp2
    go_ret2
    exact ⟨ret2i HT.out, HB.out⟩
  cases hy : dirB x y z
  · have HT := Lib.hid (cd_no (c := c) (s := s) (h := h) (x := x) (y := y) (z := z) (by rw [hx, hy]; rfl))
    have HX := Lib.hid hx
    have HY := Lib.hid hy
    clear hx hy
    go_enter Try.func31, Try.ntmps31
    go_wp2_with fail
    generalize hW : World.alloc _ _ = W
    have bX : Bk W w.heap.size #[.int .i64 c, .int .i64 s, .int .i64 h] 32 := by rw [← hW]; repeat (first | exact Bk.new' (by simp) | refine Bk.alloc ?_ _)
    have bY : Bk W (w.heap.size + 1) #[.int .i64 x, .int .i64 y, .int .i64 z] 32 := by rw [← hW]; repeat (first | exact Bk.new' (by simp) | refine Bk.alloc ?_ _)
    have HB : Hid (Below w.heap.size w W) := Lib.hid (by rw [← hW]; exact (by repeat (first | exact Below.refl _ _ | (refine Below.alloc ?_ (by simp <;> omega) _) | (refine Below.setCell ?_ (by simp <;> omega) _) | (refine Below.drew ?_) | (refine bel_drewN ?_ _))))
    clear hW
    refine (idr_any c s h _).mono ?_
    rw [HX.out]
    rintro e w1 ⟨rfl, hb⟩
    replace bX := bX.on hb
    replace bY := bY.on hb
    replace HB := Lib.hid (bel_end HB.out hb)
    clear hb
    have x0 : w1.cell? ⟨w.heap.size, 0, none⟩ = some (.int .i64 c) := bX.cell 0 rfl
    have x1 : w1.cell? ⟨w.heap.size, 1, none⟩ = some (.int .i64 s) := bX.cell 1 rfl
    have x2 : w1.cell? ⟨w.heap.size, 2, none⟩ = some (.int .i64 h) := bX.cell 2 rfl
    have y0 : w1.cell? ⟨w.heap.size + 1, 0, none⟩ = some (.int .i64 x) := bY.cell 0 rfl
    have y1 : w1.cell? ⟨w.heap.size + 1, 1, none⟩ = some (.int .i64 y) := bY.cell 1 rfl
    have y2 : w1.cell? ⟨w.heap.size + 1, 2, none⟩ = some (.int .i64 z) := bY.cell 2 rfl
    go_wp2_with fail
    refine (idr_any x y z _).mono ?_
    rw [HY.out]
    rintro e w2 ⟨rfl, hb⟩
    go_wp2
    go_ret2
    exact ⟨ret2i HT.out, bel_end HB.out hb⟩
  · have HT := Lib.hid (cd_ok (c := c) (s := s) (h := h) (x := x) (y := y) (z := z) (by rw [hx, hy]; rfl))
    have HX := Lib.hid hx
    have HY := Lib.hid hy
    have o := dirB_t hx
    have p := dirB_t hy
    have O := Lib.hid o
    have P := Lib.hid p
    have o1 := o.c1
    have o2 := o.c2
    have o3 := o.h2
    have p1 := p.c1
    have p2 := p.c2
    have p3 := p.h2
    have e1 : IntKind.wrap .i64 (c * z) = c * z := wr_mul (A := 1000) (B := 1000) (by omega) (by omega) (by omega) (by omega) (by omega) (by omega)
    have e2 : IntKind.wrap .i64 (x * h) = x * h := wr_mul (A := 1000) (B := 1000) (by omega) (by omega) (by omega) (by omega) (by omega) (by omega)
    clear o1 o2 o3 p1 p2 p3
    clear hx hy o p
    go_enter Try.func31, Try.ntmps31
    go_wp2_with fail
    generalize hW : World.alloc _ _ = W
    have bX : Bk W w.heap.size #[.int .i64 c, .int .i64 s, .int .i64 h] 32 := by rw [← hW]; repeat (first | exact Bk.new' (by simp) | refine Bk.alloc ?_ _)
    have bY : Bk W (w.heap.size + 1) #[.int .i64 x, .int .i64 y, .int .i64 z] 32 := by rw [← hW]; repeat (first | exact Bk.new' (by simp) | refine Bk.alloc ?_ _)
    have HB : Hid (Below w.heap.size w W) := Lib.hid (by rw [← hW]; exact (by repeat (first | exact Below.refl _ _ | (refine Below.alloc ?_ (by simp <;> omega) _) | (refine Below.setCell ?_ (by simp <;> omega) _) | (refine Below.drew ?_) | (refine bel_drewN ?_ _))))
    clear hW
    refine (idr_any c s h _).mono ?_
    rw [HX.out]
    rintro e w1 ⟨rfl, hb⟩
    replace bX := bX.on hb
    replace bY := bY.on hb
    replace HB := Lib.hid (bel_end HB.out hb)
    clear hb
    have x0 : w1.cell? ⟨w.heap.size, 0, none⟩ = some (.int .i64 c) := bX.cell 0 rfl
    have x1 : w1.cell? ⟨w.heap.size, 1, none⟩ = some (.int .i64 s) := bX.cell 1 rfl
    have x2 : w1.cell? ⟨w.heap.size, 2, none⟩ = some (.int .i64 h) := bX.cell 2 rfl
    have y0 : w1.cell? ⟨w.heap.size + 1, 0, none⟩ = some (.int .i64 x) := bY.cell 0 rfl
    have y1 : w1.cell? ⟨w.heap.size + 1, 1, none⟩ = some (.int .i64 y) := bY.cell 1 rfl
    have y2 : w1.cell? ⟨w.heap.size + 1, 2, none⟩ = some (.int .i64 z) := bY.cell 2 rfl
    go_wp2_with fail
    refine (idr_any x y z _).mono ?_
    rw [HY.out]
    rintro e w2 ⟨rfl, hb⟩
    replace bX := bX.on hb
    replace bY := bY.on hb
    replace HB := Lib.hid (bel_end HB.out hb)
    clear hb x0 x1 x2 y0 y1 y2
    have x0 : w2.cell? ⟨w.heap.size, 0, none⟩ = some (.int .i64 c) := bX.cell 0 rfl
    have x1 : w2.cell? ⟨w.heap.size, 1, none⟩ = some (.int .i64 s) := bX.cell 1 rfl
    have x2 : w2.cell? ⟨w.heap.size, 2, none⟩ = some (.int .i64 h) := bX.cell 2 rfl
    have y0 : w2.cell? ⟨w.heap.size + 1, 0, none⟩ = some (.int .i64 x) := bY.cell 0 rfl
    have y1 : w2.cell? ⟨w.heap.size + 1, 1, none⟩ = some (.int .i64 y) := bY.cell 1 rfl
    have y2 : w2.cell? ⟨w.heap.size + 1, 2, none⟩ = some (.int .i64 z) := bY.cell 2 rfl
    have SQ := Lib.hid (set2_flat O.out P.out)
    go_wp2_with fail
    by_cases he : c * z = x * h
    · replace SQ := Lib.hid (SQ.out.trans (decide_eq_true he))
      go_region_held3 (fun w' => w'.cell? ⟨w.heap.size, 0, none⟩ = some (.int .i64 c) ∧ w'.cell? ⟨w.heap.size, 1, none⟩ = some (.int .i64 s) ∧ w'.cell? ⟨w.heap.size, 2, none⟩ = some (.int .i64 h) ∧ w'.cell? ⟨w.heap.size + 1, 0, none⟩ = some (.int .i64 x) ∧ w'.cell? ⟨w.heap.size + 1, 1, none⟩ = some (.int .i64 y) ∧ w'.cell? ⟨w.heap.size + 1, 2, none⟩ = some (.int .i64 z) ∧ Below w2.heap.size w2 w')
        (first
          | (exact at33 bX bY (Below.refl _ w2).drew)
          | (go_split_ands; (with_reducible exact at33 bX bY hkB)))
        (first | (go_at_call 87; refine (flt_any c s h O.out _).mono ?_; rintro e w3 ⟨m, rfl, hm, hb⟩; have hkB := bel_in hb (Below.refl _ w2).drew (Nat.le_refl _); have hlk := set2_look hm x y z; rw [SQ.out] at hlk; clear hm))
      all_goals
        have HBZ := Lib.hid (bel_end HB.out hkB)
        go_wp2
        go_ret2
        exact ⟨ret2i (by rw [HT.out.1, HT.out.2]; unfold sgn; exact ⟨by rw [if_neg (by omega), if_neg (by omega)], rfl⟩), HBZ.out⟩
    · replace SQ := Lib.hid (SQ.out.trans (decide_eq_false he))
      go_region_held3 (fun w' => w'.cell? ⟨w.heap.size, 0, none⟩ = some (.int .i64 c) ∧ w'.cell? ⟨w.heap.size, 1, none⟩ = some (.int .i64 s) ∧ w'.cell? ⟨w.heap.size, 2, none⟩ = some (.int .i64 h) ∧ w'.cell? ⟨w.heap.size + 1, 0, none⟩ = some (.int .i64 x) ∧ w'.cell? ⟨w.heap.size + 1, 1, none⟩ = some (.int .i64 y) ∧ w'.cell? ⟨w.heap.size + 1, 2, none⟩ = some (.int .i64 z) ∧ Below w2.heap.size w2 w')
        (first
          | (exact at33 bX bY (Below.refl _ w2).drew)
          | (go_split_ands; (with_reducible exact at33 bX bY hkB)))
        (first | (go_at_call 87; refine (flt_any c s h O.out _).mono ?_; rintro e w3 ⟨m, rfl, hm, hb⟩; have hkB := bel_in hb (Below.refl _ w2).drew (Nat.le_refl _); have hlk := set2_look hm x y z; rw [SQ.out] at hlk; clear hm))
      all_goals
        have HBZ := Lib.hid (bel_end HB.out hkB)
        replace bX := bX.on hkB
        replace bY := bY.on hkB
        clear x0 x1 x2 y0 y1 y2
        have x0 : w3.cell? ⟨w.heap.size, 0, none⟩ = some (.int .i64 c) := bX.cell 0 rfl
        have x1 : w3.cell? ⟨w.heap.size, 1, none⟩ = some (.int .i64 s) := bX.cell 1 rfl
        have x2 : w3.cell? ⟨w.heap.size, 2, none⟩ = some (.int .i64 h) := bX.cell 2 rfl
        have y0 : w3.cell? ⟨w.heap.size + 1, 0, none⟩ = some (.int .i64 x) := bY.cell 0 rfl
        have y1 : w3.cell? ⟨w.heap.size + 1, 1, none⟩ = some (.int .i64 y) := bY.cell 1 rfl
        have y2 : w3.cell? ⟨w.heap.size + 1, 2, none⟩ = some (.int .i64 z) := bY.cell 2 rfl
        by_cases h1 : x * h < c * z
        · go_wp2
          go_ret2
          exact ⟨ret2i (by rw [HT.out.1, HT.out.2]; unfold sgn; exact ⟨by rw [if_neg (by omega), if_pos (by omega)], rfl⟩), HBZ.out⟩
        · go_wp2
          go_ret2
          exact ⟨ret2i (by rw [HT.out.1, HT.out.2]; unfold sgn; exact ⟨by rw [if_pos (by omega)], rfl⟩), HBZ.out⟩

end Go.Proofs.Ytaaklnabomhleaa
