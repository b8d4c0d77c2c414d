/- Contracts of CompareDirections, the program's and the model's. -/
import Derived.Test.YtcaekheghjnipaaDirC
namespace Go.Proofs.Ytcaekheghjnipaa
open Go.ChangeShapes Go.WideShapes Go.ChangeAt Go.RowKit Num
set_option linter.unusedVariables false
theorem cd_no {c s h x y z : Int} (e : (dirB c s h && dirB x y z) = false) : cdV c s h x y z = 0 ∧ cdC c s h x y z = 1 := by unfold cdV cdC; rw [e]; exact ⟨rfl, rfl⟩
theorem cd_ok {c s h x y z : Int} (e : (dirB c s h && dirB x y z) = true) : cdV c s h x y z = sgn (c * z) (x * h) ∧ cdC c s h x y z = 0 := by unfold cdV cdC; rw [e]; exact ⟨rfl, rfl⟩
theorem ret2i {a b a' b' : Int} (h : a' = a ∧ b' = b) : Ending.returned (.tuple #[.int .i64 a, .int .i64 b]) = .returned (.tuple #[.int .i64 a', .int .i64 b']) := by rw [h.1, h.2]
theorem at33 {W w2 : World} {m n : Nat} {v0 v1 v2 u0 u1 u2 : Value} {t t' : TypeId} (h : Bk W m #[v0, v1, v2] t) (g : Bk W n #[u0, u1, u2] t') (hb : Below W.heap.size W w2) :
    w2.cell? ⟨m, 0, none⟩ = some v0 ∧ w2.cell? ⟨m, 1, none⟩ = some v1 ∧ w2.cell? ⟨m, 2, none⟩ = some v2 ∧ w2.cell? ⟨n, 0, none⟩ = some u0 ∧ w2.cell? ⟨n, 1, none⟩ = some u1 ∧ w2.cell? ⟨n, 2, none⟩ = some u2 ∧ Below W.heap.size W w2 :=
  ⟨(h.on hb).cell 0 rfl, (h.on hb).cell 1 rfl, (h.on hb).cell 2 rfl, (g.on hb).cell 0 rfl, (g.on hb).cell 1 rfl, (g.on hb).cell 2 rfl, hb⟩
/-- the look-up in the set of two -/
theorem set2_look {w w' : World} {c s h : Int} {m : Nat} (q : Set2 w w' c s h m) (x y z : Int) :
    (Instr.lookup 83 (.map (some m)) (.agg #[.int .i64 x, .int .i64 y, .int .i64 z]) false).run Try.prog w' = .ok (.bool ((x == c && (y == s && z == h)) || (x == c && (y == -s && z == h)))) w' := by
  obtain ⟨k, j, n, q | q⟩ := q
  · exact look2 w' m k j n x y z c s h c (-s) h q
  · have := look2 w' m k j n x y z c (-s) h c s h q
    rwa [Bool.or_comm] at this
theorem set2_flat {c s h x y z : Int} (o : DirOk c s h) (p : DirOk x y z) : ((x == c && (y == s && z == h)) || (x == c && (y == -s && z == h))) = decide (c * z = x * h) := by
  rw [Bool.eq_iff_iff, decide_eq_true_eq, flat_iff o p]
  simp

set_option maxRecDepth 100000 in
set_option maxHeartbeats 2000000 in
theorem icm_any (c s h x y z : Int) (w : World) :
    Calls Try.prog 24 #[.agg #[.int .i64 c, .int .i64 s, .int .i64 h], .agg #[.int .i64 x, .int .i64 y, .int .i64 z]] w fun e w' => e = .returned (.tuple #[.int .i64 (cdV c s h x y z), .int .i64 (cdC c s h x y z)]) ∧ Below w.heap.size w w' := by
  cases hx : dirB c s h
  · have HT := Lib.hid (cd_no (c := c) (s := s) (h := h) (x := x) (y := y) (z := z) (by rw [hx]; rfl))
    have HX := Lib.hid hx
    clear hx
    go_enter Try.func24, Try.ntmps24
    go_wp2_with fail
    generalize hW : World.alloc _ _ = W
    have bX : Bk W w.heap.size #[.int .i64 c, .int .i64 s, .int .i64 h] 25 := by rw [← hW]; repeat (first | exact Bk.new' (by simp) | refine Bk.alloc ?_ _)
    have bY : Bk W (w.heap.size + 1) #[.int .i64 x, .int .i64 y, .int .i64 z] 25 := by rw [← hW]; repeat (first | exact Bk.new' (by simp) | refine Bk.alloc ?_ _)
    have HB : Hid (Below w.heap.size w W) := Lib.hid (by rw [← hW]; exact (by repeat (first | exact Below.refl _ _ | (refine Below.alloc ?_ (by simp <;> omega) _) | (refine Below.setCell ?_ (by simp <;> omega) _) | (refine Below.drew ?_) | (refine bel_drewN ?_ _))))
    clear hW
    refine (idr_any c s h _).mono ?_
    rw [HX.out]
    rintro e w1 ⟨rfl, hb⟩
    replace bX := bX.on hb
    replace bY := bY.on hb
    replace HB := Lib.hid (bel_end HB.out hb)
    clear hb
    go_wp2
    go_ret2
    exact ⟨ret2i HT.out, HB.out⟩
  cases hy : dirB x y z
  · have HT := Lib.hid (cd_no (c := c) (s := s) (h := h) (x := x) (y := y) (z := z) (by rw [hx, hy]; rfl))
    have HX := Lib.hid hx
    have HY := Lib.hid hy
    clear hx hy
    go_enter Try.func24, Try.ntmps24
    go_wp2_with fail
    generalize hW : World.alloc _ _ = W
    have bX : Bk W w.heap.size #[.int .i64 c, .int .i64 s, .int .i64 h] 25 := by rw [← hW]; repeat (first | exact Bk.new' (by simp) | refine Bk.alloc ?_ _)
    have bY : Bk W (w.heap.size + 1) #[.int .i64 x, .int .i64 y, .int .i64 z] 25 := by rw [← hW]; repeat (first | exact Bk.new' (by simp) | refine Bk.alloc ?_ _)
    have HB : Hid (Below w.heap.size w W) := Lib.hid (by rw [← hW]; exact (by repeat (first | exact Below.refl _ _ | (refine Below.alloc ?_ (by simp <;> omega) _) | (refine Below.setCell ?_ (by simp <;> omega) _) | (refine Below.drew ?_) | (refine bel_drewN ?_ _))))
    clear hW
    refine (idr_any c s h _).mono ?_
    rw [HX.out]
    rintro e w1 ⟨rfl, hb⟩
    replace bX := bX.on hb
    replace bY := bY.on hb
    replace HB := Lib.hid (bel_end HB.out hb)
    clear hb
    have x0 : w1.cell? ⟨w.heap.size, 0, none⟩ = some (.int .i64 c) := bX.cell 0 rfl
    have x1 : w1.cell? ⟨w.heap.size, 1, none⟩ = some (.int .i64 s) := bX.cell 1 rfl
    have x2 : w1.cell? ⟨w.heap.size, 2, none⟩ = some (.int .i64 h) := bX.cell 2 rfl
    have y0 : w1.cell? ⟨w.heap.size + 1, 0, none⟩ = some (.int .i64 x) := bY.cell 0 rfl
    have y1 : w1.cell? ⟨w.heap.size + 1, 1, none⟩ = some (.int .i64 y) := bY.cell 1 rfl
    have y2 : w1.cell? ⟨w.heap.size + 1, 2, none⟩ = some (.int .i64 z) := bY.cell 2 rfl
    go_wp2_with fail
    refine (idr_any x y z _).mono ?_
    rw [HY.out]
    rintro e w2 ⟨rfl, hb⟩
    go_wp2
    go_ret2
    exact ⟨ret2i HT.out, bel_end HB.out hb⟩
  · have HT := Lib.hid (cd_ok (c := c) (s := s) (h := h) (x := x) (y := y) (z := z) (by rw [hx, hy]; rfl))
    have HX := Lib.hid hx
    have HY := Lib.hid hy
    have o := dirB_t hx
    have p := dirB_t hy
    have O := Lib.hid o
    have P := Lib.hid p
    have o1 := o.c1
    have o2 := o.c2
    have o3 := o.h2
    have p1 := p.c1
    have p2 := p.c2
    have p3 := p.h2
    have e1 : IntKind.wrap .i64 (c * z) = c * z := wr_mul (A := 1000) (B := 1000) (by omega) (by omega) (by omega) (by omega) (by omega) (by omega)
    have e2 : IntKind.wrap .i64 (x * h) = x * h := wr_mul (A := 1000) (B := 1000) (by omega) (by omega) (by omega) (by omega) (by omega) (by omega)
    clear o1 o2 o3 p1 p2 p3
    clear hx hy o p
    go_enter Try.func24, Try.ntmps24
    go_wp2_with fail
    generalize hW : World.alloc _ _ = W
    have bX : Bk W w.heap.size #[.int .i64 c, .int .i64 s, .int .i64 h] 25 := by rw [← hW]; repeat (first | exact Bk.new' (by simp) | refine Bk.alloc ?_ _)
    have bY : Bk W (w.heap.size + 1) #[.int .i64 x, .int .i64 y, .int .i64 z] 25 := by rw [← hW]; repeat (first | exact Bk.new' (by simp) | refine Bk.alloc ?_ _)
    have HB : Hid (Below w.heap.size w W) := Lib.hid (by rw [← hW]; exact (by repeat (first | exact Below.refl _ _ | (refine Below.alloc ?_ (by simp <;> omega) _) | (refine Below.setCell ?_ (by simp <;> omega) _) | (refine Below.drew ?_) | (refine bel_drewN ?_ _))))
    clear hW
    refine (idr_any c s h _).mono ?_
    rw [HX.out]
    rintro e w1 ⟨rfl, hb⟩
    replace bX := bX.on hb
    replace bY := bY.on hb
    replace HB := Lib.hid (bel_end HB.out hb)
    clear hb
    have x0 : w1.cell? ⟨w.heap.size, 0, none⟩ = some (.int .i64 c) := bX.cell 0 rfl
    have x1 : w1.cell? ⟨w.heap.size, 1, none⟩ = some (.int .i64 s) := bX.cell 1 rfl
    have x2 : w1.cell? ⟨w.heap.size, 2, none⟩ = some (.int .i64 h) := bX.cell 2 rfl
    have y0 : w1.cell? ⟨w.heap.size + 1, 0, none⟩ = some (.int .i64 x) := bY.cell 0 rfl
    have y1 : w1.cell? ⟨w.heap.size + 1, 1, none⟩ = some (.int .i64 y) := bY.cell 1 rfl
    have y2 : w1.cell? ⟨w.heap.size + 1, 2, none⟩ = some (.int .i64 z) := bY.cell 2 rfl
    go_wp2_with fail
    refine (idr_any x y z _).mono ?_
    rw [HY.out]
    rintro e w2 ⟨rfl, hb⟩
    replace bX := bX.on hb
    replace bY := bY.on hb
    replace HB := Lib.hid (bel_end HB.out hb)
    clear hb x0 x1 x2 y0 y1 y2
    have x0 : w2.cell? ⟨w.heap.size, 0, none⟩ = some (.int .i64 c) := bX.cell 0 rfl
    have x1 : w2.cell? ⟨w.heap.size, 1, none⟩ = some (.int .i64 s) := bX.cell 1 rfl
    have x2 : w2.cell? ⟨w.heap.size, 2, none⟩ = some (.int .i64 h) := bX.cell 2 rfl
    have y0 : w2.cell? ⟨w.heap.size + 1, 0, none⟩ = some (.int .i64 x) := bY.cell 0 rfl
    have y1 : w2.cell? ⟨w.heap.size + 1, 1, none⟩ = some (.int .i64 y) := bY.cell 1 rfl
    have y2 : w2.cell? ⟨w.heap.size + 1, 2, none⟩ = some (.int .i64 z) := bY.cell 2 rfl
    have SQ := Lib.hid (set2_flat O.out P.out)
    go_wp2_with fail
    by_cases he : c * z = x * h
    · replace SQ := Lib.hid (SQ.out.trans (decide_eq_true he))
      go_region_held3 (fun w' => w'.cell? ⟨w.heap.size, 0, none⟩ = some (.int .i64 c) ∧ w'.cell? ⟨w.heap.size, 1, none⟩ = some (.int .i64 s) ∧ w'.cell? ⟨w.heap.size, 2, none⟩ = some (.int .i64 h) ∧ w'.cell? ⟨w.heap.size + 1, 0, none⟩ = some (.int .i64 x) ∧ w'.cell? ⟨w.heap.size + 1, 1, none⟩ = some (.int .i64 y) ∧ w'.cell? ⟨w.heap.size + 1, 2, none⟩ = some (.int .i64 z) ∧ Below w2.heap.size w2 w')
        (first
          | (exact at33 bX bY (Below.refl _ w2).drew)
          | (go_split_ands; (with_reducible exact at33 bX bY hkB)))
        (first | (go_at_call 61; refine (flt_any c s h O.out _).mono ?_; rintro e w3 ⟨m, rfl, hm, hb⟩; have hkB := bel_in hb (Below.refl _ w2).drew (Nat.le_refl _); have hlk := set2_look hm x y z; rw [SQ.out] at hlk; clear hm))
      all_goals
        have HBZ := Lib.hid (bel_end HB.out hkB)
        go_wp2
        go_ret2
        exact ⟨ret2i (by rw [HT.out.1, HT.out.2]; unfold sgn; exact ⟨by rw [if_neg (by omega), if_neg (by omega)], rfl⟩), HBZ.out⟩
    · replace SQ := Lib.hid (SQ.out.trans (decide_eq_false he))
      go_region_held3 (fun w' => w'.cell? ⟨w.heap.size, 0, none⟩ = some (.int .i64 c) ∧ w'.cell? ⟨w.heap.size, 1, none⟩ = some (.int .i64 s) ∧ w'.cell? ⟨w.heap.size, 2, none⟩ = some (.int .i64 h) ∧ w'.cell? ⟨w.heap.size + 1, 0, none⟩ = some (.int .i64 x) ∧ w'.cell? ⟨w.heap.size + 1, 1, none⟩ = some (.int .i64 y) ∧ w'.cell? ⟨w.heap.size + 1, 2, none⟩ = some (.int .i64 z) ∧ Below w2.heap.size w2 w')
        (first
          | (exact at33 bX bY (Below.refl _ w2).drew)
          | (go_split_ands; (with_reducible exact at33 bX bY hkB)))
        (first | (go_at_call 61; refine (flt_any c s h O.out _).mono ?_; rintro e w3 ⟨m, rfl, hm, hb⟩; have hkB := bel_in hb (Below.refl _ w2).drew (Nat.le_refl _); have hlk := set2_look hm x y z; rw [SQ.out] at hlk; clear hm))
      all_goals
        have HBZ := Lib.hid (bel_end HB.out hkB)
        replace bX := bX.on hkB
        replace bY := bY.on hkB
        clear x0 x1 x2 y0 y1 y2
        have x0 : w3.cell? ⟨w.heap.size, 0, none⟩ = some (.int .i64 c) := bX.cell 0 rfl
        have x1 : w3.cell? ⟨w.heap.size, 1, none⟩ = some (.int .i64 s) := bX.cell 1 rfl
        have x2 : w3.cell? ⟨w.heap.size, 2, none⟩ = some (.int .i64 h) := bX.cell 2 rfl
        have y0 : w3.cell? ⟨w.heap.size + 1, 0, none⟩ = some (.int .i64 x) := bY.cell 0 rfl
        have y1 : w3.cell? ⟨w.heap.size + 1, 1, none⟩ = some (.int .i64 y) := bY.cell 1 rfl
        have y2 : w3.cell? ⟨w.heap.size + 1, 2, none⟩ = some (.int .i64 z) := bY.cell 2 rfl
        by_cases h1 : x * h < c * z
        · go_wp2
          go_ret2
          exact ⟨ret2i (by rw [HT.out.1, HT.out.2]; unfold sgn; exact ⟨by rw [if_neg (by omega), if_pos (by omega)], rfl⟩), HBZ.out⟩
        · go_wp2
          go_ret2
          exact ⟨ret2i (by rw [HT.out.1, HT.out.2]; unfold sgn; exact ⟨by rw [if_pos (by omega)], rfl⟩), HBZ.out⟩

set_option maxRecDepth 100000 in
set_option maxHeartbeats 2000000 in
theorem scm_any (c s h x y z : Int) (w : World) :
    Calls Try.prog 23 #[.agg #[.int .i64 c, .int .i64 s, .int .i64 h], .agg #[.int .i64 x, .int .i64 y, .int .i64 z]] w fun e w' => e = .returned (.tuple #[.int .i64 (cdV c s h x y z), .int .i64 (cdC c s h x y z)]) ∧ Below w.heap.size w w' := by
  cases hx : dirB c s h
  · have HT := Lib.hid (cd_no (c := c) (s := s) (h := h) (x := x) (y := y) (z := z) (by rw [hx]; rfl))
    have HX := Lib.hid hx
    clear hx
    go_enter Try.func23, Try.ntmps23
    go_wp2_with fail
    generalize hW : World.alloc _ _ = W
    have bX : Bk W w.heap.size #[.int .i64 c, .int .i64 s, .int .i64 h] 25 := by rw [← hW]; repeat (first | exact Bk.new' (by simp) | refine Bk.alloc ?_ _)
    have bY : Bk W (w.heap.size + 1) #[.int .i64 x, .int .i64 y, .int .i64 z] 25 := by rw [← hW]; repeat (first | exact Bk.new' (by simp) | refine Bk.alloc ?_ _)
    have HB : Hid (Below w.heap.size w W) := Lib.hid (by rw [← hW]; exact (by repeat (first | exact Below.refl _ _ | (refine Below.alloc ?_ (by simp <;> omega) _) | (refine Below.setCell ?_ (by simp <;> omega) _) | (refine Below.drew ?_) | (refine bel_drewN ?_ _))))
    clear hW
    refine (sdr_any c s h _).mono ?_
    rw [HX.out]
    rintro e w1 ⟨rfl, hb⟩
    replace bX := bX.on hb
    replace bY := bY.on hb
    replace HB := Lib.hid (bel_end HB.out hb)
    clear hb
    go_wp2
    go_ret2
    exact ⟨ret2i HT.out, HB.out⟩
  cases hy : dirB x y z
  · have HT := Lib.hid (cd_no (c := c) (s := s) (h := h) (x := x) (y := y) (z := z) (by rw [hx, hy]; rfl))
    have HX := Lib.hid hx
    have HY := Lib.hid hy
    clear hx hy
    go_enter Try.func23, Try.ntmps23
    go_wp2_with fail
    generalize hW : World.alloc _ _ = W
    have bX : Bk W w.heap.size #[.int .i64 c, .int .i64 s, .int .i64 h] 25 := by rw [← hW]; repeat (first | exact Bk.new' (by simp) | refine Bk.alloc ?_ _)
    have bY : Bk W (w.heap.size + 1) #[.int .i64 x, .int .i64 y, .int .i64 z] 25 := by rw [← hW]; repeat (first | exact Bk.new' (by simp) | refine Bk.alloc ?_ _)
    have HB : Hid (Below w.heap.size w W) := Lib.hid (by rw [← hW]; exact (by repeat (first | exact Below.refl _ _ | (refine Below.alloc ?_ (by simp <;> omega) _) | (refine Below.setCell ?_ (by simp <;> omega) _) | (refine Below.drew ?_) | (refine bel_drewN ?_ _))))
    clear hW
    refine (sdr_any c s h _).mono ?_
    rw [HX.out]
    rintro e w1 ⟨rfl, hb⟩
    replace bX := bX.on hb
    replace bY := bY.on hb
    replace HB := Lib.hid (bel_end HB.out hb)
    clear hb
    have x0 : w1.cell? ⟨w.heap.size, 0, none⟩ = some (.int .i64 c) := bX.cell 0 rfl
    have x1 : w1.cell? ⟨w.heap.size, 1, none⟩ = some (.int .i64 s) := bX.cell 1 rfl
    have x2 : w1.cell? ⟨w.heap.size, 2, none⟩ = some (.int .i64 h) := bX.cell 2 rfl
    have y0 : w1.cell? ⟨w.heap.size + 1, 0, none⟩ = some (.int .i64 x) := bY.cell 0 rfl
    have y1 : w1.cell? ⟨w.heap.size + 1, 1, none⟩ = some (.int .i64 y) := bY.cell 1 rfl
    have y2 : w1.cell? ⟨w.heap.size + 1, 2, none⟩ = some (.int .i64 z) := bY.cell 2 rfl
    go_wp2_with fail
    refine (sdr_any x y z _).mono ?_
    rw [HY.out]
    rintro e w2 ⟨rfl, hb⟩
    go_wp2
    go_ret2
    exact ⟨ret2i HT.out, bel_end HB.out hb⟩
  · have HT := Lib.hid (cd_ok (c := c) (s := s) (h := h) (x := x) (y := y) (z := z) (by rw [hx, hy]; rfl))
    have HX := Lib.hid hx
    have HY := Lib.hid hy
    have o := dirB_t hx
    have p := dirB_t hy
    have O := Lib.hid o
    have P := Lib.hid p
    clear hx hy o p
    go_enter Try.func23, Try.ntmps23
    go_wp2_with fail
    generalize hW : World.alloc _ _ = W
    have bX : Bk W w.heap.size #[.int .i64 c, .int .i64 s, .int .i64 h] 25 := by rw [← hW]; repeat (first | exact Bk.new' (by simp) | refine Bk.alloc ?_ _)
    have bY : Bk W (w.heap.size + 1) #[.int .i64 x, .int .i64 y, .int .i64 z] 25 := by rw [← hW]; repeat (first | exact Bk.new' (by simp) | refine Bk.alloc ?_ _)
    have HB : Hid (Below w.heap.size w W) := Lib.hid (by rw [← hW]; exact (by repeat (first | exact Below.refl _ _ | (refine Below.alloc ?_ (by simp <;> omega) _) | (refine Below.setCell ?_ (by simp <;> omega) _) | (refine Below.drew ?_) | (refine bel_drewN ?_ _))))
    clear hW
    refine (sdr_any c s h _).mono ?_
    rw [HX.out]
    rintro e w1 ⟨rfl, hb⟩
    replace bX := bX.on hb
    replace bY := bY.on hb
    replace HB := Lib.hid (bel_end HB.out hb)
    clear hb
    have x0 : w1.cell? ⟨w.heap.size, 0, none⟩ = some (.int .i64 c) := bX.cell 0 rfl
    have x1 : w1.cell? ⟨w.heap.size, 1, none⟩ = some (.int .i64 s) := bX.cell 1 rfl
    have x2 : w1.cell? ⟨w.heap.size, 2, none⟩ = some (.int .i64 h) := bX.cell 2 rfl
    have y0 : w1.cell? ⟨w.heap.size + 1, 0, none⟩ = some (.int .i64 x) := bY.cell 0 rfl
    have y1 : w1.cell? ⟨w.heap.size + 1, 1, none⟩ = some (.int .i64 y) := bY.cell 1 rfl
    have y2 : w1.cell? ⟨w.heap.size + 1, 2, none⟩ = some (.int .i64 z) := bY.cell 2 rfl
    go_wp2_with fail
    refine (sdr_any x y z _).mono ?_
    rw [HY.out]
    rintro e w2 ⟨rfl, hb⟩
    replace bX := bX.on hb
    replace bY := bY.on hb
    replace HB := Lib.hid (bel_end HB.out hb)
    clear hb x0 x1 x2 y0 y1 y2
    have x0 : w2.cell? ⟨w.heap.size, 0, none⟩ = some (.int .i64 c) := bX.cell 0 rfl
    have x1 : w2.cell? ⟨w.heap.size, 1, none⟩ = some (.int .i64 s) := bX.cell 1 rfl
    have x2 : w2.cell? ⟨w.heap.size, 2, none⟩ = some (.int .i64 h) := bX.cell 2 rfl
    have y0 : w2.cell? ⟨w.heap.size + 1, 0, none⟩ = some (.int .i64 x) := bY.cell 0 rfl
    have y1 : w2.cell? ⟨w.heap.size + 1, 1, none⟩ = some (.int .i64 y) := bY.cell 1 rfl
    have y2 : w2.cell? ⟨w.heap.size + 1, 2, none⟩ = some (.int .i64 z) := bY.cell 2 rfl
    go_wp2_with fail
    refine (lco_any c s h x y z O.out P.out _).mono ?_
    rintro e w3 ⟨rfl, hb⟩
    go_wp2
    go_ret2
    exact ⟨ret2i HT.out, bel_end HB.out hb⟩
end Go.Proofs.Ytcaekheghjnipaa
