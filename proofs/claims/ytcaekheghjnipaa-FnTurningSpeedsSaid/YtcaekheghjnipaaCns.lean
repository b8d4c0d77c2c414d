/- Contracts of CanCross and SineAt of the program. Contracts of CanCross and SineAt of the model. -/
import Derived.Test.YtcaekheghjnipaaRys
import Derived.Test.YtcaekheghjnipaaRayS
namespace Go.Proofs.Ytcaekheghjnipaa
open Go.ChangeShapes Go.WideShapes Go.ChangeAt Go.RowKit Go.Shelf Num
set_option linter.unusedVariables false

/-- the code of a ray at a knot -/
def rcod (zs ys : List Int) (src c s h k : Int) : Int := rcT (prfB zs ys) (dirB c s h) (hkB zs src) (hkB zs k)
/-- the scale of a ray, its cosine at a knot -/
def rA (ys : List Int) (src h : Int) : Int := h * ys.getD src.toNat 0
def rB (ys : List Int) (k c : Int) : Int := c * ys.getD k.toNat 0
def crB (ys : List Int) (src c h k : Int) : Bool := decide (rB ys k c < rA ys src h)
def sqN (ys : List Int) (src c h k : Int) : Int := rA ys src h * rA ys src h - rB ys k c * rB ys k c
def ccT (zs ys : List Int) (src c s h k : Int) : Bool × Int := if rcod zs ys src c s h k = 0 then (crB ys src c h k, 0) else (false, rcod zs ys src c s h k)
def snT (zs ys : List Int) (src c s h k : Int) : Int × Int × Int := if rcod zs ys src c s h k = 0 then (if crB ys src c h k then (rt (sqN ys src c h k), rtup (sqN ys src c h k), 0) else (0, 0, 5)) else (0, 0, rcod zs ys src c s h k)
theorem rcod_0 {zs ys : List Int} {src c s h k : Int} (e : rcod zs ys src c s h k = 0) : prfB zs ys = true ∧ DirOk c s h ∧ (∃ i : Nat, src = (i : Int) ∧ i < zs.length) ∧ (∃ j : Nat, k = (j : Int) ∧ j < zs.length) := by
  obtain ⟨h1, h2, h3, h4⟩ := rcT_0 e
  have g3 := hkB_t h3
  have g4 := hkB_t h4
  exact ⟨h1, dirB_t h2, ⟨src.toNat, by omega, by omega⟩, ⟨k.toNat, by omega, by omega⟩⟩
theorem rA_nat (ys : List Int) (i : Nat) (h : Int) : rA ys (i : Int) h = h * ys.getD i 0 := rfl
theorem rB_nat (ys : List Int) (k : Nat) (c : Int) : rB ys (k : Int) c = c * ys.getD k 0 := rfl
theorem res3 {t : Int × Int × Int} {a b c : Int} (h : t = (a, b, c)) : Ending.returned (.tuple #[.agg #[.int .i64 a, .int .i64 b], .int .i64 c]) = .returned (.tuple #[.agg #[.int .i64 t.1, .int .i64 t.2.1], .int .i64 t.2.2]) := by subst h; rfl
theorem resB {t : Bool × Int} {a : Bool} {c : Int} (h : t = (a, c)) : Ending.returned (.tuple #[.bool a, .int .i64 c]) = .returned (.tuple #[.bool t.1, .int .i64 t.2]) := by subst h; rfl

set_option maxRecDepth 100000 in
set_option maxHeartbeats 1000000 in
theorem icc_no (w : World) (a b : Option Addr) (ca cb : Nat) (zs ys : List Int) (src k c s h : Int) (q : Int) (hq : rcod zs ys src c s h k = q) (h0 : ¬ q = 0) (hp : Prof w w.heap.size a b zs ys) :
    Calls Try.prog 28 #[.agg #[.slice a zs.length ca, .slice b ys.length cb], .int .i64 src, .agg #[.int .i64 c, .int .i64 s, .int .i64 h], .int .i64 k] w fun e w' => e = .returned (.tuple #[.bool (ccT zs ys src c s h k).1, .int .i64 (ccT zs ys src c s h k).2]) ∧ Below w.heap.size w w' := by
  have HP := Lib.hid hp
  have HT : Hid (ccT zs ys src c s h k = (false, q)) := Lib.hid (by unfold ccT; rw [hq, if_neg h0])
  have K : Hid (∀ W : World, Below w.heap.size w W → Calls Try.prog 66 #[.agg #[.slice a zs.length ca, .slice b ys.length cb, .int .i64 src, .int .i64 c, .int .i64 s, .int .i64 h], .int .i64 k] W fun e w' => e = .returned (.int .i64 q) ∧ Below W.heap.size W w') := Lib.hid (fun W hb => by have := rer_any W a b ca cb zs ys src k c s h (HP.out.on hb); rwa [show rcT (prfB zs ys) (dirB c s h) (hkB zs src) (hkB zs k) = q from hq] at this)
  have hq0 : (q != 0) = true := by simpa using h0
  clear hq h0 hp
  go_enter Try.func28, Try.ntmps28
  go_wp2_with fail
  generalize hW : World.alloc _ _ = W
  have bT : Bk W (w.heap.size + 1 + 1) #[.slice a zs.length ca, .slice b ys.length cb, .int .i64 src, .int .i64 c, .int .i64 s, .int .i64 h] 88 := by rw [← hW]; repeat (first | exact Bk.new' (by simp) | refine Bk.alloc ?_ _)
  have HB : Hid (Below w.heap.size w W) := Lib.hid (by rw [← hW]; exact (by repeat (first | exact Below.refl _ _ | (refine Below.alloc ?_ (by simp <;> omega) _) | (refine Below.setCell ?_ (by simp <;> omega) _) | (refine Below.drew ?_) | (refine bel_drewN ?_ _))))
  clear hW
  (with_reducible refine Calls.mono (K.out _ HB.out) ?_)
  rintro e w1 ⟨rfl, hb⟩
  replace bT := bT.on hb
  replace HB := Lib.hid (bel_end HB.out hb)
  clear hb
  have t0 := bT.cell 0 rfl
  have t1 := bT.cell 1 rfl
  have t2 := bT.cell 2 rfl
  have t3 := bT.cell 3 rfl
  have t4 := bT.cell 4 rfl
  have t5 := bT.cell 5 rfl
  have tl := bT.lt
  go_wp2
  go_ret2
  exact ⟨resB HT.out, HB.out⟩

set_option maxRecDepth 100000 in
set_option maxHeartbeats 1000000 in
theorem icc_ok (w : World) (a b : Option Addr) (ca cb : Nat) (zs ys : List Int) (src k c s h : Int) (hq : rcod zs ys src c s h k = 0) (hp : Prof w w.heap.size a b zs ys) :
    Calls Try.prog 28 #[.agg #[.slice a zs.length ca, .slice b ys.length cb], .int .i64 src, .agg #[.int .i64 c, .int .i64 s, .int .i64 h], .int .i64 k] w fun e w' => e = .returned (.tuple #[.bool (ccT zs ys src c s h k).1, .int .i64 (ccT zs ys src c s h k).2]) ∧ Below w.heap.size w w' := by
  have HP := Lib.hid hp
  have HT : Hid (ccT zs ys src c s h k = (crB ys src c h k, 0)) := Lib.hid (by unfold ccT; rw [hq, if_pos rfl])
  obtain ⟨hv, od, ⟨i, rfl, hi⟩, ⟨j, rfl, hk⟩⟩ := rcod_0 hq
  have ho := Okp.of hv
  have K : Hid (∀ W : World, Below w.heap.size w W → Calls Try.prog 66 #[.agg #[.slice a zs.length ca, .slice b ys.length cb, .int .i64 (i : Int), .int .i64 c, .int .i64 s, .int .i64 h], .int .i64 (j : Int)] W fun e w' => e = .returned (.int .i64 0) ∧ Below W.heap.size W w') := Lib.hid (fun W hb => by have := rer_any W a b ca cb zs ys (i : Int) (j : Int) c s h (HP.out.on hb); rwa [show rcT (prfB zs ys) (dirB c s h) (hkB zs (i : Int)) (hkB zs (j : Int)) = 0 from hq] at this)
  have C : Hid (∀ W : World, Below w.heap.size w W → Calls Try.prog 67 #[.agg #[.slice a zs.length ca, .slice b ys.length cb, .int .i64 (i : Int), .int .i64 c, .int .i64 s, .int .i64 h], .int .i64 (j : Int)] W fun e w' => e = .returned (.bool (crB ys (i : Int) c h (j : Int))) ∧ Below W.heap.size W w') := Lib.hid (fun W hb => rcc_any W a b ca cb zs ys i j c s h (HP.out.on hb) ho hi hk od)
  obtain ⟨B, hB⟩ : ∃ x, crB ys (i : Int) c h (j : Int) = x := ⟨_, rfl⟩
  rw [hB] at C HT
  clear hB hq hv od ho hi hk hp
  go_enter Try.func28, Try.ntmps28
  go_wp2_with fail
  generalize hW : World.alloc _ _ = W
  have bT : Bk W (w.heap.size + 1 + 1) #[.slice a zs.length ca, .slice b ys.length cb, .int .i64 (i : Int), .int .i64 c, .int .i64 s, .int .i64 h] 88 := by rw [← hW]; repeat (first | exact Bk.new' (by simp) | refine Bk.alloc ?_ _)
  have HB : Hid (Below w.heap.size w W) := Lib.hid (by rw [← hW]; exact (by repeat (first | exact Below.refl _ _ | (refine Below.alloc ?_ (by simp <;> omega) _) | (refine Below.setCell ?_ (by simp <;> omega) _) | (refine Below.drew ?_) | (refine bel_drewN ?_ _))))
  clear hW
  (with_reducible refine Calls.mono (K.out _ HB.out) ?_)
  rintro e w1 ⟨rfl, hb⟩
  replace bT := bT.on hb
  replace HB := Lib.hid (bel_end HB.out hb)
  clear hb
  have t0 := bT.cell 0 rfl
  have t1 := bT.cell 1 rfl
  have t2 := bT.cell 2 rfl
  have t3 := bT.cell 3 rfl
  have t4 := bT.cell 4 rfl
  have t5 := bT.cell 5 rfl
  have tl := bT.lt
  go_wp2_with fail
  (with_reducible refine Calls.mono (C.out _ HB.out) ?_)
  rintro e w2 ⟨rfl, hb⟩
  go_wp2
  go_ret2
  exact ⟨resB HT.out, bel_end HB.out hb⟩

theorem icc_any (w : World) (a b : Option Addr) (ca cb : Nat) (zs ys : List Int) (src k c s h : Int) (hp : Prof w w.heap.size a b zs ys) :
    Calls Try.prog 28 #[.agg #[.slice a zs.length ca, .slice b ys.length cb], .int .i64 src, .agg #[.int .i64 c, .int .i64 s, .int .i64 h], .int .i64 k] w fun e w' => e = .returned (.tuple #[.bool (ccT zs ys src c s h k).1, .int .i64 (ccT zs ys src c s h k).2]) ∧ Below w.heap.size w w' := by
  by_cases hq : rcod zs ys src c s h k = 0
  · exact icc_ok w a b ca cb zs ys src k c s h hq hp
  · exact icc_no w a b ca cb zs ys src k c s h _ rfl hq hp

set_option maxRecDepth 100000 in
set_option maxHeartbeats 1000000 in
theorem isn_no (w : World) (a b : Option Addr) (ca cb : Nat) (zs ys : List Int) (src k c s h : Int) (q : Int) (hq : rcod zs ys src c s h k = q) (h0 : ¬ q = 0) (hp : Prof w w.heap.size a b zs ys) :
    Calls Try.prog 31 #[.agg #[.slice a zs.length ca, .slice b ys.length cb], .int .i64 src, .agg #[.int .i64 c, .int .i64 s, .int .i64 h], .int .i64 k] w fun e w' => e = .returned (.tuple #[.agg #[.int .i64 (snT zs ys src c s h k).1, .int .i64 (snT zs ys src c s h k).2.1], .int .i64 (snT zs ys src c s h k).2.2]) ∧ Below w.heap.size w w' := by
  have HP := Lib.hid hp
  have HT : Hid (snT zs ys src c s h k = (0, 0, q)) := Lib.hid (by unfold snT; rw [hq, if_neg h0])
  have K : Hid (∀ W : World, Below w.heap.size w W → Calls Try.prog 66 #[.agg #[.slice a zs.length ca, .slice b ys.length cb, .int .i64 src, .int .i64 c, .int .i64 s, .int .i64 h], .int .i64 k] W fun e w' => e = .returned (.int .i64 q) ∧ Below W.heap.size W w') := Lib.hid (fun W hb => by have := rer_any W a b ca cb zs ys src k c s h (HP.out.on hb); rwa [show rcT (prfB zs ys) (dirB c s h) (hkB zs src) (hkB zs k) = q from hq] at this)
  have hq0 : (q != 0) = true := by simpa using h0
  have hq1 : (q == 0) = false := by simpa using h0
  clear hq h0 hp
  go_enter Try.func31, Try.ntmps31
  go_wp2_with fail
  generalize hW : World.alloc _ _ = W
  have bR : Bk W (w.heap.size + 1 + 1) #[.int .i64 0, .int .i64 0] 47 := by rw [← hW]; repeat (first | exact Bk.new' (by simp) | refine Bk.alloc ?_ _)
  have bT : Bk W (w.heap.size + 1 + 1 + 1) #[.slice a zs.length ca, .slice b ys.length cb, .int .i64 src, .int .i64 c, .int .i64 s, .int .i64 h] 88 := by rw [← hW]; repeat (first | exact Bk.new' (by simp) | refine Bk.alloc ?_ _)
  have HB : Hid (Below w.heap.size w W) := Lib.hid (by rw [← hW]; exact (by repeat (first | exact Below.refl _ _ | (refine Below.alloc ?_ (by simp <;> omega) _) | (refine Below.setCell ?_ (by simp <;> omega) _) | (refine Below.drew ?_) | (refine bel_drewN ?_ _))))
  clear hW
  (with_reducible refine Calls.mono (K.out _ HB.out) ?_)
  rintro e w1 ⟨rfl, hb⟩
  replace bR := bR.on hb
  replace bT := bT.on hb
  replace HB := Lib.hid (bel_end HB.out hb)
  clear hb
  have r0 := bR.cell 0 rfl
  have r1 := bR.cell 1 rfl
  have f0 := bR.frozen 0
  have f1 := bR.frozen 1
  have rl := bR.lt
  have t0 := bT.cell 0 rfl
  have t1 := bT.cell 1 rfl
  have t2 := bT.cell 2 rfl
  have t3 := bT.cell 3 rfl
  have t4 := bT.cell 4 rfl
  have t5 := bT.cell 5 rfl
  have tl := bT.lt
  go_wp2
  exact bodyPost_ret (v := .tuple #[.agg #[.int .i64 0, .int .i64 0], .int .i64 q]) (by simp [results, Try.results31, go_sem, r0, r1]) rfl ⟨res3 HT.out, (HB.out.setCell (by simp; omega) _).setCell (by simp; omega) _⟩

set_option maxRecDepth 100000 in
set_option maxHeartbeats 2000000 in
theorem isn_ok (w : World) (a b : Option Addr) (ca cb : Nat) (zs ys : List Int) (src k c s h : Int) (hq : rcod zs ys src c s h k = 0) (hp : Prof w w.heap.size a b zs ys) :
    Calls Try.prog 31 #[.agg #[.slice a zs.length ca, .slice b ys.length cb], .int .i64 src, .agg #[.int .i64 c, .int .i64 s, .int .i64 h], .int .i64 k] w fun e w' => e = .returned (.tuple #[.agg #[.int .i64 (snT zs ys src c s h k).1, .int .i64 (snT zs ys src c s h k).2.1], .int .i64 (snT zs ys src c s h k).2.2]) ∧ Below w.heap.size w w' := by
  have HP := Lib.hid hp
  obtain ⟨hv, od, ⟨i, rfl, hi⟩, ⟨j, rfl, hk⟩⟩ := rcod_0 hq
  have ho := Okp.of hv
  have K : Hid (∀ W : World, Below w.heap.size w W → Calls Try.prog 66 #[.agg #[.slice a zs.length ca, .slice b ys.length cb, .int .i64 (i : Int), .int .i64 c, .int .i64 s, .int .i64 h], .int .i64 (j : Int)] W fun e w' => e = .returned (.int .i64 0) ∧ Below W.heap.size W w') := Lib.hid (fun W hb => by have := rer_any W a b ca cb zs ys (i : Int) (j : Int) c s h (HP.out.on hb); rwa [show rcT (prfB zs ys) (dirB c s h) (hkB zs (i : Int)) (hkB zs (j : Int)) = 0 from hq] at this)
  have q1 := mul_in (a := h) (b := ys.getD i 0) (A := 1000) (B := 1700000) (by have := od.h1; omega) (by have := od.h2; omega) (ho.sge i) (ho.shi i)
  have q2 := mul_in (a := c) (b := ys.getD j 0) (A := 1000) (B := 1700000) (by have := od.c1; omega) (by have := od.c2; have := od.h2; omega) (ho.sge j) (ho.shi j)
  have C : Hid (∀ W : World, Below w.heap.size w W → Calls Try.prog 67 #[.agg #[.slice a zs.length ca, .slice b ys.length cb, .int .i64 (i : Int), .int .i64 c, .int .i64 s, .int .i64 h], .int .i64 (j : Int)] W fun e w' => e = .returned (.bool (crB ys (i : Int) c h (j : Int))) ∧ Below W.heap.size W w') := Lib.hid (fun W hb => rcc_any W a b ca cb zs ys i j c s h (HP.out.on hb) ho hi hk od)
  cases hx : crB ys (i : Int) c h (j : Int)
  · have HT : Hid (snT zs ys (i : Int) c s h (j : Int) = (0, 0, 5)) := Lib.hid (by unfold snT; rw [hq, hx]; rfl)
    rw [hx] at C
    clear hx hq hv od ho hi hk hp q1 q2
    go_enter Try.func31, Try.ntmps31
    go_wp2_with fail
    generalize hW : World.alloc _ _ = W
    have bR : Bk W (w.heap.size + 1 + 1) #[.int .i64 0, .int .i64 0] 47 := by rw [← hW]; repeat (first | exact Bk.new' (by simp) | refine Bk.alloc ?_ _)
    have bT : Bk W (w.heap.size + 1 + 1 + 1) #[.slice a zs.length ca, .slice b ys.length cb, .int .i64 (i : Int), .int .i64 c, .int .i64 s, .int .i64 h] 88 := by rw [← hW]; repeat (first | exact Bk.new' (by simp) | refine Bk.alloc ?_ _)
    have HB : Hid (Below w.heap.size w W) := Lib.hid (by rw [← hW]; exact (by repeat (first | exact Below.refl _ _ | (refine Below.alloc ?_ (by simp <;> omega) _) | (refine Below.setCell ?_ (by simp <;> omega) _) | (refine Below.drew ?_) | (refine bel_drewN ?_ _))))
    clear hW
    (with_reducible refine Calls.mono (K.out _ HB.out) ?_)
    rintro e w1 ⟨rfl, hb⟩
    replace bR := bR.on hb
    replace bT := bT.on hb
    replace HB := Lib.hid (bel_end HB.out hb)
    clear hb
    have r0 := bR.cell 0 rfl
    have r1 := bR.cell 1 rfl
    have f0 := bR.frozen 0
    have f1 := bR.frozen 1
    have rl := bR.lt
    have t0 := bT.cell 0 rfl
    have t1 := bT.cell 1 rfl
    have t2 := bT.cell 2 rfl
    have t3 := bT.cell 3 rfl
    have t4 := bT.cell 4 rfl
    have t5 := bT.cell 5 rfl
    have tl := bT.lt
    go_wp2_with fail
    (with_reducible refine Calls.mono (C.out _ HB.out) ?_)
    rintro e w2 ⟨rfl, hb⟩
    replace bR := bR.on hb
    replace bT := bT.on hb
    replace HB := Lib.hid (bel_end HB.out hb)
    clear hb
    clear r0 r1 f0 f1 rl t0 t1 t2 t3 t4 t5 tl
    have r0 := bR.cell 0 rfl
    have r1 := bR.cell 1 rfl
    have f0 := bR.frozen 0
    have f1 := bR.frozen 1
    have rl := bR.lt
    have t0 := bT.cell 0 rfl
    have t1 := bT.cell 1 rfl
    have t2 := bT.cell 2 rfl
    have t3 := bT.cell 3 rfl
    have t4 := bT.cell 4 rfl
    have t5 := bT.cell 5 rfl
    have tl := bT.lt
    go_wp2
    exact bodyPost_ret (v := .tuple #[.agg #[.int .i64 0, .int .i64 0], .int .i64 5]) (by simp [results, Try.results31, go_sem, r0, r1]) rfl ⟨res3 HT.out, (HB.out.setCell (by simp; omega) _).setCell (by simp; omega) _⟩
  · have HT : Hid (snT zs ys (i : Int) c s h (j : Int) = (rt (sqN ys (i : Int) c h (j : Int)), rtup (sqN ys (i : Int) c h (j : Int)), 0)) := Lib.hid (by unfold snT; rw [hq, hx]; rfl)
    have SC : Hid (∀ W : World, Below w.heap.size w W → Calls Try.prog 69 #[.agg #[.slice a zs.length ca, .slice b ys.length cb, .int .i64 (i : Int), .int .i64 c, .int .i64 s, .int .i64 h], .int .i64 (j : Int)] W fun e w' => e = .returned (.agg #[.int .i64 (rt (sqN ys (i : Int) c h (j : Int))), .int .i64 (rtup (sqN ys (i : Int) c h (j : Int)))]) ∧ Below W.heap.size W w') := Lib.hid (fun W hb => rsn_any W a b ca cb zs ys i j c s h (HP.out.on hb) ho hi hk od (of_decide_eq_true hx))
    rw [hx] at C
    obtain ⟨X, hX⟩ : ∃ x, rt (sqN ys (i : Int) c h (j : Int)) = x := ⟨_, rfl⟩
    obtain ⟨Y, hY⟩ : ∃ x, rtup (sqN ys (i : Int) c h (j : Int)) = x := ⟨_, rfl⟩
    rw [hX, hY] at HT
    rw [hX, hY] at SC
    clear hx hq hv od ho hi hk hp q1 q2 hX hY
    go_enter Try.func31, Try.ntmps31
    go_wp2_with fail
    generalize hW : World.alloc _ _ = W
    have bR : Bk W (w.heap.size + 1 + 1) #[.int .i64 0, .int .i64 0] 47 := by rw [← hW]; repeat (first | exact Bk.new' (by simp) | refine Bk.alloc ?_ _)
    have bT : Bk W (w.heap.size + 1 + 1 + 1) #[.slice a zs.length ca, .slice b ys.length cb, .int .i64 (i : Int), .int .i64 c, .int .i64 s, .int .i64 h] 88 := by rw [← hW]; repeat (first | exact Bk.new' (by simp) | refine Bk.alloc ?_ _)
    have HB : Hid (Below w.heap.size w W) := Lib.hid (by rw [← hW]; exact (by repeat (first | exact Below.refl _ _ | (refine Below.alloc ?_ (by simp <;> omega) _) | (refine Below.setCell ?_ (by simp <;> omega) _) | (refine Below.drew ?_) | (refine bel_drewN ?_ _))))
    clear hW
    (with_reducible refine Calls.mono (K.out _ HB.out) ?_)
    rintro e w1 ⟨rfl, hb⟩
    replace bR := bR.on hb
    replace bT := bT.on hb
    replace HB := Lib.hid (bel_end HB.out hb)
    clear hb
    have r0 := bR.cell 0 rfl
    have r1 := bR.cell 1 rfl
    have f0 := bR.frozen 0
    have f1 := bR.frozen 1
    have rl := bR.lt
    have t0 := bT.cell 0 rfl
    have t1 := bT.cell 1 rfl
    have t2 := bT.cell 2 rfl
    have t3 := bT.cell 3 rfl
    have t4 := bT.cell 4 rfl
    have t5 := bT.cell 5 rfl
    have tl := bT.lt
    go_wp2_with fail
    (with_reducible refine Calls.mono (C.out _ HB.out) ?_)
    rintro e w2 ⟨rfl, hb⟩
    replace bR := bR.on hb
    replace bT := bT.on hb
    replace HB := Lib.hid (bel_end HB.out hb)
    clear hb
    clear r0 r1 f0 f1 rl t0 t1 t2 t3 t4 t5 tl
    have r0 := bR.cell 0 rfl
    have r1 := bR.cell 1 rfl
    have f0 := bR.frozen 0
    have f1 := bR.frozen 1
    have rl := bR.lt
    have t0 := bT.cell 0 rfl
    have t1 := bT.cell 1 rfl
    have t2 := bT.cell 2 rfl
    have t3 := bT.cell 3 rfl
    have t4 := bT.cell 4 rfl
    have t5 := bT.cell 5 rfl
    have tl := bT.lt
    go_wp2_with fail
    (with_reducible refine Calls.mono (SC.out _ HB.out) ?_)
    rintro e w3 ⟨rfl, hb⟩
    replace bR := bR.on hb
    replace bT := bT.on hb
    replace HB := Lib.hid (bel_end HB.out hb)
    clear hb
    clear r0 r1 f0 f1 rl t0 t1 t2 t3 t4 t5 tl
    have r0 := bR.cell 0 rfl
    have r1 := bR.cell 1 rfl
    have f0 := bR.frozen 0
    have f1 := bR.frozen 1
    have rl := bR.lt
    have t0 := bT.cell 0 rfl
    have t1 := bT.cell 1 rfl
    have t2 := bT.cell 2 rfl
    have t3 := bT.cell 3 rfl
    have t4 := bT.cell 4 rfl
    have t5 := bT.cell 5 rfl
    have tl := bT.lt
    go_wp2
    exact bodyPost_ret (v := .tuple #[.agg #[.int .i64 X, .int .i64 Y], .int .i64 0]) (by simp [results, Try.results31, go_sem, r0, r1]) rfl ⟨res3 HT.out, (HB.out.setCell (by simp; omega) _).setCell (by simp; omega) _⟩

theorem isn_any (w : World) (a b : Option Addr) (ca cb : Nat) (zs ys : List Int) (src k c s h : Int) (hp : Prof w w.heap.size a b zs ys) :
    Calls Try.prog 31 #[.agg #[.slice a zs.length ca, .slice b ys.length cb], .int .i64 src, .agg #[.int .i64 c, .int .i64 s, .int .i64 h], .int .i64 k] w fun e w' => e = .returned (.tuple #[.agg #[.int .i64 (snT zs ys src c s h k).1, .int .i64 (snT zs ys src c s h k).2.1], .int .i64 (snT zs ys src c s h k).2.2]) ∧ Below w.heap.size w w' := by
  by_cases hq : rcod zs ys src c s h k = 0
  · exact isn_ok w a b ca cb zs ys src k c s h hq hp
  · exact isn_no w a b ca cb zs ys src k c s h _ rfl hq hp
end Go.Proofs.Ytcaekheghjnipaa
namespace Go.Proofs.Ytcaekheghjnipaa
open Go.ChangeShapes Go.WideShapes Go.ChangeAt Go.RowKit Go.Shelf Num
set_option linter.unusedVariables false

set_option maxRecDepth 100000 in
set_option maxHeartbeats 1000000 in
theorem scc_no (w : World) (a b : Option Addr) (ca cb : Nat) (zs ys : List Int) (src k c s h : Int) (q : Int) (hq : rcod zs ys src c s h k = q) (h0 : ¬ q = 0) (hp : Prof w w.heap.size a b zs ys) :
    Calls Try.prog 26 #[.agg #[.slice a zs.length ca, .slice b ys.length cb], .int .i64 src, .agg #[.int .i64 c, .int .i64 s, .int .i64 h], .int .i64 k] w fun e w' => e = .returned (.tuple #[.bool (ccT zs ys src c s h k).1, .int .i64 (ccT zs ys src c s h k).2]) ∧ Below w.heap.size w w' := by
  have HP := Lib.hid hp
  have HT : Hid (ccT zs ys src c s h k = (false, q)) := Lib.hid (by unfold ccT; rw [hq, if_neg h0])
  have K : Hid (∀ W : World, Below w.heap.size w W → Calls Try.prog 63 #[.agg #[.slice a zs.length ca, .slice b ys.length cb], .int .i64 src, .agg #[.int .i64 c, .int .i64 s, .int .i64 h], .int .i64 k] W fun e w' => e = .returned (.int .i64 q) ∧ Below W.heap.size W w') := Lib.hid (fun W hb => by have := lrc_any W a b ca cb zs ys src k c s h (HP.out.on hb); rwa [show rcT (prfB zs ys) (dirB c s h) (hkB zs src) (hkB zs k) = q from hq] at this)
  have hq0 : (q != 0) = true := by simpa using h0
  clear hq h0 hp
  go_enter Try.func26, Try.ntmps26
  go_wp2_with fail
  generalize hW : World.alloc _ _ = W
  have bP : Bk W (w.heap.size) #[.slice a zs.length ca, .slice b ys.length cb] 42 := by rw [← hW]; repeat (first | exact Bk.new' (by simp) | refine Bk.alloc ?_ _)
  have bD : Bk W (w.heap.size + 1) #[.int .i64 c, .int .i64 s, .int .i64 h] 25 := by rw [← hW]; repeat (first | exact Bk.new' (by simp) | refine Bk.alloc ?_ _)
  have HB : Hid (Below w.heap.size w W) := Lib.hid (by rw [← hW]; exact (by repeat (first | exact Below.refl _ _ | (refine Below.alloc ?_ (by simp <;> omega) _) | (refine Below.setCell ?_ (by simp <;> omega) _) | (refine Below.drew ?_) | (refine bel_drewN ?_ _))))
  clear hW
  (with_reducible refine Calls.mono (K.out _ HB.out) ?_)
  rintro e w1 ⟨rfl, hb⟩
  replace bP := bP.on hb
  replace bD := bD.on hb
  replace HB := Lib.hid (bel_end HB.out hb)
  clear hb
  have p0 := bP.cell 0 rfl
  have p1 := bP.cell 1 rfl
  have pl := bP.lt
  have d0 := bD.cell 0 rfl
  have d1 := bD.cell 1 rfl
  have d2 := bD.cell 2 rfl
  have dl := bD.lt
  go_wp2
  go_ret2
  exact ⟨resB HT.out, HB.out⟩

set_option maxRecDepth 100000 in
set_option maxHeartbeats 1000000 in
theorem scc_ok (w : World) (a b : Option Addr) (ca cb : Nat) (zs ys : List Int) (src k c s h : Int) (hq : rcod zs ys src c s h k = 0) (hp : Prof w w.heap.size a b zs ys) :
    Calls Try.prog 26 #[.agg #[.slice a zs.length ca, .slice b ys.length cb], .int .i64 src, .agg #[.int .i64 c, .int .i64 s, .int .i64 h], .int .i64 k] w fun e w' => e = .returned (.tuple #[.bool (ccT zs ys src c s h k).1, .int .i64 (ccT zs ys src c s h k).2]) ∧ Below w.heap.size w w' := by
  have HP := Lib.hid hp
  have HT : Hid (ccT zs ys src c s h k = (crB ys src c h k, 0)) := Lib.hid (by unfold ccT; rw [hq, if_pos rfl])
  obtain ⟨hv, od, ⟨i, rfl, hi⟩, ⟨j, rfl, hk⟩⟩ := rcod_0 hq
  have ho := Okp.of hv
  have K : Hid (∀ W : World, Below w.heap.size w W → Calls Try.prog 63 #[.agg #[.slice a zs.length ca, .slice b ys.length cb], .int .i64 (i : Int), .agg #[.int .i64 c, .int .i64 s, .int .i64 h], .int .i64 (j : Int)] W fun e w' => e = .returned (.int .i64 0) ∧ Below W.heap.size W w') := Lib.hid (fun W hb => by have := lrc_any W a b ca cb zs ys (i : Int) (j : Int) c s h (HP.out.on hb); rwa [show rcT (prfB zs ys) (dirB c s h) (hkB zs (i : Int)) (hkB zs (j : Int)) = 0 from hq] at this)
  have q1 := mul_in (a := h) (b := ys.getD i 0) (A := 1000) (B := 1700000) (by have := od.h1; omega) (by have := od.h2; omega) (ho.sge i) (ho.shi i)
  have q2 := mul_in (a := c) (b := ys.getD j 0) (A := 1000) (B := 1700000) (by have := od.c1; omega) (by have := od.c2; have := od.h2; omega) (ho.sge j) (ho.shi j)
  obtain ⟨N, hN⟩ : ∃ n, (h * ys.getD i 0 - c * ys.getD j 0) * (h * ys.getD i 0 + c * ys.getD j 0) = n := ⟨_, rfl⟩
  have HC : Hid (crB ys (i : Int) c h (j : Int) = decide (0 < N)) := Lib.hid (by
    have := sq_pos q1.1 q2.1
    rw [hN] at this
    unfold crB
    rw [rA_nat, rB_nat, Bool.eq_iff_iff, decide_eq_true_eq, decide_eq_true_eq]
    exact this.symm)
  have C : Hid (∀ W : World, Below w.heap.size w W → Calls Try.prog 64 #[.agg #[.slice a zs.length ca, .slice b ys.length cb], .int .i64 (i : Int), .agg #[.int .i64 c, .int .i64 s, .int .i64 h], .int .i64 (j : Int)] W fun e w' => e = .returned (.int .i64 N) ∧ Below W.heap.size W w') := Lib.hid (fun W hb => by have := lsq_any W a b ca cb zs ys i j c s h (HP.out.on hb) ho hi hk od; rwa [hN] at this)
  rw [HC.out] at HT
  clear hN hq hv od ho hi hk hp HC q1 q2
  go_enter Try.func26, Try.ntmps26
  go_wp2_with fail
  generalize hW : World.alloc _ _ = W
  have bP : Bk W (w.heap.size) #[.slice a zs.length ca, .slice b ys.length cb] 42 := by rw [← hW]; repeat (first | exact Bk.new' (by simp) | refine Bk.alloc ?_ _)
  have bD : Bk W (w.heap.size + 1) #[.int .i64 c, .int .i64 s, .int .i64 h] 25 := by rw [← hW]; repeat (first | exact Bk.new' (by simp) | refine Bk.alloc ?_ _)
  have HB : Hid (Below w.heap.size w W) := Lib.hid (by rw [← hW]; exact (by repeat (first | exact Below.refl _ _ | (refine Below.alloc ?_ (by simp <;> omega) _) | (refine Below.setCell ?_ (by simp <;> omega) _) | (refine Below.drew ?_) | (refine bel_drewN ?_ _))))
  clear hW
  (with_reducible refine Calls.mono (K.out _ HB.out) ?_)
  rintro e w1 ⟨rfl, hb⟩
  replace bP := bP.on hb
  replace bD := bD.on hb
  replace HB := Lib.hid (bel_end HB.out hb)
  clear hb
  have p0 := bP.cell 0 rfl
  have p1 := bP.cell 1 rfl
  have pl := bP.lt
  have d0 := bD.cell 0 rfl
  have d1 := bD.cell 1 rfl
  have d2 := bD.cell 2 rfl
  have dl := bD.lt
  go_wp2_with fail
  (with_reducible refine Calls.mono (C.out _ HB.out) ?_)
  rintro e w2 ⟨rfl, hb⟩
  by_cases hn : 0 < N
  · have HE : Hid (decide (0 < N) = true) := Lib.hid (decide_eq_true hn)
    go_wp2
    go_ret2
    exact ⟨resB (by first | (rw [HT.out, HE.out]; done) | exact HT.out), bel_end HB.out hb⟩
  · have HE : Hid (decide (0 < N) = false) := Lib.hid (decide_eq_false hn)
    go_wp2
    go_ret2
    exact ⟨resB (by first | (rw [HT.out, HE.out]; done) | exact HT.out), bel_end HB.out hb⟩

theorem scc_any (w : World) (a b : Option Addr) (ca cb : Nat) (zs ys : List Int) (src k c s h : Int) (hp : Prof w w.heap.size a b zs ys) :
    Calls Try.prog 26 #[.agg #[.slice a zs.length ca, .slice b ys.length cb], .int .i64 src, .agg #[.int .i64 c, .int .i64 s, .int .i64 h], .int .i64 k] w fun e w' => e = .returned (.tuple #[.bool (ccT zs ys src c s h k).1, .int .i64 (ccT zs ys src c s h k).2]) ∧ Below w.heap.size w w' := by
  by_cases hq : rcod zs ys src c s h k = 0
  · exact scc_ok w a b ca cb zs ys src k c s h hq hp
  · exact scc_no w a b ca cb zs ys src k c s h _ rfl hq hp

set_option maxRecDepth 100000 in
set_option maxHeartbeats 1000000 in
theorem ssn_no (w : World) (a b : Option Addr) (ca cb : Nat) (zs ys : List Int) (src k c s h : Int) (q : Int) (hq : rcod zs ys src c s h k = q) (h0 : ¬ q = 0) (hp : Prof w w.heap.size a b zs ys) :
    Calls Try.prog 30 #[.agg #[.slice a zs.length ca, .slice b ys.length cb], .int .i64 src, .agg #[.int .i64 c, .int .i64 s, .int .i64 h], .int .i64 k] w fun e w' => e = .returned (.tuple #[.agg #[.int .i64 (snT zs ys src c s h k).1, .int .i64 (snT zs ys src c s h k).2.1], .int .i64 (snT zs ys src c s h k).2.2]) ∧ Below w.heap.size w w' := by
  have HP := Lib.hid hp
  have HT : Hid (snT zs ys src c s h k = (0, 0, q)) := Lib.hid (by unfold snT; rw [hq, if_neg h0])
  have K : Hid (∀ W : World, Below w.heap.size w W → Calls Try.prog 63 #[.agg #[.slice a zs.length ca, .slice b ys.length cb], .int .i64 src, .agg #[.int .i64 c, .int .i64 s, .int .i64 h], .int .i64 k] W fun e w' => e = .returned (.int .i64 q) ∧ Below W.heap.size W w') := Lib.hid (fun W hb => by have := lrc_any W a b ca cb zs ys src k c s h (HP.out.on hb); rwa [show rcT (prfB zs ys) (dirB c s h) (hkB zs src) (hkB zs k) = q from hq] at this)
  have hq0 : (q != 0) = true := by simpa using h0
  have hq1 : (q == 0) = false := by simpa using h0
  clear hq h0 hp
  go_enter Try.func30, Try.ntmps30
  go_wp2_with fail
  generalize hW : World.alloc _ _ = W
  have bR : Bk W (w.heap.size + 1 + 1) #[.int .i64 0, .int .i64 0] 47 := by rw [← hW]; repeat (first | exact Bk.new' (by simp) | refine Bk.alloc ?_ _)
  have bP : Bk W (w.heap.size) #[.slice a zs.length ca, .slice b ys.length cb] 42 := by rw [← hW]; repeat (first | exact Bk.new' (by simp) | refine Bk.alloc ?_ _)
  have bD : Bk W (w.heap.size + 1) #[.int .i64 c, .int .i64 s, .int .i64 h] 25 := by rw [← hW]; repeat (first | exact Bk.new' (by simp) | refine Bk.alloc ?_ _)
  have HB : Hid (Below w.heap.size w W) := Lib.hid (by rw [← hW]; exact (by repeat (first | exact Below.refl _ _ | (refine Below.alloc ?_ (by simp <;> omega) _) | (refine Below.setCell ?_ (by simp <;> omega) _) | (refine Below.drew ?_) | (refine bel_drewN ?_ _))))
  clear hW
  (with_reducible refine Calls.mono (K.out _ HB.out) ?_)
  rintro e w1 ⟨rfl, hb⟩
  replace bR := bR.on hb
  replace bP := bP.on hb
  replace bD := bD.on hb
  replace HB := Lib.hid (bel_end HB.out hb)
  clear hb
  have r0 := bR.cell 0 rfl
  have r1 := bR.cell 1 rfl
  have f0 := bR.frozen 0
  have f1 := bR.frozen 1
  have rl := bR.lt
  have p0 := bP.cell 0 rfl
  have p1 := bP.cell 1 rfl
  have pl := bP.lt
  have d0 := bD.cell 0 rfl
  have d1 := bD.cell 1 rfl
  have d2 := bD.cell 2 rfl
  have dl := bD.lt
  go_wp2
  exact bodyPost_ret (v := .tuple #[.agg #[.int .i64 0, .int .i64 0], .int .i64 q]) (by simp [results, Try.results30, go_sem, r0, r1]) rfl ⟨res3 HT.out, (HB.out.setCell (by simp; omega) _).setCell (by simp; omega) _⟩

set_option maxRecDepth 100000 in
set_option maxHeartbeats 2000000 in
theorem ssn_ok (w : World) (a b : Option Addr) (ca cb : Nat) (zs ys : List Int) (src k c s h : Int) (hq : rcod zs ys src c s h k = 0) (hp : Prof w w.heap.size a b zs ys) :
    Calls Try.prog 30 #[.agg #[.slice a zs.length ca, .slice b ys.length cb], .int .i64 src, .agg #[.int .i64 c, .int .i64 s, .int .i64 h], .int .i64 k] w fun e w' => e = .returned (.tuple #[.agg #[.int .i64 (snT zs ys src c s h k).1, .int .i64 (snT zs ys src c s h k).2.1], .int .i64 (snT zs ys src c s h k).2.2]) ∧ Below w.heap.size w w' := by
  have HP := Lib.hid hp
  obtain ⟨hv, od, ⟨i, rfl, hi⟩, ⟨j, rfl, hk⟩⟩ := rcod_0 hq
  have ho := Okp.of hv
  have K : Hid (∀ W : World, Below w.heap.size w W → Calls Try.prog 63 #[.agg #[.slice a zs.length ca, .slice b ys.length cb], .int .i64 (i : Int), .agg #[.int .i64 c, .int .i64 s, .int .i64 h], .int .i64 (j : Int)] W fun e w' => e = .returned (.int .i64 0) ∧ Below W.heap.size W w') := Lib.hid (fun W hb => by have := lrc_any W a b ca cb zs ys (i : Int) (j : Int) c s h (HP.out.on hb); rwa [show rcT (prfB zs ys) (dirB c s h) (hkB zs (i : Int)) (hkB zs (j : Int)) = 0 from hq] at this)
  have q1 := mul_in (a := h) (b := ys.getD i 0) (A := 1000) (B := 1700000) (by have := od.h1; omega) (by have := od.h2; omega) (ho.sge i) (ho.shi i)
  have q2 := mul_in (a := c) (b := ys.getD j 0) (A := 1000) (B := 1700000) (by have := od.c1; omega) (by have := od.c2; have := od.h2; omega) (ho.sge j) (ho.shi j)
  obtain ⟨N, hN⟩ : ∃ n, (h * ys.getD i 0 - c * ys.getD j 0) * (h * ys.getD i 0 + c * ys.getD j 0) = n := ⟨_, rfl⟩
  have HC : Hid (crB ys (i : Int) c h (j : Int) = decide (0 < N)) := Lib.hid (by
    have := sq_pos q1.1 q2.1
    rw [hN] at this
    unfold crB
    rw [rA_nat, rB_nat, Bool.eq_iff_iff, decide_eq_true_eq, decide_eq_true_eq]
    exact this.symm)
  have C : Hid (∀ W : World, Below w.heap.size w W → Calls Try.prog 64 #[.agg #[.slice a zs.length ca, .slice b ys.length cb], .int .i64 (i : Int), .agg #[.int .i64 c, .int .i64 s, .int .i64 h], .int .i64 (j : Int)] W fun e w' => e = .returned (.int .i64 N) ∧ Below W.heap.size W w') := Lib.hid (fun W hb => by have := lsq_any W a b ca cb zs ys i j c s h (HP.out.on hb) ho hi hk od; rwa [hN] at this)
  cases hx : crB ys (i : Int) c h (j : Int)
  · have HT : Hid (snT zs ys (i : Int) c s h (j : Int) = (0, 0, 5)) := Lib.hid (by unfold snT; rw [hq, hx]; rfl)
    have hn : ¬ 0 < N := by
      have := HC.out
      rw [hx] at this
      exact of_decide_eq_false this.symm
    have hn2 : N ≤ 0 := by omega
    clear HC hN
    clear hx hq hv od ho hi hk hp q1 q2
    go_enter Try.func30, Try.ntmps30
    go_wp2_with fail
    generalize hW : World.alloc _ _ = W
    have bR : Bk W (w.heap.size + 1 + 1) #[.int .i64 0, .int .i64 0] 47 := by rw [← hW]; repeat (first | exact Bk.new' (by simp) | refine Bk.alloc ?_ _)
    have bP : Bk W (w.heap.size) #[.slice a zs.length ca, .slice b ys.length cb] 42 := by rw [← hW]; repeat (first | exact Bk.new' (by simp) | refine Bk.alloc ?_ _)
    have bD : Bk W (w.heap.size + 1) #[.int .i64 c, .int .i64 s, .int .i64 h] 25 := by rw [← hW]; repeat (first | exact Bk.new' (by simp) | refine Bk.alloc ?_ _)
    have HB : Hid (Below w.heap.size w W) := Lib.hid (by rw [← hW]; exact (by repeat (first | exact Below.refl _ _ | (refine Below.alloc ?_ (by simp <;> omega) _) | (refine Below.setCell ?_ (by simp <;> omega) _) | (refine Below.drew ?_) | (refine bel_drewN ?_ _))))
    clear hW
    (with_reducible refine Calls.mono (K.out _ HB.out) ?_)
    rintro e w1 ⟨rfl, hb⟩
    replace bR := bR.on hb
    replace bP := bP.on hb
    replace bD := bD.on hb
    replace HB := Lib.hid (bel_end HB.out hb)
    clear hb
    have r0 := bR.cell 0 rfl
    have r1 := bR.cell 1 rfl
    have f0 := bR.frozen 0
    have f1 := bR.frozen 1
    have rl := bR.lt
    have p0 := bP.cell 0 rfl
    have p1 := bP.cell 1 rfl
    have pl := bP.lt
    have d0 := bD.cell 0 rfl
    have d1 := bD.cell 1 rfl
    have d2 := bD.cell 2 rfl
    have dl := bD.lt
    go_wp2_with fail
    (with_reducible refine Calls.mono (C.out _ HB.out) ?_)
    rintro e w2 ⟨rfl, hb⟩
    replace bR := bR.on hb
    replace bP := bP.on hb
    replace bD := bD.on hb
    replace HB := Lib.hid (bel_end HB.out hb)
    clear hb
    clear r0 r1 f0 f1 rl p0 p1 pl d0 d1 d2 dl
    have r0 := bR.cell 0 rfl
    have r1 := bR.cell 1 rfl
    have f0 := bR.frozen 0
    have f1 := bR.frozen 1
    have rl := bR.lt
    have p0 := bP.cell 0 rfl
    have p1 := bP.cell 1 rfl
    have pl := bP.lt
    have d0 := bD.cell 0 rfl
    have d1 := bD.cell 1 rfl
    have d2 := bD.cell 2 rfl
    have dl := bD.lt
    go_wp2
    exact bodyPost_ret (v := .tuple #[.agg #[.int .i64 0, .int .i64 0], .int .i64 5]) (by simp [results, Try.results30, go_sem, r0, r1]) rfl ⟨res3 HT.out, (HB.out.setCell (by simp; omega) _).setCell (by simp; omega) _⟩
  · have HT : Hid (snT zs ys (i : Int) c s h (j : Int) = (rt (sqN ys (i : Int) c h (j : Int)), rtup (sqN ys (i : Int) c h (j : Int)), 0)) := Lib.hid (by unfold snT; rw [hq, hx]; rfl)
    have SC : Hid (∀ W : World, Below w.heap.size w W → Calls Try.prog 68 #[.agg #[.slice a zs.length ca, .slice b ys.length cb], .int .i64 (i : Int), .agg #[.int .i64 c, .int .i64 s, .int .i64 h], .int .i64 (j : Int)] W fun e w' => e = .returned (.agg #[.int .i64 (rt (sqN ys (i : Int) c h (j : Int))), .int .i64 (rtup (sqN ys (i : Int) c h (j : Int)))]) ∧ Below W.heap.size W w') := Lib.hid (fun W hb => lsn_any W a b ca cb zs ys i j c s h (HP.out.on hb) ho hi hk od (of_decide_eq_true hx))
    have hn : 0 < N := by
      have := HC.out
      rw [hx] at this
      exact of_decide_eq_true this.symm
    have hn2 : ¬ N ≤ 0 := by omega
    clear HC hN
    obtain ⟨X, hX⟩ : ∃ x, rt (sqN ys (i : Int) c h (j : Int)) = x := ⟨_, rfl⟩
    obtain ⟨Y, hY⟩ : ∃ x, rtup (sqN ys (i : Int) c h (j : Int)) = x := ⟨_, rfl⟩
    rw [hX, hY] at HT
    rw [hX, hY] at SC
    clear hx hq hv od ho hi hk hp q1 q2 hX hY
    go_enter Try.func30, Try.ntmps30
    go_wp2_with fail
    generalize hW : World.alloc _ _ = W
    have bR : Bk W (w.heap.size + 1 + 1) #[.int .i64 0, .int .i64 0] 47 := by rw [← hW]; repeat (first | exact Bk.new' (by simp) | refine Bk.alloc ?_ _)
    have bP : Bk W (w.heap.size) #[.slice a zs.length ca, .slice b ys.length cb] 42 := by rw [← hW]; repeat (first | exact Bk.new' (by simp) | refine Bk.alloc ?_ _)
    have bD : Bk W (w.heap.size + 1) #[.int .i64 c, .int .i64 s, .int .i64 h] 25 := by rw [← hW]; repeat (first | exact Bk.new' (by simp) | refine Bk.alloc ?_ _)
    have HB : Hid (Below w.heap.size w W) := Lib.hid (by rw [← hW]; exact (by repeat (first | exact Below.refl _ _ | (refine Below.alloc ?_ (by simp <;> omega) _) | (refine Below.setCell ?_ (by simp <;> omega) _) | (refine Below.drew ?_) | (refine bel_drewN ?_ _))))
    clear hW
    (with_reducible refine Calls.mono (K.out _ HB.out) ?_)
    rintro e w1 ⟨rfl, hb⟩
    replace bR := bR.on hb
    replace bP := bP.on hb
    replace bD := bD.on hb
    replace HB := Lib.hid (bel_end HB.out hb)
    clear hb
    have r0 := bR.cell 0 rfl
    have r1 := bR.cell 1 rfl
    have f0 := bR.frozen 0
    have f1 := bR.frozen 1
    have rl := bR.lt
    have p0 := bP.cell 0 rfl
    have p1 := bP.cell 1 rfl
    have pl := bP.lt
    have d0 := bD.cell 0 rfl
    have d1 := bD.cell 1 rfl
    have d2 := bD.cell 2 rfl
    have dl := bD.lt
    go_wp2_with fail
    (with_reducible refine Calls.mono (C.out _ HB.out) ?_)
    rintro e w2 ⟨rfl, hb⟩
    replace bR := bR.on hb
    replace bP := bP.on hb
    replace bD := bD.on hb
    replace HB := Lib.hid (bel_end HB.out hb)
    clear hb
    clear r0 r1 f0 f1 rl p0 p1 pl d0 d1 d2 dl
    have r0 := bR.cell 0 rfl
    have r1 := bR.cell 1 rfl
    have f0 := bR.frozen 0
    have f1 := bR.frozen 1
    have rl := bR.lt
    have p0 := bP.cell 0 rfl
    have p1 := bP.cell 1 rfl
    have pl := bP.lt
    have d0 := bD.cell 0 rfl
    have d1 := bD.cell 1 rfl
    have d2 := bD.cell 2 rfl
    have dl := bD.lt
    go_wp2_with fail
    (with_reducible refine Calls.mono (SC.out _ HB.out) ?_)
    rintro e w3 ⟨rfl, hb⟩
    replace bR := bR.on hb
    replace bP := bP.on hb
    replace bD := bD.on hb
    replace HB := Lib.hid (bel_end HB.out hb)
    clear hb
    clear r0 r1 f0 f1 rl p0 p1 pl d0 d1 d2 dl
    have r0 := bR.cell 0 rfl
    have r1 := bR.cell 1 rfl
    have f0 := bR.frozen 0
    have f1 := bR.frozen 1
    have rl := bR.lt
    have p0 := bP.cell 0 rfl
    have p1 := bP.cell 1 rfl
    have pl := bP.lt
    have d0 := bD.cell 0 rfl
    have d1 := bD.cell 1 rfl
    have d2 := bD.cell 2 rfl
    have dl := bD.lt
    go_wp2
    exact bodyPost_ret (v := .tuple #[.agg #[.int .i64 X, .int .i64 Y], .int .i64 0]) (by simp [results, Try.results30, go_sem, r0, r1]) rfl ⟨res3 HT.out, (HB.out.setCell (by simp; omega) _).setCell (by simp; omega) _⟩

theorem ssn_any (w : World) (a b : Option Addr) (ca cb : Nat) (zs ys : List Int) (src k c s h : Int) (hp : Prof w w.heap.size a b zs ys) :
    Calls Try.prog 30 #[.agg #[.slice a zs.length ca, .slice b ys.length cb], .int .i64 src, .agg #[.int .i64 c, .int .i64 s, .int .i64 h], .int .i64 k] w fun e w' => e = .returned (.tuple #[.agg #[.int .i64 (snT zs ys src c s h k).1, .int .i64 (snT zs ys src c s h k).2.1], .int .i64 (snT zs ys src c s h k).2.2]) ∧ Below w.heap.size w w' := by
  by_cases hq : rcod zs ys src c s h k = 0
  · exact ssn_ok w a b ca cb zs ys src k c s h hq hp
  · exact ssn_no w a b ca cb zs ys src k c s h _ rfl hq hp
end Go.Proofs.Ytcaekheghjnipaa
