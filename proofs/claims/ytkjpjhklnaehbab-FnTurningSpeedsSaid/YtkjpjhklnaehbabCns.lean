/- Contracts of CanCross and SineAt of the program. Contracts of CanCross and SineAt of the model. -/
import Derived.Test.YtkjpjhklnaehbabRys
import Derived.Test.YtkjpjhklnaehbabRayS
namespace Go.Proofs.Ytkjpjhklnaehbab
open Go.ChangeShapes Go.WideShapes Go.ChangeAt Go.RowKit Go.Shelf Num
set_option linter.unusedVariables false

/-- the code of a ray at a knot -/
def rcod (zs ys : List Int) (src c s h k : Int) : Int := rcT (prfB zs ys) (dirB c s h) (hkB zs src) (hkB zs k)
/-- the scale of a ray, its cosine at a knot -/
def rA (ys : List Int) (src h : Int) : Int := h * ys.getD src.toNat 0
def rB (ys : List Int) (k c : Int) : Int := c * ys.getD k.toNat 0
def crB (ys : List Int) (src c h k : Int) : Bool := decide (rB ys k c < rA ys src h)
def sqN (ys : List Int) (src c h k : Int) : Int := rA ys src h * rA ys src h - rB ys k c * rB ys k c
def ccT (zs ys : List Int) (src c s h k : Int) : Bool × Int := if rcod zs ys src c s h k = 0 then (crB ys src c h k, 0) else (false, rcod zs ys src c s h k)
def snT (zs ys : List Int) (src c s h k : Int) : Int × Int × Int := if rcod zs ys src c s h k = 0 then (if crB ys src c h k then (rt (sqN ys src c h k), rtup (sqN ys src c h k), 0) else (0, 0, 5)) else (0, 0, rcod zs ys src c s h k)
theorem rcod_0 {zs ys : List Int} {src c s h k : Int} (e : rcod zs ys src c s h k = 0) : prfB zs ys = true ∧ DirOk c s h ∧ (∃ i : Nat, src = (i : Int) ∧ i < zs.length) ∧ (∃ j : Nat, k = (j : Int) ∧ j < zs.length) := by
  obtain ⟨h1, h2, h3, h4⟩ := rcT_0 e
  have g3 := hkB_t h3
  have g4 := hkB_t h4
  exact ⟨h1, dirB_t h2, ⟨src.toNat, by omega, by omega⟩, ⟨k.toNat, by omega, by omega⟩⟩
theorem rA_nat (ys : List Int) (i : Nat) (h : Int) : rA ys (i : Int) h = h * ys.getD i 0 := rfl
theorem rB_nat (ys : List Int) (k : Nat) (c : Int) : rB ys (k : Int) c = c * ys.getD k 0 := rfl
theorem res3 {t : Int × Int × Int} {a b c : Int} (h : t = (a, b, c)) : Ending.returned (.tuple #[.agg #[.int .i64 a, .int .i64 b], .int .i64 c]) = .returned (.tuple #[.agg #[.int .i64 t.1, .int .i64 t.2.1], .int .i64 t.2.2]) := by subst h; rfl
theorem resB {t : Bool × Int} {a : Bool} {c : Int} (h : t = (a, c)) : Ending.returned (.tuple #[.bool a, .int .i64 c]) = .returned (.tuple #[.bool t.1, .int .i64 t.2]) := by subst h; rfl

set_option maxRecDepth 100000 in
set_option maxHeartbeats 1000000 in
theorem icc_no (w : World) (a b : Option Addr) (ca cb : Nat) (zs ys : List Int) (src k c s h : Int) (q : Int) (hq : rcod zs ys src c s h k = q) (h0 : ¬ q = 0) (hp : Prof w w.heap.size a b zs ys) :
    Calls Try.prog 18 #[.agg #[.slice a zs.length ca, .slice b ys.length cb], .int .i64 src, .agg #[.int .i64 c, .int .i64 s, .int .i64 h], .int .i64 k] w fun e w' => e = .returned (.tuple #[.bool (ccT zs ys src c s h k).1, .int .i64 (ccT zs ys src c s h k).2]) ∧ Below w.heap.size w w' := by
  have HP := Lib.hid hp
  have HT : Hid (ccT zs ys src c s h k = (false, q)) := Lib.hid (by unfold ccT; rw [hq, if_neg h0])
  have K : Hid (∀ W : World, Below w.heap.size w W → Calls Try.prog 27 #[.agg #[.slice a zs.length ca, .slice b ys.length cb, .int .i64 src, .int .i64 c, .int .i64 s, .int .i64 h], .int .i64 k] W fun e w' => e = .returned (.int .i64 q) ∧ Below W.heap.size W w') := Lib.hid (fun W hb => by have := rer_any W a b ca cb zs ys src k c s h (HP.out.on hb); rwa [show rcT (prfB zs ys) (dirB c s h) (hkB zs src) (hkB zs k) = q from hq] at this)
  have hq0 : (q != 0) = true := by simpa using h0
  clear hq h0 hp
  go_enter Try.func18, Try.ntmps18
  go_wp2_with fail
  generalize hW : World.alloc _ _ = W
  have bT : Bk W (w.heap.size + 1 + 1) #[.slice a zs.length ca, .slice b ys.length cb, .int .i64 src, .int .i64 c, .int .i64 s, .int .i64 h] 60 := by rw [← hW]; repeat (first | exact Bk.new' (by simp) | refine Bk.alloc ?_ _)
  have HB : Hid (Below w.heap.size w W) := Lib.hid (by rw [← hW]; exact (by repeat (first | exact Below.refl _ _ | (refine Below.alloc ?_ (by simp <;> omega) _) | (refine Below.setCell ?_ (by simp <;> omega) _) | (refine Below.drew ?_) | (refine bel_drewN ?_ _))))
  clear hW
  (with_reducible refine Calls.mono (K.out _ HB.out) ?_)
  rintro e w1 ⟨rfl, hb⟩
  replace bT := bT.on hb
  replace HB := Lib.hid (bel_end HB.out hb)
  clear hb
  have t0 := bT.cell 0 rfl
  have t1 := bT.cell 1 rfl
  have t2 := bT.cell 2 rfl
  have t3 := bT.cell 3 rfl
  have t4 := bT.cell 4 rfl
  have t5 := bT.cell 5 rfl
  have tl := bT.lt
  go_wp2
  go_ret2
  exact ⟨resB HT.out, HB.out⟩

set_option maxRecDepth 100000 in
set_option maxHeartbeats 1000000 in
theorem icc_ok (w : World) (a b : Option Addr) (ca cb : Nat) (zs ys : List Int) (src k c s h : Int) (hq : rcod zs ys src c s h k = 0) (hp : Prof w w.heap.size a b zs ys) :
    Calls Try.prog 18 #[.agg #[.slice a zs.length ca, .slice b ys.length cb], .int .i64 src, .agg #[.int .i64 c, .int .i64 s, .int .i64 h], .int .i64 k] w fun e w' => e = .returned (.tuple #[.bool (ccT zs ys src c s h k).1, .int .i64 (ccT zs ys src c s h k).2]) ∧ Below w.heap.size w w' := by
  have HP := Lib.hid hp
  have HT : Hid (ccT zs ys src c s h k = (crB ys src c h k, 0)) := Lib.hid (by unfold ccT; rw [hq, if_pos rfl])
  obtain ⟨hv, od, ⟨i, rfl, hi⟩, ⟨j, rfl, hk⟩⟩ := rcod_0 hq
  have ho := Okp.of hv
  have K : Hid (∀ W : World, Below w.heap.size w W → Calls Try.prog 27 #[.agg #[.slice a zs.length ca, .slice b ys.length cb, .int .i64 (i : Int), .int .i64 c, .int .i64 s, .int .i64 h], .int .i64 (j : Int)] W fun e w' => e = .returned (.int .i64 0) ∧ Below W.heap.size W w') := Lib.hid (fun W hb => by have := rer_any W a b ca cb zs ys (i : Int) (j : Int) c s h (HP.out.on hb); rwa [show rcT (prfB zs ys) (dirB c s h) (hkB zs (i : Int)) (hkB zs (j : Int)) = 0 from hq] at this)
  have C : Hid (∀ W : World, Below w.heap.size w W → Calls Try.prog 34 #[.agg #[.slice a zs.length ca, .slice b ys.length cb, .int .i64 (i : Int), .int .i64 c, .int .i64 s, .int .i64 h], .int .i64 (j : Int)] W fun e w' => e = .returned (.bool (crB ys (i : Int) c h (j : Int))) ∧ Below W.heap.size W w') := Lib.hid (fun W hb => rcc_any W a b ca cb zs ys i j c s h (HP.out.on hb) ho hi hk od)
  obtain ⟨B, hB⟩ : ∃ x, crB ys (i : Int) c h (j : Int) = x := ⟨_, rfl⟩
  rw [hB] at C HT
  clear hB hq hv od ho hi hk hp
  go_enter Try.func18, Try.ntmps18
  go_wp2_with fail
  generalize hW : World.alloc _ _ = W
  have bT : Bk W (w.heap.size + 1 + 1) #[.slice a zs.length ca, .slice b ys.length cb, .int .i64 (i : Int), .int .i64 c, .int .i64 s, .int .i64 h] 60 := by rw [← hW]; repeat (first | exact Bk.new' (by simp) | refine Bk.alloc ?_ _)
  have HB : Hid (Below w.heap.size w W) := Lib.hid (by rw [← hW]; exact (by repeat (first | exact Below.refl _ _ | (refine Below.alloc ?_ (by simp <;> omega) _) | (refine Below.setCell ?_ (by simp <;> omega) _) | (refine Below.drew ?_) | (refine bel_drewN ?_ _))))
  clear hW
  (with_reducible refine Calls.mono (K.out _ HB.out) ?_)
  rintro e w1 ⟨rfl, hb⟩
  replace bT := bT.on hb
  replace HB := Lib.hid (bel_end HB.out hb)
  clear hb
  have t0 := bT.cell 0 rfl
  have t1 := bT.cell 1 rfl
  have t2 := bT.cell 2 rfl
  have t3 := bT.cell 3 rfl
  have t4 := bT.cell 4 rfl
  have t5 := bT.cell 5 rfl
  have tl := bT.lt
  go_wp2_with fail
  (with_reducible refine Calls.mono (C.out _ HB.out) ?_)
  rintro e w2 ⟨rfl, hb⟩
  go_wp2
  go_ret2
  exact ⟨resB HT.out, bel_end HB.out hb⟩

theorem icc_any (w : World) (a b : Option Addr) (ca cb : Nat) (zs ys : List Int) (src k c s h : Int) (hp : Prof w w.heap.size a b zs ys) :
    Calls Try.prog 18 #[.agg #[.slice a zs.length ca, .slice b ys.length cb], .int .i64 src, .agg #[.int .i64 c, .int .i64 s, .int .i64 h], .int .i64 k] w fun e w' => e = .returned (.tuple #[.bool (ccT zs ys src c s h k).1, .int .i64 (ccT zs ys src c s h k).2]) ∧ Below w.heap.size w w' := by
  by_cases hq : rcod zs ys src c s h k = 0
  · exact icc_ok w a b ca cb zs ys src k c s h hq hp
  · exact icc_no w a b ca cb zs ys src k c s h _ rfl hq hp

end Go.Proofs.Ytkjpjhklnaehbab
namespace Go.Proofs.Ytkjpjhklnaehbab
open Go.ChangeShapes Go.WideShapes Go.ChangeAt Go.RowKit Go.Shelf Num
set_option linter.unusedVariables false

end Go.Proofs.Ytkjpjhklnaehbab
