/- Contracts of arcIn, LayerVerdict, TurnDepth and ArcRadius, the program's. -/
import Derived.Test.YtfcbagjjpclplaaArc2
import Derived.Test.YtfcbagjjpclplaaArcS
namespace Go.Proofs.Ytfcbagjjpclplaa
open Go.ChangeShapes Go.WideShapes Go.ChangeAt Go.RowKit Go.Shelf Num
set_option linter.unusedVariables false
theorem Bk.set8 {W : World} {B : Nat} {t : TypeId} {u0 u1 u2 u3 u4 u5 u6 u7 : Value} (v0 v1 v2 v3 v4 v5 v6 v7 : Value) (h : Bk W B #[u0, u1, u2, u3, u4, u5, u6, u7] t) :
    Bk ((((((((W.setCell ⟨B, 0, none⟩ v0).setCell ⟨B, 1, none⟩ v1).setCell ⟨B, 2, none⟩ v2).setCell ⟨B, 3, none⟩ v3).setCell ⟨B, 4, none⟩ v4).setCell ⟨B, 5, none⟩ v5).setCell ⟨B, 6, none⟩ v6).setCell ⟨B, 7, none⟩ v7) B #[v0, v1, v2, v3, v4, v5, v6, v7] t := by
  have h0 := h.set (cs' := #[v0, u1, u2, u3, u4, u5, u6, u7]) 0 v0 (by simp)
  have h1 := h0.set (cs' := #[v0, v1, u2, u3, u4, u5, u6, u7]) 1 v1 (by simp)
  have h2 := h1.set (cs' := #[v0, v1, v2, u3, u4, u5, u6, u7]) 2 v2 (by simp)
  have h3 := h2.set (cs' := #[v0, v1, v2, v3, u4, u5, u6, u7]) 3 v3 (by simp)
  have h4 := h3.set (cs' := #[v0, v1, v2, v3, v4, u5, u6, u7]) 4 v4 (by simp)
  have h5 := h4.set (cs' := #[v0, v1, v2, v3, v4, v5, u6, u7]) 5 v5 (by simp)
  have h6 := h5.set (cs' := #[v0, v1, v2, v3, v4, v5, v6, u7]) 6 v6 (by simp)
  have h7 := h6.set (cs' := #[v0, v1, v2, v3, v4, v5, v6, v7]) 7 v7 (by simp)
  exact h7
theorem bel8 {w W : World} {B C : Nat} (v0 v1 v2 v3 v4 v5 v6 v7 : Value) (h : Below C w W) (hB : C ≤ B) :
    Below C w ((((((((W.setCell ⟨B, 0, none⟩ v0).setCell ⟨B, 1, none⟩ v1).setCell ⟨B, 2, none⟩ v2).setCell ⟨B, 3, none⟩ v3).setCell ⟨B, 4, none⟩ v4).setCell ⟨B, 5, none⟩ v5).setCell ⟨B, 6, none⟩ v6).setCell ⟨B, 7, none⟩ v7) :=
  (((((((h.setCell (p := ⟨B, 0, none⟩) hB _).setCell (p := ⟨B, 1, none⟩) hB _).setCell (p := ⟨B, 2, none⟩) hB _).setCell (p := ⟨B, 3, none⟩) hB _).setCell (p := ⟨B, 4, none⟩) hB _).setCell (p := ⟨B, 5, none⟩) hB _).setCell (p := ⟨B, 6, none⟩) hB _).setCell (p := ⟨B, 7, none⟩) hB _

set_option maxRecDepth 100000 in
set_option maxHeartbeats 1000000 in
theorem ain_no (w : World) (a b : Option Addr) (ca cb : Nat) (zs ys : List Int) (src c s h l : Int) (ab : Bool) (hp : Prof w w.heap.size a b zs ys) (hne : ¬ acod zs ys src c s h l = 0) :
    Calls Try.prog 56 #[.agg #[.slice a zs.length ca, .slice b ys.length cb], .int .i64 src, .agg #[.int .i64 c, .int .i64 s, .int .i64 h], .int .i64 l, .bool ab] w fun e w' => e = .returned (.tuple #[.agg #[.slice none 0 0, .slice none 0 0, .int .i64 0, .int .i64 0, .int .i64 0, .int .i64 0, .int .i64 0, .int .i64 0], .int .i64 (acod zs ys src c s h l)]) ∧ Below w.heap.size w w' := by
  have HP := Lib.hid hp
  have HS := Lib.hid (acod_steps zs ys src c s h l)
  by_cases h1 : rcod zs ys src c s h src = 0
  case neg =>
    obtain ⟨q, hq⟩ : ∃ q, rcod zs ys src c s h src = q := ⟨_, rfl⟩
    have K1 : Hid (∀ W : World, Below w.heap.size w W → Calls Try.prog 76 #[.agg #[.slice a zs.length ca, .slice b ys.length cb, .int .i64 src, .int .i64 c, .int .i64 s, .int .i64 h], .int .i64 src] W fun e w' => e = .returned (.int .i64 q) ∧ Below W.heap.size W w') := Lib.hid (fun W hb => by have := rer_any W a b ca cb zs ys src src c s h (HP.out.on hb); rwa [show rcT (prfB zs ys) (dirB c s h) (hkB zs src) (hkB zs src) = q from hq] at this)
    have HQ : Hid (acod zs ys src c s h l = q) := Lib.hid (by rw [HS.out, if_neg h1, hq])
    have hq0 : (q != 0) = true := by rw [← hq]; simpa using h1
    clear hq h1 HS hp hne
    go_enter Try.func56, Try.ntmps56
    go_wp2_with fail
    generalize hW : World.alloc _ _ = W
    have bP : Bk W (w.heap.size) #[.slice a zs.length ca, .slice b ys.length cb] 39 := by rw [← hW]; repeat (first | exact Bk.new' (by simp) | refine Bk.alloc ?_ _)
    have bD : Bk W (w.heap.size + 1) #[.int .i64 c, .int .i64 s, .int .i64 h] 41 := by rw [← hW]; repeat (first | exact Bk.new' (by simp) | refine Bk.alloc ?_ _)
    have bR : Bk W (w.heap.size + 1 + 1) #[.slice none 0 0, .slice none 0 0, .int .i64 0, .int .i64 0, .int .i64 0, .int .i64 0, .int .i64 0, .int .i64 0] 81 := by rw [← hW]; repeat (first | exact Bk.new' (by simp) | refine Bk.alloc ?_ _)
    have bT : Bk W (w.heap.size + 1 + 1 + 1) #[.slice a zs.length ca, .slice b ys.length cb, .int .i64 src, .int .i64 c, .int .i64 s, .int .i64 h] 79 := by rw [← hW]; repeat (first | exact Bk.new' (by simp) | refine Bk.alloc ?_ _)
    have HB : Hid (Below w.heap.size w W) := Lib.hid (by rw [← hW]; exact (by repeat (first | exact Below.refl _ _ | (refine Below.alloc ?_ (by simp <;> omega) _) | (refine Below.setCell ?_ (by simp <;> omega) _) | (refine Below.drew ?_) | (refine bel_drewN ?_ _))))
    clear hW
    (with_reducible refine Calls.mono (K1.out _ HB.out) ?_)
    rintro e w1 ⟨rfl, hb⟩
    replace bP := bP.on hb
    replace bD := bD.on hb
    replace bR := bR.on hb
    replace bT := bT.on hb
    replace HB := Lib.hid (bel_end HB.out hb)
    clear hb
    have bR_0 := bR.cell 0 rfl
    have bR_1 := bR.cell 1 rfl
    have bR_2 := bR.cell 2 rfl
    have bR_3 := bR.cell 3 rfl
    have bR_4 := bR.cell 4 rfl
    have bR_5 := bR.cell 5 rfl
    have bR_6 := bR.cell 6 rfl
    have bR_7 := bR.cell 7 rfl
    have bR_f0 := bR.frozen 0
    have bR_f1 := bR.frozen 1
    have bR_f2 := bR.frozen 2
    have bR_f3 := bR.frozen 3
    have bR_f4 := bR.frozen 4
    have bR_f5 := bR.frozen 5
    have bR_f6 := bR.frozen 6
    have bR_f7 := bR.frozen 7
    have bR_l := bR.lt
    go_wp2
    generalize hV : World.setCell _ _ _ = V
    have hB8 : Below w.heap.size w V := by rw [← hV]; exact bel8 _ _ _ _ _ _ _ _ HB.out (by omega)
    have bV : Bk V (w.heap.size + 1 + 1) #[.slice none 0 0, .slice none 0 0, .int .i64 0, .int .i64 0, .int .i64 0, .int .i64 0, .int .i64 0, .int .i64 0] 81 := by rw [← hV]; exact bR.set8 _ _ _ _ _ _ _ _
    clear hV bR bR_0 bR_f0 bR_1 bR_f1 bR_2 bR_f2 bR_3 bR_f3 bR_4 bR_f4 bR_5 bR_f5 bR_6 bR_f6 bR_7 bR_f7 bR_l
    have v_0 := bV.cell 0 rfl
    have v_1 := bV.cell 1 rfl
    have v_2 := bV.cell 2 rfl
    have v_3 := bV.cell 3 rfl
    have v_4 := bV.cell 4 rfl
    have v_5 := bV.cell 5 rfl
    have v_6 := bV.cell 6 rfl
    have v_7 := bV.cell 7 rfl
    exact bodyPost_ret (v := .tuple #[.agg #[.slice none 0 0, .slice none 0 0, .int .i64 0, .int .i64 0, .int .i64 0, .int .i64 0, .int .i64 0, .int .i64 0], .int .i64 q]) (by simp [results, Try.results56, go_sem, v_0, v_1, v_2, v_3, v_4, v_5, v_6, v_7]) rfl ⟨by rw [HQ.out], hB8⟩
  case pos =>
    obtain ⟨q, hq⟩ : ∃ q, cdT (prfB zs ys) (hlB zs l) = q := ⟨_, rfl⟩
    have K1 : Hid (∀ W : World, Below w.heap.size w W → Calls Try.prog 76 #[.agg #[.slice a zs.length ca, .slice b ys.length cb, .int .i64 src, .int .i64 c, .int .i64 s, .int .i64 h], .int .i64 src] W fun e w' => e = .returned (.int .i64 0) ∧ Below W.heap.size W w') := Lib.hid (fun W hb => by have := rer_any W a b ca cb zs ys src src c s h (HP.out.on hb); rwa [show rcT (prfB zs ys) (dirB c s h) (hkB zs src) (hkB zs src) = 0 from h1] at this)
    have K2 : Hid (∀ W : World, Below w.heap.size w W → Calls Try.prog 77 #[.agg #[.slice a zs.length ca, .slice b ys.length cb], .func (.func 78) #[.agg #[.slice a zs.length ca, .slice b ys.length cb]] #[], .int .i64 l] W fun e w' => e = .returned (.int .i64 q) ∧ Below W.heap.size W w') := Lib.hid (fun W hb => by have := eol_any W a b ca cb zs ys l (HP.out.on hb); rwa [hq] at this)
    have HQ : Hid (acod zs ys src c s h l = q) := Lib.hid (by rw [HS.out, if_pos h1, hq])
    have hq0 : (q != 0) = true := by rw [← HQ.out]; simpa using hne
    clear hq h1 HS hp hne
    go_enter Try.func56, Try.ntmps56
    go_wp2_with fail
    generalize hW : World.alloc _ _ = W
    have bP : Bk W (w.heap.size) #[.slice a zs.length ca, .slice b ys.length cb] 39 := by rw [← hW]; repeat (first | exact Bk.new' (by simp) | refine Bk.alloc ?_ _)
    have bD : Bk W (w.heap.size + 1) #[.int .i64 c, .int .i64 s, .int .i64 h] 41 := by rw [← hW]; repeat (first | exact Bk.new' (by simp) | refine Bk.alloc ?_ _)
    have bR : Bk W (w.heap.size + 1 + 1) #[.slice none 0 0, .slice none 0 0, .int .i64 0, .int .i64 0, .int .i64 0, .int .i64 0, .int .i64 0, .int .i64 0] 81 := by rw [← hW]; repeat (first | exact Bk.new' (by simp) | refine Bk.alloc ?_ _)
    have bT : Bk W (w.heap.size + 1 + 1 + 1) #[.slice a zs.length ca, .slice b ys.length cb, .int .i64 src, .int .i64 c, .int .i64 s, .int .i64 h] 79 := by rw [← hW]; repeat (first | exact Bk.new' (by simp) | refine Bk.alloc ?_ _)
    have HB : Hid (Below w.heap.size w W) := Lib.hid (by rw [← hW]; exact (by repeat (first | exact Below.refl _ _ | (refine Below.alloc ?_ (by simp <;> omega) _) | (refine Below.setCell ?_ (by simp <;> omega) _) | (refine Below.drew ?_) | (refine bel_drewN ?_ _))))
    clear hW
    (with_reducible refine Calls.mono (K1.out _ HB.out) ?_)
    rintro e w1 ⟨rfl, hb⟩
    replace bP := bP.on hb
    replace bD := bD.on hb
    replace bR := bR.on hb
    replace bT := bT.on hb
    replace HB := Lib.hid (bel_end HB.out hb)
    clear hb
    have bP_0 := bP.cell 0 rfl
    have bP_1 := bP.cell 1 rfl
    have bP_l := bP.lt
    go_wp2_with fail
    (with_reducible refine Calls.mono (K2.out _ HB.out) ?_)
    rintro e w2 ⟨rfl, hb⟩
    replace bP := bP.on hb
    replace bD := bD.on hb
    replace bR := bR.on hb
    replace bT := bT.on hb
    replace HB := Lib.hid (bel_end HB.out hb)
    clear hb
    clear bP_0 bP_1 bP_l
    have bR_0 := bR.cell 0 rfl
    have bR_1 := bR.cell 1 rfl
    have bR_2 := bR.cell 2 rfl
    have bR_3 := bR.cell 3 rfl
    have bR_4 := bR.cell 4 rfl
    have bR_5 := bR.cell 5 rfl
    have bR_6 := bR.cell 6 rfl
    have bR_7 := bR.cell 7 rfl
    have bR_f0 := bR.frozen 0
    have bR_f1 := bR.frozen 1
    have bR_f2 := bR.frozen 2
    have bR_f3 := bR.frozen 3
    have bR_f4 := bR.frozen 4
    have bR_f5 := bR.frozen 5
    have bR_f6 := bR.frozen 6
    have bR_f7 := bR.frozen 7
    have bR_l := bR.lt
    go_wp2
    generalize hV : World.setCell _ _ _ = V
    have hB8 : Below w.heap.size w V := by rw [← hV]; exact bel8 _ _ _ _ _ _ _ _ HB.out (by omega)
    have bV : Bk V (w.heap.size + 1 + 1) #[.slice none 0 0, .slice none 0 0, .int .i64 0, .int .i64 0, .int .i64 0, .int .i64 0, .int .i64 0, .int .i64 0] 81 := by rw [← hV]; exact bR.set8 _ _ _ _ _ _ _ _
    clear hV bR bR_0 bR_f0 bR_1 bR_f1 bR_2 bR_f2 bR_3 bR_f3 bR_4 bR_f4 bR_5 bR_f5 bR_6 bR_f6 bR_7 bR_f7 bR_l
    have v_0 := bV.cell 0 rfl
    have v_1 := bV.cell 1 rfl
    have v_2 := bV.cell 2 rfl
    have v_3 := bV.cell 3 rfl
    have v_4 := bV.cell 4 rfl
    have v_5 := bV.cell 5 rfl
    have v_6 := bV.cell 6 rfl
    have v_7 := bV.cell 7 rfl
    exact bodyPost_ret (v := .tuple #[.agg #[.slice none 0 0, .slice none 0 0, .int .i64 0, .int .i64 0, .int .i64 0, .int .i64 0, .int .i64 0, .int .i64 0], .int .i64 q]) (by simp [results, Try.results56, go_sem, v_0, v_1, v_2, v_3, v_4, v_5, v_6, v_7]) rfl ⟨by rw [HQ.out], hB8⟩

set_option maxRecDepth 100000 in
set_option maxHeartbeats 1000000 in
theorem ain_ok (w : World) (a b : Option Addr) (ca cb : Nat) (zs ys : List Int) (i l : Nat) (c s h : Int) (ab : Bool) (hp : Prof w w.heap.size a b zs ys) (hne : acod zs ys (i : Int) c s h (l : Int) = 0) (hl : l ≤ 1000) :
    Calls Try.prog 56 #[.agg #[.slice a zs.length ca, .slice b ys.length cb], .int .i64 (i : Int), .agg #[.int .i64 c, .int .i64 s, .int .i64 h], .int .i64 (l : Int), .bool ab] w fun e w' => e = .returned (.tuple #[.agg #[.slice a zs.length ca, .slice b ys.length cb, .int .i64 (i : Int), .int .i64 c, .int .i64 s, .int .i64 h, .int .i64 (anr l ab : Int), .int .i64 (afr l ab : Int)], .int .i64 0]) ∧ Below w.heap.size w w' := by
  obtain ⟨src, hsrc⟩ : ∃ x : Int, (i : Int) = x := ⟨_, rfl⟩
  rw [hsrc] at hne ⊢
  have HP := Lib.hid hp
  have hs := acod_steps zs ys src c s h (l : Int)
  rw [hne] at hs
  have h1 : rcod zs ys src c s h src = 0 := by by_cases g : rcod zs ys src c s h src = 0; exact g; rw [if_neg g] at hs; exact hs.symm
  rw [if_pos h1] at hs
  have K1 : Hid (∀ W : World, Below w.heap.size w W → Calls Try.prog 76 #[.agg #[.slice a zs.length ca, .slice b ys.length cb, .int .i64 src, .int .i64 c, .int .i64 s, .int .i64 h], .int .i64 src] W fun e w' => e = .returned (.int .i64 0) ∧ Below W.heap.size W w') := Lib.hid (fun W hb => by have := rer_any W a b ca cb zs ys src src c s h (HP.out.on hb); rwa [show rcT (prfB zs ys) (dirB c s h) (hkB zs src) (hkB zs src) = 0 from h1] at this)
  have K2 : Hid (∀ W : World, Below w.heap.size w W → Calls Try.prog 77 #[.agg #[.slice a zs.length ca, .slice b ys.length cb], .func (.func 78) #[.agg #[.slice a zs.length ca, .slice b ys.length cb]] #[], .int .i64 (l : Int)] W fun e w' => e = .returned (.int .i64 0) ∧ Below W.heap.size W w') := Lib.hid (fun W hb => by have := eol_any W a b ca cb zs ys (l : Int) (HP.out.on hb); rwa [← hs] at this)
  have e1 : IntKind.wrap .i64 ((l : Int) + 1) = (l : Int) + 1 := IntWalk.i64_in _ (by omega)
  clear h1 hs hne hp hsrc hl
  cases ab
  case false =>
    go_enter Try.func56, Try.ntmps56
    go_wp2_with fail
    generalize hW : World.alloc _ _ = W
    have bP : Bk W (w.heap.size) #[.slice a zs.length ca, .slice b ys.length cb] 39 := by rw [← hW]; repeat (first | exact Bk.new' (by simp) | refine Bk.alloc ?_ _)
    have bD : Bk W (w.heap.size + 1) #[.int .i64 c, .int .i64 s, .int .i64 h] 41 := by rw [← hW]; repeat (first | exact Bk.new' (by simp) | refine Bk.alloc ?_ _)
    have bR : Bk W (w.heap.size + 1 + 1) #[.slice none 0 0, .slice none 0 0, .int .i64 0, .int .i64 0, .int .i64 0, .int .i64 0, .int .i64 0, .int .i64 0] 81 := by rw [← hW]; repeat (first | exact Bk.new' (by simp) | refine Bk.alloc ?_ _)
    have bT : Bk W (w.heap.size + 1 + 1 + 1) #[.slice a zs.length ca, .slice b ys.length cb, .int .i64 src, .int .i64 c, .int .i64 s, .int .i64 h] 79 := by rw [← hW]; repeat (first | exact Bk.new' (by simp) | refine Bk.alloc ?_ _)
    have HB : Hid (Below w.heap.size w W) := Lib.hid (by rw [← hW]; exact (by repeat (first | exact Below.refl _ _ | (refine Below.alloc ?_ (by simp <;> omega) _) | (refine Below.setCell ?_ (by simp <;> omega) _) | (refine Below.drew ?_) | (refine bel_drewN ?_ _))))
    clear hW
    (with_reducible refine Calls.mono (K1.out _ HB.out) ?_)
    rintro e w1 ⟨rfl, hb⟩
    replace bP := bP.on hb
    replace bD := bD.on hb
    replace bR := bR.on hb
    replace bT := bT.on hb
    replace HB := Lib.hid (bel_end HB.out hb)
    clear hb
    have bP_0 := bP.cell 0 rfl
    have bP_1 := bP.cell 1 rfl
    have bP_l := bP.lt
    go_wp2_with fail
    (with_reducible refine Calls.mono (K2.out _ HB.out) ?_)
    rintro e w2 ⟨rfl, hb⟩
    replace bP := bP.on hb
    replace bD := bD.on hb
    replace bR := bR.on hb
    replace bT := bT.on hb
    replace HB := Lib.hid (bel_end HB.out hb)
    clear hb
    clear bP_0 bP_1 bP_l
    have bR_0 := bR.cell 0 rfl
    have bR_1 := bR.cell 1 rfl
    have bR_2 := bR.cell 2 rfl
    have bR_3 := bR.cell 3 rfl
    have bR_4 := bR.cell 4 rfl
    have bR_5 := bR.cell 5 rfl
    have bR_6 := bR.cell 6 rfl
    have bR_7 := bR.cell 7 rfl
    have bR_f0 := bR.frozen 0
    have bR_f1 := bR.frozen 1
    have bR_f2 := bR.frozen 2
    have bR_f3 := bR.frozen 3
    have bR_f4 := bR.frozen 4
    have bR_f5 := bR.frozen 5
    have bR_f6 := bR.frozen 6
    have bR_f7 := bR.frozen 7
    have bR_l := bR.lt
    have bT_0 := bT.cell 0 rfl
    have bT_1 := bT.cell 1 rfl
    have bT_2 := bT.cell 2 rfl
    have bT_3 := bT.cell 3 rfl
    have bT_4 := bT.cell 4 rfl
    have bT_5 := bT.cell 5 rfl
    have bT_l := bT.lt
    go_wp2
    generalize hV : World.setCell _ _ _ = V
    have hB8 : Below w.heap.size w V := by rw [← hV]; exact bel8 _ _ _ _ _ _ _ _ HB.out (by omega)
    have bV : Bk V (w.heap.size + 1 + 1) #[.slice a zs.length ca, .slice b ys.length cb, .int .i64 src, .int .i64 c, .int .i64 s, .int .i64 h, .int .i64 ((l : Int) + 1), .int .i64 (l : Int)] 81 := by rw [← hV]; exact bR.set8 _ _ _ _ _ _ _ _
    clear hV bR bR_0 bR_f0 bR_1 bR_f1 bR_2 bR_f2 bR_3 bR_f3 bR_4 bR_f4 bR_5 bR_f5 bR_6 bR_f6 bR_7 bR_f7 bR_l
    have v_0 := bV.cell 0 rfl
    have v_1 := bV.cell 1 rfl
    have v_2 := bV.cell 2 rfl
    have v_3 := bV.cell 3 rfl
    have v_4 := bV.cell 4 rfl
    have v_5 := bV.cell 5 rfl
    have v_6 := bV.cell 6 rfl
    have v_7 := bV.cell 7 rfl
    exact bodyPost_ret (v := .tuple #[.agg #[.slice a zs.length ca, .slice b ys.length cb, .int .i64 src, .int .i64 c, .int .i64 s, .int .i64 h, .int .i64 ((l : Int) + 1), .int .i64 (l : Int)], .int .i64 0]) (by simp [results, Try.results56, go_sem, v_0, v_1, v_2, v_3, v_4, v_5, v_6, v_7]) rfl ⟨by simp [anr, afr], hB8⟩
  case true =>
    go_enter Try.func56, Try.ntmps56
    go_wp2_with fail
    generalize hW : World.alloc _ _ = W
    have bP : Bk W (w.heap.size) #[.slice a zs.length ca, .slice b ys.length cb] 39 := by rw [← hW]; repeat (first | exact Bk.new' (by simp) | refine Bk.alloc ?_ _)
    have bD : Bk W (w.heap.size + 1) #[.int .i64 c, .int .i64 s, .int .i64 h] 41 := by rw [← hW]; repeat (first | exact Bk.new' (by simp) | refine Bk.alloc ?_ _)
    have bR : Bk W (w.heap.size + 1 + 1) #[.slice none 0 0, .slice none 0 0, .int .i64 0, .int .i64 0, .int .i64 0, .int .i64 0, .int .i64 0, .int .i64 0] 81 := by rw [← hW]; repeat (first | exact Bk.new' (by simp) | refine Bk.alloc ?_ _)
    have bT : Bk W (w.heap.size + 1 + 1 + 1) #[.slice a zs.length ca, .slice b ys.length cb, .int .i64 src, .int .i64 c, .int .i64 s, .int .i64 h] 79 := by rw [← hW]; repeat (first | exact Bk.new' (by simp) | refine Bk.alloc ?_ _)
    have HB : Hid (Below w.heap.size w W) := Lib.hid (by rw [← hW]; exact (by repeat (first | exact Below.refl _ _ | (refine Below.alloc ?_ (by simp <;> omega) _) | (refine Below.setCell ?_ (by simp <;> omega) _) | (refine Below.drew ?_) | (refine bel_drewN ?_ _))))
    clear hW
    (with_reducible refine Calls.mono (K1.out _ HB.out) ?_)
    rintro e w1 ⟨rfl, hb⟩
    replace bP := bP.on hb
    replace bD := bD.on hb
    replace bR := bR.on hb
    replace bT := bT.on hb
    replace HB := Lib.hid (bel_end HB.out hb)
    clear hb
    have bP_0 := bP.cell 0 rfl
    have bP_1 := bP.cell 1 rfl
    have bP_l := bP.lt
    go_wp2_with fail
    (with_reducible refine Calls.mono (K2.out _ HB.out) ?_)
    rintro e w2 ⟨rfl, hb⟩
    replace bP := bP.on hb
    replace bD := bD.on hb
    replace bR := bR.on hb
    replace bT := bT.on hb
    replace HB := Lib.hid (bel_end HB.out hb)
    clear hb
    clear bP_0 bP_1 bP_l
    have bR_0 := bR.cell 0 rfl
    have bR_1 := bR.cell 1 rfl
    have bR_2 := bR.cell 2 rfl
    have bR_3 := bR.cell 3 rfl
    have bR_4 := bR.cell 4 rfl
    have bR_5 := bR.cell 5 rfl
    have bR_6 := bR.cell 6 rfl
    have bR_7 := bR.cell 7 rfl
    have bR_f0 := bR.frozen 0
    have bR_f1 := bR.frozen 1
    have bR_f2 := bR.frozen 2
    have bR_f3 := bR.frozen 3
    have bR_f4 := bR.frozen 4
    have bR_f5 := bR.frozen 5
    have bR_f6 := bR.frozen 6
    have bR_f7 := bR.frozen 7
    have bR_l := bR.lt
    have bT_0 := bT.cell 0 rfl
    have bT_1 := bT.cell 1 rfl
    have bT_2 := bT.cell 2 rfl
    have bT_3 := bT.cell 3 rfl
    have bT_4 := bT.cell 4 rfl
    have bT_5 := bT.cell 5 rfl
    have bT_l := bT.lt
    go_wp2
    generalize hV : World.setCell _ _ _ = V
    have hB8 : Below w.heap.size w V := by rw [← hV]; exact bel8 _ _ _ _ _ _ _ _ HB.out (by omega)
    have bV : Bk V (w.heap.size + 1 + 1) #[.slice a zs.length ca, .slice b ys.length cb, .int .i64 src, .int .i64 c, .int .i64 s, .int .i64 h, .int .i64 (l : Int), .int .i64 ((l : Int) + 1)] 81 := by rw [← hV]; exact bR.set8 _ _ _ _ _ _ _ _
    clear hV bR bR_0 bR_f0 bR_1 bR_f1 bR_2 bR_f2 bR_3 bR_f3 bR_4 bR_f4 bR_5 bR_f5 bR_6 bR_f6 bR_7 bR_f7 bR_l
    have v_0 := bV.cell 0 rfl
    have v_1 := bV.cell 1 rfl
    have v_2 := bV.cell 2 rfl
    have v_3 := bV.cell 3 rfl
    have v_4 := bV.cell 4 rfl
    have v_5 := bV.cell 5 rfl
    have v_6 := bV.cell 6 rfl
    have v_7 := bV.cell 7 rfl
    exact bodyPost_ret (v := .tuple #[.agg #[.slice a zs.length ca, .slice b ys.length cb, .int .i64 src, .int .i64 c, .int .i64 s, .int .i64 h, .int .i64 (l : Int), .int .i64 ((l : Int) + 1)], .int .i64 0]) (by simp [results, Try.results56, go_sem, v_0, v_1, v_2, v_3, v_4, v_5, v_6, v_7]) rfl ⟨by simp [anr, afr], hB8⟩

theorem td_eq {zs ys : List Int} {i : Nat} {c s h : Int} (r : RyOk zs ys i c s h) {l : Nat} {ab : Bool} (hR : 0 < riS ys c (anr l ab) (afr l ab)) :
    (zs.getD (anr l ab) 0 * riS ys c (anr l ab) (afr l ab) + (zs.getD (afr l ab) 0 - zs.getD (anr l ab) 0) * (h * ys.getD i 0 - c * ys.getD (anr l ab) 0)).fdiv (riS ys c (anr l ab) (afr l ab)) = tdLo zs ys i c h l ab ∧
    cdiv (zs.getD (anr l ab) 0 * riS ys c (anr l ab) (afr l ab) + (zs.getD (afr l ab) 0 - zs.getD (anr l ab) 0) * (h * ys.getD i 0 - c * ys.getD (anr l ab) 0)) (riS ys c (anr l ab) (afr l ab)) = tdHi zs ys i c h l ab := by
  rw [fdiv_add hR, cdiv_add hR]
  unfold tdLo tdHi tdN zD
  cases ab
  · rw [if_neg (by simp), if_neg (by simp)]
    have e : (zs.getD (afr l false) 0 - zs.getD (anr l false) 0) * (h * ys.getD i 0 - c * ys.getD (anr l false) 0) = -((zs.getD (l + 1) 0 - zs.getD l 0) * (h * ys.getD i 0 - c * ys.getD (anr l false) 0)) := by
      rw [← Int.neg_mul]
      show (zs.getD l 0 - zs.getD (l + 1) 0) * _ = _
      rw [show zs.getD l 0 - zs.getD (l + 1) 0 = -(zs.getD (l + 1) 0 - zs.getD l 0) by omega]
    rw [e, fdiv_neg', cdiv_neg']
    exact ⟨(Int.sub_eq_add_neg).symm, (Int.sub_eq_add_neg).symm⟩
  · rw [if_pos rfl, if_pos rfl]
    exact ⟨rfl, rfl⟩
theorem rd_eq {zs ys : List Int} {i : Nat} {c s h : Int} (r : RyOk zs ys i c s h) {l : Nat} (hl : l + 1 < zs.length) :
    h * ys.getD i 0 * ((zs.getD (l + 1) 0 - zs.getD l 0).natAbs : Int) = rdN zs ys i h l ∧ ((riS ys c l (l + 1)).natAbs : Int) = rdW ys c l := by
  have hz := r.z hl
  have hc := r.od.c1
  unfold zD at hz
  refine ⟨?_, ?_⟩
  · unfold rdN zD
    rw [show ((zs.getD (l + 1) 0 - zs.getD l 0).natAbs : Int) = zs.getD (l + 1) 0 - zs.getD l 0 by omega]
  · unfold riS rdW
    rw [Int.natAbs_mul, Int.natCast_mul, show ((c.natAbs : Nat) : Int) = c by omega]
theorem resA4 {t : Int × Int × Int} {x y e : Int} (h : t = (x, y, e)) : Ending.returned (.tuple #[.agg #[.int .i64 x, .int .i64 y], .int .i64 e]) = .returned (.tuple #[.agg #[.int .i64 t.1, .int .i64 t.2.1], .int .i64 t.2.2]) := by subst h; rfl

set_option maxRecDepth 100000 in
set_option maxHeartbeats 1000000 in
theorem ilv_any (w : World) (a b : Option Addr) (ca cb : Nat) (zs ys : List Int) (src c s h l : Int) (ab : Bool) (hp : Prof w w.heap.size a b zs ys) :
    Calls Try.prog 29 #[.agg #[.slice a zs.length ca, .slice b ys.length cb], .int .i64 src, .agg #[.int .i64 c, .int .i64 s, .int .i64 h], .int .i64 l, .bool ab] w fun e w' => e = .returned (.tuple #[.int .i64 (vdT zs ys src c s h l ab).1, .int .i64 (vdT zs ys src c s h l ab).2]) ∧ Below w.heap.size w w' := by
  have HP := Lib.hid hp
  by_cases hq : acod zs ys src c s h l = 0
  case neg =>
    have HT : Hid (vdT zs ys src c s h l ab = (0, acod zs ys src c s h l)) := Lib.hid (by unfold vdT; rw [if_neg hq])
    obtain ⟨q, hqq⟩ : ∃ q, acod zs ys src c s h l = q := ⟨_, rfl⟩
    have K : Hid (∀ W : World, Below w.heap.size w W → Calls Try.prog 56 #[.agg #[.slice a zs.length ca, .slice b ys.length cb], .int .i64 src, .agg #[.int .i64 c, .int .i64 s, .int .i64 h], .int .i64 l, .bool ab] W fun e w' => e = .returned (.tuple #[.agg #[.slice none 0 0, .slice none 0 0, .int .i64 0, .int .i64 0, .int .i64 0, .int .i64 0, .int .i64 0, .int .i64 0], .int .i64 q]) ∧ Below W.heap.size W w') := Lib.hid (fun W hb => by have := ain_no W a b ca cb zs ys src c s h l ab (HP.out.on hb) hq; rwa [hqq] at this)
    rw [hqq] at HT hq
    have hq0 : (q != 0) = true := by simpa using hq
    clear hqq hq hp
    go_enter Try.func29, Try.ntmps29
    go_wp2_with fail
    generalize hW : World.alloc _ _ = W
    have bP : Bk W (w.heap.size) #[.slice a zs.length ca, .slice b ys.length cb] 39 := by rw [← hW]; repeat (first | exact Bk.new' (by simp) | refine Bk.alloc ?_ _)
    have bD : Bk W (w.heap.size + 1) #[.int .i64 c, .int .i64 s, .int .i64 h] 41 := by rw [← hW]; repeat (first | exact Bk.new' (by simp) | refine Bk.alloc ?_ _)
    have HB : Hid (Below w.heap.size w W) := Lib.hid (by rw [← hW]; exact (by repeat (first | exact Below.refl _ _ | (refine Below.alloc ?_ (by simp <;> omega) _) | (refine Below.setCell ?_ (by simp <;> omega) _) | (refine Below.drew ?_) | (refine bel_drewN ?_ _))))
    clear hW
    (with_reducible refine Calls.mono (K.out _ HB.out) ?_)
    rintro e w1 ⟨rfl, hb⟩
    replace bP := bP.on hb
    replace bD := bD.on hb
    replace HB := Lib.hid (bel_end HB.out hb)
    clear hb
    go_wp2
    generalize hW : World.alloc _ _ = W2
    have hb : Below w1.heap.size w1 W2 := by rw [← hW]; exact (by repeat (first | exact Below.refl _ _ | (refine Below.alloc ?_ (by simp <;> omega) _) | (refine Below.setCell ?_ (by simp <;> omega) _) | (refine Below.drew ?_) | (refine bel_drewN ?_ _)))
    replace HB := Lib.hid (bel_end HB.out hb)
    clear hW hb
    go_ret2
    exact ⟨resA2 HT.out, HB.out⟩
  case pos =>
    obtain ⟨i, j, rfl, rfl, hj, r⟩ := acod_ray hq
    have HT : Hid (vdT zs ys (i : Int) c s h (j : Int) ab = (vdV ys i c h (anr j ab) (afr j ab), 0)) := Lib.hid (by unfold vdT; rw [if_pos hq]; rfl)
    have K : Hid (∀ W : World, Below w.heap.size w W → Calls Try.prog 56 #[.agg #[.slice a zs.length ca, .slice b ys.length cb], .int .i64 (i : Int), .agg #[.int .i64 c, .int .i64 s, .int .i64 h], .int .i64 (j : Int), .bool ab] W fun e w' => e = .returned (.tuple #[.agg #[.slice a zs.length ca, .slice b ys.length cb, .int .i64 (i : Int), .int .i64 c, .int .i64 s, .int .i64 h, .int .i64 (anr j ab : Int), .int .i64 (afr j ab : Int)], .int .i64 0]) ∧ Below W.heap.size W w') := Lib.hid (fun W hb => ain_ok W a b ca cb zs ys i j c s h ab (HP.out.on hb) hq (by have := r.ok.n12; omega))
    have KV : Hid (∀ W : World, Below w.heap.size w W → Calls Try.prog 66 #[.agg #[.slice a zs.length ca, .slice b ys.length cb, .int .i64 (i : Int), .int .i64 c, .int .i64 s, .int .i64 h, .int .i64 (anr j ab : Int), .int .i64 (afr j ab : Int)]] W fun e w' => e = .returned (.int .i64 (vdV ys i c h (anr j ab) (afr j ab))) ∧ Below W.heap.size W w') := Lib.hid (fun W hb => avd_any W a b ca cb zs ys i (anr j ab) (afr j ab) c s h (HP.out.on hb) r (anr_lt hj) (afr_lt hj))
    obtain ⟨v, hv⟩ : ∃ v, vdV ys i c h (anr j ab) (afr j ab) = v := ⟨_, rfl⟩
    rw [hv] at HT KV
    clear hv hq hp r hj
    go_enter Try.func29, Try.ntmps29
    go_wp2_with fail
    generalize hW : World.alloc _ _ = W
    have bP : Bk W (w.heap.size) #[.slice a zs.length ca, .slice b ys.length cb] 39 := by rw [← hW]; repeat (first | exact Bk.new' (by simp) | refine Bk.alloc ?_ _)
    have bD : Bk W (w.heap.size + 1) #[.int .i64 c, .int .i64 s, .int .i64 h] 41 := by rw [← hW]; repeat (first | exact Bk.new' (by simp) | refine Bk.alloc ?_ _)
    have HB : Hid (Below w.heap.size w W) := Lib.hid (by rw [← hW]; exact (by repeat (first | exact Below.refl _ _ | (refine Below.alloc ?_ (by simp <;> omega) _) | (refine Below.setCell ?_ (by simp <;> omega) _) | (refine Below.drew ?_) | (refine bel_drewN ?_ _))))
    clear hW
    (with_reducible refine Calls.mono (K.out _ HB.out) ?_)
    rintro e w1 ⟨rfl, hb⟩
    replace HB := Lib.hid (bel_end HB.out hb)
    clear hb
    go_wp2_with fail
    (with_reducible refine Calls.mono (KV.out _ (HB.out.alloc HB.out.size _)) ?_)
    rintro e w2 ⟨rfl, hb⟩
    go_wp2
    go_ret2
    exact ⟨resA2 HT.out, bel_end (HB.out.alloc HB.out.size _) hb⟩

set_option maxRecDepth 100000 in
set_option maxHeartbeats 1000000 in
theorem itd_any (w : World) (a b : Option Addr) (ca cb : Nat) (zs ys : List Int) (src c s h l : Int) (ab : Bool) (hp : Prof w w.heap.size a b zs ys) :
    Calls Try.prog 32 #[.agg #[.slice a zs.length ca, .slice b ys.length cb], .int .i64 src, .agg #[.int .i64 c, .int .i64 s, .int .i64 h], .int .i64 l, .bool ab] w fun e w' => e = .returned (.tuple #[.agg #[.int .i64 (tdF zs ys src c s h l ab).1, .int .i64 (tdF zs ys src c s h l ab).2.1], .int .i64 (tdF zs ys src c s h l ab).2.2]) ∧ Below w.heap.size w w' := by
  have HP := Lib.hid hp
  by_cases hq : acod zs ys src c s h l = 0
  case neg =>
    have HT : Hid (tdF zs ys src c s h l ab = (0, 0, acod zs ys src c s h l)) := Lib.hid (by unfold tdF; rw [if_neg hq])
    obtain ⟨q, hqq⟩ : ∃ q, acod zs ys src c s h l = q := ⟨_, rfl⟩
    have K : Hid (∀ W : World, Below w.heap.size w W → Calls Try.prog 56 #[.agg #[.slice a zs.length ca, .slice b ys.length cb], .int .i64 src, .agg #[.int .i64 c, .int .i64 s, .int .i64 h], .int .i64 l, .bool ab] W fun e w' => e = .returned (.tuple #[.agg #[.slice none 0 0, .slice none 0 0, .int .i64 0, .int .i64 0, .int .i64 0, .int .i64 0, .int .i64 0, .int .i64 0], .int .i64 q]) ∧ Below W.heap.size W w') := Lib.hid (fun W hb => by have := ain_no W a b ca cb zs ys src c s h l ab (HP.out.on hb) hq; rwa [hqq] at this)
    rw [hqq] at HT hq
    have hq0 : (q != 0) = true := by simpa using hq
    clear hqq hq hp
    go_enter Try.func32, Try.ntmps32
    go_wp2_with fail
    generalize hW : World.alloc _ _ = W
    have bP : Bk W (w.heap.size) #[.slice a zs.length ca, .slice b ys.length cb] 39 := by rw [← hW]; repeat (first | exact Bk.new' (by simp) | refine Bk.alloc ?_ _)
    have bD : Bk W (w.heap.size + 1) #[.int .i64 c, .int .i64 s, .int .i64 h] 41 := by rw [← hW]; repeat (first | exact Bk.new' (by simp) | refine Bk.alloc ?_ _)
    have bR : Bk W (w.heap.size + 1 + 1) #[.int .i64 0, .int .i64 0] 25 := by rw [← hW]; repeat (first | exact Bk.new' (by simp) | refine Bk.alloc ?_ _)
    have HB : Hid (Below w.heap.size w W) := Lib.hid (by rw [← hW]; exact (by repeat (first | exact Below.refl _ _ | (refine Below.alloc ?_ (by simp <;> omega) _) | (refine Below.setCell ?_ (by simp <;> omega) _) | (refine Below.drew ?_) | (refine bel_drewN ?_ _))))
    clear hW
    (with_reducible refine Calls.mono (K.out _ HB.out) ?_)
    rintro e w1 ⟨rfl, hb⟩
    replace bP := bP.on hb
    replace bD := bD.on hb
    replace bR := bR.on hb
    replace HB := Lib.hid (bel_end HB.out hb)
    clear hb
    clear bP bD
    have bR_0 := bR.cell 0 rfl
    have bR_1 := bR.cell 1 rfl
    have bR_f0 := bR.frozen 0
    have bR_f1 := bR.frozen 1
    have bR_l := bR.lt
    go_upto_region 3 with fail
    clear bR_0 bR_1 bR_f0 bR_f1 bR_l
    generalize hW : World.alloc _ _ = W2
    have hb : Below w1.heap.size w1 W2 := by rw [← hW]; exact (by repeat (first | exact Below.refl _ _ | (refine Below.alloc ?_ (by simp <;> omega) _) | (refine Below.setCell ?_ (by simp <;> omega) _) | (refine Below.drew ?_) | (refine bel_drewN ?_ _)))
    replace bR := bR.on hb
    replace HB := Lib.hid (bel_end HB.out hb)
    clear hW hb
    have bR_0 := bR.cell 0 rfl
    have bR_1 := bR.cell 1 rfl
    have bR_f0 := bR.frozen 0
    have bR_f1 := bR.frozen 1
    have bR_l := bR.lt
    go_wp2
    exact bodyPost_ret (v := .tuple #[.agg #[.int .i64 0, .int .i64 0], .int .i64 q]) (by simp [results, Try.results32, go_sem, bR_0, bR_1]) rfl ⟨resA4 HT.out, (by repeat (first | exact HB.out | (refine Below.setCell ?_ (by simp <;> omega) _) | (refine Below.alloc ?_ (by simp <;> omega) _) | (refine Below.drew ?_)))⟩
  case pos =>
    obtain ⟨i, j, rfl, rfl, hj, r⟩ := acod_ray hq
    have HT : Hid (tdF zs ys (i : Int) c s h (j : Int) ab = if vdV ys i c h (anr j ab) (afr j ab) = 2 then (tdLo zs ys i c h j ab, tdHi zs ys i c h j ab, 0) else (0, 0, 5)) := Lib.hid (by unfold tdF; rw [if_pos hq]; rfl)
    have K : Hid (∀ W : World, Below w.heap.size w W → Calls Try.prog 56 #[.agg #[.slice a zs.length ca, .slice b ys.length cb], .int .i64 (i : Int), .agg #[.int .i64 c, .int .i64 s, .int .i64 h], .int .i64 (j : Int), .bool ab] W fun e w' => e = .returned (.tuple #[.agg #[.slice a zs.length ca, .slice b ys.length cb, .int .i64 (i : Int), .int .i64 c, .int .i64 s, .int .i64 h, .int .i64 (anr j ab : Int), .int .i64 (afr j ab : Int)], .int .i64 0]) ∧ Below W.heap.size W w') := Lib.hid (fun W hb => ain_ok W a b ca cb zs ys i j c s h ab (HP.out.on hb) hq (by have := r.ok.n12; omega))
    have KV : Hid (∀ W : World, Below w.heap.size w W → Calls Try.prog 66 #[.agg #[.slice a zs.length ca, .slice b ys.length cb, .int .i64 (i : Int), .int .i64 c, .int .i64 s, .int .i64 h, .int .i64 (anr j ab : Int), .int .i64 (afr j ab : Int)]] W fun e w' => e = .returned (.int .i64 (vdV ys i c h (anr j ab) (afr j ab))) ∧ Below W.heap.size W w') := Lib.hid (fun W hb => avd_any W a b ca cb zs ys i (anr j ab) (afr j ab) c s h (HP.out.on hb) r (anr_lt hj) (afr_lt hj))
    by_cases hv : vdV ys i c h (anr j ab) (afr j ab) = 2
    case neg =>
      rw [if_neg hv] at HT
      obtain ⟨v, hvv⟩ : ∃ v, vdV ys i c h (anr j ab) (afr j ab) = v := ⟨_, rfl⟩
      rw [hvv] at KV hv
      have hv0 : (v != 2) = true := by simpa using hv
      clear hvv hv hq hp r hj
      go_enter Try.func32, Try.ntmps32
      go_wp2_with fail
      generalize hW : World.alloc _ _ = W
      have bP : Bk W (w.heap.size) #[.slice a zs.length ca, .slice b ys.length cb] 39 := by rw [← hW]; repeat (first | exact Bk.new' (by simp) | refine Bk.alloc ?_ _)
      have bD : Bk W (w.heap.size + 1) #[.int .i64 c, .int .i64 s, .int .i64 h] 41 := by rw [← hW]; repeat (first | exact Bk.new' (by simp) | refine Bk.alloc ?_ _)
      have bR : Bk W (w.heap.size + 1 + 1) #[.int .i64 0, .int .i64 0] 25 := by rw [← hW]; repeat (first | exact Bk.new' (by simp) | refine Bk.alloc ?_ _)
      have HB : Hid (Below w.heap.size w W) := Lib.hid (by rw [← hW]; exact (by repeat (first | exact Below.refl _ _ | (refine Below.alloc ?_ (by simp <;> omega) _) | (refine Below.setCell ?_ (by simp <;> omega) _) | (refine Below.drew ?_) | (refine bel_drewN ?_ _))))
      clear hW
      (with_reducible refine Calls.mono (K.out _ HB.out) ?_)
      rintro e w1 ⟨rfl, hb⟩
      replace bP := bP.on hb
      replace bD := bD.on hb
      replace bR := bR.on hb
      replace HB := Lib.hid (bel_end HB.out hb)
      clear hb
      clear bP bD
      go_wp2_with fail
      generalize hW : World.alloc _ _ = W2
      have hb : Below w1.heap.size w1 W2 := by rw [← hW]; exact (by repeat (first | exact Below.refl _ _ | (refine Below.alloc ?_ (by simp <;> omega) _) | (refine Below.setCell ?_ (by simp <;> omega) _) | (refine Below.drew ?_) | (refine bel_drewN ?_ _)))
      have bX : Bk W2 w1.heap.size #[.slice a zs.length ca, .slice b ys.length cb, .int .i64 (i : Int), .int .i64 c, .int .i64 s, .int .i64 h, .int .i64 (anr j ab : Int), .int .i64 (afr j ab : Int)] 81 := by rw [← hW]; exact Bk.new' rfl
      replace bR := bR.on hb
      replace HB := Lib.hid (bel_end HB.out hb)
      clear hW hb
      (with_reducible refine Calls.mono (KV.out _ HB.out) ?_)
      rintro e w3 ⟨rfl, hb⟩
      replace bR := bR.on hb
      replace HB := Lib.hid (bel_end HB.out hb)
      clear hb
      have bR_0 := bR.cell 0 rfl
      have bR_1 := bR.cell 1 rfl
      have bR_f0 := bR.frozen 0
      have bR_f1 := bR.frozen 1
      have bR_l := bR.lt
      go_wp2
      exact bodyPost_ret (v := .tuple #[.agg #[.int .i64 0, .int .i64 0], .int .i64 5]) (by simp [results, Try.results32, go_sem, bR_0, bR_1]) rfl ⟨resA4 HT.out, (by repeat (first | exact HB.out | (refine Below.setCell ?_ (by simp <;> omega) _) | (refine Below.alloc ?_ (by simp <;> omega) _) | (refine Below.drew ?_)))⟩
    case pos =>
      rw [if_pos hv] at HT
      obtain ⟨e1, e2⟩ := vdV_2 hv
      obtain ⟨t1, t2, t3, t4, -⟩ := r.turn e1 e2
      have hR : 0 < riS ys c (anr j ab) (afr j ab) := by omega
      have KT : Hid (∀ W : World, Below w.heap.size w W → Calls Try.prog 69 #[.agg #[.slice a zs.length ca, .slice b ys.length cb, .int .i64 (i : Int), .int .i64 c, .int .i64 s, .int .i64 h, .int .i64 (anr j ab : Int), .int .i64 (afr j ab : Int)]] W fun e w' => e = .returned (.agg #[.int .i64 (tdLo zs ys i c h j ab), .int .i64 (tdHi zs ys i c h j ab)]) ∧ Below W.heap.size W w') := Lib.hid (fun W hb => by have := atd_any W a b ca cb zs ys i (anr j ab) (afr j ab) c s h (HP.out.on hb) r (anr_lt hj) (afr_lt hj) hR; rwa [(td_eq r hR).1, (td_eq r hR).2] at this)
      rw [hv] at KV
      obtain ⟨x, hx⟩ : ∃ v, tdLo zs ys i c h j ab = v := ⟨_, rfl⟩
      obtain ⟨y, hy⟩ : ∃ v, tdHi zs ys i c h j ab = v := ⟨_, rfl⟩
      rw [hx, hy] at KT HT
      clear hx hy hR e1 e2 t1 t2 t3 t4 hv hq hp r hj
      go_enter Try.func32, Try.ntmps32
      go_wp2_with fail
      generalize hW : World.alloc _ _ = W
      have bP : Bk W (w.heap.size) #[.slice a zs.length ca, .slice b ys.length cb] 39 := by rw [← hW]; repeat (first | exact Bk.new' (by simp) | refine Bk.alloc ?_ _)
      have bD : Bk W (w.heap.size + 1) #[.int .i64 c, .int .i64 s, .int .i64 h] 41 := by rw [← hW]; repeat (first | exact Bk.new' (by simp) | refine Bk.alloc ?_ _)
      have bR : Bk W (w.heap.size + 1 + 1) #[.int .i64 0, .int .i64 0] 25 := by rw [← hW]; repeat (first | exact Bk.new' (by simp) | refine Bk.alloc ?_ _)
      have HB : Hid (Below w.heap.size w W) := Lib.hid (by rw [← hW]; exact (by repeat (first | exact Below.refl _ _ | (refine Below.alloc ?_ (by simp <;> omega) _) | (refine Below.setCell ?_ (by simp <;> omega) _) | (refine Below.drew ?_) | (refine bel_drewN ?_ _))))
      clear hW
      (with_reducible refine Calls.mono (K.out _ HB.out) ?_)
      rintro e w1 ⟨rfl, hb⟩
      replace bP := bP.on hb
      replace bD := bD.on hb
      replace bR := bR.on hb
      replace HB := Lib.hid (bel_end HB.out hb)
      clear hb
      clear bP bD
      go_wp2_with fail
      generalize hW : World.alloc _ _ = W2
      have hb : Below w1.heap.size w1 W2 := by rw [← hW]; exact (by repeat (first | exact Below.refl _ _ | (refine Below.alloc ?_ (by simp <;> omega) _) | (refine Below.setCell ?_ (by simp <;> omega) _) | (refine Below.drew ?_) | (refine bel_drewN ?_ _)))
      have bX : Bk W2 w1.heap.size #[.slice a zs.length ca, .slice b ys.length cb, .int .i64 (i : Int), .int .i64 c, .int .i64 s, .int .i64 h, .int .i64 (anr j ab : Int), .int .i64 (afr j ab : Int)] 81 := by rw [← hW]; exact Bk.new' rfl
      replace bR := bR.on hb
      replace HB := Lib.hid (bel_end HB.out hb)
      clear hW hb
      (with_reducible refine Calls.mono (KV.out _ HB.out) ?_)
      rintro e w3 ⟨rfl, hb⟩
      replace bR := bR.on hb
      replace bX := bX.on hb
      replace HB := Lib.hid (bel_end HB.out hb)
      clear hb
      have bX_0 := bX.cell 0 rfl
      have bX_1 := bX.cell 1 rfl
      have bX_2 := bX.cell 2 rfl
      have bX_3 := bX.cell 3 rfl
      have bX_4 := bX.cell 4 rfl
      have bX_5 := bX.cell 5 rfl
      have bX_6 := bX.cell 6 rfl
      have bX_7 := bX.cell 7 rfl
      have bX_l := bX.lt
      go_wp2_with fail
      (with_reducible refine Calls.mono (KT.out _ HB.out) ?_)
      rintro e w4 ⟨rfl, hb⟩
      replace bR := bR.on hb
      replace bX := bX.on hb
      replace HB := Lib.hid (bel_end HB.out hb)
      clear hb
      clear bX_0 bX_1 bX_2 bX_3 bX_4 bX_5 bX_6 bX_7 bX_l
      have bR_0 := bR.cell 0 rfl
      have bR_1 := bR.cell 1 rfl
      have bR_f0 := bR.frozen 0
      have bR_f1 := bR.frozen 1
      have bR_l := bR.lt
      go_wp2
      exact bodyPost_ret (v := .tuple #[.agg #[.int .i64 x, .int .i64 y], .int .i64 0]) (by simp [results, Try.results32, go_sem, bR_0, bR_1]) rfl ⟨resA4 HT.out, (by repeat (first | exact HB.out | (refine Below.setCell ?_ (by simp <;> omega) _) | (refine Below.alloc ?_ (by simp <;> omega) _) | (refine Below.drew ?_)))⟩

set_option maxRecDepth 100000 in
set_option maxHeartbeats 1000000 in
theorem ird_any (w : World) (a b : Option Addr) (ca cb : Nat) (zs ys : List Int) (src c s h l : Int) (hp : Prof w w.heap.size a b zs ys) :
    Calls Try.prog 21 #[.agg #[.slice a zs.length ca, .slice b ys.length cb], .int .i64 src, .agg #[.int .i64 c, .int .i64 s, .int .i64 h], .int .i64 l] w fun e w' => e = .returned (.tuple #[.agg #[.int .i64 (rdF zs ys src c s h l).1, .int .i64 (rdF zs ys src c s h l).2.1], .int .i64 (rdF zs ys src c s h l).2.2]) ∧ Below w.heap.size w w' := by
  have HP := Lib.hid hp
  by_cases hq : acod zs ys src c s h l = 0
  case neg =>
    have HT : Hid (rdF zs ys src c s h l = (0, 0, acod zs ys src c s h l)) := Lib.hid (by unfold rdF; rw [if_neg hq])
    obtain ⟨q, hqq⟩ : ∃ q, acod zs ys src c s h l = q := ⟨_, rfl⟩
    have K : Hid (∀ W : World, Below w.heap.size w W → Calls Try.prog 56 #[.agg #[.slice a zs.length ca, .slice b ys.length cb], .int .i64 src, .agg #[.int .i64 c, .int .i64 s, .int .i64 h], .int .i64 l, .bool true] W fun e w' => e = .returned (.tuple #[.agg #[.slice none 0 0, .slice none 0 0, .int .i64 0, .int .i64 0, .int .i64 0, .int .i64 0, .int .i64 0, .int .i64 0], .int .i64 q]) ∧ Below W.heap.size W w') := Lib.hid (fun W hb => by have := ain_no W a b ca cb zs ys src c s h l true (HP.out.on hb) hq; rwa [hqq] at this)
    rw [hqq] at HT hq
    have hq0 : (q != 0) = true := by simpa using hq
    clear hqq hq hp
    go_enter Try.func21, Try.ntmps21
    go_wp2_with fail
    generalize hW : World.alloc _ _ = W
    have bP : Bk W (w.heap.size) #[.slice a zs.length ca, .slice b ys.length cb] 39 := by rw [← hW]; repeat (first | exact Bk.new' (by simp) | refine Bk.alloc ?_ _)
    have bD : Bk W (w.heap.size + 1) #[.int .i64 c, .int .i64 s, .int .i64 h] 41 := by rw [← hW]; repeat (first | exact Bk.new' (by simp) | refine Bk.alloc ?_ _)
    have bR : Bk W (w.heap.size + 1 + 1) #[.int .i64 0, .int .i64 0] 25 := by rw [← hW]; repeat (first | exact Bk.new' (by simp) | refine Bk.alloc ?_ _)
    have HB : Hid (Below w.heap.size w W) := Lib.hid (by rw [← hW]; exact (by repeat (first | exact Below.refl _ _ | (refine Below.alloc ?_ (by simp <;> omega) _) | (refine Below.setCell ?_ (by simp <;> omega) _) | (refine Below.drew ?_) | (refine bel_drewN ?_ _))))
    clear hW
    (with_reducible refine Calls.mono (K.out _ HB.out) ?_)
    rintro e w1 ⟨rfl, hb⟩
    replace bP := bP.on hb
    replace bD := bD.on hb
    replace bR := bR.on hb
    replace HB := Lib.hid (bel_end HB.out hb)
    clear hb
    clear bP bD
    have bR_0 := bR.cell 0 rfl
    have bR_1 := bR.cell 1 rfl
    have bR_f0 := bR.frozen 0
    have bR_f1 := bR.frozen 1
    have bR_l := bR.lt
    go_upto_region 3 with fail
    clear bR_0 bR_1 bR_f0 bR_f1 bR_l
    generalize hW : World.alloc _ _ = W2
    have hb : Below w1.heap.size w1 W2 := by rw [← hW]; exact (by repeat (first | exact Below.refl _ _ | (refine Below.alloc ?_ (by simp <;> omega) _) | (refine Below.setCell ?_ (by simp <;> omega) _) | (refine Below.drew ?_) | (refine bel_drewN ?_ _)))
    replace bR := bR.on hb
    replace HB := Lib.hid (bel_end HB.out hb)
    clear hW hb
    have bR_0 := bR.cell 0 rfl
    have bR_1 := bR.cell 1 rfl
    have bR_f0 := bR.frozen 0
    have bR_f1 := bR.frozen 1
    have bR_l := bR.lt
    go_wp2
    exact bodyPost_ret (v := .tuple #[.agg #[.int .i64 0, .int .i64 0], .int .i64 q]) (by simp [results, Try.results21, go_sem, bR_0, bR_1]) rfl ⟨resA4 HT.out, (by repeat (first | exact HB.out | (refine Below.setCell ?_ (by simp <;> omega) _) | (refine Below.alloc ?_ (by simp <;> omega) _) | (refine Below.drew ?_)))⟩
  case pos =>
    obtain ⟨i, j, rfl, rfl, hj, r⟩ := acod_ray hq
    have HT : Hid (rdF zs ys (i : Int) c s h (j : Int) = if ys.getD j 0 = ys.getD (j + 1) 0 then (0, 0, 5) else lim ((rdN zs ys i h j).fdiv (rdW ys c j)) (cdiv (rdN zs ys i h j) (rdW ys c j))) := Lib.hid (by unfold rdF; rw [if_pos hq]; rfl)
    have K : Hid (∀ W : World, Below w.heap.size w W → Calls Try.prog 56 #[.agg #[.slice a zs.length ca, .slice b ys.length cb], .int .i64 (i : Int), .agg #[.int .i64 c, .int .i64 s, .int .i64 h], .int .i64 (j : Int), .bool true] W fun e w' => e = .returned (.tuple #[.agg #[.slice a zs.length ca, .slice b ys.length cb, .int .i64 (i : Int), .int .i64 c, .int .i64 s, .int .i64 h, .int .i64 (anr j true : Int), .int .i64 (afr j true : Int)], .int .i64 0]) ∧ Below W.heap.size W w') := Lib.hid (fun W hb => ain_ok W a b ca cb zs ys i j c s h true (HP.out.on hb) hq (by have := r.ok.n12; omega))
    have KR : Hid (∀ W : World, Below w.heap.size w W → Calls Try.prog 57 #[.agg #[.slice a zs.length ca, .slice b ys.length cb, .int .i64 (i : Int), .int .i64 c, .int .i64 s, .int .i64 h, .int .i64 (anr j true : Int), .int .i64 (afr j true : Int)]] W fun e w' => e = .returned (.int .i64 (riS ys c j (j + 1))) ∧ Below W.heap.size W w') := Lib.hid (fun W hb => ari_any W a b ca cb zs ys i (anr j true) (afr j true) c s h (HP.out.on hb) r (anr_lt hj) (afr_lt hj))
    by_cases hv : ys.getD j 0 = ys.getD (j + 1) 0
    case pos =>
      rw [if_pos hv] at HT
      have hz : riS ys c j (j + 1) = 0 := by unfold riS; rw [hv, Int.sub_self, Int.mul_zero]
      rw [hz] at KR
      obtain ⟨n, hn⟩ : ∃ n, anr j true = n := ⟨_, rfl⟩
      obtain ⟨f, hf⟩ : ∃ n, afr j true = n := ⟨_, rfl⟩
      rw [hn, hf] at K KR
      clear hn hf hz hv hq hp r hj
      go_enter Try.func21, Try.ntmps21
      go_wp2_with fail
      generalize hW : World.alloc _ _ = W
      have bP : Bk W (w.heap.size) #[.slice a zs.length ca, .slice b ys.length cb] 39 := by rw [← hW]; repeat (first | exact Bk.new' (by simp) | refine Bk.alloc ?_ _)
      have bD : Bk W (w.heap.size + 1) #[.int .i64 c, .int .i64 s, .int .i64 h] 41 := by rw [← hW]; repeat (first | exact Bk.new' (by simp) | refine Bk.alloc ?_ _)
      have bR : Bk W (w.heap.size + 1 + 1) #[.int .i64 0, .int .i64 0] 25 := by rw [← hW]; repeat (first | exact Bk.new' (by simp) | refine Bk.alloc ?_ _)
      have HB : Hid (Below w.heap.size w W) := Lib.hid (by rw [← hW]; exact (by repeat (first | exact Below.refl _ _ | (refine Below.alloc ?_ (by simp <;> omega) _) | (refine Below.setCell ?_ (by simp <;> omega) _) | (refine Below.drew ?_) | (refine bel_drewN ?_ _))))
      clear hW
      (with_reducible refine Calls.mono (K.out _ HB.out) ?_)
      rintro e w1 ⟨rfl, hb⟩
      replace bP := bP.on hb
      replace bD := bD.on hb
      replace bR := bR.on hb
      replace HB := Lib.hid (bel_end HB.out hb)
      clear hb
      clear bP bD
      go_wp2_with fail
      generalize hW : World.alloc _ _ = W2
      have hb : Below w1.heap.size w1 W2 := by rw [← hW]; exact (by repeat (first | exact Below.refl _ _ | (refine Below.alloc ?_ (by simp <;> omega) _) | (refine Below.setCell ?_ (by simp <;> omega) _) | (refine Below.drew ?_) | (refine bel_drewN ?_ _)))
      have bX : Bk W2 w1.heap.size #[.slice a zs.length ca, .slice b ys.length cb, .int .i64 (i : Int), .int .i64 c, .int .i64 s, .int .i64 h, .int .i64 (n : Int), .int .i64 (f : Int)] 81 := by rw [← hW]; exact Bk.new' rfl
      replace bR := bR.on hb
      replace HB := Lib.hid (bel_end HB.out hb)
      clear hW hb
      (with_reducible refine Calls.mono (KR.out _ HB.out) ?_)
      rintro e w3 ⟨rfl, hb⟩
      replace bR := bR.on hb
      replace HB := Lib.hid (bel_end HB.out hb)
      clear hb
      have bR_0 := bR.cell 0 rfl
      have bR_1 := bR.cell 1 rfl
      have bR_f0 := bR.frozen 0
      have bR_f1 := bR.frozen 1
      have bR_l := bR.lt
      go_wp2
      exact bodyPost_ret (v := .tuple #[.agg #[.int .i64 0, .int .i64 0], .int .i64 5]) (by simp [results, Try.results21, go_sem, bR_0, bR_1]) rfl ⟨resA4 HT.out, (by repeat (first | exact HB.out | (refine Below.setCell ?_ (by simp <;> omega) _) | (refine Below.alloc ?_ (by simp <;> omega) _) | (refine Below.drew ?_)))⟩
    case neg =>
      rw [if_neg hv] at HT
      have hz : ¬ riS ys c j (j + 1) = 0 := by unfold riS; intro g; rcases Int.mul_eq_zero.1 g with g | g; (have := r.od.c1; omega); omega
      have hw : 0 < rdW ys c j := by rw [← (rd_eq r hj).2]; omega
      have hle := fdiv_le_cdiv (a := rdN zs ys i h j) hw
      have KT : Hid (∀ W : World, Below w.heap.size w W → Calls Try.prog 59 #[.agg #[.slice a zs.length ca, .slice b ys.length cb, .int .i64 (i : Int), .int .i64 c, .int .i64 s, .int .i64 h, .int .i64 (anr j true : Int), .int .i64 (afr j true : Int)]] W fun e w' => e = .returned (.agg #[.int .i64 ((rdN zs ys i h j).fdiv (rdW ys c j)), .int .i64 (cdiv (rdN zs ys i h j) (rdW ys c j))]) ∧ Below W.heap.size W w') := Lib.hid (fun W hb => by have := ard_any W a b ca cb zs ys i (anr j true) (afr j true) c s h (HP.out.on hb) r (anr_lt hj) (afr_lt hj) hz; have g1 : h * ys.getD i 0 * ((zs.getD (afr j true) 0 - zs.getD (anr j true) 0).natAbs : Int) = rdN zs ys i h j := (rd_eq r hj).1; have g2 : ((riS ys c (anr j true) (afr j true)).natAbs : Int) = rdW ys c j := (rd_eq r hj).2; rwa [g1, g2] at this)
      obtain ⟨z, hzz⟩ : ∃ v, riS ys c j (j + 1) = v := ⟨_, rfl⟩
      rw [hzz] at KR hz
      have hz0 : (z == 0) = false := by simpa using hz
      obtain ⟨x, hx⟩ : ∃ v, (rdN zs ys i h j).fdiv (rdW ys c j) = v := ⟨_, rfl⟩
      obtain ⟨y, hy⟩ : ∃ v, cdiv (rdN zs ys i h j) (rdW ys c j) = v := ⟨_, rfl⟩
      rw [hx, hy] at KT HT hle
      have KL : Hid (∀ W : World, Calls Try.prog 58 #[.agg #[.int .i64 x, .int .i64 y]] W fun e w' => e = .returned (.tuple #[.agg #[.int .i64 (lim x y).1, .int .i64 (lim x y).2.1], .int .i64 (lim x y).2.2]) ∧ Below W.heap.size W w') := Lib.hid (fun W => wlm_any x y hle W)
      obtain ⟨⟨p, q, e0⟩, hL⟩ : ∃ v, lim x y = v := ⟨_, rfl⟩
      rw [hL] at KL HT
      clear hL hx hy hz hzz hw hle hv hq hp r hj
      obtain ⟨n, hn⟩ : ∃ n, anr j true = n := ⟨_, rfl⟩
      obtain ⟨f, hf⟩ : ∃ n, afr j true = n := ⟨_, rfl⟩
      rw [hn, hf] at K KR KT
      clear hn hf
      go_enter Try.func21, Try.ntmps21
      go_wp2_with fail
      generalize hW : World.alloc _ _ = W
      have bP : Bk W (w.heap.size) #[.slice a zs.length ca, .slice b ys.length cb] 39 := by rw [← hW]; repeat (first | exact Bk.new' (by simp) | refine Bk.alloc ?_ _)
      have bD : Bk W (w.heap.size + 1) #[.int .i64 c, .int .i64 s, .int .i64 h] 41 := by rw [← hW]; repeat (first | exact Bk.new' (by simp) | refine Bk.alloc ?_ _)
      have bR : Bk W (w.heap.size + 1 + 1) #[.int .i64 0, .int .i64 0] 25 := by rw [← hW]; repeat (first | exact Bk.new' (by simp) | refine Bk.alloc ?_ _)
      have HB : Hid (Below w.heap.size w W) := Lib.hid (by rw [← hW]; exact (by repeat (first | exact Below.refl _ _ | (refine Below.alloc ?_ (by simp <;> omega) _) | (refine Below.setCell ?_ (by simp <;> omega) _) | (refine Below.drew ?_) | (refine bel_drewN ?_ _))))
      clear hW
      (with_reducible refine Calls.mono (K.out _ HB.out) ?_)
      rintro e w1 ⟨rfl, hb⟩
      replace bP := bP.on hb
      replace bD := bD.on hb
      replace bR := bR.on hb
      replace HB := Lib.hid (bel_end HB.out hb)
      clear hb
      clear bP bD
      go_wp2_with fail
      generalize hW : World.alloc _ _ = W2
      have hb : Below w1.heap.size w1 W2 := by rw [← hW]; exact (by repeat (first | exact Below.refl _ _ | (refine Below.alloc ?_ (by simp <;> omega) _) | (refine Below.setCell ?_ (by simp <;> omega) _) | (refine Below.drew ?_) | (refine bel_drewN ?_ _)))
      have bX : Bk W2 w1.heap.size #[.slice a zs.length ca, .slice b ys.length cb, .int .i64 (i : Int), .int .i64 c, .int .i64 s, .int .i64 h, .int .i64 (n : Int), .int .i64 (f : Int)] 81 := by rw [← hW]; exact Bk.new' rfl
      replace bR := bR.on hb
      replace HB := Lib.hid (bel_end HB.out hb)
      clear hW hb
      (with_reducible refine Calls.mono (KR.out _ HB.out) ?_)
      rintro e w3 ⟨rfl, hb⟩
      replace bR := bR.on hb
      replace bX := bX.on hb
      replace HB := Lib.hid (bel_end HB.out hb)
      clear hb
      have bX_0 := bX.cell 0 rfl
      have bX_1 := bX.cell 1 rfl
      have bX_2 := bX.cell 2 rfl
      have bX_3 := bX.cell 3 rfl
      have bX_4 := bX.cell 4 rfl
      have bX_5 := bX.cell 5 rfl
      have bX_6 := bX.cell 6 rfl
      have bX_7 := bX.cell 7 rfl
      have bX_l := bX.lt
      go_wp2_with fail
      (with_reducible refine Calls.mono (KT.out _ HB.out) ?_)
      rintro e w4 ⟨rfl, hb⟩
      replace bR := bR.on hb
      replace bX := bX.on hb
      replace HB := Lib.hid (bel_end HB.out hb)
      clear hb
      clear bX_0 bX_1 bX_2 bX_3 bX_4 bX_5 bX_6 bX_7 bX_l
      go_wp2_with fail
      (with_reducible refine Calls.mono (KL.out _) ?_)
      rintro e w5 ⟨rfl, hb⟩
      replace bR := bR.on hb
      replace HB := Lib.hid (bel_end HB.out hb)
      clear hb
      have bR_0 := bR.cell 0 rfl
      have bR_1 := bR.cell 1 rfl
      have bR_f0 := bR.frozen 0
      have bR_f1 := bR.frozen 1
      have bR_l := bR.lt
      go_wp2
      exact bodyPost_ret (v := .tuple #[.agg #[.int .i64 p, .int .i64 q], .int .i64 e0]) (by simp [results, Try.results21, go_sem, bR_0, bR_1]) rfl ⟨resA4 HT.out, (by repeat (first | exact HB.out | (refine Below.setCell ?_ (by simp <;> omega) _) | (refine Below.alloc ?_ (by simp <;> omega) _) | (refine Below.drew ?_)))⟩
end Go.Proofs.Ytfcbagjjpclplaa
