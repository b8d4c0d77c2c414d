import Derived.Test.YtgecbfbmmbfnmaaGreatRySa
import Derived.Test.YtgecbfbmmbfnmaaGreatArcR
import Derived.StillTailTactics
import Derived.Deep.QuietTactic
import Derived.BigQuiet
import Derived.Deep.DeepCutAuto
namespace Go.Proofs.YtgecbfbmmbfnmaaGreat
/- Contracts of the model's steps of a ray. -/
open Go.ChangeShapes Go.WideShapes Go.ChangeAt Go.RowKit Go.Shelf Num
set_option linter.unusedVariables false
set_option linter.unusedSimpArgs false

set_option maxRecDepth 100000 in
set_option maxHeartbeats 8000000 in
theorem lpa_any (w : World) (a b : Option Addr) (ca cb : Nat) (zs ys : List Int) (i l : Nat) (c s h : Int) (ab : Bool) (hp : Prof w w.heap.size a b zs ys) (r : RyOk zs ys i c s h) (hl : l + 1 < zs.length) (e1 : crB ys (i : Int) c h (anr l ab : Nat) = true) :
    Calls Tryz.prog 67 #[.agg #[.slice a zs.length ca, .slice b ys.length cb], .int .i64 (i : Int), .agg #[.int .i64 c, .int .i64 s, .int .i64 h], .int .i64 (l : Int), .bool ab] w fun e w' => e = .returned (.tuple #[.agg #[.int .i64 (pasT zs ys i c h l ab).1, .int .i64 (pasT zs ys i c h l ab).2.1], .int .i64 (pasT zs ys i c h l ab).2.2.1, .int .i64 (pasT zs ys i c h l ab).2.2.2]) ∧ Below w.heap.size w w' := by
  have HP := Lib.hid hp
  have hx : crB ys (i : Int) c h (l : Int) = true ∨ crB ys (i : Int) c h ((l + 1 : Nat) : Int) = true := by
    revert e1
    cases ab
    · intro e1; exact Or.inr e1
    · intro e1; exact Or.inl e1
  have KX : Hid (∀ W : World, Below w.heap.size w W → Calls Tryz.prog 76 #[.agg #[.slice a zs.length ca, .slice b ys.length cb], .int .i64 (i : Int), .agg #[.int .i64 c, .int .i64 s, .int .i64 h], .int .i64 (l : Int)] W fun e w' => e = .returned (.tuple #[.agg #[.int .i64 (lim ((crN zs ys c l).fdiv (sH ys i c h l + sH ys i c h (l + 1))) (cdiv (crN zs ys c l) (sL ys i c h l + sL ys i c h (l + 1)))).1, .int .i64 (lim ((crN zs ys c l).fdiv (sH ys i c h l + sH ys i c h (l + 1))) (cdiv (crN zs ys c l) (sL ys i c h l + sL ys i c h (l + 1)))).2.1], .int .i64 (lim ((crN zs ys c l).fdiv (sH ys i c h l + sH ys i c h (l + 1))) (cdiv (crN zs ys c l) (sL ys i c h l + sL ys i c h (l + 1)))).2.2]) ∧ Below W.heap.size W w') := Lib.hid (fun W hb => lcx_any W a b ca cb zs ys i l c s h (HP.out.on hb) r hl hx)
  have KV : Hid (∀ W : World, Below w.heap.size w W → Calls Tryz.prog 75 #[.agg #[.slice a zs.length ca, .slice b ys.length cb], .int .i64 (i : Int), .agg #[.int .i64 c, .int .i64 s, .int .i64 h], .int .i64 (l : Int), .bool ab] W fun e w' => e = .returned (.int .i64 (vdV ys i c h (anr l ab) (afr l ab))) ∧ Below W.heap.size W w') := Lib.hid (fun W hb => l6v_any W a b ca cb zs ys i l c s h ab (HP.out.on hb) r hl)
  cases e2 : crB ys (i : Int) c h (afr l ab : Nat)
  case true =>
    have es : sL ys i c h l = sLo ys i c h l ∧ sH ys i c h l = sHi ys i c h l ∧ sL ys i c h (l + 1) = sLo ys i c h (l + 1) ∧ sH ys i c h (l + 1) = sHi ys i c h (l + 1) := by
      have g : crB ys (i : Int) c h (l : Nat) = true ∧ crB ys (i : Int) c h (l + 1 : Nat) = true := by
        revert e1 e2
        cases ab
        · intro e1 e2; exact ⟨e2, e1⟩
        · intro e1 e2; exact ⟨e1, e2⟩
      unfold sL sH
      rw [g.1, g.2]
      exact ⟨rfl, rfl, rfl, rfl⟩
    rw [es.1, es.2.1, es.2.2.1, es.2.2.2] at KX
    have HT0 : pasT zs ys i c h l ab = if (lim (crLo zs ys i c h l) (crHi zs ys i c h l)).2.2 = 0 then ((lim (crLo zs ys i c h l) (crHi zs ys i c h l)).1, (lim (crLo zs ys i c h l) (crHi zs ys i c h l)).2.1, 1, 0) else (0, 0, 0, (lim (crLo zs ys i c h l) (crHi zs ys i c h l)).2.2) := by unfold pasT; rw [e2]; exact if_pos rfl
    unfold crLo crHi at HT0
    rw [show vdV ys i c h (anr l ab) (afr l ab) = 1 by unfold vdV; rw [e1, e2]; rfl] at KV
    obtain ⟨⟨x, y, e0⟩, hL⟩ : ∃ v, lim ((crN zs ys c l).fdiv (sHi ys i c h l + sHi ys i c h (l + 1))) (cdiv (crN zs ys c l) (sLo ys i c h l + sLo ys i c h (l + 1))) = v := ⟨_, rfl⟩
    rw [hL] at HT0 KX
    dsimp only at HT0
    clear es hL e1 e2 hx hp r hl
    by_cases h0 : e0 = 0
    case pos =>
      subst h0
      have HT := Lib.hid (HT0.trans (if_pos rfl))
      clear HT0
      go_enter Tryz.func67, Tryz.ntmps67
      go_wp2_with fail
      generalize hW : World.alloc _ _ = W
      have bP : Bk W (w.heap.size) #[.slice a zs.length ca, .slice b ys.length cb] 26 := by rw [← hW]; repeat (first | (refine Bk.new' ?_; (simp; done)) | refine Bk.alloc ?_ _)
      have bD : Bk W (w.heap.size + 1) #[.int .i64 c, .int .i64 s, .int .i64 h] 28 := by rw [← hW]; repeat (first | (refine Bk.new' ?_; (simp; done)) | refine Bk.alloc ?_ _)
      have bR : Bk W (w.heap.size + 1 + 1) #[.int .i64 0, .int .i64 0] 34 := by rw [← hW]; repeat (first | (refine Bk.new' ?_; (simp; done)) | refine Bk.alloc ?_ _)
      have HB : Hid (Below w.heap.size w W) := Lib.hid (by rw [← hW]; exact (by repeat (first | exact Below.refl _ _ | (refine Below.alloc ?_ (by simp <;> omega) _) | (refine Below.setCell ?_ (by simp <;> omega) _) | (refine Below.drew ?_) | (refine bel_drewN ?_ _))))
      clear hW
      (with_reducible refine Calls.mono (KV.out _ HB.out) ?_)
      rintro e w1 ⟨rfl, hb⟩
      replace bP := bP.on hb
      replace bD := bD.on hb
      replace bR := bR.on hb
      replace HB := Lib.hid (bel_end HB.out hb)
      clear hb
      have bP_0 := bP.cell 0 rfl
      have bP_1 := bP.cell 1 rfl
      have bP_l := bP.lt
      have bD_0 := bD.cell 0 rfl
      have bD_1 := bD.cell 1 rfl
      have bD_2 := bD.cell 2 rfl
      have bD_l := bD.lt
      go_wp2_with fail
      clear bP_0 bP_1 bP_l
      clear bD_0 bD_1 bD_2 bD_l
      (with_reducible refine Calls.mono (KX.out _ HB.out) ?_)
      rintro e w2 ⟨rfl, hb⟩
      replace bP := bP.on hb
      replace bD := bD.on hb
      replace bR := bR.on hb
      replace HB := Lib.hid (bel_end HB.out hb)
      clear hb
      go_upto_region 5 with fail
      generalize hW : World.alloc _ _ = W2
      obtain ⟨g, hg⟩ : ∃ g, g = w2.heap.size := ⟨_, rfl⟩
      have bN : Bk W2 g #[.int .i64 x, .int .i64 y] 34 := by rw [← hW]; exact Bk.new' hg
      have hgl : w.heap.size + 1 + 1 < g := by have := bR.lt; omega
      have hb : Below w2.heap.size w2 W2 := by rw [← hW]; exact (Below.refl _ _).alloc (Nat.le_refl _) _
      try rw [← hg]
      clear hW hg
      replace bP := bP.on hb
      replace bD := bD.on hb
      replace bR := bR.on hb
      replace HB := Lib.hid (bel_end HB.out hb)
      clear hb
      have bN_0 := bN.cell 0 rfl
      have bN_1 := bN.cell 1 rfl
      have bN_l := bN.lt
      have bR_0 := bR.cell 0 rfl
      have bR_1 := bR.cell 1 rfl
      have bR_f0 := bR.frozen 0
      have bR_f1 := bR.frozen 1
      have bR_l := bR.lt
      go_wp2
      exact bodyPost_ret (v := .tuple #[.agg #[.int .i64 x, .int .i64 y], .int .i64 1, .int .i64 0]) (by simp [results, Tryz.results67, go_sem, bR_0, bR_1]) rfl ⟨resP HT.out, (by first | exact HB.out | exact ((HB.out.setCell (p := ⟨w.heap.size + 1 + 1, 0, none⟩) (by dsimp only; omega) _).setCell (p := ⟨w.heap.size + 1 + 1, 1, none⟩) (by dsimp only; omega) _))⟩
    case neg =>
      have HT := Lib.hid (HT0.trans (if_neg h0))
      have h00 : (e0 != 0) = true := by simpa using h0
      clear HT0 h0
      go_enter Tryz.func67, Tryz.ntmps67
      go_wp2_with fail
      generalize hW : World.alloc _ _ = W
      have bP : Bk W (w.heap.size) #[.slice a zs.length ca, .slice b ys.length cb] 26 := by rw [← hW]; repeat (first | (refine Bk.new' ?_; (simp; done)) | refine Bk.alloc ?_ _)
      have bD : Bk W (w.heap.size + 1) #[.int .i64 c, .int .i64 s, .int .i64 h] 28 := by rw [← hW]; repeat (first | (refine Bk.new' ?_; (simp; done)) | refine Bk.alloc ?_ _)
      have bR : Bk W (w.heap.size + 1 + 1) #[.int .i64 0, .int .i64 0] 34 := by rw [← hW]; repeat (first | (refine Bk.new' ?_; (simp; done)) | refine Bk.alloc ?_ _)
      have HB : Hid (Below w.heap.size w W) := Lib.hid (by rw [← hW]; exact (by repeat (first | exact Below.refl _ _ | (refine Below.alloc ?_ (by simp <;> omega) _) | (refine Below.setCell ?_ (by simp <;> omega) _) | (refine Below.drew ?_) | (refine bel_drewN ?_ _))))
      clear hW
      (with_reducible refine Calls.mono (KV.out _ HB.out) ?_)
      rintro e w1 ⟨rfl, hb⟩
      replace bP := bP.on hb
      replace bD := bD.on hb
      replace bR := bR.on hb
      replace HB := Lib.hid (bel_end HB.out hb)
      clear hb
      have bP_0 := bP.cell 0 rfl
      have bP_1 := bP.cell 1 rfl
      have bP_l := bP.lt
      have bD_0 := bD.cell 0 rfl
      have bD_1 := bD.cell 1 rfl
      have bD_2 := bD.cell 2 rfl
      have bD_l := bD.lt
      go_wp2_with fail
      clear bP_0 bP_1 bP_l
      clear bD_0 bD_1 bD_2 bD_l
      (with_reducible refine Calls.mono (KX.out _ HB.out) ?_)
      rintro e w2 ⟨rfl, hb⟩
      replace bP := bP.on hb
      replace bD := bD.on hb
      replace bR := bR.on hb
      replace HB := Lib.hid (bel_end HB.out hb)
      clear hb
      go_upto_region 5 with fail
      generalize hW : World.alloc _ _ = W2
      obtain ⟨g, hg⟩ : ∃ g, g = w2.heap.size := ⟨_, rfl⟩
      have bN : Bk W2 g #[.int .i64 x, .int .i64 y] 34 := by rw [← hW]; exact Bk.new' hg
      have hgl : w.heap.size + 1 + 1 < g := by have := bR.lt; omega
      have hb : Below w2.heap.size w2 W2 := by rw [← hW]; exact (Below.refl _ _).alloc (Nat.le_refl _) _
      try rw [← hg]
      clear hW hg
      replace bP := bP.on hb
      replace bD := bD.on hb
      replace bR := bR.on hb
      replace HB := Lib.hid (bel_end HB.out hb)
      clear hb
      have bN_0 := bN.cell 0 rfl
      have bN_1 := bN.cell 1 rfl
      have bN_l := bN.lt
      have bR_0 := bR.cell 0 rfl
      have bR_1 := bR.cell 1 rfl
      have bR_f0 := bR.frozen 0
      have bR_f1 := bR.frozen 1
      have bR_l := bR.lt
      go_wp2
      exact bodyPost_ret (v := .tuple #[.agg #[.int .i64 0, .int .i64 0], .int .i64 0, .int .i64 e0]) (by simp [results, Tryz.results67, go_sem, bR_0, bR_1]) rfl ⟨resP HT.out, (by first | exact HB.out | exact ((HB.out.setCell (p := ⟨w.heap.size + 1 + 1, 0, none⟩) (by dsimp only; omega) _).setCell (p := ⟨w.heap.size + 1 + 1, 1, none⟩) (by dsimp only; omega) _))⟩
  case false =>
    have HT0 : pasT zs ys i c h l ab = if (lim (tnLo zs ys i c h l ab) (tnHi zs ys i c h l ab)).2.2 = 0 then ((lim (tnLo zs ys i c h l ab) (tnHi zs ys i c h l ab)).1, (lim (tnLo zs ys i c h l ab) (tnHi zs ys i c h l ab)).2.1, 2, 0) else (0, 0, 0, (lim (tnLo zs ys i c h l ab) (tnHi zs ys i c h l ab)).2.2) := by unfold pasT; rw [e2]; exact if_neg (by simp)
    have KU : Hid (∀ W : World, Below w.heap.size w W → Calls Tryz.prog 77 #[.agg #[.slice a zs.length ca, .slice b ys.length cb], .int .i64 (i : Int), .agg #[.int .i64 c, .int .i64 s, .int .i64 h], .int .i64 (l : Int), .bool ab] W fun e w' => e = .returned (.tuple #[.agg #[.int .i64 (lim (tnLo zs ys i c h l ab) (tnHi zs ys i c h l ab)).1, .int .i64 (lim (tnLo zs ys i c h l ab) (tnHi zs ys i c h l ab)).2.1], .int .i64 (lim (tnLo zs ys i c h l ab) (tnHi zs ys i c h l ab)).2.2]) ∧ Below W.heap.size W w') := Lib.hid (fun W hb => ltu_any W a b ca cb zs ys i l c s h ab (HP.out.on hb) r hl e1 e2)
    rw [show vdV ys i c h (anr l ab) (afr l ab) = 2 by unfold vdV; rw [e1, e2]; rfl] at KV
    obtain ⟨⟨x0, y0, e00⟩, hL0⟩ : ∃ v, lim ((crN zs ys c l).fdiv (sH ys i c h l + sH ys i c h (l + 1))) (cdiv (crN zs ys c l) (sL ys i c h l + sL ys i c h (l + 1))) = v := ⟨_, rfl⟩
    rw [hL0] at KX
    obtain ⟨⟨x, y, e0⟩, hL⟩ : ∃ v, lim (tnLo zs ys i c h l ab) (tnHi zs ys i c h l ab) = v := ⟨_, rfl⟩
    rw [hL] at HT0 KU
    dsimp only at HT0
    clear hL0 hL e1 e2 hx hp r hl
    by_cases h0 : e0 = 0
    case pos =>
      subst h0
      have HT := Lib.hid (HT0.trans (if_pos rfl))
      clear HT0
      go_enter Tryz.func67, Tryz.ntmps67
      go_wp2_with fail
      generalize hW : World.alloc _ _ = W
      have bP : Bk W (w.heap.size) #[.slice a zs.length ca, .slice b ys.length cb] 26 := by rw [← hW]; repeat (first | (refine Bk.new' ?_; (simp; done)) | refine Bk.alloc ?_ _)
      have bD : Bk W (w.heap.size + 1) #[.int .i64 c, .int .i64 s, .int .i64 h] 28 := by rw [← hW]; repeat (first | (refine Bk.new' ?_; (simp; done)) | refine Bk.alloc ?_ _)
      have bR : Bk W (w.heap.size + 1 + 1) #[.int .i64 0, .int .i64 0] 34 := by rw [← hW]; repeat (first | (refine Bk.new' ?_; (simp; done)) | refine Bk.alloc ?_ _)
      have HB : Hid (Below w.heap.size w W) := Lib.hid (by rw [← hW]; exact (by repeat (first | exact Below.refl _ _ | (refine Below.alloc ?_ (by simp <;> omega) _) | (refine Below.setCell ?_ (by simp <;> omega) _) | (refine Below.drew ?_) | (refine bel_drewN ?_ _))))
      clear hW
      (with_reducible refine Calls.mono (KV.out _ HB.out) ?_)
      rintro e w1 ⟨rfl, hb⟩
      replace bP := bP.on hb
      replace bD := bD.on hb
      replace bR := bR.on hb
      replace HB := Lib.hid (bel_end HB.out hb)
      clear hb
      have bP_0 := bP.cell 0 rfl
      have bP_1 := bP.cell 1 rfl
      have bP_l := bP.lt
      have bD_0 := bD.cell 0 rfl
      have bD_1 := bD.cell 1 rfl
      have bD_2 := bD.cell 2 rfl
      have bD_l := bD.lt
      go_wp2_with fail
      clear bP_0 bP_1 bP_l
      clear bD_0 bD_1 bD_2 bD_l
      (with_reducible refine Calls.mono (KX.out _ HB.out) ?_)
      rintro e w2 ⟨rfl, hb⟩
      replace bP := bP.on hb
      replace bD := bD.on hb
      replace bR := bR.on hb
      replace HB := Lib.hid (bel_end HB.out hb)
      clear hb
      go_upto_region 5 with fail
      generalize hW : World.alloc _ _ = W2
      obtain ⟨g, hg⟩ : ∃ g, g = w2.heap.size := ⟨_, rfl⟩
      have bN : Bk W2 g #[.int .i64 x0, .int .i64 y0] 34 := by rw [← hW]; exact Bk.new' hg
      have hgl : w.heap.size + 1 + 1 < g := by have := bR.lt; omega
      have hb : Below w2.heap.size w2 W2 := by rw [← hW]; exact (Below.refl _ _).alloc (Nat.le_refl _) _
      try rw [← hg]
      clear hW hg
      replace bP := bP.on hb
      replace bD := bD.on hb
      replace bR := bR.on hb
      replace HB := Lib.hid (bel_end HB.out hb)
      clear hb
      have bP_0 := bP.cell 0 rfl
      have bP_1 := bP.cell 1 rfl
      have bP_l := bP.lt
      have bD_0 := bD.cell 0 rfl
      have bD_1 := bD.cell 1 rfl
      have bD_2 := bD.cell 2 rfl
      have bD_l := bD.lt
      go_wp2_with fail
      clear bP_0 bP_1 bP_l
      clear bD_0 bD_1 bD_2 bD_l
      (with_reducible refine Calls.mono (KU.out _ HB.out) ?_)
      rintro e w3 ⟨rfl, hb⟩
      replace bP := bP.on hb
      replace bD := bD.on hb
      replace bR := bR.on hb
      replace bN := bN.on hb
      replace HB := Lib.hid (bel_end HB.out hb)
      clear hb
      have bN_0 := bN.cell 0 rfl
      have bN_1 := bN.cell 1 rfl
      have bN_f0 := bN.frozen 0
      have bN_f1 := bN.frozen 1
      have bN_l := bN.lt
      go_upto_region 7 with fail
      generalize hW : World.setCell _ _ _ = W4
      have hb : Below w.heap.size w W4 := by rw [← hW]; exact ((HB.out.setCell (p := ⟨g, 0, none⟩) (by dsimp only; omega) _).setCell (p := ⟨g, 1, none⟩) (by dsimp only; omega) _)
      replace bR : Bk W4 (w.heap.size + 1 + 1) #[.int .i64 0, .int .i64 0] 34 := by rw [← hW]; exact (bR.other (by omega) 0 _).other (by omega) 1 _
      clear bN_0 bN_1 bN_f0 bN_f1 bN_l
      replace bN : Bk W4 g #[.int .i64 x, .int .i64 y] 34 := by rw [← hW]; exact (bN.set 0 _ rfl).set 1 _ rfl
      clear hW
      replace HB := Lib.hid hb
      clear hb
      have bN_0 := bN.cell 0 rfl
      have bN_1 := bN.cell 1 rfl
      have bN_l := bN.lt
      have bR_0 := bR.cell 0 rfl
      have bR_1 := bR.cell 1 rfl
      have bR_f0 := bR.frozen 0
      have bR_f1 := bR.frozen 1
      have bR_l := bR.lt
      go_wp2
      exact bodyPost_ret (v := .tuple #[.agg #[.int .i64 x, .int .i64 y], .int .i64 2, .int .i64 0]) (by simp [results, Tryz.results67, go_sem, bR_0, bR_1]) rfl ⟨resP HT.out, (by first | exact HB.out | exact ((HB.out.setCell (p := ⟨w.heap.size + 1 + 1, 0, none⟩) (by dsimp only; omega) _).setCell (p := ⟨w.heap.size + 1 + 1, 1, none⟩) (by dsimp only; omega) _))⟩
    case neg =>
      have HT := Lib.hid (HT0.trans (if_neg h0))
      have h00 : (e0 != 0) = true := by simpa using h0
      clear HT0 h0
      go_enter Tryz.func67, Tryz.ntmps67
      go_wp2_with fail
      generalize hW : World.alloc _ _ = W
      have bP : Bk W (w.heap.size) #[.slice a zs.length ca, .slice b ys.length cb] 26 := by rw [← hW]; repeat (first | (refine Bk.new' ?_; (simp; done)) | refine Bk.alloc ?_ _)
      have bD : Bk W (w.heap.size + 1) #[.int .i64 c, .int .i64 s, .int .i64 h] 28 := by rw [← hW]; repeat (first | (refine Bk.new' ?_; (simp; done)) | refine Bk.alloc ?_ _)
      have bR : Bk W (w.heap.size + 1 + 1) #[.int .i64 0, .int .i64 0] 34 := by rw [← hW]; repeat (first | (refine Bk.new' ?_; (simp; done)) | refine Bk.alloc ?_ _)
      have HB : Hid (Below w.heap.size w W) := Lib.hid (by rw [← hW]; exact (by repeat (first | exact Below.refl _ _ | (refine Below.alloc ?_ (by simp <;> omega) _) | (refine Below.setCell ?_ (by simp <;> omega) _) | (refine Below.drew ?_) | (refine bel_drewN ?_ _))))
      clear hW
      (with_reducible refine Calls.mono (KV.out _ HB.out) ?_)
      rintro e w1 ⟨rfl, hb⟩
      replace bP := bP.on hb
      replace bD := bD.on hb
      replace bR := bR.on hb
      replace HB := Lib.hid (bel_end HB.out hb)
      clear hb
      have bP_0 := bP.cell 0 rfl
      have bP_1 := bP.cell 1 rfl
      have bP_l := bP.lt
      have bD_0 := bD.cell 0 rfl
      have bD_1 := bD.cell 1 rfl
      have bD_2 := bD.cell 2 rfl
      have bD_l := bD.lt
      go_wp2_with fail
      clear bP_0 bP_1 bP_l
      clear bD_0 bD_1 bD_2 bD_l
      (with_reducible refine Calls.mono (KX.out _ HB.out) ?_)
      rintro e w2 ⟨rfl, hb⟩
      replace bP := bP.on hb
      replace bD := bD.on hb
      replace bR := bR.on hb
      replace HB := Lib.hid (bel_end HB.out hb)
      clear hb
      go_upto_region 5 with fail
      generalize hW : World.alloc _ _ = W2
      obtain ⟨g, hg⟩ : ∃ g, g = w2.heap.size := ⟨_, rfl⟩
      have bN : Bk W2 g #[.int .i64 x0, .int .i64 y0] 34 := by rw [← hW]; exact Bk.new' hg
      have hgl : w.heap.size + 1 + 1 < g := by have := bR.lt; omega
      have hb : Below w2.heap.size w2 W2 := by rw [← hW]; exact (Below.refl _ _).alloc (Nat.le_refl _) _
      try rw [← hg]
      clear hW hg
      replace bP := bP.on hb
      replace bD := bD.on hb
      replace bR := bR.on hb
      replace HB := Lib.hid (bel_end HB.out hb)
      clear hb
      have bP_0 := bP.cell 0 rfl
      have bP_1 := bP.cell 1 rfl
      have bP_l := bP.lt
      have bD_0 := bD.cell 0 rfl
      have bD_1 := bD.cell 1 rfl
      have bD_2 := bD.cell 2 rfl
      have bD_l := bD.lt
      go_wp2_with fail
      clear bP_0 bP_1 bP_l
      clear bD_0 bD_1 bD_2 bD_l
      (with_reducible refine Calls.mono (KU.out _ HB.out) ?_)
      rintro e w3 ⟨rfl, hb⟩
      replace bP := bP.on hb
      replace bD := bD.on hb
      replace bR := bR.on hb
      replace bN := bN.on hb
      replace HB := Lib.hid (bel_end HB.out hb)
      clear hb
      have bN_0 := bN.cell 0 rfl
      have bN_1 := bN.cell 1 rfl
      have bN_f0 := bN.frozen 0
      have bN_f1 := bN.frozen 1
      have bN_l := bN.lt
      go_upto_region 7 with fail
      generalize hW : World.setCell _ _ _ = W4
      have hb : Below w.heap.size w W4 := by rw [← hW]; exact ((HB.out.setCell (p := ⟨g, 0, none⟩) (by dsimp only; omega) _).setCell (p := ⟨g, 1, none⟩) (by dsimp only; omega) _)
      replace bR : Bk W4 (w.heap.size + 1 + 1) #[.int .i64 0, .int .i64 0] 34 := by rw [← hW]; exact (bR.other (by omega) 0 _).other (by omega) 1 _
      clear bN_0 bN_1 bN_f0 bN_f1 bN_l
      replace bN : Bk W4 g #[.int .i64 x, .int .i64 y] 34 := by rw [← hW]; exact (bN.set 0 _ rfl).set 1 _ rfl
      clear hW
      replace HB := Lib.hid hb
      clear hb
      have bN_0 := bN.cell 0 rfl
      have bN_1 := bN.cell 1 rfl
      have bN_l := bN.lt
      have bR_0 := bR.cell 0 rfl
      have bR_1 := bR.cell 1 rfl
      have bR_f0 := bR.frozen 0
      have bR_f1 := bR.frozen 1
      have bR_l := bR.lt
      go_wp2
      exact bodyPost_ret (v := .tuple #[.agg #[.int .i64 0, .int .i64 0], .int .i64 0, .int .i64 e0]) (by simp [results, Tryz.results67, go_sem, bR_0, bR_1]) rfl ⟨resP HT.out, (by first | exact HB.out | exact ((HB.out.setCell (p := ⟨w.heap.size + 1 + 1, 0, none⟩) (by dsimp only; omega) _).setCell (p := ⟨w.heap.size + 1 + 1, 1, none⟩) (by dsimp only; omega) _))⟩

set_option maxRecDepth 100000 in
set_option maxHeartbeats 2000000 in
theorem l7f_any (w : World) (src c s h : Int) :
    Calls Tryz.prog 46 #[.int .i64 src, .agg #[.int .i64 c, .int .i64 s, .int .i64 h]] w fun e w' => e = .returned (.agg #[.int .i64 src, .bool (decide (0 < s)), .int .i64 0, .int .i64 0]) ∧ Below w.heap.size w w' := by
  by_cases g : 0 < s
  all_goals
    first | rw [decide_eq_true g] | rw [decide_eq_false g]
    go_enter Tryz.func46, Tryz.ntmps46
    go_wp2
  · exact bodyPost_ret (v := .agg #[.int .i64 src, .bool true, .int .i64 0, .int .i64 0]) (by simp [results, Tryz.results46, go_sem]) rfl ⟨rfl, (by repeat (first | exact Below.refl _ _ | (refine Below.alloc ?_ (by simp <;> omega) _) | (refine Below.setCell ?_ (by simp <;> omega) _) | (refine Below.drew ?_) | (refine bel_drewN ?_ _)))⟩
  · exact bodyPost_ret (v := .agg #[.int .i64 src, .bool false, .int .i64 0, .int .i64 0]) (by simp [results, Tryz.results46, go_sem]) rfl ⟨rfl, (by repeat (first | exact Below.refl _ _ | (refine Below.alloc ?_ (by simp <;> omega) _) | (refine Below.setCell ?_ (by simp <;> omega) _) | (refine Below.drew ?_) | (refine bel_drewN ?_ _)))⟩

def lyI (k : Nat) (dn : Bool) : Int := if dn then (k : Int) else (k : Int) - 1
theorem lyI_n {n k : Nat} {dn : Bool} (h : inP n k dn = true) : lyI k dn = ((lk k dn : Nat) : Int) := by
  cases dn
  · have h' : 0 < k := by simpa [inP] using h
    show (k : Int) - 1 = ((k - 1 : Nat) : Int)
    omega
  · rfl

set_option maxRecDepth 100000 in
set_option maxHeartbeats 2000000 in
theorem lly7_any (w : World) (a b : Option Addr) (ca cb : Nat) (zs ys : List Int) (k : Nat) (dn : Bool) (lo hi : Int) (lz : zs.length ≤ 1048576) (hk : k < zs.length) :
    Calls Tryz.prog 66 #[.agg #[.slice a zs.length ca, .slice b ys.length cb], .agg #[.int .i64 (k : Int), .bool dn, .int .i64 lo, .int .i64 hi]] w fun e w' => e = .returned (.tuple #[.int .i64 (lyI k dn), .bool (inP zs.length k dn)]) ∧ Below w.heap.size w w' := by
  have ez : IntKind.wrap .i64 ((zs.length : Int) - 1) = (zs.length : Int) - 1 := IntWalk.i64_in _ (by omega)
  have ek : IntKind.wrap .i64 ((k : Int) - 1) = (k : Int) - 1 := IntWalk.i64_in _ (by omega)
  cases dn
  case true =>
    have hyy : Hid (decide ((k : Int) < (zs.length : Int) - 1) = inP zs.length k true) := Lib.hid (by unfold inP; rw [if_pos rfl, decide_eq_decide]; omega)
    go_enter Tryz.func66, Tryz.ntmps66
    go_wp2_with fail
    generalize hW : World.alloc _ _ = W
    have bP : Bk W (w.heap.size) #[.slice a zs.length ca, .slice b ys.length cb] 26 := by rw [← hW]; repeat (first | (refine Bk.new' ?_; (simp; done)) | refine Bk.alloc ?_ _)
    have bS : Bk W (w.heap.size + 1) #[.int .i64 (k : Int), .bool true, .int .i64 lo, .int .i64 hi] 38 := by rw [← hW]; repeat (first | (refine Bk.new' ?_; (simp; done)) | refine Bk.alloc ?_ _)
    have HB : Hid (Below w.heap.size w W) := Lib.hid (by rw [← hW]; exact (by repeat (first | exact Below.refl _ _ | (refine Below.alloc ?_ (by simp <;> omega) _) | (refine Below.setCell ?_ (by simp <;> omega) _) | (refine Below.drew ?_) | (refine bel_drewN ?_ _))))
    clear hW
    have bP_0 := bP.cell 0 rfl
    have bP_1 := bP.cell 1 rfl
    have bP_l := bP.lt
    have bS_0 := bS.cell 0 rfl
    have bS_1 := bS.cell 1 rfl
    have bS_2 := bS.cell 2 rfl
    have bS_3 := bS.cell 3 rfl
    have bS_l := bS.lt
    go_wp2_with fail
    go_quiet (fail)
    go_wp2_with fail
    go_ret2
    refine ⟨?_, by first | exact HB.out | exact bel_drewN HB.out _⟩
    show Ending.returned (.tuple #[.int .i64 (k : Int), .bool (decide ((k : Int) < (zs.length : Int) - 1))]) = _
    rw [hyy.out]
    rfl
  case false =>
    go_enter Tryz.func66, Tryz.ntmps66
    go_wp2_with fail
    generalize hW : World.alloc _ _ = W
    have bP : Bk W (w.heap.size) #[.slice a zs.length ca, .slice b ys.length cb] 26 := by rw [← hW]; repeat (first | (refine Bk.new' ?_; (simp; done)) | refine Bk.alloc ?_ _)
    have bS : Bk W (w.heap.size + 1) #[.int .i64 (k : Int), .bool false, .int .i64 lo, .int .i64 hi] 38 := by rw [← hW]; repeat (first | (refine Bk.new' ?_; (simp; done)) | refine Bk.alloc ?_ _)
    have HB : Hid (Below w.heap.size w W) := Lib.hid (by rw [← hW]; exact (by repeat (first | exact Below.refl _ _ | (refine Below.alloc ?_ (by simp <;> omega) _) | (refine Below.setCell ?_ (by simp <;> omega) _) | (refine Below.drew ?_) | (refine bel_drewN ?_ _))))
    clear hW
    have bP_0 := bP.cell 0 rfl
    have bP_1 := bP.cell 1 rfl
    have bP_l := bP.lt
    have bS_0 := bS.cell 0 rfl
    have bS_1 := bS.cell 1 rfl
    have bS_2 := bS.cell 2 rfl
    have bS_3 := bS.cell 3 rfl
    have bS_l := bS.lt
    go_wp2_with fail
    go_quiet (fail)
    go_wp2_with fail
    go_ret2
    refine ⟨?_, by first | exact HB.out | exact bel_drewN HB.out _⟩
    show Ending.returned (.tuple #[.int .i64 ((k : Int) - 1), .bool (decide (0 < k))]) = _
    rfl
end Go.Proofs.YtgecbfbmmbfnmaaGreat
