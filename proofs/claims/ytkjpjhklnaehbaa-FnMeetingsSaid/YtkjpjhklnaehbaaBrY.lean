/- The model's draw of two tracks. -/
import Derived.Test.YtkjpjhklnaehbaaBrT
namespace Go.Proofs.Ytkjpjhklnaehbaa
open Go.ChangeShapes Go.WideShapes Go.ChangeAt Go.RowKit Go.Shelf Num
set_option linter.unusedVariables false
set_option linter.unusedSimpArgs false
theorem bk_two44 {W W9 : World} {B B' : Nat} {t t' : TypeId} {x0 x1 x2 x3 y0 y1 y2 y3 a0 a1 a2 a3 b0 b1 b2 b3 : Value} (h : Bk W B #[x0, x1, x2, x3] t) (g : Bk W B' #[y0, y1, y2, y3] t') (hne : B ≠ B') (hW : (World.setCell (World.setCell (World.setCell (World.setCell (World.setCell (World.setCell (World.setCell (World.setCell W ⟨B, 0, none⟩ a0) ⟨B, 1, none⟩ a1) ⟨B, 2, none⟩ a2) ⟨B, 3, none⟩ a3) ⟨B', 0, none⟩ b0) ⟨B', 1, none⟩ b1) ⟨B', 2, none⟩ b2) ⟨B', 3, none⟩ b3) = W9) : Bk W9 B #[a0, a1, a2, a3] t ∧ Bk W9 B' #[b0, b1, b2, b3] t' := by
  obtain ⟨W1, e1⟩ : ∃ q, World.setCell W ⟨B, 0, none⟩ a0 = q := ⟨_, rfl⟩
  replace h : Bk W1 B #[a0, x1, x2, x3] t := by rw [← e1]; exact h.set 0 _ rfl
  replace g : Bk W1 B' #[y0, y1, y2, y3] t' := by rw [← e1]; exact g.other (Ne.symm hne) 0 _
  obtain ⟨W2, e2⟩ : ∃ q, World.setCell W1 ⟨B, 1, none⟩ a1 = q := ⟨_, rfl⟩
  replace h : Bk W2 B #[a0, a1, x2, x3] t := by rw [← e2]; exact h.set 1 _ rfl
  replace g : Bk W2 B' #[y0, y1, y2, y3] t' := by rw [← e2]; exact g.other (Ne.symm hne) 1 _
  obtain ⟨W3, e3⟩ : ∃ q, World.setCell W2 ⟨B, 2, none⟩ a2 = q := ⟨_, rfl⟩
  replace h : Bk W3 B #[a0, a1, a2, x3] t := by rw [← e3]; exact h.set 2 _ rfl
  replace g : Bk W3 B' #[y0, y1, y2, y3] t' := by rw [← e3]; exact g.other (Ne.symm hne) 2 _
  obtain ⟨W4, e4⟩ : ∃ q, World.setCell W3 ⟨B, 3, none⟩ a3 = q := ⟨_, rfl⟩
  replace h : Bk W4 B #[a0, a1, a2, a3] t := by rw [← e4]; exact h.set 3 _ rfl
  replace g : Bk W4 B' #[y0, y1, y2, y3] t' := by rw [← e4]; exact g.other (Ne.symm hne) 3 _
  obtain ⟨W5, e5⟩ : ∃ q, World.setCell W4 ⟨B', 0, none⟩ b0 = q := ⟨_, rfl⟩
  replace h : Bk W5 B #[a0, a1, a2, a3] t := by rw [← e5]; exact h.other hne 0 _
  replace g : Bk W5 B' #[b0, y1, y2, y3] t' := by rw [← e5]; exact g.set 0 _ rfl
  obtain ⟨W6, e6⟩ : ∃ q, World.setCell W5 ⟨B', 1, none⟩ b1 = q := ⟨_, rfl⟩
  replace h : Bk W6 B #[a0, a1, a2, a3] t := by rw [← e6]; exact h.other hne 1 _
  replace g : Bk W6 B' #[b0, b1, y2, y3] t' := by rw [← e6]; exact g.set 1 _ rfl
  obtain ⟨W7, e7⟩ : ∃ q, World.setCell W6 ⟨B', 2, none⟩ b2 = q := ⟨_, rfl⟩
  replace h : Bk W7 B #[a0, a1, a2, a3] t := by rw [← e7]; exact h.other hne 2 _
  replace g : Bk W7 B' #[b0, b1, b2, y3] t' := by rw [← e7]; exact g.set 2 _ rfl
  obtain ⟨W8, e8⟩ : ∃ q, World.setCell W7 ⟨B', 3, none⟩ b3 = q := ⟨_, rfl⟩
  replace h : Bk W8 B #[a0, a1, a2, a3] t := by rw [← e8]; exact h.other hne 3 _
  replace g : Bk W8 B' #[b0, b1, b2, b3] t' := by rw [← e8]; exact g.set 3 _ rfl
  rw [e1, e2, e3, e4, e5, e6, e7, e8] at hW
  subst hW
  exact ⟨h, g⟩

set_option maxRecDepth 100000 in
set_option maxHeartbeats 8000000 in
theorem dcs_any (w : World) (a0 : Option Addr) (cap : Nat) (zs : List Int) (h : Code8 w w.heap.size a0 zs) :
    Calls Try.prog 44 #[.slice a0 zs.length cap] w (Tw2 w) := by
  have HC := Lib.hid h
  clear h
  go_enter Try.func44, Try.ntmps44
  go_wp2_with fail
  generalize hW : World.alloc _ _ = W
  have bR : Bk W (w.heap.size) #[.int .i64 0, .int .i64 0, .int .i64 0, .int .i64 0] 44 := by rw [← hW]; repeat (first | (refine Bk.new' ?_; (simp; done)) | refine Bk.alloc ?_ _)
  have bE : Bk W (w.heap.size + 1) #[.int .i64 0, .int .i64 0, .int .i64 0, .int .i64 0] 44 := by rw [← hW]; repeat (first | (refine Bk.new' ?_; (simp; done)) | refine Bk.alloc ?_ _)
  have hb : Below w.heap.size w W := by rw [← hW]; exact (by repeat (first | exact Below.refl _ _ | (refine Below.alloc ?_ (by simp <;> omega) _) | (refine Below.setCell ?_ (by simp <;> omega) _) | (refine Below.drew ?_) | (refine bel_drewN ?_ _)))
  clear hW
  have hlT := bE.lt
  refine (from_any _ _ _ zs ((HC.out.below hb (Nat.le_refl _)).more hb.size)).mono ?_
  rintro e w1 ⟨s, rfl, hs, hsrc, hb1⟩
  replace bR := bR.on hb1
  replace bE := bE.on hb1
  have HB := Lib.hid (bel_end hb hb1)
  have HS := Lib.hid hsrc
  have hls := HS.out.lt
  have hR : w.heap.size + 2 ≤ s := by omega
  clear hs hsrc hb hb1 HC hlT
  have bR_0 := bR.cell 0 rfl
  have bR_1 := bR.cell 1 rfl
  have bR_2 := bR.cell 2 rfl
  have bR_3 := bR.cell 3 rfl
  have bR_l := bR.lt
  have bE_0 := bE.cell 0 rfl
  have bE_1 := bE.cell 1 rfl
  have bE_2 := bE.cell 2 rfl
  have bE_3 := bE.cell 3 rfl
  have bE_l := bE.lt
  go_wp2_with fail
  refine (dtw_any _ s HS.out).mono ?_
  rintro e ws2 ⟨a1, a2, a3, a4, b1, b2, b3, b4, rfl, hs, hg⟩
  replace bR := bR.kept hg (by simp; omega)
  replace bE := bE.kept hg (by simp; omega)
  have hz2 := hg.size
  replace HB := Lib.hid (HB.out.trans (below_of_grown hg (by omega) (by have := HB.out.size; omega)))
  replace HS := Lib.hid hs
  replace hls := HS.out.lt
  clear hs hg
  clear bR_0 bR_1 bR_2 bR_3 bR_l bE_0 bE_1 bE_2 bE_3 bE_l
  have bR_0 := bR.cell 0 rfl
  have bR_1 := bR.cell 1 rfl
  have bR_2 := bR.cell 2 rfl
  have bR_3 := bR.cell 3 rfl
  have bR_l := bR.lt
  have bE_0 := bE.cell 0 rfl
  have bE_1 := bE.cell 1 rfl
  have bE_2 := bE.cell 2 rfl
  have bE_3 := bE.cell 3 rfl
  have bE_l := bE.lt
  have bR_f0 := bR.frozen 0
  have bR_f1 := bR.frozen 1
  have bR_f2 := bR.frozen 2
  have bR_f3 := bR.frozen 3
  have bE_f0 := bE.frozen 0
  have bE_f1 := bE.frozen 1
  have bE_f2 := bE.frozen 2
  have bE_f3 := bE.frozen 3
  repeat (first | go_values | go_skip | go_guarded | go_step | go_upon | (dsimp only))
  clear bR_0 bR_f0 bR_1 bR_f1 bR_2 bR_f2 bR_3 bR_f3 bE_0 bE_f0 bE_1 bE_f1 bE_2 bE_f2 bE_3 bE_f3
  generalize hW : World.setCell _ _ _ = W9
  obtain ⟨z1, z2⟩ := bk_two44 bR bE (by omega) hW
  have HB9 : Below w.heap.size w W9 := by rw [← hW]; exact (Below.setCell (p := ⟨w.heap.size + 1, 3, none⟩) (Below.setCell (p := ⟨w.heap.size + 1, 2, none⟩) (Below.setCell (p := ⟨w.heap.size + 1, 1, none⟩) (Below.setCell (p := ⟨w.heap.size + 1, 0, none⟩) (Below.setCell (p := ⟨w.heap.size, 3, none⟩) (Below.setCell (p := ⟨w.heap.size, 2, none⟩) (Below.setCell (p := ⟨w.heap.size, 1, none⟩) (Below.setCell (p := ⟨w.heap.size, 0, none⟩) HB.out (by dsimp only; omega) _) (by dsimp only; omega) _) (by dsimp only; omega) _) (by dsimp only; omega) _) (by dsimp only; omega) _) (by dsimp only; omega) _) (by dsimp only; omega) _) (by dsimp only; omega) _)
  clear hW
  have c0 := z1.cell 0 rfl
  have c1 := z1.cell 1 rfl
  have c2 := z1.cell 2 rfl
  have c3 := z1.cell 3 rfl
  have d0 := z2.cell 0 rfl
  have d1 := z2.cell 1 rfl
  have d2 := z2.cell 2 rfl
  have d3 := z2.cell 3 rfl
  exact bodyPost_ret (v := .tuple #[.agg #[.int .i64 a1, .int .i64 a2, .int .i64 a3, .int .i64 a4], .agg #[.int .i64 b1, .int .i64 b2, .int .i64 b3, .int .i64 b4]]) (by simp [results, Try.results44, go_sem, c0, c1, c2, c3, d0, d1, d2, d3]) rfl ⟨a1, a2, a3, a4, b1, b2, b3, b4, rfl, HB9⟩
end Go.Proofs.Ytkjpjhklnaehbaa
