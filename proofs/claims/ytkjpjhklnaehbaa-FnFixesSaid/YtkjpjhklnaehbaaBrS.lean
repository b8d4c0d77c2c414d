/- The model's draws of points, bearings, tracks and times. -/
import Derived.Test.YtkjpjhklnaehbaaBrM
import Derived.Test.YtkjpjhklnaehbaaDrw
import Derived.Test.YtkjpjhklnaehbaaPrs
import Derived.Deep.RegionHeld3
import Derived.Deep.DeepCutAuto
import Derived.Deep.DrawnRows
import Derived.Deep.RegionWith
import Derived.Handy
namespace Go.Proofs.Ytkjpjhklnaehbaa
open Go.ChangeShapes Go.WideShapes Go.ChangeAt Go.RowKit Go.Shelf Num
set_option linter.unusedVariables false
set_option linter.unusedSimpArgs false

theorem pick2p (w : World) (s b cap : Nat) (z0 z1 : Int) (h : Src w s) (hb : ¬ b = s) (hk : w.heap[b]? = some (.cells #[.int .i64 z0, .int .i64 z1] 2 (0, 0))) :
    Calls Try.prog 75 #[.pointer (some ⟨s, 0, none⟩), .slice (some ⟨b, 0, none⟩) 2 cap] w (Some1 w s) :=
  pick_some w s b cap 2 [z0, z1] h rfl hb (by decide) (by decide) (fun j hj => (cell_of_row w b j _ _ _ hk).trans (match j, hj with
    | 0, _ => rfl
    | 1, _ => rfl)) (by obtain ⟨hlt, _⟩ := Array.getElem?_eq_some_iff.1 hk; exact hlt)
theorem src_belB {w w' : World} {s B : Nat} (h : Src w s) (hb : Below B w w') (hs : s < B) : Src w' s := by
  obtain ⟨a, cap, zs, k, seed, hblk, hc, rest⟩ := h
  exact ⟨a, cap, zs, k, seed, (hb.block s hs).trans hblk, hc.below (hb.mono (Nat.le_of_lt hs)) (Nat.le_refl _), rest⟩
theorem grown_belB {W wr w' : World} {s : Nat} (h : W.grownBy wr (some s)) (hb : Below W.heap.size wr w') : W.grownBy w' (some s) :=
  ⟨hb.os.trans h.os, hb.tape.trans h.tape, hb.output.trans h.output, Nat.le_trans h.size hb.size, fun k hk hne => (hb.block k hk).trans (h.block k hk hne)⟩
def PtD (w : World) (s : Nat) (e : Ending) (w' : World) : Prop := ∃ x y : Int, e = .returned (.agg #[.int .i64 x, .int .i64 y]) ∧ Src w' s ∧ w.grownBy w' (some s)
def TkD (w : World) (s : Nat) (e : Ending) (w' : World) : Prop := ∃ x y u v : Int, e = .returned (.agg #[.int .i64 x, .int .i64 y, .int .i64 u, .int .i64 v]) ∧ Src w' s ∧ w.grownBy w' (some s)
def TwD (w : World) (s : Nat) (e : Ending) (w' : World) : Prop := ∃ a1 a2 a3 a4 b1 b2 b3 b4 : Int, e = .returned (.tuple #[.agg #[.int .i64 a1, .int .i64 a2, .int .i64 a3, .int .i64 a4], .agg #[.int .i64 b1, .int .i64 b2, .int .i64 b3, .int .i64 b4]]) ∧ Src w' s ∧ w.grownBy w' (some s)

set_option maxRecDepth 100000 in
set_option maxHeartbeats 8000000 in
theorem dpt_any (w : World) (s : Nat) (size most : Int) (h : Src w s) :
    Calls Try.prog 72 #[.pointer (some ⟨s, 0, none⟩), .int .i64 size, .int .i64 most] w (PtD w s) := by
  have hlt := h.lt
  have HS := Lib.hid h
  clear h
  go_enter Try.func72, Try.ntmps72
  go_wp2_with fail
  generalize hW : World.alloc _ _ = W
  have bR : Bk W (w.heap.size) #[.int .i64 0, .int .i64 0] 25 := by rw [← hW]; repeat (first | (refine Bk.new' ?_; (simp; done)) | refine Bk.alloc ?_ _)
  have hb : Below w.heap.size w W := by rw [← hW]; exact (by repeat (first | exact Below.refl _ _ | (refine Below.alloc ?_ (by simp <;> omega) _) | (refine Below.setCell ?_ (by simp <;> omega) _) | (refine Below.drew ?_) | (refine bel_drewN ?_ _)))
  clear hW
  have HG : Hid (w.grownBy W (some s)) := Lib.hid (grown_bel (grown_refl w s) hb)
  replace HS := Lib.hid (HS.out.bel hb)
  have hls := HS.out.lt
  clear hb
  refine (nxt_any _ _ _ HS.out).mono ?_
  rintro e ws1 ⟨q1, rfl, -, -, -, hs, hg⟩
  replace bR := bR.kept hg (by simp; omega)
  replace HG := Lib.hid (grown_trans HG.out hg)
  replace HS := Lib.hid hs
  replace hls := HS.out.lt
  clear hs hg
  have bR_0 := bR.cell 0 rfl
  have bR_1 := bR.cell 1 rfl
  have bR_l := bR.lt
  go_wp2_with fail
  refine (nxt_any _ _ _ HS.out).mono ?_
  rintro e ws2 ⟨q2, rfl, -, -, -, hs, hg⟩
  replace bR := bR.kept hg (by simp; omega)
  replace HG := Lib.hid (grown_trans HG.out hg)
  replace HS := Lib.hid hs
  replace hls := HS.out.lt
  clear hs hg
  clear bR_0 bR_1 bR_l
  have bR_0 := bR.cell 0 rfl
  have bR_1 := bR.cell 1 rfl
  have bR_l := bR.lt
  go_upto_region 2 with fail
  clear bR_0 bR_1 bR_l
  generalize hW : World.alloc _ _ = wn3
  have hb : Below ws2.heap.size ws2 wn3 := by rw [← hW]; exact (by repeat (first | exact Below.refl _ _ | (refine Below.alloc ?_ (by simp <;> omega) _) | (refine Below.setCell ?_ (by simp <;> omega) _) | (refine Below.drew ?_) | (refine bel_drewN ?_ _)))
  obtain ⟨gP, hg0⟩ : ∃ g, g = ws2.heap.size := ⟨_, rfl⟩
  obtain ⟨X, Y, bP⟩ : ∃ X Y, Bk wn3 gP #[.int .i64 X, .int .i64 Y] 25 := ⟨_, _, by rw [← hW, hg0]; repeat (first | (refine Bk.new' ?_; (simp; done)) | refine Bk.alloc ?_ _)⟩
  have lsbP : s < gP := by omega
  have nebP_bR : gP ≠ w.heap.size := by have := bR.lt; omega
  have lwbP : w.heap.size ≤ gP := by have := HG.out.size; omega
  try rw [← hg0]
  clear hW hg0
  replace bR := bR.on hb
  replace HG := Lib.hid (grown_bel HG.out hb)
  replace HS := Lib.hid (HS.out.bel hb)
  replace hls := HS.out.lt
  clear hb
  have bR_0 := bR.cell 0 rfl
  have bR_1 := bR.cell 1 rfl
  have bR_l := bR.lt
  have bP_0 := bP.cell 0 rfl
  have bP_1 := bP.cell 1 rfl
  have bP_l := bP.lt
  go_wp2_with fail
  refine (nxt_any _ _ _ HS.out).mono ?_
  rintro e ws4 ⟨q3, rfl, -, -, -, hs, hg⟩
  replace bR := bR.kept hg (by simp; omega)
  replace bP := bP.kept hg (by simp; omega)
  replace HG := Lib.hid (grown_trans HG.out hg)
  replace HS := Lib.hid hs
  replace hls := HS.out.lt
  clear hs hg
  clear bR_0 bR_1 bR_l bP_0 bP_1 bP_l
  by_cases h0 : q3 = 0
  case pos =>
    subst h0
    have bR_0 := bR.cell 0 rfl
    have bR_1 := bR.cell 1 rfl
    have bR_l := bR.lt
    have bP_0 := bP.cell 0 rfl
    have bP_1 := bP.cell 1 rfl
    have bP_l := bP.lt
    go_wp2_with fail
    generalize hW : World.alloc _ _ = wp5
    have hb : Below ws4.heap.size ws4 wp5 := by rw [← hW]; exact (Below.refl _ _).alloc (Nat.le_refl _) _
    have KQ := Lib.hid (pick4 wp5 s ws4.heap.size 4 _ _ _ _ (HS.out.bel hb) (by have := HS.out.lt; omega) (by rw [← hW]; exact heap_alloc_new _ _))
    clear hW
    replace bR := bR.on hb
    replace bP := bP.on hb
    replace HG := Lib.hid (grown_bel HG.out hb)
    replace HS := Lib.hid (HS.out.bel hb)
    replace hls := HS.out.lt
    clear hb
    refine KQ.out.mono ?_
    rintro e ws6 ⟨X2, rfl, hs, hg⟩
    clear KQ
    replace bR := bR.kept hg (by simp; omega)
    replace bP := bP.kept hg (by simp; omega)
    replace HG := Lib.hid (grown_trans HG.out hg)
    replace HS := Lib.hid hs
    replace hls := HS.out.lt
    clear hs hg
    clear bR_0 bR_1 bR_l bP_0 bP_1 bP_l
    have bR_0 := bR.cell 0 rfl
    have bR_1 := bR.cell 1 rfl
    have bR_l := bR.lt
    have bP_0 := bP.cell 0 rfl
    have bP_1 := bP.cell 1 rfl
    have bP_l := bP.lt
    have bP_f0 := bP.frozen 0
    have bP_f1 := bP.frozen 1
    go_upto_region 4 with fail
    clear bR_0 bR_1 bR_l bP_0 bP_1 bP_l
    clear bP_f0 bP_f1
    generalize hW : World.setCell _ _ _ = W9
    replace bP : Bk W9 gP #[.int .i64 X2, .int .i64 Y] 25 := by rw [← hW]; exact bP.set 0 _ rfl
    replace bR : Bk W9 w.heap.size #[.int .i64 0, .int .i64 0] 25 := by rw [← hW]; exact bR.other (by omega) 0 _
    replace HG : Hid (w.grownBy W9 (some s)) := Lib.hid (by rw [← hW]; exact grown_set_new HG.out (by dsimp only; omega) _)
    replace HS : Hid (Src W9 s) := Lib.hid (by rw [← hW]; exact HS.out.set_far (by dsimp only; omega) _)
    clear hW
    have bR_0 := bR.cell 0 rfl
    have bR_1 := bR.cell 1 rfl
    have bR_l := bR.lt
    have bP_0 := bP.cell 0 rfl
    have bP_1 := bP.cell 1 rfl
    have bP_l := bP.lt
    have bR_f0 := bR.frozen 0
    have bR_f1 := bR.frozen 1
    go_wp2
    exact bodyPost_ret (v := .agg #[.int .i64 X2, .int .i64 Y]) (by simp [results, Try.results72, go_sem, bR_0, bR_f0, bR_1, bR_f1, bR_l]) rfl ⟨X2, Y, rfl, (Src.set_far (p := ⟨w.heap.size, 1, none⟩) (Src.set_far (p := ⟨w.heap.size, 0, none⟩) HS.out (by dsimp only; omega) _) (by dsimp only; omega) _), (grown_set_new (p := ⟨w.heap.size, 1, none⟩) (grown_set_new (p := ⟨w.heap.size, 0, none⟩) HG.out (by dsimp only; omega) _) (by dsimp only; omega) _)⟩
  case neg =>
    have h0b : (q3 == 0) = false := by simpa using h0
    clear h0
    have bR_0 := bR.cell 0 rfl
    have bR_1 := bR.cell 1 rfl
    have bR_l := bR.lt
    have bP_0 := bP.cell 0 rfl
    have bP_1 := bP.cell 1 rfl
    have bP_l := bP.lt
    have bR_f0 := bR.frozen 0
    have bR_f1 := bR.frozen 1
    go_wp2
    exact bodyPost_ret (v := .agg #[.int .i64 X, .int .i64 Y]) (by simp [results, Try.results72, go_sem, bR_0, bR_f0, bR_1, bR_f1, bR_l]) rfl ⟨X, Y, rfl, (Src.set_far (p := ⟨w.heap.size, 1, none⟩) (Src.set_far (p := ⟨w.heap.size, 0, none⟩) HS.out (by dsimp only; omega) _) (by dsimp only; omega) _), (grown_set_new (p := ⟨w.heap.size, 1, none⟩) (grown_set_new (p := ⟨w.heap.size, 0, none⟩) HG.out (by dsimp only; omega) _) (by dsimp only; omega) _)⟩

set_option maxRecDepth 100000 in
set_option maxHeartbeats 8000000 in
theorem dbr_any (w : World) (s : Nat) (h : Src w s) :
    Calls Try.prog 73 #[.pointer (some ⟨s, 0, none⟩)] w (PtD w s) := by
  have hlt := h.lt
  have HS := Lib.hid h
  clear h
  go_enter Try.func73, Try.ntmps73
  go_wp2_with fail
  generalize hW : World.alloc _ _ = W
  have bR : Bk W w.heap.size #[.int .i64 0, .int .i64 0] 25 := by rw [← hW]; exact (Bk.new' rfl).alloc _
  have hb : Below w.heap.size w W := by rw [← hW]; exact (by repeat (first | exact Below.refl _ _ | (refine Below.alloc ?_ (by simp <;> omega) _) | (refine Below.setCell ?_ (by simp <;> omega) _) | (refine Below.drew ?_) | (refine bel_drewN ?_ _)))
  have hz := hb.size
  have K := Lib.hid (pick3 W s (w.heap.size + 1) 3 _ _ _ (HS.out.bel hb) (by omega) (by rw [← hW]; exact heap_at_new (by simp)))
  clear hW
  have HG : Hid (w.grownBy W (some s)) := Lib.hid (grown_bel (grown_refl w s) hb)
  replace HS := Lib.hid (HS.out.bel hb)
  have hls := HS.out.lt
  clear hb
  refine K.out.mono ?_
  rintro e ws1 ⟨q1, rfl, hs, hg⟩
  clear K
  replace bR := bR.kept hg (by simp; omega)
  replace HG := Lib.hid (grown_trans HG.out hg)
  replace HS := Lib.hid hs
  replace hls := HS.out.lt
  clear hs hg
  have bR_0 := bR.cell 0 rfl
  have bR_1 := bR.cell 1 rfl
  have bR_l := bR.lt
  go_wp2_with fail
  refine (dpt_any _ s _ _ HS.out).mono ?_
  rintro e ws2 ⟨X, Y, rfl, hs, hg⟩
  replace bR := bR.kept hg (by simp; omega)
  replace HG := Lib.hid (grown_trans HG.out hg)
  replace HS := Lib.hid hs
  replace hls := HS.out.lt
  clear hs hg
  clear bR_0 bR_1 bR_l
  have bR_0 := bR.cell 0 rfl
  have bR_1 := bR.cell 1 rfl
  have bR_l := bR.lt
  have bR_f0 := bR.frozen 0
  have bR_f1 := bR.frozen 1
  go_wp2
  exact bodyPost_ret (v := .agg #[.int .i64 X, .int .i64 Y]) (by simp [results, Try.results73, go_sem, bR_0, bR_f0, bR_1, bR_f1, bR_l]) rfl ⟨X, Y, rfl, (Src.set_far (p := ⟨w.heap.size, 1, none⟩) (Src.set_far (p := ⟨w.heap.size, 0, none⟩) HS.out (by dsimp only; omega) _) (by dsimp only; omega) _), (grown_set_new (p := ⟨w.heap.size, 1, none⟩) (grown_set_new (p := ⟨w.heap.size, 0, none⟩) HG.out (by dsimp only; omega) _) (by dsimp only; omega) _)⟩

set_option maxRecDepth 100000 in
set_option maxHeartbeats 8000000 in
theorem dtk_any (w : World) (s : Nat) (h : Src w s) :
    Calls Try.prog 76 #[.pointer (some ⟨s, 0, none⟩)] w (TkD w s) := by
  have hlt := h.lt
  have HS := Lib.hid h
  clear h
  go_enter Try.func76, Try.ntmps76
  go_wp2_with fail
  generalize hW : World.alloc _ _ = W
  have bR : Bk W w.heap.size #[.int .i64 0, .int .i64 0, .int .i64 0, .int .i64 0] 44 := by rw [← hW]; exact (Bk.new' rfl).alloc _
  have hb : Below w.heap.size w W := by rw [← hW]; exact (by repeat (first | exact Below.refl _ _ | (refine Below.alloc ?_ (by simp <;> omega) _) | (refine Below.setCell ?_ (by simp <;> omega) _) | (refine Below.drew ?_) | (refine bel_drewN ?_ _)))
  have hz := hb.size
  have K := Lib.hid (pick2p W s (w.heap.size + 1) 2 _ _ (HS.out.bel hb) (by omega) (by rw [← hW]; exact heap_at_new (by simp)))
  clear hW
  have HG : Hid (w.grownBy W (some s)) := Lib.hid (grown_bel (grown_refl w s) hb)
  replace HS := Lib.hid (HS.out.bel hb)
  have hls := HS.out.lt
  clear hb
  refine K.out.mono ?_
  rintro e ws1 ⟨q1, rfl, hs, hg⟩
  clear K
  replace bR := bR.kept hg (by simp; omega)
  replace HG := Lib.hid (grown_trans HG.out hg)
  replace HS := Lib.hid hs
  replace hls := HS.out.lt
  clear hs hg
  have bR_0 := bR.cell 0 rfl
  have bR_1 := bR.cell 1 rfl
  have bR_2 := bR.cell 2 rfl
  have bR_3 := bR.cell 3 rfl
  have bR_l := bR.lt
  go_wp2_with fail
  refine (dpt_any _ s _ _ HS.out).mono ?_
  rintro e ws2 ⟨X, Y, rfl, hs, hg⟩
  replace bR := bR.kept hg (by simp; omega)
  replace HG := Lib.hid (grown_trans HG.out hg)
  replace HS := Lib.hid hs
  replace hls := HS.out.lt
  clear hs hg
  clear bR_0 bR_1 bR_2 bR_3 bR_l
  have bR_0 := bR.cell 0 rfl
  have bR_1 := bR.cell 1 rfl
  have bR_2 := bR.cell 2 rfl
  have bR_3 := bR.cell 3 rfl
  have bR_l := bR.lt
  go_wp2_with fail
  generalize hW : World.alloc _ _ = wp3
  have hb : Below ws2.heap.size ws2 wp3 := by rw [← hW]; exact (Below.refl _ _).alloc (Nat.le_refl _) _
  have KQ := Lib.hid (pick2p wp3 s ws2.heap.size 2 _ _ (HS.out.bel hb) (by have := HS.out.lt; omega) (by rw [← hW]; exact heap_alloc_new _ _))
  clear hW
  replace bR := bR.on hb
  replace HG := Lib.hid (grown_bel HG.out hb)
  replace HS := Lib.hid (HS.out.bel hb)
  replace hls := HS.out.lt
  clear hb
  refine KQ.out.mono ?_
  rintro e ws4 ⟨q2, rfl, hs, hg⟩
  clear KQ
  replace bR := bR.kept hg (by simp; omega)
  replace HG := Lib.hid (grown_trans HG.out hg)
  replace HS := Lib.hid hs
  replace hls := HS.out.lt
  clear hs hg
  clear bR_0 bR_1 bR_2 bR_3 bR_l
  have bR_0 := bR.cell 0 rfl
  have bR_1 := bR.cell 1 rfl
  have bR_2 := bR.cell 2 rfl
  have bR_3 := bR.cell 3 rfl
  have bR_l := bR.lt
  go_wp2_with fail
  refine (dpt_any _ s _ _ HS.out).mono ?_
  rintro e ws5 ⟨U, V, rfl, hs, hg⟩
  replace bR := bR.kept hg (by simp; omega)
  replace HG := Lib.hid (grown_trans HG.out hg)
  replace HS := Lib.hid hs
  replace hls := HS.out.lt
  clear hs hg
  clear bR_0 bR_1 bR_2 bR_3 bR_l
  have bR_0 := bR.cell 0 rfl
  have bR_1 := bR.cell 1 rfl
  have bR_2 := bR.cell 2 rfl
  have bR_3 := bR.cell 3 rfl
  have bR_l := bR.lt
  have bR_f0 := bR.frozen 0
  have bR_f1 := bR.frozen 1
  have bR_f2 := bR.frozen 2
  have bR_f3 := bR.frozen 3
  go_wp2
  exact bodyPost_ret (v := .agg #[.int .i64 X, .int .i64 Y, .int .i64 U, .int .i64 V]) (by simp [results, Try.results76, go_sem, bR_0, bR_f0, bR_1, bR_f1, bR_2, bR_f2, bR_3, bR_f3, bR_l]) rfl ⟨X, Y, U, V, rfl, (Src.set_far (p := ⟨w.heap.size, 3, none⟩) (Src.set_far (p := ⟨w.heap.size, 2, none⟩) (Src.set_far (p := ⟨w.heap.size, 1, none⟩) (Src.set_far (p := ⟨w.heap.size, 0, none⟩) HS.out (by dsimp only; omega) _) (by dsimp only; omega) _) (by dsimp only; omega) _) (by dsimp only; omega) _), (grown_set_new (p := ⟨w.heap.size, 3, none⟩) (grown_set_new (p := ⟨w.heap.size, 2, none⟩) (grown_set_new (p := ⟨w.heap.size, 1, none⟩) (grown_set_new (p := ⟨w.heap.size, 0, none⟩) HG.out (by dsimp only; omega) _) (by dsimp only; omega) _) (by dsimp only; omega) _) (by dsimp only; omega) _)⟩

set_option maxRecDepth 100000 in
set_option maxHeartbeats 8000000 in
theorem dtm_any (w : World) (s : Nat) (h : Src w s) :
    Calls Try.prog 77 #[.pointer (some ⟨s, 0, none⟩)] w (Some1 w s) := by
  have hlt := h.lt
  have HS := Lib.hid h
  have HG := Lib.hid (grown_refl w s)
  have hls := HS.out.lt
  clear h
  go_enter Try.func77, Try.ntmps77
  go_wp2_with fail
  refine (nxt_any _ _ _ HS.out).mono ?_
  rintro e ws1 ⟨q1, rfl, -, -, -, hs, hg⟩
  replace HG := Lib.hid (grown_trans HG.out hg)
  replace HS := Lib.hid hs
  replace hls := HS.out.lt
  clear hs hg
  by_cases h0 : q1 = 0
  case pos =>
    subst h0
    go_wp2_with fail
    generalize hW : World.alloc _ _ = wp2
    have hb : Below ws1.heap.size ws1 wp2 := by rw [← hW]; exact (Below.refl _ _).alloc (Nat.le_refl _) _
    have KQ := Lib.hid (pick3 wp2 s ws1.heap.size 3 _ _ _ (HS.out.bel hb) (by have := HS.out.lt; omega) (by rw [← hW]; exact heap_alloc_new _ _))
    clear hW
    replace HG := Lib.hid (grown_bel HG.out hb)
    replace HS := Lib.hid (HS.out.bel hb)
    replace hls := HS.out.lt
    clear hb
    refine KQ.out.mono ?_
    rintro e ws3 ⟨t, rfl, hs, hg⟩
    clear KQ
    replace HG := Lib.hid (grown_trans HG.out hg)
    replace HS := Lib.hid hs
    replace hls := HS.out.lt
    clear hs hg
    go_wp2
    go_ret
    exact ⟨t, rfl, HS.out, HG.out⟩
  case neg =>
    have h0b : (q1 == 0) = false := by simpa using h0
    clear h0
    go_wp2_with fail
    refine (nxt_any _ _ _ HS.out).mono ?_
    rintro e ws2 ⟨t, rfl, -, -, -, hs, hg⟩
    replace HG := Lib.hid (grown_trans HG.out hg)
    replace HS := Lib.hid hs
    replace hls := HS.out.lt
    clear hs hg
    go_wp2
    go_ret
    exact ⟨t, rfl, HS.out, HG.out⟩

set_option maxRecDepth 100000 in
set_option maxHeartbeats 8000000 in
theorem dtw_any (w : World) (s : Nat) (h : Src w s) :
    Calls Try.prog 78 #[.pointer (some ⟨s, 0, none⟩)] w (TwD w s) := by
  have hlt := h.lt
  have HS := Lib.hid h
  clear h
  go_enter Try.func78, Try.ntmps78
  go_wp2_with fail
  generalize hW : World.alloc _ _ = W
  have bR : Bk W (w.heap.size) #[.int .i64 0, .int .i64 0, .int .i64 0, .int .i64 0] 44 := by rw [← hW]; repeat (first | (refine Bk.new' ?_; (simp; done)) | refine Bk.alloc ?_ _)
  have bE : Bk W (w.heap.size + 1) #[.int .i64 0, .int .i64 0, .int .i64 0, .int .i64 0] 44 := by rw [← hW]; repeat (first | (refine Bk.new' ?_; (simp; done)) | refine Bk.alloc ?_ _)
  have hb : Below w.heap.size w W := by rw [← hW]; exact (by repeat (first | exact Below.refl _ _ | (refine Below.alloc ?_ (by simp <;> omega) _) | (refine Below.setCell ?_ (by simp <;> omega) _) | (refine Below.drew ?_) | (refine bel_drewN ?_ _)))
  clear hW
  have HG : Hid (w.grownBy W (some s)) := Lib.hid (grown_bel (grown_refl w s) hb)
  replace HS := Lib.hid (HS.out.bel hb)
  have hls := HS.out.lt
  clear hb
  refine (dtk_any _ s HS.out).mono ?_
  rintro e ws1 ⟨a1, a2, a3, a4, rfl, hs, hg⟩
  replace bR := bR.kept hg (by simp; omega)
  replace bE := bE.kept hg (by simp; omega)
  replace HG := Lib.hid (grown_trans HG.out hg)
  replace HS := Lib.hid hs
  replace hls := HS.out.lt
  clear hs hg
  have bR_0 := bR.cell 0 rfl
  have bR_1 := bR.cell 1 rfl
  have bR_2 := bR.cell 2 rfl
  have bR_3 := bR.cell 3 rfl
  have bR_l := bR.lt
  have bE_0 := bE.cell 0 rfl
  have bE_1 := bE.cell 1 rfl
  have bE_2 := bE.cell 2 rfl
  have bE_3 := bE.cell 3 rfl
  have bE_l := bE.lt
  go_wp2_with fail
  refine (dtk_any _ s HS.out).mono ?_
  rintro e ws2 ⟨b1, b2, b3, b4, rfl, hs, hg⟩
  replace bR := bR.kept hg (by simp; omega)
  replace bE := bE.kept hg (by simp; omega)
  replace HG := Lib.hid (grown_trans HG.out hg)
  replace HS := Lib.hid hs
  replace hls := HS.out.lt
  clear hs hg
  clear bR_0 bR_1 bR_2 bR_3 bR_l bE_0 bE_1 bE_2 bE_3 bE_l
  have bR_0 := bR.cell 0 rfl
  have bR_1 := bR.cell 1 rfl
  have bR_2 := bR.cell 2 rfl
  have bR_3 := bR.cell 3 rfl
  have bR_l := bR.lt
  have bE_0 := bE.cell 0 rfl
  have bE_1 := bE.cell 1 rfl
  have bE_2 := bE.cell 2 rfl
  have bE_3 := bE.cell 3 rfl
  have bE_l := bE.lt
  go_upto_region 2 with fail
  clear bR_0 bR_1 bR_2 bR_3 bR_l bE_0 bE_1 bE_2 bE_3 bE_l
  generalize hW : World.alloc _ _ = wn3
  have hb : Below ws2.heap.size ws2 wn3 := by rw [← hW]; exact (by repeat (first | exact Below.refl _ _ | (refine Below.alloc ?_ (by simp <;> omega) _) | (refine Below.setCell ?_ (by simp <;> omega) _) | (refine Below.drew ?_) | (refine bel_drewN ?_ _)))
  obtain ⟨gA, hg0⟩ : ∃ g, g = ws2.heap.size := ⟨_, rfl⟩
  obtain ⟨a1, a2, a3, a4, bA⟩ : ∃ a1 a2 a3 a4, Bk wn3 gA #[.int .i64 a1, .int .i64 a2, .int .i64 a3, .int .i64 a4] 44 := ⟨_, _, _, _, by rw [← hW, hg0]; repeat (first | (refine Bk.new' ?_; (simp; done)) | refine Bk.alloc ?_ _)⟩
  have lsbA : s < gA := by omega
  have nebA_bR : gA ≠ w.heap.size := by have := bR.lt; omega
  have nebA_bE : gA ≠ w.heap.size + 1 := by have := bE.lt; omega
  have lwbA : w.heap.size ≤ gA := by have := HG.out.size; omega
  obtain ⟨gB, hg1⟩ : ∃ g, g = ws2.heap.size + 1 := ⟨_, rfl⟩
  obtain ⟨b1, b2, b3, b4, bB⟩ : ∃ b1 b2 b3 b4, Bk wn3 gB #[.int .i64 b1, .int .i64 b2, .int .i64 b3, .int .i64 b4] 44 := ⟨_, _, _, _, by rw [← hW, hg1]; repeat (first | (refine Bk.new' ?_; (simp; done)) | refine Bk.alloc ?_ _)⟩
  have lsbB : s < gB := by omega
  have nebB_bA : gB ≠ gA := by omega
  have nebB_bR : gB ≠ w.heap.size := by have := bR.lt; omega
  have nebB_bE : gB ≠ w.heap.size + 1 := by have := bE.lt; omega
  have lwbB : w.heap.size ≤ gB := by have := HG.out.size; omega
  try rw [← hg1]
  try rw [← hg0]
  clear hW hg0 hg1
  replace bR := bR.on hb
  replace bE := bE.on hb
  replace HG := Lib.hid (grown_bel HG.out hb)
  replace HS := Lib.hid (HS.out.bel hb)
  replace hls := HS.out.lt
  clear hb
  have bR_0 := bR.cell 0 rfl
  have bR_1 := bR.cell 1 rfl
  have bR_2 := bR.cell 2 rfl
  have bR_3 := bR.cell 3 rfl
  have bR_l := bR.lt
  have bE_0 := bE.cell 0 rfl
  have bE_1 := bE.cell 1 rfl
  have bE_2 := bE.cell 2 rfl
  have bE_3 := bE.cell 3 rfl
  have bE_l := bE.lt
  have bA_0 := bA.cell 0 rfl
  have bA_1 := bA.cell 1 rfl
  have bA_2 := bA.cell 2 rfl
  have bA_3 := bA.cell 3 rfl
  have bA_l := bA.lt
  have bB_0 := bB.cell 0 rfl
  have bB_1 := bB.cell 1 rfl
  have bB_2 := bB.cell 2 rfl
  have bB_3 := bB.cell 3 rfl
  have bB_l := bB.lt
  go_wp2_with fail
  refine (nxt_any _ _ _ HS.out).mono ?_
  rintro e ws4 ⟨q3, rfl, -, -, -, hs, hg⟩
  replace bR := bR.kept hg (by simp; omega)
  replace bE := bE.kept hg (by simp; omega)
  replace bA := bA.kept hg (by simp; omega)
  replace bB := bB.kept hg (by simp; omega)
  replace HG := Lib.hid (grown_trans HG.out hg)
  replace HS := Lib.hid hs
  replace hls := HS.out.lt
  clear hs hg
  clear bR_0 bR_1 bR_2 bR_3 bR_l bE_0 bE_1 bE_2 bE_3 bE_l bA_0 bA_1 bA_2 bA_3 bA_l bB_0 bB_1 bB_2 bB_3 bB_l
  by_cases h0 : q3 = 0
  case pos =>
    subst h0
    have bR_0 := bR.cell 0 rfl
    have bR_1 := bR.cell 1 rfl
    have bR_2 := bR.cell 2 rfl
    have bR_3 := bR.cell 3 rfl
    have bR_l := bR.lt
    have bE_0 := bE.cell 0 rfl
    have bE_1 := bE.cell 1 rfl
    have bE_2 := bE.cell 2 rfl
    have bE_3 := bE.cell 3 rfl
    have bE_l := bE.lt
    have bA_0 := bA.cell 0 rfl
    have bA_1 := bA.cell 1 rfl
    have bA_2 := bA.cell 2 rfl
    have bA_3 := bA.cell 3 rfl
    have bA_l := bA.lt
    have bB_0 := bB.cell 0 rfl
    have bB_1 := bB.cell 1 rfl
    have bB_2 := bB.cell 2 rfl
    have bB_3 := bB.cell 3 rfl
    have bB_l := bB.lt
    go_wp2_with fail
    refine (nxt_any _ _ _ HS.out).mono ?_
    rintro e ws5 ⟨q4, rfl, -, -, -, hs, hg⟩
    replace bR := bR.kept hg (by simp; omega)
    replace bE := bE.kept hg (by simp; omega)
    replace bA := bA.kept hg (by simp; omega)
    replace bB := bB.kept hg (by simp; omega)
    replace HG := Lib.hid (grown_trans HG.out hg)
    replace HS := Lib.hid hs
    replace hls := HS.out.lt
    clear hs hg
    clear bR_0 bR_1 bR_2 bR_3 bR_l bE_0 bE_1 bE_2 bE_3 bE_l bA_0 bA_1 bA_2 bA_3 bA_l bB_0 bB_1 bB_2 bB_3 bB_l
    have bR_0 := bR.cell 0 rfl
    have bR_1 := bR.cell 1 rfl
    have bR_2 := bR.cell 2 rfl
    have bR_3 := bR.cell 3 rfl
    have bR_l := bR.lt
    have bE_0 := bE.cell 0 rfl
    have bE_1 := bE.cell 1 rfl
    have bE_2 := bE.cell 2 rfl
    have bE_3 := bE.cell 3 rfl
    have bE_l := bE.lt
    have bA_0 := bA.cell 0 rfl
    have bA_1 := bA.cell 1 rfl
    have bA_2 := bA.cell 2 rfl
    have bA_3 := bA.cell 3 rfl
    have bA_l := bA.lt
    have bB_0 := bB.cell 0 rfl
    have bB_1 := bB.cell 1 rfl
    have bB_2 := bB.cell 2 rfl
    have bB_3 := bB.cell 3 rfl
    have bB_l := bB.lt
    have bB_f0 := bB.frozen 0
    have bB_f1 := bB.frozen 1
    have bB_f2 := bB.frozen 2
    have bB_f3 := bB.frozen 3
    go_upto_region 5 with fail
    clear bR_0 bR_1 bR_2 bR_3 bR_l bE_0 bE_1 bE_2 bE_3 bE_l bA_0 bA_1 bA_2 bA_3 bA_l bB_0 bB_1 bB_2 bB_3 bB_l
    clear bB_f0 bB_f1 bB_f2 bB_f3
    generalize hW : World.setCell _ _ _ = W9
    obtain ⟨X, Y, bX⟩ : ∃ X Y, Bk W9 gB #[.int .i64 X, .int .i64 Y, .int .i64 b3, .int .i64 b4] 44 := ⟨_, _, by rw [← hW]; exact (bB.set 0 _ rfl).set 1 _ rfl⟩
    replace bA : Bk W9 gA #[.int .i64 a1, .int .i64 a2, .int .i64 a3, .int .i64 a4] 44 := by rw [← hW]; exact (bA.other (by omega) 0 _).other (by omega) 1 _
    replace bR : Bk W9 w.heap.size #[.int .i64 0, .int .i64 0, .int .i64 0, .int .i64 0] 44 := by rw [← hW]; exact (bR.other (by omega) 0 _).other (by omega) 1 _
    replace bE : Bk W9 (w.heap.size + 1) #[.int .i64 0, .int .i64 0, .int .i64 0, .int .i64 0] 44 := by rw [← hW]; exact (bE.other (by omega) 0 _).other (by omega) 1 _
    replace HG : Hid (w.grownBy W9 (some s)) := Lib.hid (by rw [← hW]; exact two_set HG.out lwbB)
    replace HS : Hid (Src W9 s) := Lib.hid (by rw [← hW]; exact src_set HS.out lsbB)
    clear hW bB
    have bB := bX
    clear bX
    have hBW : w.heap.size ≤ W9.heap.size := HG.out.size
    have HB : Hid (Below w.heap.size W9 W9) := Lib.hid (Below.refl _ _)
    have bR_0 := bR.cell 0 rfl
    have bR_1 := bR.cell 1 rfl
    have bR_2 := bR.cell 2 rfl
    have bR_3 := bR.cell 3 rfl
    have bR_l := bR.lt
    have bE_0 := bE.cell 0 rfl
    have bE_1 := bE.cell 1 rfl
    have bE_2 := bE.cell 2 rfl
    have bE_3 := bE.cell 3 rfl
    have bE_l := bE.lt
    have bA_0 := bA.cell 0 rfl
    have bA_1 := bA.cell 1 rfl
    have bA_2 := bA.cell 2 rfl
    have bA_3 := bA.cell 3 rfl
    have bA_l := bA.lt
    have bB_0 := bB.cell 0 rfl
    have bB_1 := bB.cell 1 rfl
    have bB_2 := bB.cell 2 rfl
    have bB_3 := bB.cell 3 rfl
    have bB_l := bB.lt
    go_upto_region 5 with fail
    clear bR_0 bR_1 bR_2 bR_3 bR_l bE_0 bE_1 bE_2 bE_3 bE_l bA_0 bA_1 bA_2 bA_3 bA_l bB_0 bB_1 bB_2 bB_3 bB_l
    obtain ⟨S, hSd⟩ : ∃ S : World → Prop, ∀ w', S w' ↔ (w'.cell? ⟨gA, 0, none⟩ = some (.int .i64 a1) ∧ w'.cell? ⟨gA, 1, none⟩ = some (.int .i64 a2) ∧ w'.cell? ⟨gA, 2, none⟩ = some (.int .i64 a3) ∧ w'.cell? ⟨gA, 3, none⟩ = some (.int .i64 a4) ∧ w'.cell? ⟨gB, 0, none⟩ = some (.int .i64 X) ∧ w'.cell? ⟨gB, 1, none⟩ = some (.int .i64 Y) ∧ w'.cell? ⟨gB, 2, none⟩ = some (.int .i64 b3) ∧ w'.cell? ⟨gB, 3, none⟩ = some (.int .i64 b4)) := ⟨_, fun _ => Iff.rfl⟩
    have HSp : Hid (∀ w' : World, Bk w' (gA) #[.int .i64 a1, .int .i64 a2, .int .i64 a3, .int .i64 a4] 44 → Bk w' (gB) #[.int .i64 X, .int .i64 Y, .int .i64 b3, .int .i64 b4] 44 → S w') := Lib.hid (fun w' bA bB => (hSd w').2 ⟨bA.cell 0 rfl, bA.cell 1 rfl, bA.cell 2 rfl, bA.cell 3 rfl, bB.cell 0 rfl, bB.cell 1 rfl, bB.cell 2 rfl, bB.cell 3 rfl⟩)
    have HSd := Lib.hid hSd
    clear hSd
    refine wp_region_held_drew (S := S) (by kernel_rfl) ?_ (fun hH => ?_)
    · exact (HSp.out _ bA bB : S (World.drew W9))
    clear hH
    generalize hX : World.drew W9 = V0
    replace bR : Bk V0 (w.heap.size) #[.int .i64 0, .int .i64 0, .int .i64 0, .int .i64 0] 44 := by rw [← hX]; exact bR
    replace bE : Bk V0 (w.heap.size + 1) #[.int .i64 0, .int .i64 0, .int .i64 0, .int .i64 0] 44 := by rw [← hX]; exact bE
    replace bA : Bk V0 (gA) #[.int .i64 a1, .int .i64 a2, .int .i64 a3, .int .i64 a4] 44 := by rw [← hX]; exact bA
    replace bB : Bk V0 (gB) #[.int .i64 X, .int .i64 Y, .int .i64 b3, .int .i64 b4] 44 := by rw [← hX]; exact bB
    have hb : Below W9.heap.size W9 V0 := by rw [← hX]; exact (Below.refl _ _).drew
    clear hX
    replace HB := Lib.hid (bel_in hb HB.out (Nat.le_trans hBW HB.out.size))
    clear hb
    have hS := HSp.out _ bA bB
    refine wpAnyH_take (i := 0) (oi := { dst := some 44, op := Go.Op.load 44 (Go.Operand.tmp 4), type := 44, pos := "l12_bearings.go:214", after := #[], guard := none }) (v := ?_) rfl (by kernel_rfl) (by kernel_rfl) (by kernel_rfl) (fun _ _ _ h => h) (Or.inl ⟨by rfl, ?_⟩) hS ?_
    rotate_left
    · (intro w hSw; have hSw := (HSd.out w).1 hSw; go_split_ands; go_simp) <;> with_reducible rfl
    clear hS
    try simp only [Act.put, List.setIfInBounds_toArray, List.set_cons_zero, List.set_cons_succ]
    have hS := HSp.out _ bA bB
    refine wpAnyH_take (i := 1) (oi := { dst := some 45, op := Go.Op.load 44 (Go.Operand.tmp 5), type := 44, pos := "l12_bearings.go:214", after := #[{ on := 2, ground := Go.Ground.gcOnly Go.Departure.lateStores }], guard := none }) (v := ?_) rfl (by kernel_rfl) (by kernel_rfl) (by kernel_rfl) (fun _ _ _ h => h) (Or.inl ⟨by rfl, ?_⟩) hS ?_
    rotate_left
    · (intro w hSw; have hSw := (HSd.out w).1 hSw; go_split_ands; go_simp) <;> with_reducible rfl
    clear hS
    try simp only [Act.put, List.setIfInBounds_toArray, List.set_cons_zero, List.set_cons_succ]
    refine wpAnyH_ready (rs := [2]) (by decide +kernel) (by simp) ?_
    refine AllReadyH.cons (o := { dst := none, op := Go.Op.store 44 (Go.Operand.tmp 2) (Go.Operand.tmp 44), type := 0, pos := "l12_bearings.go:214", after := #[{ on := 0, ground := Go.Ground.data }, { on := 0, ground := Go.Ground.phase }, { on := 1, ground := Go.Ground.textOnly Go.Departure.lateStores }], guard := none }) rfl (fun Kn hK => ?_) AllReadyH.nil
    have bR_0 := bR.cell 0 rfl
    have bR_1 := bR.cell 1 rfl
    have bR_2 := bR.cell 2 rfl
    have bR_3 := bR.cell 3 rfl
    have bR_f0 := bR.frozen 0
    have bR_f1 := bR.frozen 1
    have bR_f2 := bR.frozen 2
    have bR_f3 := bR.frozen 3
    have bR_l := bR.lt
    go_simp
    clear bR_0 bR_f0 bR_1 bR_f1 bR_2 bR_f2 bR_3 bR_f3 bR_l
    generalize hX : World.setCell _ _ _ = V1
    have hb : Below w.heap.size W9 V1 := by rw [← hX]; exact ((((HB.out.setCell (p := ⟨w.heap.size, 0, none⟩) (by first | omega | (dsimp only; omega)) _).setCell (p := ⟨w.heap.size, 1, none⟩) (by first | omega | (dsimp only; omega)) _).setCell (p := ⟨w.heap.size, 2, none⟩) (by first | omega | (dsimp only; omega)) _).setCell (p := ⟨w.heap.size, 3, none⟩) (by first | omega | (dsimp only; omega)) _)
    replace bE : Bk V1 (w.heap.size + 1) #[.int .i64 0, .int .i64 0, .int .i64 0, .int .i64 0] 44 := by rw [← hX]; exact (Bk.other (Bk.other (Bk.other (Bk.other bE (by omega) 0 _) (by omega) 1 _) (by omega) 2 _) (by omega) 3 _)
    replace bA : Bk V1 (gA) #[.int .i64 a1, .int .i64 a2, .int .i64 a3, .int .i64 a4] 44 := by rw [← hX]; exact (Bk.other (Bk.other (Bk.other (Bk.other bA (by omega) 0 _) (by omega) 1 _) (by omega) 2 _) (by omega) 3 _)
    replace bB : Bk V1 (gB) #[.int .i64 X, .int .i64 Y, .int .i64 b3, .int .i64 b4] 44 := by rw [← hX]; exact (Bk.other (Bk.other (Bk.other (Bk.other bB (by omega) 0 _) (by omega) 1 _) (by omega) 2 _) (by omega) 3 _)
    replace bR : Bk V1 (w.heap.size) #[.int .i64 a1, .int .i64 a2, .int .i64 a3, .int .i64 a4] 44 := by rw [← hX]; exact (Bk.set (Bk.set (Bk.set (Bk.set bR 0 _ rfl) 1 _ rfl) 2 _ rfl) 3 _ rfl)
    clear hX
    replace HB := Lib.hid hb
    clear hb
    refine hK.out _ _ (HSp.out _ bA bB) (fun _ => ?_)
    clear hK Kn
    refine wpAnyH_ready (rs := [3]) (by decide +kernel) (by simp) ?_
    refine AllReadyH.cons (o := { dst := none, op := Go.Op.store 44 (Go.Operand.tmp 3) (Go.Operand.tmp 45), type := 0, pos := "l12_bearings.go:214", after := #[{ on := 1, ground := Go.Ground.data }, { on := 2, ground := Go.Ground.chain }, { on := 0, ground := Go.Ground.phase }, { on := 1, ground := Go.Ground.phase }, { on := 2, ground := Go.Ground.phase }], guard := none }) rfl (fun Kn hK => ?_) AllReadyH.nil
    have bE_0 := bE.cell 0 rfl
    have bE_1 := bE.cell 1 rfl
    have bE_2 := bE.cell 2 rfl
    have bE_3 := bE.cell 3 rfl
    have bE_f0 := bE.frozen 0
    have bE_f1 := bE.frozen 1
    have bE_f2 := bE.frozen 2
    have bE_f3 := bE.frozen 3
    have bE_l := bE.lt
    go_simp
    clear bE_0 bE_f0 bE_1 bE_f1 bE_2 bE_f2 bE_3 bE_f3 bE_l
    generalize hX : World.setCell _ _ _ = V2
    have hb : Below w.heap.size W9 V2 := by rw [← hX]; exact ((((HB.out.setCell (p := ⟨w.heap.size + 1, 0, none⟩) (by first | omega | (dsimp only; omega)) _).setCell (p := ⟨w.heap.size + 1, 1, none⟩) (by first | omega | (dsimp only; omega)) _).setCell (p := ⟨w.heap.size + 1, 2, none⟩) (by first | omega | (dsimp only; omega)) _).setCell (p := ⟨w.heap.size + 1, 3, none⟩) (by first | omega | (dsimp only; omega)) _)
    replace bR : Bk V2 (w.heap.size) #[.int .i64 a1, .int .i64 a2, .int .i64 a3, .int .i64 a4] 44 := by rw [← hX]; exact (Bk.other (Bk.other (Bk.other (Bk.other bR (by omega) 0 _) (by omega) 1 _) (by omega) 2 _) (by omega) 3 _)
    replace bA : Bk V2 (gA) #[.int .i64 a1, .int .i64 a2, .int .i64 a3, .int .i64 a4] 44 := by rw [← hX]; exact (Bk.other (Bk.other (Bk.other (Bk.other bA (by omega) 0 _) (by omega) 1 _) (by omega) 2 _) (by omega) 3 _)
    replace bB : Bk V2 (gB) #[.int .i64 X, .int .i64 Y, .int .i64 b3, .int .i64 b4] 44 := by rw [← hX]; exact (Bk.other (Bk.other (Bk.other (Bk.other bB (by omega) 0 _) (by omega) 1 _) (by omega) 2 _) (by omega) 3 _)
    replace bE : Bk V2 (w.heap.size + 1) #[.int .i64 X, .int .i64 Y, .int .i64 b3, .int .i64 b4] 44 := by rw [← hX]; exact (Bk.set (Bk.set (Bk.set (Bk.set bE 0 _ rfl) 1 _ rfl) 2 _ rfl) 3 _ rfl)
    clear hX
    replace HB := Lib.hid hb
    clear hb
    refine hK.out _ _ (HSp.out _ bA bB) (fun _ => ?_)
    clear hK Kn
    refine wpAnyH_done (by kernel_rfl) ?_ _
    have c0 := bR.cell 0 rfl
    have c1 := bR.cell 1 rfl
    have c2 := bR.cell 2 rfl
    have c3 := bR.cell 3 rfl
    have d0 := bE.cell 0 rfl
    have d1 := bE.cell 1 rfl
    have d2 := bE.cell 2 rfl
    have d3 := bE.cell 3 rfl
    repeat (first | go_step | go_skip)
    exact bodyPost_ret (v := .tuple #[.agg #[.int .i64 a1, .int .i64 a2, .int .i64 a3, .int .i64 a4], .agg #[.int .i64 X, .int .i64 Y, .int .i64 b3, .int .i64 b4]]) (by simp [results, Try.results78, go_sem, c0, c1, c2, c3, d0, d1, d2, d3]) rfl ⟨a1, a2, a3, a4, X, Y, b3, b4, rfl, src_belB HS.out HB.out hlt, grown_belB HG.out HB.out⟩
  case neg =>
    have h0b : (q3 == 0) = false := by simpa using h0
    clear h0
    have hBW : w.heap.size ≤ ws4.heap.size := HG.out.size
    have HB : Hid (Below w.heap.size ws4 ws4) := Lib.hid (Below.refl _ _)
    have bR_0 := bR.cell 0 rfl
    have bR_1 := bR.cell 1 rfl
    have bR_2 := bR.cell 2 rfl
    have bR_3 := bR.cell 3 rfl
    have bR_l := bR.lt
    have bE_0 := bE.cell 0 rfl
    have bE_1 := bE.cell 1 rfl
    have bE_2 := bE.cell 2 rfl
    have bE_3 := bE.cell 3 rfl
    have bE_l := bE.lt
    have bA_0 := bA.cell 0 rfl
    have bA_1 := bA.cell 1 rfl
    have bA_2 := bA.cell 2 rfl
    have bA_3 := bA.cell 3 rfl
    have bA_l := bA.lt
    have bB_0 := bB.cell 0 rfl
    have bB_1 := bB.cell 1 rfl
    have bB_2 := bB.cell 2 rfl
    have bB_3 := bB.cell 3 rfl
    have bB_l := bB.lt
    go_upto_region 5 with fail
    clear bR_0 bR_1 bR_2 bR_3 bR_l bE_0 bE_1 bE_2 bE_3 bE_l bA_0 bA_1 bA_2 bA_3 bA_l bB_0 bB_1 bB_2 bB_3 bB_l
    obtain ⟨S, hSd⟩ : ∃ S : World → Prop, ∀ w', S w' ↔ (w'.cell? ⟨gA, 0, none⟩ = some (.int .i64 a1) ∧ w'.cell? ⟨gA, 1, none⟩ = some (.int .i64 a2) ∧ w'.cell? ⟨gA, 2, none⟩ = some (.int .i64 a3) ∧ w'.cell? ⟨gA, 3, none⟩ = some (.int .i64 a4) ∧ w'.cell? ⟨gB, 0, none⟩ = some (.int .i64 b1) ∧ w'.cell? ⟨gB, 1, none⟩ = some (.int .i64 b2) ∧ w'.cell? ⟨gB, 2, none⟩ = some (.int .i64 b3) ∧ w'.cell? ⟨gB, 3, none⟩ = some (.int .i64 b4)) := ⟨_, fun _ => Iff.rfl⟩
    have HSp : Hid (∀ w' : World, Bk w' (gA) #[.int .i64 a1, .int .i64 a2, .int .i64 a3, .int .i64 a4] 44 → Bk w' (gB) #[.int .i64 b1, .int .i64 b2, .int .i64 b3, .int .i64 b4] 44 → S w') := Lib.hid (fun w' bA bB => (hSd w').2 ⟨bA.cell 0 rfl, bA.cell 1 rfl, bA.cell 2 rfl, bA.cell 3 rfl, bB.cell 0 rfl, bB.cell 1 rfl, bB.cell 2 rfl, bB.cell 3 rfl⟩)
    have HSd := Lib.hid hSd
    clear hSd
    refine wp_region_held_drew (S := S) (by kernel_rfl) ?_ (fun hH => ?_)
    · exact (HSp.out _ bA bB : S (World.drew ws4))
    clear hH
    generalize hX : World.drew ws4 = V0
    replace bR : Bk V0 (w.heap.size) #[.int .i64 0, .int .i64 0, .int .i64 0, .int .i64 0] 44 := by rw [← hX]; exact bR
    replace bE : Bk V0 (w.heap.size + 1) #[.int .i64 0, .int .i64 0, .int .i64 0, .int .i64 0] 44 := by rw [← hX]; exact bE
    replace bA : Bk V0 (gA) #[.int .i64 a1, .int .i64 a2, .int .i64 a3, .int .i64 a4] 44 := by rw [← hX]; exact bA
    replace bB : Bk V0 (gB) #[.int .i64 b1, .int .i64 b2, .int .i64 b3, .int .i64 b4] 44 := by rw [← hX]; exact bB
    have hb : Below ws4.heap.size ws4 V0 := by rw [← hX]; exact (Below.refl _ _).drew
    clear hX
    replace HB := Lib.hid (bel_in hb HB.out (Nat.le_trans hBW HB.out.size))
    clear hb
    have hS := HSp.out _ bA bB
    refine wpAnyH_take (i := 0) (oi := { dst := some 44, op := Go.Op.load 44 (Go.Operand.tmp 4), type := 44, pos := "l12_bearings.go:214", after := #[], guard := none }) (v := ?_) rfl (by kernel_rfl) (by kernel_rfl) (by kernel_rfl) (fun _ _ _ h => h) (Or.inl ⟨by rfl, ?_⟩) hS ?_
    rotate_left
    · (intro w hSw; have hSw := (HSd.out w).1 hSw; go_split_ands; go_simp) <;> with_reducible rfl
    clear hS
    try simp only [Act.put, List.setIfInBounds_toArray, List.set_cons_zero, List.set_cons_succ]
    have hS := HSp.out _ bA bB
    refine wpAnyH_take (i := 1) (oi := { dst := some 45, op := Go.Op.load 44 (Go.Operand.tmp 5), type := 44, pos := "l12_bearings.go:214", after := #[{ on := 2, ground := Go.Ground.gcOnly Go.Departure.lateStores }], guard := none }) (v := ?_) rfl (by kernel_rfl) (by kernel_rfl) (by kernel_rfl) (fun _ _ _ h => h) (Or.inl ⟨by rfl, ?_⟩) hS ?_
    rotate_left
    · (intro w hSw; have hSw := (HSd.out w).1 hSw; go_split_ands; go_simp) <;> with_reducible rfl
    clear hS
    try simp only [Act.put, List.setIfInBounds_toArray, List.set_cons_zero, List.set_cons_succ]
    refine wpAnyH_ready (rs := [2]) (by decide +kernel) (by simp) ?_
    refine AllReadyH.cons (o := { dst := none, op := Go.Op.store 44 (Go.Operand.tmp 2) (Go.Operand.tmp 44), type := 0, pos := "l12_bearings.go:214", after := #[{ on := 0, ground := Go.Ground.data }, { on := 0, ground := Go.Ground.phase }, { on := 1, ground := Go.Ground.textOnly Go.Departure.lateStores }], guard := none }) rfl (fun Kn hK => ?_) AllReadyH.nil
    have bR_0 := bR.cell 0 rfl
    have bR_1 := bR.cell 1 rfl
    have bR_2 := bR.cell 2 rfl
    have bR_3 := bR.cell 3 rfl
    have bR_f0 := bR.frozen 0
    have bR_f1 := bR.frozen 1
    have bR_f2 := bR.frozen 2
    have bR_f3 := bR.frozen 3
    have bR_l := bR.lt
    go_simp
    clear bR_0 bR_f0 bR_1 bR_f1 bR_2 bR_f2 bR_3 bR_f3 bR_l
    generalize hX : World.setCell _ _ _ = V1
    have hb : Below w.heap.size ws4 V1 := by rw [← hX]; exact ((((HB.out.setCell (p := ⟨w.heap.size, 0, none⟩) (by first | omega | (dsimp only; omega)) _).setCell (p := ⟨w.heap.size, 1, none⟩) (by first | omega | (dsimp only; omega)) _).setCell (p := ⟨w.heap.size, 2, none⟩) (by first | omega | (dsimp only; omega)) _).setCell (p := ⟨w.heap.size, 3, none⟩) (by first | omega | (dsimp only; omega)) _)
    replace bE : Bk V1 (w.heap.size + 1) #[.int .i64 0, .int .i64 0, .int .i64 0, .int .i64 0] 44 := by rw [← hX]; exact (Bk.other (Bk.other (Bk.other (Bk.other bE (by omega) 0 _) (by omega) 1 _) (by omega) 2 _) (by omega) 3 _)
    replace bA : Bk V1 (gA) #[.int .i64 a1, .int .i64 a2, .int .i64 a3, .int .i64 a4] 44 := by rw [← hX]; exact (Bk.other (Bk.other (Bk.other (Bk.other bA (by omega) 0 _) (by omega) 1 _) (by omega) 2 _) (by omega) 3 _)
    replace bB : Bk V1 (gB) #[.int .i64 b1, .int .i64 b2, .int .i64 b3, .int .i64 b4] 44 := by rw [← hX]; exact (Bk.other (Bk.other (Bk.other (Bk.other bB (by omega) 0 _) (by omega) 1 _) (by omega) 2 _) (by omega) 3 _)
    replace bR : Bk V1 (w.heap.size) #[.int .i64 a1, .int .i64 a2, .int .i64 a3, .int .i64 a4] 44 := by rw [← hX]; exact (Bk.set (Bk.set (Bk.set (Bk.set bR 0 _ rfl) 1 _ rfl) 2 _ rfl) 3 _ rfl)
    clear hX
    replace HB := Lib.hid hb
    clear hb
    refine hK.out _ _ (HSp.out _ bA bB) (fun _ => ?_)
    clear hK Kn
    refine wpAnyH_ready (rs := [3]) (by decide +kernel) (by simp) ?_
    refine AllReadyH.cons (o := { dst := none, op := Go.Op.store 44 (Go.Operand.tmp 3) (Go.Operand.tmp 45), type := 0, pos := "l12_bearings.go:214", after := #[{ on := 1, ground := Go.Ground.data }, { on := 2, ground := Go.Ground.chain }, { on := 0, ground := Go.Ground.phase }, { on := 1, ground := Go.Ground.phase }, { on := 2, ground := Go.Ground.phase }], guard := none }) rfl (fun Kn hK => ?_) AllReadyH.nil
    have bE_0 := bE.cell 0 rfl
    have bE_1 := bE.cell 1 rfl
    have bE_2 := bE.cell 2 rfl
    have bE_3 := bE.cell 3 rfl
    have bE_f0 := bE.frozen 0
    have bE_f1 := bE.frozen 1
    have bE_f2 := bE.frozen 2
    have bE_f3 := bE.frozen 3
    have bE_l := bE.lt
    go_simp
    clear bE_0 bE_f0 bE_1 bE_f1 bE_2 bE_f2 bE_3 bE_f3 bE_l
    generalize hX : World.setCell _ _ _ = V2
    have hb : Below w.heap.size ws4 V2 := by rw [← hX]; exact ((((HB.out.setCell (p := ⟨w.heap.size + 1, 0, none⟩) (by first | omega | (dsimp only; omega)) _).setCell (p := ⟨w.heap.size + 1, 1, none⟩) (by first | omega | (dsimp only; omega)) _).setCell (p := ⟨w.heap.size + 1, 2, none⟩) (by first | omega | (dsimp only; omega)) _).setCell (p := ⟨w.heap.size + 1, 3, none⟩) (by first | omega | (dsimp only; omega)) _)
    replace bR : Bk V2 (w.heap.size) #[.int .i64 a1, .int .i64 a2, .int .i64 a3, .int .i64 a4] 44 := by rw [← hX]; exact (Bk.other (Bk.other (Bk.other (Bk.other bR (by omega) 0 _) (by omega) 1 _) (by omega) 2 _) (by omega) 3 _)
    replace bA : Bk V2 (gA) #[.int .i64 a1, .int .i64 a2, .int .i64 a3, .int .i64 a4] 44 := by rw [← hX]; exact (Bk.other (Bk.other (Bk.other (Bk.other bA (by omega) 0 _) (by omega) 1 _) (by omega) 2 _) (by omega) 3 _)
    replace bB : Bk V2 (gB) #[.int .i64 b1, .int .i64 b2, .int .i64 b3, .int .i64 b4] 44 := by rw [← hX]; exact (Bk.other (Bk.other (Bk.other (Bk.other bB (by omega) 0 _) (by omega) 1 _) (by omega) 2 _) (by omega) 3 _)
    replace bE : Bk V2 (w.heap.size + 1) #[.int .i64 b1, .int .i64 b2, .int .i64 b3, .int .i64 b4] 44 := by rw [← hX]; exact (Bk.set (Bk.set (Bk.set (Bk.set bE 0 _ rfl) 1 _ rfl) 2 _ rfl) 3 _ rfl)
    clear hX
    replace HB := Lib.hid hb
    clear hb
    refine hK.out _ _ (HSp.out _ bA bB) (fun _ => ?_)
    clear hK Kn
    refine wpAnyH_done (by kernel_rfl) ?_ _
    have c0 := bR.cell 0 rfl
    have c1 := bR.cell 1 rfl
    have c2 := bR.cell 2 rfl
    have c3 := bR.cell 3 rfl
    have d0 := bE.cell 0 rfl
    have d1 := bE.cell 1 rfl
    have d2 := bE.cell 2 rfl
    have d3 := bE.cell 3 rfl
    repeat (first | go_step | go_skip)
    exact bodyPost_ret (v := .tuple #[.agg #[.int .i64 a1, .int .i64 a2, .int .i64 a3, .int .i64 a4], .agg #[.int .i64 b1, .int .i64 b2, .int .i64 b3, .int .i64 b4]]) (by simp [results, Try.results78, go_sem, c0, c1, c2, c3, d0, d1, d2, d3]) rfl ⟨a1, a2, a3, a4, b1, b2, b3, b4, rfl, src_belB HS.out HB.out hlt, grown_belB HG.out HB.out⟩
end Go.Proofs.Ytkjpjhklnaehbaa
