/- The model's draws of a motion, of a contact, of a list of contacts. -/
import Derived.Test.YtlahgdhofakinaaGtX
import Derived.Test.YtlahgdhofakinaaDrw
import Derived.Deep.AppendLies
import Derived.Deep.RegionHeld3
import Derived.Deep.DeepCutAuto
import Derived.Deep.DrawnRows
import Derived.Deep.RegionWith
import Derived.Handy
namespace Go.Proofs.Ytlahgdhofakinaa
open Go.ChangeShapes Go.WideShapes Go.ChangeAt Go.RowKit Go.Shelf Num
set_option linter.unusedVariables false
set_option linter.unusedSimpArgs false

theorem pick5g (w : World) (s b cap : Nat) (z0 z1 z2 z3 z4 : Int) (h : Src w s) (hb : ¬ b = s) (hk : w.heap[b]? = some (.cells #[.int .i64 z0, .int .i64 z1, .int .i64 z2, .int .i64 z3, .int .i64 z4] 2 (0, 0))) :
    Calls Try.prog 97 #[.pointer (some ⟨s, 0, none⟩), .slice (some ⟨b, 0, none⟩) 5 cap] w (Some1 w s) :=
  pick_some w s b cap 5 [z0, z1, z2, z3, z4] h rfl hb (by decide) (by decide) (fun j hj => (cell_of_row w b j _ _ _ hk).trans (match j, hj with
    | 0, _ => rfl
    | 1, _ => rfl
    | 2, _ => rfl
    | 3, _ => rfl
    | 4, _ => rfl)) (by obtain ⟨hlt, _⟩ := Array.getElem?_eq_some_iff.1 hk; exact hlt)
theorem pick8g (w : World) (s b cap : Nat) (z0 z1 z2 z3 z4 z5 z6 z7 : Int) (h : Src w s) (hb : ¬ b = s) (hk : w.heap[b]? = some (.cells #[.int .i64 z0, .int .i64 z1, .int .i64 z2, .int .i64 z3, .int .i64 z4, .int .i64 z5, .int .i64 z6, .int .i64 z7] 2 (0, 0))) :
    Calls Try.prog 97 #[.pointer (some ⟨s, 0, none⟩), .slice (some ⟨b, 0, none⟩) 8 cap] w (Some1 w s) :=
  pick_some w s b cap 8 [z0, z1, z2, z3, z4, z5, z6, z7] h rfl hb (by decide) (by decide) (fun j hj => (cell_of_row w b j _ _ _ hk).trans (match j, hj with
    | 0, _ => rfl
    | 1, _ => rfl
    | 2, _ => rfl
    | 3, _ => rfl
    | 4, _ => rfl
    | 5, _ => rfl
    | 6, _ => rfl
    | 7, _ => rfl)) (by obtain ⟨hlt, _⟩ := Array.getElem?_eq_some_iff.1 hk; exact hlt)

def MoD (w : World) (s : Nat) (e : Ending) (w' : World) : Prop := ∃ x y u v t : Int, e = .returned (.agg #[.int .i64 x, .int .i64 y, .int .i64 u, .int .i64 v, .int .i64 t]) ∧ Src w' s ∧ w.grownBy w' (some s)
def CoD (w : World) (s : Nat) (e : Ending) (w' : World) : Prop := ∃ x y : Int, e = .returned (.agg #[.int .i64 x, .int .i64 y]) ∧ Src w' s ∧ w.grownBy w' (some s)

set_option maxRecDepth 100000 in
set_option maxHeartbeats 8000000 in
theorem dmo_any (w : World) (s : Nat) (h : Src w s) :
    Calls Try.prog 60 #[.pointer (some ⟨s, 0, none⟩)] w (MoD w s) := by
  have hlt := h.lt
  have HS := Lib.hid h
  clear h
  go_enter Try.func60, Try.ntmps60
  go_wp2_with fail
  generalize hW : World.alloc _ _ = W
  have bR : Bk W (w.heap.size) #[.int .i64 0, .int .i64 0, .int .i64 0, .int .i64 0, .int .i64 0] 32 := by rw [← hW]; repeat (first | (refine Bk.new' ?_; (simp; done)) | refine Bk.alloc ?_ _)
  have hb : Below w.heap.size w W := by rw [← hW]; exact (by repeat (first | exact Below.refl _ _ | (refine Below.alloc ?_ (by simp <;> omega) _) | (refine Below.setCell ?_ (by simp <;> omega) _) | (refine Below.drew ?_) | (refine bel_drewN ?_ _)))
  clear hW
  have HG : Hid (w.grownBy W (some s)) := Lib.hid (grown_bel (grown_refl w s) hb)
  replace HS := Lib.hid (HS.out.bel hb)
  have hls := HS.out.lt
  clear hb
  refine (nxt_any _ _ _ HS.out).mono ?_
  rintro e ws1 ⟨q1, rfl, -, -, -, hs, hg⟩
  replace bR := bR.kept hg (by simp; omega)
  replace HG := Lib.hid (grown_trans HG.out hg)
  replace HS := Lib.hid hs
  replace hls := HS.out.lt
  clear hs hg
  have bR_0 := bR.cell 0 rfl
  have bR_1 := bR.cell 1 rfl
  have bR_2 := bR.cell 2 rfl
  have bR_3 := bR.cell 3 rfl
  have bR_4 := bR.cell 4 rfl
  have bR_l := bR.lt
  go_wp2_with fail
  refine (nxt_any _ _ _ HS.out).mono ?_
  rintro e ws2 ⟨q2, rfl, -, -, -, hs, hg⟩
  replace bR := bR.kept hg (by simp; omega)
  replace HG := Lib.hid (grown_trans HG.out hg)
  replace HS := Lib.hid hs
  replace hls := HS.out.lt
  clear hs hg
  clear bR_0 bR_1 bR_2 bR_3 bR_4 bR_l
  have bR_0 := bR.cell 0 rfl
  have bR_1 := bR.cell 1 rfl
  have bR_2 := bR.cell 2 rfl
  have bR_3 := bR.cell 3 rfl
  have bR_4 := bR.cell 4 rfl
  have bR_l := bR.lt
  go_wp2_with fail
  refine (nxt_any _ _ _ HS.out).mono ?_
  rintro e ws3 ⟨q3, rfl, -, -, -, hs, hg⟩
  replace bR := bR.kept hg (by simp; omega)
  replace HG := Lib.hid (grown_trans HG.out hg)
  replace HS := Lib.hid hs
  replace hls := HS.out.lt
  clear hs hg
  clear bR_0 bR_1 bR_2 bR_3 bR_4 bR_l
  have bR_0 := bR.cell 0 rfl
  have bR_1 := bR.cell 1 rfl
  have bR_2 := bR.cell 2 rfl
  have bR_3 := bR.cell 3 rfl
  have bR_4 := bR.cell 4 rfl
  have bR_l := bR.lt
  go_wp2_with fail
  refine (nxt_any _ _ _ HS.out).mono ?_
  rintro e ws4 ⟨q4, rfl, -, -, -, hs, hg⟩
  replace bR := bR.kept hg (by simp; omega)
  replace HG := Lib.hid (grown_trans HG.out hg)
  replace HS := Lib.hid hs
  replace hls := HS.out.lt
  clear hs hg
  clear bR_0 bR_1 bR_2 bR_3 bR_4 bR_l
  have bR_0 := bR.cell 0 rfl
  have bR_1 := bR.cell 1 rfl
  have bR_2 := bR.cell 2 rfl
  have bR_3 := bR.cell 3 rfl
  have bR_4 := bR.cell 4 rfl
  have bR_l := bR.lt
  go_wp2_with fail
  clear bR_0 bR_1 bR_2 bR_3 bR_4 bR_l
  generalize hW : World.alloc _ _ = wp5
  have hb : Below ws4.heap.size ws4 wp5 := by rw [← hW]; exact (Below.refl _ _).alloc (Nat.le_refl _) _
  have KQ := Lib.hid (pick5g wp5 s ws4.heap.size 5 _ _ _ _ _ (HS.out.bel hb) (by have := HS.out.lt; omega) (by rw [← hW]; exact heap_alloc_new _ _))
  clear hW
  replace bR := bR.on hb
  replace HG := Lib.hid (grown_bel HG.out hb)
  replace HS := Lib.hid (HS.out.bel hb)
  replace hls := HS.out.lt
  clear hb
  refine KQ.out.mono ?_
  rintro e ws6 ⟨q5, rfl, hs, hg⟩
  clear KQ
  replace bR := bR.kept hg (by simp; omega)
  replace HG := Lib.hid (grown_trans HG.out hg)
  replace HS := Lib.hid hs
  replace hls := HS.out.lt
  clear hs hg
  have bR_0 := bR.cell 0 rfl
  have bR_1 := bR.cell 1 rfl
  have bR_2 := bR.cell 2 rfl
  have bR_3 := bR.cell 3 rfl
  have bR_4 := bR.cell 4 rfl
  have bR_l := bR.lt
  go_upto_region 2 with fail
  clear bR_0 bR_1 bR_2 bR_3 bR_4 bR_l
  generalize hW : World.alloc _ _ = wn7
  have hb : Below ws6.heap.size ws6 wn7 := by rw [← hW]; exact (by repeat (first | exact Below.refl _ _ | (refine Below.alloc ?_ (by simp <;> omega) _) | (refine Below.setCell ?_ (by simp <;> omega) _) | (refine Below.drew ?_) | (refine bel_drewN ?_ _)))
  obtain ⟨gM, hg0⟩ : ∃ g, g = ws6.heap.size := ⟨_, rfl⟩
  obtain ⟨x, y, u, v, t, bM⟩ : ∃ x y u v t, Bk wn7 gM #[.int .i64 x, .int .i64 y, .int .i64 u, .int .i64 v, .int .i64 t] 32 := ⟨_, _, _, _, _, by rw [← hW, hg0]; repeat (first | (refine Bk.new' ?_; (simp; done)) | refine Bk.alloc ?_ _)⟩
  have lsbM : s < gM := by omega
  have nebM_bR : gM ≠ w.heap.size := by have := bR.lt; omega
  have lwbM : w.heap.size ≤ gM := by have := HG.out.size; omega
  try rw [← hg0]
  clear hW hg0
  replace bR := bR.on hb
  replace HG := Lib.hid (grown_bel HG.out hb)
  replace HS := Lib.hid (HS.out.bel hb)
  replace hls := HS.out.lt
  clear hb
  have bR_0 := bR.cell 0 rfl
  have bR_1 := bR.cell 1 rfl
  have bR_2 := bR.cell 2 rfl
  have bR_3 := bR.cell 3 rfl
  have bR_4 := bR.cell 4 rfl
  have bR_l := bR.lt
  have bM_0 := bM.cell 0 rfl
  have bM_1 := bM.cell 1 rfl
  have bM_2 := bM.cell 2 rfl
  have bM_3 := bM.cell 3 rfl
  have bM_4 := bM.cell 4 rfl
  have bM_l := bM.lt
  go_wp2_with fail
  refine (nxt_any _ _ _ HS.out).mono ?_
  rintro e ws8 ⟨q6, rfl, -, -, -, hs, hg⟩
  replace bR := bR.kept hg (by simp; omega)
  replace bM := bM.kept hg (by simp; omega)
  replace HG := Lib.hid (grown_trans HG.out hg)
  replace HS := Lib.hid hs
  replace hls := HS.out.lt
  clear hs hg
  clear bR_0 bR_1 bR_2 bR_3 bR_4 bR_l bM_0 bM_1 bM_2 bM_3 bM_4 bM_l
  by_cases h0 : q6 = 0
  case pos =>
    subst h0
    have bR_0 := bR.cell 0 rfl
    have bR_1 := bR.cell 1 rfl
    have bR_2 := bR.cell 2 rfl
    have bR_3 := bR.cell 3 rfl
    have bR_4 := bR.cell 4 rfl
    have bR_l := bR.lt
    have bM_0 := bM.cell 0 rfl
    have bM_1 := bM.cell 1 rfl
    have bM_2 := bM.cell 2 rfl
    have bM_3 := bM.cell 3 rfl
    have bM_4 := bM.cell 4 rfl
    have bM_l := bM.lt
    go_wp2_with fail
    clear bR_0 bR_1 bR_2 bR_3 bR_4 bR_l bM_0 bM_1 bM_2 bM_3 bM_4 bM_l
    generalize hW : World.alloc _ _ = wp9
    have hb : Below ws8.heap.size ws8 wp9 := by rw [← hW]; exact (Below.refl _ _).alloc (Nat.le_refl _) _
    have KQ := Lib.hid (pick4 wp9 s ws8.heap.size 4 _ _ _ _ (HS.out.bel hb) (by have := HS.out.lt; omega) (by rw [← hW]; exact heap_alloc_new _ _))
    clear hW
    replace bR := bR.on hb
    replace bM := bM.on hb
    replace HG := Lib.hid (grown_bel HG.out hb)
    replace HS := Lib.hid (HS.out.bel hb)
    replace hls := HS.out.lt
    clear hb
    refine KQ.out.mono ?_
    rintro e ws10 ⟨zz, rfl, hs, hg⟩
    clear KQ
    replace bR := bR.kept hg (by simp; omega)
    replace bM := bM.kept hg (by simp; omega)
    replace HG := Lib.hid (grown_trans HG.out hg)
    replace HS := Lib.hid hs
    replace hls := HS.out.lt
    clear hs hg
    have bR_0 := bR.cell 0 rfl
    have bR_1 := bR.cell 1 rfl
    have bR_2 := bR.cell 2 rfl
    have bR_3 := bR.cell 3 rfl
    have bR_4 := bR.cell 4 rfl
    have bR_l := bR.lt
    have bM_0 := bM.cell 0 rfl
    have bM_1 := bM.cell 1 rfl
    have bM_2 := bM.cell 2 rfl
    have bM_3 := bM.cell 3 rfl
    have bM_4 := bM.cell 4 rfl
    have bM_l := bM.lt
    have bM_f0 := bM.frozen 0
    have bM_f1 := bM.frozen 1
    have bM_f2 := bM.frozen 2
    have bM_f3 := bM.frozen 3
    have bM_f4 := bM.frozen 4
    go_upto_region 11 with fail
    clear bR_0 bR_1 bR_2 bR_3 bR_4 bR_l bM_0 bM_1 bM_2 bM_3 bM_4 bM_l
    clear bM_f0 bM_f1 bM_f2 bM_f3 bM_f4
    generalize hW : World.setCell _ _ _ = W9
    obtain ⟨X9, b9⟩ : ∃ q : Int, Bk W9 gM #[.int .i64 q, .int .i64 y, .int .i64 u, .int .i64 v, .int .i64 t] 32 := ⟨_, by rw [← hW]; exact bM.set 0 _ rfl⟩
    replace bR : Bk W9 (w.heap.size) #[.int .i64 0, .int .i64 0, .int .i64 0, .int .i64 0, .int .i64 0] 32 := by rw [← hW]; exact bR.other (by omega) 0 _
    replace HG : Hid (w.grownBy W9 (some s)) := Lib.hid (by rw [← hW]; exact grown_set_new HG.out (by dsimp only; omega) _)
    replace HS : Hid (Src W9 s) := Lib.hid (by rw [← hW]; exact HS.out.set_far (by dsimp only; omega) _)
    clear hW bM
    have bM := b9
    clear b9
    have bR_0 := bR.cell 0 rfl
    have bR_1 := bR.cell 1 rfl
    have bR_2 := bR.cell 2 rfl
    have bR_3 := bR.cell 3 rfl
    have bR_4 := bR.cell 4 rfl
    have bR_l := bR.lt
    have bM_0 := bM.cell 0 rfl
    have bM_1 := bM.cell 1 rfl
    have bM_2 := bM.cell 2 rfl
    have bM_3 := bM.cell 3 rfl
    have bM_4 := bM.cell 4 rfl
    have bM_l := bM.lt
    have bR_f0 := bR.frozen 0
    have bR_f1 := bR.frozen 1
    have bR_f2 := bR.frozen 2
    have bR_f3 := bR.frozen 3
    have bR_f4 := bR.frozen 4
    go_wp2
    exact bodyPost_ret (v := .agg #[.int .i64 X9, .int .i64 y, .int .i64 u, .int .i64 v, .int .i64 t]) (by simp [results, Try.results60, go_sem, bR_0, bR_f0, bR_1, bR_f1, bR_2, bR_f2, bR_3, bR_f3, bR_4, bR_f4, bR_l]) rfl ⟨X9, y, u, v, t, rfl, (Src.set_far (p := ⟨w.heap.size, 4, none⟩) (Src.set_far (p := ⟨w.heap.size, 3, none⟩) (Src.set_far (p := ⟨w.heap.size, 2, none⟩) (Src.set_far (p := ⟨w.heap.size, 1, none⟩) (Src.set_far (p := ⟨w.heap.size, 0, none⟩) HS.out (by dsimp only; omega) _) (by dsimp only; omega) _) (by dsimp only; omega) _) (by dsimp only; omega) _) (by dsimp only; omega) _), (grown_set_new (p := ⟨w.heap.size, 4, none⟩) (grown_set_new (p := ⟨w.heap.size, 3, none⟩) (grown_set_new (p := ⟨w.heap.size, 2, none⟩) (grown_set_new (p := ⟨w.heap.size, 1, none⟩) (grown_set_new (p := ⟨w.heap.size, 0, none⟩) HG.out (by dsimp only; omega) _) (by dsimp only; omega) _) (by dsimp only; omega) _) (by dsimp only; omega) _) (by dsimp only; omega) _)⟩
  case neg =>
    have h0b : (q6 == 0) = false := by simpa using h0
    clear h0
    by_cases h1 : q6 = 1
    case pos =>
      subst h1
      have bR_0 := bR.cell 0 rfl
      have bR_1 := bR.cell 1 rfl
      have bR_2 := bR.cell 2 rfl
      have bR_3 := bR.cell 3 rfl
      have bR_4 := bR.cell 4 rfl
      have bR_l := bR.lt
      have bM_0 := bM.cell 0 rfl
      have bM_1 := bM.cell 1 rfl
      have bM_2 := bM.cell 2 rfl
      have bM_3 := bM.cell 3 rfl
      have bM_4 := bM.cell 4 rfl
      have bM_l := bM.lt
      go_wp2_with fail
      clear bR_0 bR_1 bR_2 bR_3 bR_4 bR_l bM_0 bM_1 bM_2 bM_3 bM_4 bM_l
      generalize hW : World.alloc _ _ = wp9
      have hb : Below ws8.heap.size ws8 wp9 := by rw [← hW]; exact (Below.refl _ _).alloc (Nat.le_refl _) _
      have KQ := Lib.hid (pick3 wp9 s ws8.heap.size 3 _ _ _ (HS.out.bel hb) (by have := HS.out.lt; omega) (by rw [← hW]; exact heap_alloc_new _ _))
      clear hW
      replace bR := bR.on hb
      replace bM := bM.on hb
      replace HG := Lib.hid (grown_bel HG.out hb)
      replace HS := Lib.hid (HS.out.bel hb)
      replace hls := HS.out.lt
      clear hb
      refine KQ.out.mono ?_
      rintro e ws10 ⟨zz, rfl, hs, hg⟩
      clear KQ
      replace bR := bR.kept hg (by simp; omega)
      replace bM := bM.kept hg (by simp; omega)
      replace HG := Lib.hid (grown_trans HG.out hg)
      replace HS := Lib.hid hs
      replace hls := HS.out.lt
      clear hs hg
      have bR_0 := bR.cell 0 rfl
      have bR_1 := bR.cell 1 rfl
      have bR_2 := bR.cell 2 rfl
      have bR_3 := bR.cell 3 rfl
      have bR_4 := bR.cell 4 rfl
      have bR_l := bR.lt
      have bM_0 := bM.cell 0 rfl
      have bM_1 := bM.cell 1 rfl
      have bM_2 := bM.cell 2 rfl
      have bM_3 := bM.cell 3 rfl
      have bM_4 := bM.cell 4 rfl
      have bM_l := bM.lt
      have bM_f0 := bM.frozen 0
      have bM_f1 := bM.frozen 1
      have bM_f2 := bM.frozen 2
      have bM_f3 := bM.frozen 3
      have bM_f4 := bM.frozen 4
      go_upto_region 11 with fail
      clear bR_0 bR_1 bR_2 bR_3 bR_4 bR_l bM_0 bM_1 bM_2 bM_3 bM_4 bM_l
      clear bM_f0 bM_f1 bM_f2 bM_f3 bM_f4
      generalize hW : World.setCell _ _ _ = W9
      obtain ⟨X9, b9⟩ : ∃ q : Int, Bk W9 gM #[.int .i64 x, .int .i64 y, .int .i64 u, .int .i64 q, .int .i64 t] 32 := ⟨_, by rw [← hW]; exact bM.set 3 _ rfl⟩
      replace bR : Bk W9 (w.heap.size) #[.int .i64 0, .int .i64 0, .int .i64 0, .int .i64 0, .int .i64 0] 32 := by rw [← hW]; exact bR.other (by omega) 3 _
      replace HG : Hid (w.grownBy W9 (some s)) := Lib.hid (by rw [← hW]; exact grown_set_new HG.out (by dsimp only; omega) _)
      replace HS : Hid (Src W9 s) := Lib.hid (by rw [← hW]; exact HS.out.set_far (by dsimp only; omega) _)
      clear hW bM
      have bM := b9
      clear b9
      have bR_0 := bR.cell 0 rfl
      have bR_1 := bR.cell 1 rfl
      have bR_2 := bR.cell 2 rfl
      have bR_3 := bR.cell 3 rfl
      have bR_4 := bR.cell 4 rfl
      have bR_l := bR.lt
      have bM_0 := bM.cell 0 rfl
      have bM_1 := bM.cell 1 rfl
      have bM_2 := bM.cell 2 rfl
      have bM_3 := bM.cell 3 rfl
      have bM_4 := bM.cell 4 rfl
      have bM_l := bM.lt
      have bR_f0 := bR.frozen 0
      have bR_f1 := bR.frozen 1
      have bR_f2 := bR.frozen 2
      have bR_f3 := bR.frozen 3
      have bR_f4 := bR.frozen 4
      go_wp2
      exact bodyPost_ret (v := .agg #[.int .i64 x, .int .i64 y, .int .i64 u, .int .i64 X9, .int .i64 t]) (by simp [results, Try.results60, go_sem, bR_0, bR_f0, bR_1, bR_f1, bR_2, bR_f2, bR_3, bR_f3, bR_4, bR_f4, bR_l]) rfl ⟨x, y, u, X9, t, rfl, (Src.set_far (p := ⟨w.heap.size, 4, none⟩) (Src.set_far (p := ⟨w.heap.size, 3, none⟩) (Src.set_far (p := ⟨w.heap.size, 2, none⟩) (Src.set_far (p := ⟨w.heap.size, 1, none⟩) (Src.set_far (p := ⟨w.heap.size, 0, none⟩) HS.out (by dsimp only; omega) _) (by dsimp only; omega) _) (by dsimp only; omega) _) (by dsimp only; omega) _) (by dsimp only; omega) _), (grown_set_new (p := ⟨w.heap.size, 4, none⟩) (grown_set_new (p := ⟨w.heap.size, 3, none⟩) (grown_set_new (p := ⟨w.heap.size, 2, none⟩) (grown_set_new (p := ⟨w.heap.size, 1, none⟩) (grown_set_new (p := ⟨w.heap.size, 0, none⟩) HG.out (by dsimp only; omega) _) (by dsimp only; omega) _) (by dsimp only; omega) _) (by dsimp only; omega) _) (by dsimp only; omega) _)⟩
    case neg =>
      have h1b : (q6 == 1) = false := by simpa using h1
      clear h1
      by_cases h2 : q6 = 2
      case pos =>
        subst h2
        have bR_0 := bR.cell 0 rfl
        have bR_1 := bR.cell 1 rfl
        have bR_2 := bR.cell 2 rfl
        have bR_3 := bR.cell 3 rfl
        have bR_4 := bR.cell 4 rfl
        have bR_l := bR.lt
        have bM_0 := bM.cell 0 rfl
        have bM_1 := bM.cell 1 rfl
        have bM_2 := bM.cell 2 rfl
        have bM_3 := bM.cell 3 rfl
        have bM_4 := bM.cell 4 rfl
        have bM_l := bM.lt
        go_wp2_with fail
        clear bR_0 bR_1 bR_2 bR_3 bR_4 bR_l bM_0 bM_1 bM_2 bM_3 bM_4 bM_l
        generalize hW : World.alloc _ _ = wp9
        have hb : Below ws8.heap.size ws8 wp9 := by rw [← hW]; exact (Below.refl _ _).alloc (Nat.le_refl _) _
        have KQ := Lib.hid (pick3 wp9 s ws8.heap.size 3 _ _ _ (HS.out.bel hb) (by have := HS.out.lt; omega) (by rw [← hW]; exact heap_alloc_new _ _))
        clear hW
        replace bR := bR.on hb
        replace bM := bM.on hb
        replace HG := Lib.hid (grown_bel HG.out hb)
        replace HS := Lib.hid (HS.out.bel hb)
        replace hls := HS.out.lt
        clear hb
        refine KQ.out.mono ?_
        rintro e ws10 ⟨zz, rfl, hs, hg⟩
        clear KQ
        replace bR := bR.kept hg (by simp; omega)
        replace bM := bM.kept hg (by simp; omega)
        replace HG := Lib.hid (grown_trans HG.out hg)
        replace HS := Lib.hid hs
        replace hls := HS.out.lt
        clear hs hg
        have bR_0 := bR.cell 0 rfl
        have bR_1 := bR.cell 1 rfl
        have bR_2 := bR.cell 2 rfl
        have bR_3 := bR.cell 3 rfl
        have bR_4 := bR.cell 4 rfl
        have bR_l := bR.lt
        have bM_0 := bM.cell 0 rfl
        have bM_1 := bM.cell 1 rfl
        have bM_2 := bM.cell 2 rfl
        have bM_3 := bM.cell 3 rfl
        have bM_4 := bM.cell 4 rfl
        have bM_l := bM.lt
        have bM_f0 := bM.frozen 0
        have bM_f1 := bM.frozen 1
        have bM_f2 := bM.frozen 2
        have bM_f3 := bM.frozen 3
        have bM_f4 := bM.frozen 4
        go_upto_region 11 with fail
        clear bR_0 bR_1 bR_2 bR_3 bR_4 bR_l bM_0 bM_1 bM_2 bM_3 bM_4 bM_l
        clear bM_f0 bM_f1 bM_f2 bM_f3 bM_f4
        generalize hW : World.setCell _ _ _ = W9
        obtain ⟨X9, b9⟩ : ∃ q : Int, Bk W9 gM #[.int .i64 x, .int .i64 y, .int .i64 u, .int .i64 v, .int .i64 q] 32 := ⟨_, by rw [← hW]; exact bM.set 4 _ rfl⟩
        replace bR : Bk W9 (w.heap.size) #[.int .i64 0, .int .i64 0, .int .i64 0, .int .i64 0, .int .i64 0] 32 := by rw [← hW]; exact bR.other (by omega) 4 _
        replace HG : Hid (w.grownBy W9 (some s)) := Lib.hid (by rw [← hW]; exact grown_set_new HG.out (by dsimp only; omega) _)
        replace HS : Hid (Src W9 s) := Lib.hid (by rw [← hW]; exact HS.out.set_far (by dsimp only; omega) _)
        clear hW bM
        have bM := b9
        clear b9
        have bR_0 := bR.cell 0 rfl
        have bR_1 := bR.cell 1 rfl
        have bR_2 := bR.cell 2 rfl
        have bR_3 := bR.cell 3 rfl
        have bR_4 := bR.cell 4 rfl
        have bR_l := bR.lt
        have bM_0 := bM.cell 0 rfl
        have bM_1 := bM.cell 1 rfl
        have bM_2 := bM.cell 2 rfl
        have bM_3 := bM.cell 3 rfl
        have bM_4 := bM.cell 4 rfl
        have bM_l := bM.lt
        have bR_f0 := bR.frozen 0
        have bR_f1 := bR.frozen 1
        have bR_f2 := bR.frozen 2
        have bR_f3 := bR.frozen 3
        have bR_f4 := bR.frozen 4
        go_wp2
        exact bodyPost_ret (v := .agg #[.int .i64 x, .int .i64 y, .int .i64 u, .int .i64 v, .int .i64 X9]) (by simp [results, Try.results60, go_sem, bR_0, bR_f0, bR_1, bR_f1, bR_2, bR_f2, bR_3, bR_f3, bR_4, bR_f4, bR_l]) rfl ⟨x, y, u, v, X9, rfl, (Src.set_far (p := ⟨w.heap.size, 4, none⟩) (Src.set_far (p := ⟨w.heap.size, 3, none⟩) (Src.set_far (p := ⟨w.heap.size, 2, none⟩) (Src.set_far (p := ⟨w.heap.size, 1, none⟩) (Src.set_far (p := ⟨w.heap.size, 0, none⟩) HS.out (by dsimp only; omega) _) (by dsimp only; omega) _) (by dsimp only; omega) _) (by dsimp only; omega) _) (by dsimp only; omega) _), (grown_set_new (p := ⟨w.heap.size, 4, none⟩) (grown_set_new (p := ⟨w.heap.size, 3, none⟩) (grown_set_new (p := ⟨w.heap.size, 2, none⟩) (grown_set_new (p := ⟨w.heap.size, 1, none⟩) (grown_set_new (p := ⟨w.heap.size, 0, none⟩) HG.out (by dsimp only; omega) _) (by dsimp only; omega) _) (by dsimp only; omega) _) (by dsimp only; omega) _) (by dsimp only; omega) _)⟩
      case neg =>
        have h2b : (q6 == 2) = false := by simpa using h2
        clear h2
        by_cases h3 : q6 = 3
        case pos =>
          subst h3
          have bR_0 := bR.cell 0 rfl
          have bR_1 := bR.cell 1 rfl
          have bR_2 := bR.cell 2 rfl
          have bR_3 := bR.cell 3 rfl
          have bR_4 := bR.cell 4 rfl
          have bR_l := bR.lt
          have bM_0 := bM.cell 0 rfl
          have bM_1 := bM.cell 1 rfl
          have bM_2 := bM.cell 2 rfl
          have bM_3 := bM.cell 3 rfl
          have bM_4 := bM.cell 4 rfl
          have bM_l := bM.lt
          go_wp2_with fail
          clear bR_0 bR_1 bR_2 bR_3 bR_4 bR_l bM_0 bM_1 bM_2 bM_3 bM_4 bM_l
          refine (nxt_any _ _ _ HS.out).mono ?_
          rintro e ws9 ⟨zz, rfl, -, -, -, hs, hg⟩
          replace bR := bR.kept hg (by simp; omega)
          replace bM := bM.kept hg (by simp; omega)
          replace HG := Lib.hid (grown_trans HG.out hg)
          replace HS := Lib.hid hs
          replace hls := HS.out.lt
          clear hs hg
          have bR_0 := bR.cell 0 rfl
          have bR_1 := bR.cell 1 rfl
          have bR_2 := bR.cell 2 rfl
          have bR_3 := bR.cell 3 rfl
          have bR_4 := bR.cell 4 rfl
          have bR_l := bR.lt
          have bM_0 := bM.cell 0 rfl
          have bM_1 := bM.cell 1 rfl
          have bM_2 := bM.cell 2 rfl
          have bM_3 := bM.cell 3 rfl
          have bM_4 := bM.cell 4 rfl
          have bM_l := bM.lt
          have bM_f0 := bM.frozen 0
          have bM_f1 := bM.frozen 1
          have bM_f2 := bM.frozen 2
          have bM_f3 := bM.frozen 3
          have bM_f4 := bM.frozen 4
          go_upto_region 11 with fail
          clear bR_0 bR_1 bR_2 bR_3 bR_4 bR_l bM_0 bM_1 bM_2 bM_3 bM_4 bM_l
          clear bM_f0 bM_f1 bM_f2 bM_f3 bM_f4
          generalize hW : World.setCell _ _ _ = W9
          obtain ⟨X9, b9⟩ : ∃ q : Int, Bk W9 gM #[.int .i64 q, .int .i64 y, .int .i64 u, .int .i64 v, .int .i64 t] 32 := ⟨_, by rw [← hW]; exact bM.set 0 _ rfl⟩
          replace bR : Bk W9 (w.heap.size) #[.int .i64 0, .int .i64 0, .int .i64 0, .int .i64 0, .int .i64 0] 32 := by rw [← hW]; exact bR.other (by omega) 0 _
          replace HG : Hid (w.grownBy W9 (some s)) := Lib.hid (by rw [← hW]; exact grown_set_new HG.out (by dsimp only; omega) _)
          replace HS : Hid (Src W9 s) := Lib.hid (by rw [← hW]; exact HS.out.set_far (by dsimp only; omega) _)
          clear hW bM
          have bM := b9
          clear b9
          have bR_0 := bR.cell 0 rfl
          have bR_1 := bR.cell 1 rfl
          have bR_2 := bR.cell 2 rfl
          have bR_3 := bR.cell 3 rfl
          have bR_4 := bR.cell 4 rfl
          have bR_l := bR.lt
          have bM_0 := bM.cell 0 rfl
          have bM_1 := bM.cell 1 rfl
          have bM_2 := bM.cell 2 rfl
          have bM_3 := bM.cell 3 rfl
          have bM_4 := bM.cell 4 rfl
          have bM_l := bM.lt
          have bR_f0 := bR.frozen 0
          have bR_f1 := bR.frozen 1
          have bR_f2 := bR.frozen 2
          have bR_f3 := bR.frozen 3
          have bR_f4 := bR.frozen 4
          go_wp2
          exact bodyPost_ret (v := .agg #[.int .i64 X9, .int .i64 y, .int .i64 u, .int .i64 v, .int .i64 t]) (by simp [results, Try.results60, go_sem, bR_0, bR_f0, bR_1, bR_f1, bR_2, bR_f2, bR_3, bR_f3, bR_4, bR_f4, bR_l]) rfl ⟨X9, y, u, v, t, rfl, (Src.set_far (p := ⟨w.heap.size, 4, none⟩) (Src.set_far (p := ⟨w.heap.size, 3, none⟩) (Src.set_far (p := ⟨w.heap.size, 2, none⟩) (Src.set_far (p := ⟨w.heap.size, 1, none⟩) (Src.set_far (p := ⟨w.heap.size, 0, none⟩) HS.out (by dsimp only; omega) _) (by dsimp only; omega) _) (by dsimp only; omega) _) (by dsimp only; omega) _) (by dsimp only; omega) _), (grown_set_new (p := ⟨w.heap.size, 4, none⟩) (grown_set_new (p := ⟨w.heap.size, 3, none⟩) (grown_set_new (p := ⟨w.heap.size, 2, none⟩) (grown_set_new (p := ⟨w.heap.size, 1, none⟩) (grown_set_new (p := ⟨w.heap.size, 0, none⟩) HG.out (by dsimp only; omega) _) (by dsimp only; omega) _) (by dsimp only; omega) _) (by dsimp only; omega) _) (by dsimp only; omega) _)⟩
        case neg =>
          have h3b : (q6 == 3) = false := by simpa using h3
          clear h3
          have bR_0 := bR.cell 0 rfl
          have bR_1 := bR.cell 1 rfl
          have bR_2 := bR.cell 2 rfl
          have bR_3 := bR.cell 3 rfl
          have bR_4 := bR.cell 4 rfl
          have bR_l := bR.lt
          have bM_0 := bM.cell 0 rfl
          have bM_1 := bM.cell 1 rfl
          have bM_2 := bM.cell 2 rfl
          have bM_3 := bM.cell 3 rfl
          have bM_4 := bM.cell 4 rfl
          have bM_l := bM.lt
          have bR_f0 := bR.frozen 0
          have bR_f1 := bR.frozen 1
          have bR_f2 := bR.frozen 2
          have bR_f3 := bR.frozen 3
          have bR_f4 := bR.frozen 4
          go_wp2
          exact bodyPost_ret (v := .agg #[.int .i64 x, .int .i64 y, .int .i64 u, .int .i64 v, .int .i64 t]) (by simp [results, Try.results60, go_sem, bR_0, bR_f0, bR_1, bR_f1, bR_2, bR_f2, bR_3, bR_f3, bR_4, bR_f4, bR_l]) rfl ⟨x, y, u, v, t, rfl, (Src.set_far (p := ⟨w.heap.size, 4, none⟩) (Src.set_far (p := ⟨w.heap.size, 3, none⟩) (Src.set_far (p := ⟨w.heap.size, 2, none⟩) (Src.set_far (p := ⟨w.heap.size, 1, none⟩) (Src.set_far (p := ⟨w.heap.size, 0, none⟩) HS.out (by dsimp only; omega) _) (by dsimp only; omega) _) (by dsimp only; omega) _) (by dsimp only; omega) _) (by dsimp only; omega) _), (grown_set_new (p := ⟨w.heap.size, 4, none⟩) (grown_set_new (p := ⟨w.heap.size, 3, none⟩) (grown_set_new (p := ⟨w.heap.size, 2, none⟩) (grown_set_new (p := ⟨w.heap.size, 1, none⟩) (grown_set_new (p := ⟨w.heap.size, 0, none⟩) HG.out (by dsimp only; omega) _) (by dsimp only; omega) _) (by dsimp only; omega) _) (by dsimp only; omega) _) (by dsimp only; omega) _)⟩

set_option maxRecDepth 100000 in
set_option maxHeartbeats 8000000 in
theorem dct14_any (w : World) (s : Nat) (x y u v t : Int) (h : Src w s) :
    Calls Try.prog 98 #[.pointer (some ⟨s, 0, none⟩), .agg #[.int .i64 x, .int .i64 y, .int .i64 u, .int .i64 v, .int .i64 t]] w (CoD w s) := by
  have hlt := h.lt
  have HS := Lib.hid h
  clear h
  go_enter Try.func98, Try.ntmps98
  go_wp2_with fail
  generalize hW : World.alloc _ _ = W
  have bM : Bk W (w.heap.size) #[.int .i64 x, .int .i64 y, .int .i64 u, .int .i64 v, .int .i64 t] 32 := by rw [← hW]; repeat (first | (refine Bk.new' ?_; (simp; done)) | refine Bk.alloc ?_ _)
  have bR : Bk W (w.heap.size + 1) #[.int .i64 0, .int .i64 0] 79 := by rw [← hW]; repeat (first | (refine Bk.new' ?_; (simp; done)) | refine Bk.alloc ?_ _)
  have hb : Below w.heap.size w W := by rw [← hW]; exact (by repeat (first | exact Below.refl _ _ | (refine Below.alloc ?_ (by simp <;> omega) _) | (refine Below.setCell ?_ (by simp <;> omega) _) | (refine Below.drew ?_) | (refine bel_drewN ?_ _)))
  clear hW
  have HG : Hid (w.grownBy W (some s)) := Lib.hid (grown_bel (grown_refl w s) hb)
  replace HS := Lib.hid (HS.out.bel hb)
  have hls := HS.out.lt
  clear hb
  refine (nxt_any _ _ _ HS.out).mono ?_
  rintro e ws1 ⟨q, rfl, -, -, -, hs, hg⟩
  replace bM := bM.kept hg (by simp; omega)
  replace bR := bR.kept hg (by simp; omega)
  replace HG := Lib.hid (grown_trans HG.out hg)
  replace HS := Lib.hid hs
  replace hls := HS.out.lt
  clear hs hg
  by_cases h0 : q = 0
  case pos =>
    subst h0
    obtain ⟨A, eA⟩ : ∃ q, IntKind.wrap .i64 (x + t) = q := ⟨_, rfl⟩
    have bM_0 := bM.cell 0 rfl
    have bM_1 := bM.cell 1 rfl
    have bM_2 := bM.cell 2 rfl
    have bM_3 := bM.cell 3 rfl
    have bM_4 := bM.cell 4 rfl
    have bM_l := bM.lt
    have bR_0 := bR.cell 0 rfl
    have bR_1 := bR.cell 1 rfl
    have bR_l := bR.lt
    have bR_f0 := bR.frozen 0
    have bR_f1 := bR.frozen 1
    go_wp2
    exact bodyPost_ret (v := .agg #[.int .i64 A, .int .i64 y]) (by simp [results, Try.results98, go_sem, bR_0, bR_f0, bR_1, bR_f1, bR_l]) rfl ⟨A, y, rfl, (Src.set_far (p := ⟨w.heap.size + 1, 1, none⟩) (Src.set_far (p := ⟨w.heap.size + 1, 0, none⟩) HS.out (by dsimp only; omega) _) (by dsimp only; omega) _), (grown_set_new (p := ⟨w.heap.size + 1, 1, none⟩) (grown_set_new (p := ⟨w.heap.size + 1, 0, none⟩) HG.out (by dsimp only; omega) _) (by dsimp only; omega) _)⟩
  case neg =>
    have h0b : (q == 0) = false := by simpa using h0
    clear h0
    by_cases h1 : q = 1
    case pos =>
      subst h1
      obtain ⟨A, eA⟩ : ∃ q, IntKind.wrap .i64 (y - t) = q := ⟨_, rfl⟩
      obtain ⟨B, eB⟩ : ∃ q, IntKind.wrap .i64 (A - 1) = q := ⟨_, rfl⟩
      have bM_0 := bM.cell 0 rfl
      have bM_1 := bM.cell 1 rfl
      have bM_2 := bM.cell 2 rfl
      have bM_3 := bM.cell 3 rfl
      have bM_4 := bM.cell 4 rfl
      have bM_l := bM.lt
      have bR_0 := bR.cell 0 rfl
      have bR_1 := bR.cell 1 rfl
      have bR_l := bR.lt
      have bR_f0 := bR.frozen 0
      have bR_f1 := bR.frozen 1
      go_wp2
      exact bodyPost_ret (v := .agg #[.int .i64 x, .int .i64 B]) (by simp [results, Try.results98, go_sem, bR_0, bR_f0, bR_1, bR_f1, bR_l]) rfl ⟨x, B, rfl, (Src.set_far (p := ⟨w.heap.size + 1, 1, none⟩) (Src.set_far (p := ⟨w.heap.size + 1, 0, none⟩) HS.out (by dsimp only; omega) _) (by dsimp only; omega) _), (grown_set_new (p := ⟨w.heap.size + 1, 1, none⟩) (grown_set_new (p := ⟨w.heap.size + 1, 0, none⟩) HG.out (by dsimp only; omega) _) (by dsimp only; omega) _)⟩
    case neg =>
      have h1b : (q == 1) = false := by simpa using h1
      clear h1
      by_cases h2 : q = 2
      case pos =>
        subst h2
        obtain ⟨D, eD⟩ : ∃ q, Int.tdiv t 5 = q := ⟨_, rfl⟩
        obtain ⟨D1, eD1⟩ : ∃ q, IntKind.wrap .i64 (D) = q := ⟨_, rfl⟩
        obtain ⟨A, eA⟩ : ∃ q, IntKind.wrap .i64 (3 * D1) = q := ⟨_, rfl⟩
        obtain ⟨B, eB⟩ : ∃ q, IntKind.wrap .i64 (x + A) = q := ⟨_, rfl⟩
        obtain ⟨C, eC⟩ : ∃ q, IntKind.wrap .i64 (4 * D1) = q := ⟨_, rfl⟩
        obtain ⟨E, eE⟩ : ∃ q, IntKind.wrap .i64 (y + C) = q := ⟨_, rfl⟩
        have bM_0 := bM.cell 0 rfl
        have bM_1 := bM.cell 1 rfl
        have bM_2 := bM.cell 2 rfl
        have bM_3 := bM.cell 3 rfl
        have bM_4 := bM.cell 4 rfl
        have bM_l := bM.lt
        have bR_0 := bR.cell 0 rfl
        have bR_1 := bR.cell 1 rfl
        have bR_l := bR.lt
        have bR_f0 := bR.frozen 0
        have bR_f1 := bR.frozen 1
        go_wp2
        exact bodyPost_ret (v := .agg #[.int .i64 B, .int .i64 E]) (by simp [results, Try.results98, go_sem, bR_0, bR_f0, bR_1, bR_f1, bR_l]) rfl ⟨B, E, rfl, (Src.set_far (p := ⟨w.heap.size + 1, 1, none⟩) (Src.set_far (p := ⟨w.heap.size + 1, 0, none⟩) HS.out (by dsimp only; omega) _) (by dsimp only; omega) _), (grown_set_new (p := ⟨w.heap.size + 1, 1, none⟩) (grown_set_new (p := ⟨w.heap.size + 1, 0, none⟩) HG.out (by dsimp only; omega) _) (by dsimp only; omega) _)⟩
      case neg =>
        have h2b : (q == 2) = false := by simpa using h2
        clear h2
        by_cases h3 : q = 3
        case pos =>
          subst h3
          have bM_0 := bM.cell 0 rfl
          have bM_1 := bM.cell 1 rfl
          have bM_2 := bM.cell 2 rfl
          have bM_3 := bM.cell 3 rfl
          have bM_4 := bM.cell 4 rfl
          have bM_l := bM.lt
          have bR_0 := bR.cell 0 rfl
          have bR_1 := bR.cell 1 rfl
          have bR_l := bR.lt
          go_wp2_with fail
          clear bM_0 bM_1 bM_2 bM_3 bM_4 bM_l bR_0 bR_1 bR_l
          generalize hW : World.alloc _ _ = wp2
          have hb : Below ws1.heap.size ws1 wp2 := by rw [← hW]; exact (Below.refl _ _).alloc (Nat.le_refl _) _
          have KQ := Lib.hid (pick3 wp2 s ws1.heap.size 3 _ _ _ (HS.out.bel hb) (by have := HS.out.lt; omega) (by rw [← hW]; exact heap_alloc_new _ _))
          clear hW
          replace bM := bM.on hb
          replace bR := bR.on hb
          replace HG := Lib.hid (grown_bel HG.out hb)
          replace HS := Lib.hid (HS.out.bel hb)
          replace hls := HS.out.lt
          clear hb
          refine KQ.out.mono ?_
          rintro e ws3 ⟨A, rfl, hs, hg⟩
          clear KQ
          replace bM := bM.kept hg (by simp; omega)
          replace bR := bR.kept hg (by simp; omega)
          replace HG := Lib.hid (grown_trans HG.out hg)
          replace HS := Lib.hid hs
          replace hls := HS.out.lt
          clear hs hg
          have bM_0 := bM.cell 0 rfl
          have bM_1 := bM.cell 1 rfl
          have bM_2 := bM.cell 2 rfl
          have bM_3 := bM.cell 3 rfl
          have bM_4 := bM.cell 4 rfl
          have bM_l := bM.lt
          have bR_0 := bR.cell 0 rfl
          have bR_1 := bR.cell 1 rfl
          have bR_l := bR.lt
          go_wp2_with fail
          clear bM_0 bM_1 bM_2 bM_3 bM_4 bM_l bR_0 bR_1 bR_l
          generalize hW : World.alloc _ _ = wp4
          have hb : Below ws3.heap.size ws3 wp4 := by rw [← hW]; exact (Below.refl _ _).alloc (Nat.le_refl _) _
          have KQ := Lib.hid (pick3 wp4 s ws3.heap.size 3 _ _ _ (HS.out.bel hb) (by have := HS.out.lt; omega) (by rw [← hW]; exact heap_alloc_new _ _))
          clear hW
          replace bM := bM.on hb
          replace bR := bR.on hb
          replace HG := Lib.hid (grown_bel HG.out hb)
          replace HS := Lib.hid (HS.out.bel hb)
          replace hls := HS.out.lt
          clear hb
          refine KQ.out.mono ?_
          rintro e ws5 ⟨B, rfl, hs, hg⟩
          clear KQ
          replace bM := bM.kept hg (by simp; omega)
          replace bR := bR.kept hg (by simp; omega)
          replace HG := Lib.hid (grown_trans HG.out hg)
          replace HS := Lib.hid hs
          replace hls := HS.out.lt
          clear hs hg
          have bM_0 := bM.cell 0 rfl
          have bM_1 := bM.cell 1 rfl
          have bM_2 := bM.cell 2 rfl
          have bM_3 := bM.cell 3 rfl
          have bM_4 := bM.cell 4 rfl
          have bM_l := bM.lt
          have bR_0 := bR.cell 0 rfl
          have bR_1 := bR.cell 1 rfl
          have bR_l := bR.lt
          have bR_f0 := bR.frozen 0
          have bR_f1 := bR.frozen 1
          go_wp2
          exact bodyPost_ret (v := .agg #[.int .i64 A, .int .i64 B]) (by simp [results, Try.results98, go_sem, bR_0, bR_f0, bR_1, bR_f1, bR_l]) rfl ⟨A, B, rfl, (Src.set_far (p := ⟨w.heap.size + 1, 1, none⟩) (Src.set_far (p := ⟨w.heap.size + 1, 0, none⟩) HS.out (by dsimp only; omega) _) (by dsimp only; omega) _), (grown_set_new (p := ⟨w.heap.size + 1, 1, none⟩) (grown_set_new (p := ⟨w.heap.size + 1, 0, none⟩) HG.out (by dsimp only; omega) _) (by dsimp only; omega) _)⟩
        case neg =>
          have h3b : (q == 3) = false := by simpa using h3
          clear h3
          have bM_0 := bM.cell 0 rfl
          have bM_1 := bM.cell 1 rfl
          have bM_2 := bM.cell 2 rfl
          have bM_3 := bM.cell 3 rfl
          have bM_4 := bM.cell 4 rfl
          have bM_l := bM.lt
          have bR_0 := bR.cell 0 rfl
          have bR_1 := bR.cell 1 rfl
          have bR_l := bR.lt
          go_upto_region 10 with fail
          clear bM_0 bM_1 bM_2 bM_3 bM_4 bM_l bR_0 bR_1 bR_l
          have HBX : Hid (Below ws1.heap.size ws1 ws1) := Lib.hid (Below.refl _ _)
          obtain ⟨S, hSd⟩ : ∃ S : World → Prop, ∀ w', S w' ↔ (w'.cell? ⟨w.heap.size, 0, none⟩ = some (.int .i64 x) ∧ w'.cell? ⟨w.heap.size, 1, none⟩ = some (.int .i64 y)) := ⟨_, fun _ => Iff.rfl⟩
          have HSp : Hid (∀ w' : World, Bk w' (w.heap.size) #[.int .i64 x, .int .i64 y, .int .i64 u, .int .i64 v, .int .i64 t] 32 → S w') := Lib.hid (fun w' bM => (hSd w').2 ⟨bM.cell 0 rfl, bM.cell 1 rfl⟩)
          have HSd := Lib.hid hSd
          clear hSd
          refine wp_region_held_drew (S := S) (by kernel_rfl) ?_ (fun hH => ?_)
          · exact (HSp.out _ bM : S (World.drew ws1))
          clear hH
          generalize hX : World.drew ws1 = V0
          replace bM : Bk V0 (w.heap.size) #[.int .i64 x, .int .i64 y, .int .i64 u, .int .i64 v, .int .i64 t] 32 := by rw [← hX]; exact bM
          replace bR : Bk V0 (w.heap.size + 1) #[.int .i64 0, .int .i64 0] 79 := by rw [← hX]; exact bR
          have hb : Below ws1.heap.size ws1 V0 := by rw [← hX]; exact (Below.refl _ _).drew
          clear hX
          replace HS := Lib.hid (HS.out.bel hb)
          replace HG := Lib.hid (grown_bel HG.out hb)
          replace HBX := Lib.hid (bel_end HBX.out hb)
          clear hb
          have hS := HSp.out _ bM
          refine wpAnyH_take (i := 0) (oi := { dst := some 54, op := Go.Op.fieldAddr 32 (Go.Operand.tmp 3) 0, type := 0, pos := "l14_gating.go:179", after := #[], guard := none }) (v := ?_) rfl (by kernel_rfl) (by kernel_rfl) (by kernel_rfl) (fun _ _ _ h => h) (Or.inl ⟨by rfl, ?_⟩) hS ?_
          rotate_left
          · (intro w hSw; have hSw := (HSd.out w).1 hSw; go_split_ands; go_simp) <;> with_reducible rfl
          clear hS
          try simp only [Act.put, List.setIfInBounds_toArray, List.set_cons_zero, List.set_cons_succ]
          have hS := HSp.out _ bM
          refine wpAnyH_take (i := 1) (oi := { dst := some 55, op := Go.Op.load 2 (Go.Operand.tmp 54), type := 2, pos := "l14_gating.go:179", after := #[{ on := 0, ground := Go.Ground.data }], guard := none }) (v := ?_) rfl (by kernel_rfl) (by kernel_rfl) (by kernel_rfl) (fun _ _ _ h => h) (Or.inl ⟨by rfl, ?_⟩) hS ?_
          rotate_left
          · (intro w hSw; have hSw := (HSd.out w).1 hSw; go_split_ands; go_simp) <;> with_reducible rfl
          clear hS
          try simp only [Act.put, List.setIfInBounds_toArray, List.set_cons_zero, List.set_cons_succ]
          have hS := HSp.out _ bM
          refine wpAnyH_take (i := 2) (oi := { dst := some 56, op := Go.Op.move (Go.Operand.tmp 0), type := 63, pos := "l14_gating.go:179", after := #[], guard := none }) (v := ?_) rfl (by kernel_rfl) (by kernel_rfl) (by kernel_rfl) (fun _ _ _ h => h) (Or.inl ⟨by rfl, ?_⟩) hS ?_
          rotate_left
          · (intro w hSw; have hSw := (HSd.out w).1 hSw; go_split_ands; go_simp) <;> with_reducible rfl
          clear hS
          try simp only [Act.put, List.setIfInBounds_toArray, List.set_cons_zero, List.set_cons_succ]
          have hS := HSp.out _ bM
          refine wpAnyH_take (i := 6) (oi := { dst := some 60, op := Go.Op.fieldAddr 32 (Go.Operand.tmp 3) 1, type := 0, pos := "l14_gating.go:179", after := #[], guard := none }) (v := ?_) rfl (by kernel_rfl) (by kernel_rfl) (by kernel_rfl) (fun _ _ _ h => h) (Or.inl ⟨by rfl, ?_⟩) hS ?_
          rotate_left
          · (intro w hSw; have hSw := (HSd.out w).1 hSw; go_split_ands; go_simp) <;> with_reducible rfl
          clear hS
          try simp only [Act.put, List.setIfInBounds_toArray, List.set_cons_zero, List.set_cons_succ]
          have hS := HSp.out _ bM
          refine wpAnyH_take (i := 7) (oi := { dst := some 61, op := Go.Op.load 2 (Go.Operand.tmp 60), type := 2, pos := "l14_gating.go:179", after := #[{ on := 6, ground := Go.Ground.data }], guard := none }) (v := ?_) rfl (by kernel_rfl) (by kernel_rfl) (by kernel_rfl) (fun _ _ _ h => h) (Or.inl ⟨by rfl, ?_⟩) hS ?_
          rotate_left
          · (intro w hSw; have hSw := (HSd.out w).1 hSw; go_split_ands; go_simp) <;> with_reducible rfl
          clear hS
          try simp only [Act.put, List.setIfInBounds_toArray, List.set_cons_zero, List.set_cons_succ]
          have hS := HSp.out _ bM
          refine wpAnyH_take (i := 8) (oi := { dst := some 62, op := Go.Op.move (Go.Operand.tmp 0), type := 63, pos := "l14_gating.go:179", after := #[], guard := none }) (v := ?_) rfl (by kernel_rfl) (by kernel_rfl) (by kernel_rfl) (fun _ _ _ h => h) (Or.inl ⟨by rfl, ?_⟩) hS ?_
          rotate_left
          · (intro w hSw; have hSw := (HSd.out w).1 hSw; go_split_ands; go_simp) <;> with_reducible rfl
          clear hS
          try simp only [Act.put, List.setIfInBounds_toArray, List.set_cons_zero, List.set_cons_succ]
          refine wpAnyH_ready (rs := [3]) (by decide +kernel) (by simp) ?_
          refine AllReadyH.cons (o := { dst := some 57, op := Go.Op.call { callee := Go.Callee.value (Go.Operand.func 59), args := #[Go.Operand.tmp 56, Go.Operand.const (Go.Value.int Go.IntKind.i64 61)], argTypes := #[63, 2] }, type := 2, pos := "l14_gating.go:179", after := #[{ on := 2, ground := Go.Ground.data }], guard := none }) rfl (fun Kn hK => ?_) AllReadyH.nil
          first | go_at_call 59 | (go_simp; go_at_call 59)
          refine (nxt_any _ _ _ HS.out).mono ?_
          rintro e V1 ⟨p1, rfl, -, -, -, hs, hg⟩
          try dsimp only
          try simp only [Act.put, List.setIfInBounds_toArray, List.set_cons_zero, List.set_cons_succ]
          replace bM := bM.kept hg (by simp; omega)
          replace bR := bR.kept hg (by simp; omega)
          replace HG := Lib.hid (grown_trans HG.out hg)
          replace HS := Lib.hid hs
          clear hs hg
          refine hK.out _ _ (HSp.out _ bM) (fun _ => ?_)
          clear hK Kn
          have hS := HSp.out _ bM
          refine wpAnyH_take (i := 4) (oi := { dst := some 58, op := Go.Op.binOp Go.BinOp.add 2 (Go.Operand.tmp 55) (Go.Operand.tmp 57) 2, type := 2, pos := "l14_gating.go:179", after := #[{ on := 1, ground := Go.Ground.data }, { on := 3, ground := Go.Ground.data }], guard := none }) (v := ?_) rfl (by kernel_rfl) (by kernel_rfl) (by kernel_rfl) (fun _ _ _ h => h) (Or.inl ⟨by rfl, ?_⟩) hS ?_
          rotate_left
          · (intro w hSw; have hSw := (HSd.out w).1 hSw; go_split_ands; go_simp) <;> with_reducible rfl
          clear hS
          try simp only [Act.put, List.setIfInBounds_toArray, List.set_cons_zero, List.set_cons_succ]
          have hS := HSp.out _ bM
          refine wpAnyH_take (i := 5) (oi := { dst := some 59, op := Go.Op.binOp Go.BinOp.sub 2 (Go.Operand.tmp 58) (Go.Operand.const (Go.Value.int Go.IntKind.i64 30)) 2, type := 2, pos := "l14_gating.go:179", after := #[{ on := 4, ground := Go.Ground.data }], guard := none }) (v := ?_) rfl (by kernel_rfl) (by kernel_rfl) (by kernel_rfl) (fun _ _ _ h => h) (Or.inl ⟨by rfl, ?_⟩) hS ?_
          rotate_left
          · (intro w hSw; have hSw := (HSd.out w).1 hSw; go_split_ands; go_simp) <;> with_reducible rfl
          clear hS
          try simp only [Act.put, List.setIfInBounds_toArray, List.set_cons_zero, List.set_cons_succ]
          refine wpAnyH_ready (rs := [9]) (by decide +kernel) (by simp) ?_
          refine AllReadyH.cons (o := { dst := some 63, op := Go.Op.call { callee := Go.Callee.value (Go.Operand.func 59), args := #[Go.Operand.tmp 62, Go.Operand.const (Go.Value.int Go.IntKind.i64 61)], argTypes := #[63, 2] }, type := 2, pos := "l14_gating.go:179", after := #[{ on := 8, ground := Go.Ground.data }, { on := 3, ground := Go.Ground.chain }], guard := none }) rfl (fun Kn hK => ?_) AllReadyH.nil
          first | go_at_call 59 | (go_simp; go_at_call 59)
          refine (nxt_any _ _ _ HS.out).mono ?_
          rintro e V2 ⟨p2, rfl, -, -, -, hs, hg⟩
          try dsimp only
          try simp only [Act.put, List.setIfInBounds_toArray, List.set_cons_zero, List.set_cons_succ]
          replace bM := bM.kept hg (by simp; omega)
          replace bR := bR.kept hg (by simp; omega)
          replace HG := Lib.hid (grown_trans HG.out hg)
          replace HS := Lib.hid hs
          clear hs hg
          refine hK.out _ _ (HSp.out _ bM) (fun _ => ?_)
          clear hK Kn
          have hS := HSp.out _ bM
          refine wpAnyH_take (i := 10) (oi := { dst := some 64, op := Go.Op.binOp Go.BinOp.add 2 (Go.Operand.tmp 61) (Go.Operand.tmp 63) 2, type := 2, pos := "l14_gating.go:179", after := #[{ on := 7, ground := Go.Ground.data }, { on := 9, ground := Go.Ground.data }], guard := none }) (v := ?_) rfl (by kernel_rfl) (by kernel_rfl) (by kernel_rfl) (fun _ _ _ h => h) (Or.inl ⟨by rfl, ?_⟩) hS ?_
          rotate_left
          · (intro w hSw; have hSw := (HSd.out w).1 hSw; go_split_ands; go_simp) <;> with_reducible rfl
          clear hS
          try simp only [Act.put, List.setIfInBounds_toArray, List.set_cons_zero, List.set_cons_succ]
          have hS := HSp.out _ bM
          refine wpAnyH_take (i := 11) (oi := { dst := some 65, op := Go.Op.binOp Go.BinOp.sub 2 (Go.Operand.tmp 64) (Go.Operand.const (Go.Value.int Go.IntKind.i64 30)) 2, type := 2, pos := "l14_gating.go:179", after := #[{ on := 10, ground := Go.Ground.data }], guard := none }) (v := ?_) rfl (by kernel_rfl) (by kernel_rfl) (by kernel_rfl) (fun _ _ _ h => h) (Or.inl ⟨by rfl, ?_⟩) hS ?_
          rotate_left
          · (intro w hSw; have hSw := (HSd.out w).1 hSw; go_split_ands; go_simp) <;> with_reducible rfl
          clear hS
          try simp only [Act.put, List.setIfInBounds_toArray, List.set_cons_zero, List.set_cons_succ]
          have hS := HSp.out _ bM
          refine wpAnyH_take (i := 12) (oi := { dst := some 66, op := Go.Op.build 79 #[(0, Go.Operand.tmp 59), (1, Go.Operand.tmp 65)], type := 79, pos := "l14_gating.go:179", after := #[{ on := 5, ground := Go.Ground.data }, { on := 11, ground := Go.Ground.data }], guard := none }) (v := ?_) rfl (by kernel_rfl) (by kernel_rfl) (by kernel_rfl) (fun _ _ _ h => h) (Or.inl ⟨by rfl, ?_⟩) hS ?_
          rotate_left
          · (intro w hSw; have hSw := (HSd.out w).1 hSw; go_split_ands; go_simp) <;> with_reducible rfl
          clear hS
          try simp only [Act.put, List.setIfInBounds_toArray, List.set_cons_zero, List.set_cons_succ]
          refine wpAnyH_ready (rs := [13]) (by decide +kernel) (by simp) ?_
          refine AllReadyH.cons (o := { dst := none, op := Go.Op.store 79 (Go.Operand.tmp 4) (Go.Operand.tmp 66), type := 0, pos := "l14_gating.go:179", after := #[{ on := 12, ground := Go.Ground.data }, { on := 9, ground := Go.Ground.chain }, { on := 0, ground := Go.Ground.phase }, { on := 1, ground := Go.Ground.phase }, { on := 2, ground := Go.Ground.phase }, { on := 3, ground := Go.Ground.phase }, { on := 4, ground := Go.Ground.phase }, { on := 5, ground := Go.Ground.phase }, { on := 6, ground := Go.Ground.phase }, { on := 7, ground := Go.Ground.phase }, { on := 8, ground := Go.Ground.phase }, { on := 9, ground := Go.Ground.phase }, { on := 10, ground := Go.Ground.phase }, { on := 11, ground := Go.Ground.phase }, { on := 12, ground := Go.Ground.phase }], guard := none }) rfl (fun Kn hK => ?_) AllReadyH.nil
          have bR_0 := bR.cell 0 rfl
          have bR_1 := bR.cell 1 rfl
          have bR_f0 := bR.frozen 0
          have bR_f1 := bR.frozen 1
          have bR_l := bR.lt
          go_simp
          clear bR_0 bR_f0 bR_1 bR_f1 bR_l
          generalize hX : World.setCell _ _ _ = V3
          replace HG := Lib.hid (show w.grownBy V3 (some s) by rw [← hX]; exact (grown_set_new (p := ⟨w.heap.size + 1, 1, none⟩) (grown_set_new (p := ⟨w.heap.size + 1, 0, none⟩) HG.out (by dsimp only; omega) _) (by dsimp only; omega) _))
          replace HS := Lib.hid (show Src V3 s by rw [← hX]; exact (Src.set_far (p := ⟨w.heap.size + 1, 1, none⟩) (Src.set_far (p := ⟨w.heap.size + 1, 0, none⟩) HS.out (by dsimp only; omega) _) (by dsimp only; omega) _))
          replace bM : Bk V3 (w.heap.size) #[.int .i64 x, .int .i64 y, .int .i64 u, .int .i64 v, .int .i64 t] 32 := by rw [← hX]; exact (Bk.other (Bk.other bM (by omega) 0 _) (by omega) 1 _)
          replace bR : Bk V3 (w.heap.size + 1) #[.int .i64 (IntKind.wrap .i64 (IntKind.wrap .i64 (x + p1) - 30)), .int .i64 (IntKind.wrap .i64 (IntKind.wrap .i64 (y + p2) - 30))] 79 := by rw [← hX]; exact (Bk.set (Bk.set bR 0 _ rfl) 1 _ rfl)
          clear hX
          refine hK.out _ _ (HSp.out _ bM) (fun _ => ?_)
          clear hK Kn
          refine wpAnyH_done (by kernel_rfl) ?_ _
          have c0 := bR.cell 0 rfl
          have c1 := bR.cell 1 rfl
          repeat (first | go_values | go_skip | go_guarded | go_step | go_upon | (dsimp only))
          exact bodyPost_ret (v := .agg #[.int .i64 (IntKind.wrap .i64 (IntKind.wrap .i64 (x + p1) - 30)), .int .i64 (IntKind.wrap .i64 (IntKind.wrap .i64 (y + p2) - 30))]) (by simp [results, Try.results98, go_sem, c0, c1]) rfl ⟨_, _, rfl, HS.out, HG.out⟩
end Go.Proofs.Ytlahgdhofakinaa
