/- The model's draws of a ray with a layer, out of a code. -/
import Derived.Test.YtfcbagjjpclplaaDAr
import Derived.Deep.RegionHeld3
import Derived.Deep.DrawnRows
namespace Go.Proofs.Ytfcbagjjpclplaa
open Go.ChangeShapes Go.WideShapes Go.ChangeAt Go.RowKit Go.Shelf Num
set_option linter.unusedVariables false
attribute [local go_sem ↓] Go.wp_at_zero Go.wp_at_succ

set_option maxRecDepth 100000 in
set_option maxHeartbeats 4000000 in
theorem dcx_any (w : World) (a0 : Option Addr) (cap : Nat) (cs : List Int) (h : Code8 w w.heap.size a0 cs) :
    Calls Try.prog 55 #[.slice a0 cs.length cap] w (RyK1 w) := by
  have HC := Lib.hid h
  clear h
  go_enter Try.func55, Try.ntmps55
  go_wp2_with fail
  generalize hW : World.alloc _ _ = W
  have bR : Bk W w.heap.size #[.slice none 0 0, .slice none 0 0] 39 := by rw [← hW]; exact (Bk.new' (by simp)).alloc _
  have bE : Bk W (w.heap.size + 1) #[.int .i64 0, .int .i64 0, .int .i64 0] 41 := by rw [← hW]; exact Bk.new' (by simp)
  have hb0 : Below w.heap.size w W := by rw [← hW]; exact (by repeat (first | exact Below.refl _ _ | (refine Below.alloc ?_ (by simp <;> omega) _) | (refine Below.setCell ?_ (by simp <;> omega) _) | (refine Below.drew ?_) | (refine bel_drewN ?_ _)))
  clear hW
  have hlE := bE.lt
  refine (from_any _ _ _ cs ((HC.out.below hb0 (Nat.le_refl _)).more hb0.size)).mono ?_
  rintro e w1 ⟨s, rfl, hs, hsrc, hb⟩
  replace bR := bR.on hb
  replace bE := bE.on hb
  have HB := Lib.hid (bel_end hb0 hb)
  have HS := Lib.hid hsrc
  have hl1 := bE.lt
  have hl0 := HS.out.lt
  clear hsrc hb hb0
  go_wp2_with fail
  refine (dal_any _ _ HS.out).mono ?_
  rintro e w2 ⟨a, b, c, d, zs, ys, x, p, q, t, l, ab, rfl, hp, hg, hs2⟩
  replace bR := bR.kept hg (by simp; omega)
  replace bE := bE.kept hg (by simp; omega)
  have hsz := hg.size
  replace HB := Lib.hid (HB.out.trans (below_of_grown hg (by omega) (by have := HB.out.size; omega)))
  have HP := Lib.hid (hp.less (m' := w.heap.size + 1) (by omega))
  clear hg hs2 hp
  have hl2 := bE.lt
  go_wp2_with fail
  generalize hW : World.alloc _ _ = w3
  have hb : Below w2.heap.size w2 w3 := by rw [← hW]; exact (by repeat (first | exact Below.refl _ _ | (refine Below.alloc ?_ (by simp <;> omega) _) | (refine Below.setCell ?_ (by simp <;> omega) _) | (refine Below.drew ?_) | (refine bel_drewN ?_ _)))
  have bP : Bk w3 w2.heap.size #[.slice a zs.length c, .slice b ys.length d] 39 := by rw [← hW]; exact (Bk.new' rfl).alloc _
  have bD : Bk w3 (w2.heap.size + 1) #[.int .i64 p, .int .i64 q, .int .i64 t] 41 := by rw [← hW]; exact Bk.new' (by simp)
  replace bR := bR.on hb
  replace bE := bE.on hb
  replace HP := Lib.hid (HP.out.on hb)
  replace HB := Lib.hid (bel_end HB.out hb)
  clear hW hb
  have p0 := bP.cell 0 rfl
  have p1 := bP.cell 1 rfl
  have pf0 := bP.frozen 0
  have pf1 := bP.frozen 1
  have pl := bP.lt
  have d0 := bD.cell 0 rfl
  have d1 := bD.cell 1 rfl
  have d2 := bD.cell 2 rfl
  have df0 := bD.frozen 0
  have df1 := bD.frozen 1
  have df2 := bD.frozen 2
  have dl := bD.lt
  have r0 := bR.cell 0 rfl
  have r1 := bR.cell 1 rfl
  have rf0 := bR.frozen 0
  have rf1 := bR.frozen 1
  have rl := bR.lt
  have e0 := bE.cell 0 rfl
  have e1 := bE.cell 1 rfl
  have e2 := bE.cell 2 rfl
  have ef0 := bE.frozen 0
  have ef1 := bE.frozen 1
  have ef2 := bE.frozen 2
  have el := bE.lt
  have n1 : ¬ w.heap.size = w2.heap.size := by omega
  have n2 : ¬ w2.heap.size = w.heap.size := by omega
  have n3 : ¬ w.heap.size + 1 = w2.heap.size := by omega
  have n4 : ¬ w2.heap.size = w.heap.size + 1 := by omega
  have n5 : ¬ w.heap.size = w2.heap.size + 1 := by omega
  have n6 : ¬ w2.heap.size + 1 = w.heap.size := by omega
  have dw : ∀ {B o : Nat} {v : Value} {V : World}, V.cell? ⟨B, o, none⟩ = some v → V.drew.cell? ⟨B, o, none⟩ = some v := fun h => h
  have x0 := dw p0
  have x1 := dw p1
  have x2 := dw d0
  have x3 := dw d1
  have x4 := dw d2
  replace HP := Lib.hid (HP.out.on (Below.refl _ _).drew)
  replace HB := Lib.hid (bel_end HB.out (Below.refl _ _).drew)
  go_region_held3 (fun w' => w'.cell? ⟨w2.heap.size, 0, none⟩ = some (.slice a zs.length c) ∧ w'.cell? ⟨w2.heap.size, 1, none⟩ = some (.slice b ys.length d) ∧ w'.cell? ⟨w2.heap.size + 1, 0, none⟩ = some (.int .i64 p) ∧ w'.cell? ⟨w2.heap.size + 1, 1, none⟩ = some (.int .i64 q) ∧ w'.cell? ⟨w2.heap.size + 1, 2, none⟩ = some (.int .i64 t))
    (first
      | (with_reducible exact ⟨x0, x1, x2, x3, x4⟩)
      | go_keep)
    (fail)
  all_goals
    go_wp2
    exact bodyPost_ret (v := .tuple #[.agg #[.slice a zs.length c, .slice b ys.length d], .int .i64 x, .agg #[.int .i64 p, .int .i64 q, .int .i64 t], .int .i64 l]) (by simp [results, Try.results55, go_sem, r0, r1, e0, e1, e2]) rfl
      ⟨a, b, c, d, zs, ys, x, p, q, t, l, rfl, (HP.out.five (g := w.heap.size) (h := w.heap.size + 1) (by omega) (by omega)).less (by omega), five_set HB.out (Nat.le_refl _) (by omega)⟩

set_option maxRecDepth 100000 in
set_option maxHeartbeats 4000000 in
theorem dar_any (w : World) (a0 : Option Addr) (cap : Nat) (cs : List Int) (h : Code8 w w.heap.size a0 cs) :
    Calls Try.prog 20 #[.slice a0 cs.length cap] w (RyK1 w) := by
  have HC := Lib.hid h
  clear h
  go_enter Try.func20, Try.ntmps20
  go_wp2_with fail
  generalize hW : World.alloc _ _ = W
  have bR : Bk W w.heap.size #[.slice none 0 0, .slice none 0 0] 39 := by rw [← hW]; exact (Bk.new' (by simp)).alloc _
  have bE : Bk W (w.heap.size + 1) #[.int .i64 0, .int .i64 0, .int .i64 0] 41 := by rw [← hW]; exact Bk.new' (by simp)
  have hb0 : Below w.heap.size w W := by rw [← hW]; exact (by repeat (first | exact Below.refl _ _ | (refine Below.alloc ?_ (by simp <;> omega) _) | (refine Below.setCell ?_ (by simp <;> omega) _) | (refine Below.drew ?_) | (refine bel_drewN ?_ _)))
  clear hW
  have hlE := bE.lt
  refine (dcx_any _ _ _ cs ((HC.out.below hb0 (Nat.le_refl _)).more hb0.size)).mono ?_
  rintro e w1 ⟨a, b, c, d, zs, ys, x, p, q, t, l, rfl, hp, hb⟩
  replace bR := bR.on hb
  replace bE := bE.on hb
  have HB := Lib.hid (bel_end hb0 hb)
  have HP := Lib.hid (hp.less (m' := w.heap.size + 1) (by omega))
  clear hb hb0 hp
  have r0 := bR.cell 0 rfl
  have r1 := bR.cell 1 rfl
  have rf0 := bR.frozen 0
  have rf1 := bR.frozen 1
  have rl := bR.lt
  have e0 := bE.cell 0 rfl
  have e1 := bE.cell 1 rfl
  have e2 := bE.cell 2 rfl
  have ef0 := bE.frozen 0
  have ef1 := bE.frozen 1
  have ef2 := bE.frozen 2
  have el := bE.lt
  go_wp2
  exact bodyPost_ret (v := .tuple #[.agg #[.slice a zs.length c, .slice b ys.length d], .int .i64 x, .agg #[.int .i64 p, .int .i64 q, .int .i64 t], .int .i64 l]) (by simp [results, Try.results20, go_sem, r0, r1, e0, e1, e2]) rfl
    ⟨a, b, c, d, zs, ys, x, p, q, t, l, rfl, (HP.out.five (g := w.heap.size) (h := w.heap.size + 1) (by omega) (by omega)).less (by omega), five_set HB.out (Nat.le_refl _) (by omega)⟩
end Go.Proofs.Ytfcbagjjpclplaa
