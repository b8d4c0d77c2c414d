/- The model's draws of a ray with a layer. -/
import Derived.Test.YtfcbagjjpclplaaDry
import Derived.Deep.RegionHeld3
import Derived.Deep.DrawnRows
namespace Go.Proofs.Ytfcbagjjpclplaa
open Go.ChangeShapes Go.WideShapes Go.ChangeAt Go.RowKit Go.Shelf Num
set_option linter.unusedVariables false
attribute [local go_sem ↓] Go.wp_at_zero Go.wp_at_succ
/-- what a draw of a ray with a layer leaves -/
def RlDrawn (w : World) (s : Nat) (e : Ending) (w' : World) : Prop :=
  ∃ (a b : Option Addr) (c d : Nat) (zs ys : List Int) (x p q r l : Int) (ab : Bool), e = .returned (.tuple #[.agg #[.slice a zs.length c, .slice b ys.length d], .int .i64 x, .agg #[.int .i64 p, .int .i64 q, .int .i64 r], .int .i64 l, .bool ab]) ∧ PrA w' (w.heap.size + 1) a b c d zs ys ∧ w.grownBy w' (some s) ∧ Src w' s
/-- .. out of a code -/
def RlB1 (w : World) (e : Ending) (w' : World) : Prop :=
  ∃ (a b : Option Addr) (c d : Nat) (zs ys : List Int) (x p q r l : Int) (ab : Bool), e = .returned (.tuple #[.agg #[.slice a zs.length c, .slice b ys.length d], .int .i64 x, .agg #[.int .i64 p, .int .i64 q, .int .i64 r], .int .i64 l, .bool ab]) ∧ PrA w' (w.heap.size + 1) a b c d zs ys ∧ Below w.heap.size w w'
theorem two_cells {x y : Int} (j : Nat) (hj : j < 2) : (#[.int .i64 x, .int .i64 y] : Array Value)[j]? = some (.int .i64 ([x, y].getD j 0)) := by
  match j, hj with
  | 0, _ => rfl
  | 1, _ => rfl

set_option maxRecDepth 100000 in
set_option maxHeartbeats 4000000 in
theorem dal_any (w : World) (s : Nat) (h : Src w s) :
    Calls Try.prog 75 #[.pointer (some ⟨s, 0, none⟩)] w (RlDrawn w s) := by
  have hlt := h.lt
  have HS := Lib.hid h
  clear h
  go_enter Try.func75, Try.ntmps75
  go_wp2_with fail
  generalize hW : World.alloc _ _ = W
  have bR : Bk W w.heap.size #[.slice none 0 0, .slice none 0 0] 39 := by rw [← hW]; exact (Bk.new' (by simp)).alloc _
  have bE : Bk W (w.heap.size + 1) #[.int .i64 0, .int .i64 0, .int .i64 0] 41 := by rw [← hW]; exact Bk.new' (by simp)
  have HG : Hid (w.grownBy W (some s)) := Lib.hid (by rw [← hW]; exact grown_alloc (grown_alloc (grown_refl _ _) _) _)
  replace HS : Hid (Src W s) := Lib.hid (by rw [← hW]; exact (HS.out.alloc _).alloc _)
  have hWl : W.heap.size = w.heap.size + 1 + 1 := by rw [← hW]; simp
  clear hW
  have hlE := bE.lt
  refine (dry_any _ _ HS.out).mono ?_
  rintro e w1 ⟨a, b, c, d, zs, ys, x, p, q, t, rfl, hp, hg, hs⟩
  have hlW := HS.out.lt
  replace bR := bR.kept hg (by simp; omega)
  replace bE := bE.kept hg (by simp; omega)
  have HP := Lib.hid (hp.less (m' := w.heap.size + 1) (by omega))
  replace HG := Lib.hid (grown_trans HG.out hg)
  replace HS := Lib.hid hs
  have hl1 := HS.out.lt
  have hl2 := bE.lt
  have hsz := hg.size
  clear hp hg hs hWl
  have hn1 := HP.out.n1
  have ew : IntKind.wrap .i64 ((zs.length : Int) - 1) = (zs.length : Int) - 1 := IntWalk.i64_in _ (by omega)
  obtain ⟨M, hM⟩ : ∃ M : Int, (if (1 : Int) < (zs.length : Int) - 1 then (zs.length : Int) - 1 else 1) = M := ⟨_, rfl⟩
  go_wp2_with fail
  clear hM
  generalize hW : World.alloc _ _ = w2
  have hb : Below w1.heap.size w1 w2 := by rw [← hW]; exact (by repeat (first | exact Below.refl _ _ | (refine Below.alloc ?_ (by simp <;> omega) _) | (refine Below.setCell ?_ (by simp <;> omega) _) | (refine Below.drew ?_) | (refine bel_drewN ?_ _)))
  have bP : Bk w2 w1.heap.size #[.slice a zs.length c, .slice b ys.length d] 39 := by rw [← hW]; exact (Bk.new' rfl).alloc _
  have bD : Bk w2 (w1.heap.size + 1) #[.int .i64 p, .int .i64 q, .int .i64 t] 41 := by rw [← hW]; exact Bk.new' (by simp)
  replace bR := bR.on hb
  replace bE := bE.on hb
  replace HP := Lib.hid (HP.out.on hb)
  replace HG := Lib.hid (grown_bel HG.out hb)
  replace HS := Lib.hid (HS.out.bel hb)
  clear hW hb
  have hd2 := bD.lt
  refine (nxt_any _ _ _ HS.out).mono ?_
  rintro e w3 ⟨k, rfl, -, -, -, hs, hg⟩
  replace bR := bR.kept hg (by simp; omega)
  replace bE := bE.kept hg (by simp; omega)
  replace bP := bP.kept hg (by simp; omega)
  replace bD := bD.kept hg (by simp; omega)
  replace HP := Lib.hid (HP.out.grown (by omega) hg)
  replace HG := Lib.hid (grown_trans HG.out hg)
  replace HS := Lib.hid hs
  clear hs hg hd2
  have hd2 := bD.lt
  go_wp2_with fail
  refine (nxt_any _ _ 30 HS.out).mono ?_
  rintro e w4 ⟨g0, rfl, hk0, -, -, hs, hg⟩
  replace bR := bR.kept hg (by simp; omega)
  replace bE := bE.kept hg (by simp; omega)
  replace bP := bP.kept hg (by simp; omega)
  replace bD := bD.kept hg (by simp; omega)
  replace HP := Lib.hid (HP.out.grown (by omega) hg)
  replace HG := Lib.hid (grown_trans HG.out hg)
  replace HS := Lib.hid hs
  clear hs hg hk0 hd2
  have hd2 := bD.lt
  have pl := bP.lt
  by_cases h0 : g0 = 0
  · subst h0
    go_wp2_with fail
    refine (pick_new _ s 2 2 _ _ HS.out rfl (by omega) (by omega) two_cells).mono ?_
    rintro e w5 ⟨j, hj, rfl, hs, hg⟩
    have hb : Below w4.heap.size w4 (w4.alloc (.cells #[.int .i64 (-1), .int .i64 ((zs.length : Int) - 1)] 2)) := (by repeat (first | exact Below.refl _ _ | (refine Below.alloc ?_ (by simp <;> omega) _) | (refine Below.setCell ?_ (by simp <;> omega) _) | (refine Below.drew ?_) | (refine bel_drewN ?_ _)))
    replace bR := bR.on hb
    replace bE := bE.on hb
    replace bP := bP.on hb
    replace bD := bD.on hb
    replace HP := Lib.hid (HP.out.on hb)
    replace HG := Lib.hid (grown_bel HG.out hb)
    have hsl := HS.out.lt
    replace bR := bR.kept hg (by simp; omega)
    replace bE := bE.kept hg (by simp; omega)
    replace bP := bP.kept hg (by simp; omega)
    replace bD := bD.kept hg (by simp; omega)
    replace HP := Lib.hid (HP.out.grown (by omega) hg)
    replace HG := Lib.hid (grown_trans HG.out hg)
    replace HS := Lib.hid hs
    obtain ⟨l, hl⟩ : ∃ l, List.getD [-1, (zs.length : Int) - 1] j 0 = l := ⟨_, rfl⟩
    rw [hl]
    clear hb hs hg hl hj pl hd2
    have p0 := bP.cell 0 rfl
    have p1 := bP.cell 1 rfl
    have pf0 := bP.frozen 0
    have pf1 := bP.frozen 1
    have pl := bP.lt
    have d0 := bD.cell 0 rfl
    have d1 := bD.cell 1 rfl
    have d2 := bD.cell 2 rfl
    have df0 := bD.frozen 0
    have df1 := bD.frozen 1
    have df2 := bD.frozen 2
    have dl := bD.lt
    have r0 := bR.cell 0 rfl
    have r1 := bR.cell 1 rfl
    have rf0 := bR.frozen 0
    have rf1 := bR.frozen 1
    have rl := bR.lt
    have e0 := bE.cell 0 rfl
    have e1 := bE.cell 1 rfl
    have e2 := bE.cell 2 rfl
    have ef0 := bE.frozen 0
    have ef1 := bE.frozen 1
    have ef2 := bE.frozen 2
    have el := bE.lt
    have n0 : ¬ w.heap.size = w1.heap.size := by omega
    have n1 : ¬ w1.heap.size = w.heap.size := by omega
    have n2 : ¬ w.heap.size + 1 = w1.heap.size := by omega
    have n3 : ¬ w1.heap.size = w.heap.size + 1 := by omega
    have n4 : ¬ w.heap.size = w1.heap.size + 1 := by omega
    have n5 : ¬ w1.heap.size + 1 = w.heap.size := by omega
    have hsd := HS.out.drew
    have dw : ∀ {B o : Nat} {v : Value} {V : World}, V.cell? ⟨B, o, none⟩ = some v → V.drew.cell? ⟨B, o, none⟩ = some v := fun h => h
    have x0 := dw p0
    have x1 := dw p1
    have x2 := dw d0
    have x3 := dw d1
    have x4 := dw d2
    go_wp2_with fail
    go_region_held3 (fun w' => w'.cell? ⟨w1.heap.size, 0, none⟩ = some (.slice a zs.length c) ∧ w'.cell? ⟨w1.heap.size, 1, none⟩ = some (.slice b ys.length d) ∧ w'.cell? ⟨w1.heap.size + 1, 0, none⟩ = some (.int .i64 p) ∧ w'.cell? ⟨w1.heap.size + 1, 1, none⟩ = some (.int .i64 q) ∧ w'.cell? ⟨w1.heap.size + 1, 2, none⟩ = some (.int .i64 t))
      (first
        | (with_reducible exact ⟨x0, x1, x2, x3, x4⟩)
        | (go_split_ands; with_reducible exact ⟨cell_keep (by assumption) hg (by omega), cell_keep (by assumption) hg (by omega), cell_keep (by assumption) hg (by omega), cell_keep (by assumption) hg (by omega), cell_keep (by assumption) hg (by omega)⟩)
        | go_keep)
      (first | (go_at_call 34; ((with_reducible refine (nxt_any _ _ 2 (by assumption)).mono ?_); rintro e wr ⟨m, rfl, -, -, -, hs2, hg⟩); have bR2 := (bkD bR).kept hg (by simp; omega); have bE2 := (bkD bE).kept hg (by simp; omega); have HP2 := Lib.hid ((HP.out.on (Below.refl _ _).drew).grown (by omega) hg); have HG2 := Lib.hid (grown_trans (grown_bel HG.out (Below.refl _ _).drew) hg); have HS2 := Lib.hid hs2; have r0 := bR2.cell 0 rfl; have r1 := bR2.cell 1 rfl; have e0 := bE2.cell 0 rfl; have e1 := bE2.cell 1 rfl; have e2 := bE2.cell 2 rfl; have rf0 := bR2.frozen 0; have rf1 := bR2.frozen 1; have ef0 := bE2.frozen 0; have ef1 := bE2.frozen 1; have ef2 := bE2.frozen 2))
    all_goals
      clear hg hs2
      go_wp2
      exact bodyPost_ret (v := .tuple #[.agg #[.slice a zs.length c, .slice b ys.length d], .int .i64 x, .agg #[.int .i64 p, .int .i64 q, .int .i64 t], .int .i64 l, .bool (m == 0)]) (by simp [results, Try.results75, go_sem, r0, r1, e0, e1, e2]) rfl
        ⟨a, b, c, d, zs, ys, x, p, q, t, _, _, rfl, (HP2.out.five (g := w.heap.size) (h := w.heap.size + 1) (by omega) (by omega)).less (by omega), five_grown HG2.out (Nat.le_refl _) (by omega), five_src HS2.out hlt (by omega)⟩
  · have hqf : (g0 == 0) = false := by simpa using h0
    clear pl hd2 h0
    have p0 := bP.cell 0 rfl
    have p1 := bP.cell 1 rfl
    have pf0 := bP.frozen 0
    have pf1 := bP.frozen 1
    have pl := bP.lt
    have d0 := bD.cell 0 rfl
    have d1 := bD.cell 1 rfl
    have d2 := bD.cell 2 rfl
    have df0 := bD.frozen 0
    have df1 := bD.frozen 1
    have df2 := bD.frozen 2
    have dl := bD.lt
    have r0 := bR.cell 0 rfl
    have r1 := bR.cell 1 rfl
    have rf0 := bR.frozen 0
    have rf1 := bR.frozen 1
    have rl := bR.lt
    have e0 := bE.cell 0 rfl
    have e1 := bE.cell 1 rfl
    have e2 := bE.cell 2 rfl
    have ef0 := bE.frozen 0
    have ef1 := bE.frozen 1
    have ef2 := bE.frozen 2
    have el := bE.lt
    have n0 : ¬ w.heap.size = w1.heap.size := by omega
    have n1 : ¬ w1.heap.size = w.heap.size := by omega
    have n2 : ¬ w.heap.size + 1 = w1.heap.size := by omega
    have n3 : ¬ w1.heap.size = w.heap.size + 1 := by omega
    have n4 : ¬ w.heap.size = w1.heap.size + 1 := by omega
    have n5 : ¬ w1.heap.size + 1 = w.heap.size := by omega
    have hsd := HS.out.drew
    have dw : ∀ {B o : Nat} {v : Value} {V : World}, V.cell? ⟨B, o, none⟩ = some v → V.drew.cell? ⟨B, o, none⟩ = some v := fun h => h
    have x0 := dw p0
    have x1 := dw p1
    have x2 := dw d0
    have x3 := dw d1
    have x4 := dw d2
    go_wp2_with fail
    go_region_held3 (fun w' => w'.cell? ⟨w1.heap.size, 0, none⟩ = some (.slice a zs.length c) ∧ w'.cell? ⟨w1.heap.size, 1, none⟩ = some (.slice b ys.length d) ∧ w'.cell? ⟨w1.heap.size + 1, 0, none⟩ = some (.int .i64 p) ∧ w'.cell? ⟨w1.heap.size + 1, 1, none⟩ = some (.int .i64 q) ∧ w'.cell? ⟨w1.heap.size + 1, 2, none⟩ = some (.int .i64 t))
      (first
        | (with_reducible exact ⟨x0, x1, x2, x3, x4⟩)
        | (go_split_ands; with_reducible exact ⟨cell_keep (by assumption) hg (by omega), cell_keep (by assumption) hg (by omega), cell_keep (by assumption) hg (by omega), cell_keep (by assumption) hg (by omega), cell_keep (by assumption) hg (by omega)⟩)
        | go_keep)
      (first | (go_at_call 34; ((with_reducible refine (nxt_any _ _ 2 (by assumption)).mono ?_); rintro e wr ⟨m, rfl, -, -, -, hs2, hg⟩); have bR2 := (bkD bR).kept hg (by simp; omega); have bE2 := (bkD bE).kept hg (by simp; omega); have HP2 := Lib.hid ((HP.out.on (Below.refl _ _).drew).grown (by omega) hg); have HG2 := Lib.hid (grown_trans (grown_bel HG.out (Below.refl _ _).drew) hg); have HS2 := Lib.hid hs2; have r0 := bR2.cell 0 rfl; have r1 := bR2.cell 1 rfl; have e0 := bE2.cell 0 rfl; have e1 := bE2.cell 1 rfl; have e2 := bE2.cell 2 rfl; have rf0 := bR2.frozen 0; have rf1 := bR2.frozen 1; have ef0 := bE2.frozen 0; have ef1 := bE2.frozen 1; have ef2 := bE2.frozen 2))
    all_goals
      clear hg hs2
      go_wp2
      exact bodyPost_ret (v := .tuple #[.agg #[.slice a zs.length c, .slice b ys.length d], .int .i64 x, .agg #[.int .i64 p, .int .i64 q, .int .i64 t], .int .i64 k, .bool (m == 0)]) (by simp [results, Try.results75, go_sem, r0, r1, e0, e1, e2]) rfl
        ⟨a, b, c, d, zs, ys, x, p, q, t, _, _, rfl, (HP2.out.five (g := w.heap.size) (h := w.heap.size + 1) (by omega) (by omega)).less (by omega), five_grown HG2.out (Nat.le_refl _) (by omega), five_src HS2.out hlt (by omega)⟩

end Go.Proofs.Ytfcbagjjpclplaa
