/- The model's draws of a ray with a number of events. -/
import Derived.Test.YtaaklnabomhleaaDry
import Derived.Test.YtaaklnabomhleaaDAr
import Derived.Deep.RegionHeld3
import Derived.Deep.DrawnRows
namespace Go.Proofs.Ytaaklnabomhleaa
open Go.ChangeShapes Go.WideShapes Go.ChangeAt Go.RowKit Go.Shelf Num
set_option linter.unusedVariables false
attribute [local go_sem ↓] Go.wp_at_zero Go.wp_at_succ
/-- what a draw of a ray with a number of events leaves -/
def R7Drawn (w : World) (s : Nat) (e : Ending) (w' : World) : Prop :=
  ∃ (a b : Option Addr) (c d : Nat) (zs ys : List Int) (x p q r n : Int), e = .returned (.tuple #[.agg #[.slice a zs.length c, .slice b ys.length d], .int .i64 x, .agg #[.int .i64 p, .int .i64 q, .int .i64 r], .int .i64 n]) ∧ PrA w' (w.heap.size + 1) a b c d zs ys ∧ (-1 ≤ n ∧ n ≤ 101) ∧ w.grownBy w' (some s) ∧ Src w' s
/-- .. out of a code -/
def R7B (w : World) (e : Ending) (w' : World) : Prop :=
  ∃ (a b : Option Addr) (c d : Nat) (zs ys : List Int) (x p q r n : Int), e = .returned (.tuple #[.agg #[.slice a zs.length c, .slice b ys.length d], .int .i64 x, .agg #[.int .i64 p, .int .i64 q, .int .i64 r], .int .i64 n]) ∧ PrA w' (w.heap.size + 1) a b c d zs ys ∧ (-1 ≤ n ∧ n ≤ 101) ∧ Below w.heap.size w w'
theorem three_c (j : Nat) (hj : j < 3) : (#[.int .i64 (-1), .int .i64 100, .int .i64 101] : Array Value)[j]? = some (.int .i64 ([(-1 : Int), 100, 101].getD j 0)) := by
  match j, hj with
  | 0, _ => rfl
  | 1, _ => rfl
  | 2, _ => rfl
theorem three_b (j : Nat) (hj : j < 3) : -1 ≤ [(-1 : Int), 100, 101].getD j 0 ∧ [(-1 : Int), 100, 101].getD j 0 ≤ 101 := by
  match j, hj with
  | 0, _ => exact ⟨by decide, by decide⟩
  | 1, _ => exact ⟨by decide, by decide⟩
  | 2, _ => exact ⟨by decide, by decide⟩

set_option maxRecDepth 100000 in
set_option maxHeartbeats 4000000 in
theorem d7_any (w : World) (s : Nat) (h : Src w s) :
    Calls Try.prog 100 #[.pointer (some ⟨s, 0, none⟩)] w (R7Drawn w s) := by
  have hlt := h.lt
  have HS := Lib.hid h
  clear h
  go_enter Try.func100, Try.ntmps100
  go_wp2_with fail
  generalize hW : World.alloc _ _ = W
  have bR : Bk W w.heap.size #[.slice none 0 0, .slice none 0 0] 51 := by rw [← hW]; exact (Bk.new' (by simp)).alloc _
  have bE : Bk W (w.heap.size + 1) #[.int .i64 0, .int .i64 0, .int .i64 0] 32 := by rw [← hW]; exact Bk.new' (by simp)
  have HG : Hid (w.grownBy W (some s)) := Lib.hid (by rw [← hW]; exact grown_alloc (grown_alloc (grown_refl _ _) _) _)
  replace HS : Hid (Src W s) := Lib.hid (by rw [← hW]; exact (HS.out.alloc _).alloc _)
  have hWl : W.heap.size = w.heap.size + 1 + 1 := by rw [← hW]; simp
  clear hW
  have hlE := bE.lt
  refine (dry_any _ _ HS.out).mono ?_
  rintro e w1 ⟨a, b, c, d, zs, ys, x, p, q, t, rfl, hp, hg, hs⟩
  have hlW := HS.out.lt
  replace bR := bR.kept hg (by simp; omega)
  replace bE := bE.kept hg (by simp; omega)
  have HP := Lib.hid (hp.less (m' := w.heap.size + 1) (by omega))
  replace HG := Lib.hid (grown_trans HG.out hg)
  replace HS := Lib.hid hs
  have hl1 := HS.out.lt
  have hl2 := bE.lt
  have hsz := hg.size
  clear hp hg hs hWl
  go_wp2_with fail
  generalize hW : World.alloc _ _ = w2
  have hb : Below w1.heap.size w1 w2 := by rw [← hW]; exact (by repeat (first | exact Below.refl _ _ | (refine Below.alloc ?_ (by simp <;> omega) _) | (refine Below.setCell ?_ (by simp <;> omega) _) | (refine Below.drew ?_) | (refine bel_drewN ?_ _)))
  have bP : Bk w2 w1.heap.size #[.slice a zs.length c, .slice b ys.length d] 51 := by rw [← hW]; exact (Bk.new' rfl).alloc _
  have bD : Bk w2 (w1.heap.size + 1) #[.int .i64 p, .int .i64 q, .int .i64 t] 32 := by rw [← hW]; exact Bk.new' (by simp)
  replace bR := bR.on hb
  replace bE := bE.on hb
  replace HP := Lib.hid (HP.out.on hb)
  replace HG := Lib.hid (grown_bel HG.out hb)
  replace HS := Lib.hid (HS.out.bel hb)
  clear hW hb
  have hd2 := bD.lt
  refine (nxt_any _ _ _ HS.out).mono ?_
  rintro e w3 ⟨k, rfl, hka, hkb, -, hs, hg⟩
  have hkc := hkb (by omega)
  clear hkb
  replace bR := bR.kept hg (by simp; omega)
  replace bE := bE.kept hg (by simp; omega)
  replace bP := bP.kept hg (by simp; omega)
  replace bD := bD.kept hg (by simp; omega)
  replace HP := Lib.hid (HP.out.grown (by omega) hg)
  replace HG := Lib.hid (grown_trans HG.out hg)
  replace HS := Lib.hid hs
  clear hs hg hd2
  have hd2 := bD.lt
  go_wp2_with fail
  refine (nxt_any _ _ 30 HS.out).mono ?_
  rintro e w4 ⟨g0, rfl, hk0, -, -, hs, hg⟩
  replace bR := bR.kept hg (by simp; omega)
  replace bE := bE.kept hg (by simp; omega)
  replace bP := bP.kept hg (by simp; omega)
  replace bD := bD.kept hg (by simp; omega)
  replace HP := Lib.hid (HP.out.grown (by omega) hg)
  replace HG := Lib.hid (grown_trans HG.out hg)
  replace HS := Lib.hid hs
  clear hs hg hk0 hd2
  have hd2 := bD.lt
  have pl := bP.lt
  by_cases h0 : g0 = 0
  · subst h0
    go_wp2_with fail
    refine (pick_new _ s 3 3 [-1, 100, 101] #[.int .i64 (-1), .int .i64 100, .int .i64 101] HS.out rfl (by omega) (by omega) three_c).mono ?_
    rintro e w5 ⟨j, hj, rfl, hs, hg⟩
    have hb : Below w4.heap.size w4 (w4.alloc (.cells #[.int .i64 (-1), .int .i64 100, .int .i64 101] 2)) := (by repeat (first | exact Below.refl _ _ | (refine Below.alloc ?_ (by simp <;> omega) _) | (refine Below.setCell ?_ (by simp <;> omega) _) | (refine Below.drew ?_) | (refine bel_drewN ?_ _)))
    replace bR := bR.on hb
    replace bE := bE.on hb
    replace bP := bP.on hb
    replace bD := bD.on hb
    replace HP := Lib.hid (HP.out.on hb)
    replace HG := Lib.hid (grown_bel HG.out hb)
    have hsl := HS.out.lt
    replace bR := bR.kept hg (by simp; omega)
    replace bE := bE.kept hg (by simp; omega)
    replace bP := bP.kept hg (by simp; omega)
    replace bD := bD.kept hg (by simp; omega)
    replace HP := Lib.hid (HP.out.grown (by omega) hg)
    replace HG := Lib.hid (grown_trans HG.out hg)
    replace HS := Lib.hid hs
    have hlb : -1 ≤ List.getD [(-1 : Int), 100, 101] j 0 ∧ List.getD [(-1 : Int), 100, 101] j 0 ≤ 101 := three_b j hj
    obtain ⟨l, hl⟩ : ∃ l, List.getD [(-1 : Int), 100, 101] j 0 = l := ⟨_, rfl⟩
    rw [hl] at hlb
    rw [hl]
    clear hb hs hg hl hj pl hd2
    have p0 := bP.cell 0 rfl
    have p1 := bP.cell 1 rfl
    have pf0 := bP.frozen 0
    have pf1 := bP.frozen 1
    have pl := bP.lt
    have d0 := bD.cell 0 rfl
    have d1 := bD.cell 1 rfl
    have d2 := bD.cell 2 rfl
    have df0 := bD.frozen 0
    have df1 := bD.frozen 1
    have df2 := bD.frozen 2
    have dl := bD.lt
    have r0 := bR.cell 0 rfl
    have r1 := bR.cell 1 rfl
    have rf0 := bR.frozen 0
    have rf1 := bR.frozen 1
    have rl := bR.lt
    have e0 := bE.cell 0 rfl
    have e1 := bE.cell 1 rfl
    have e2 := bE.cell 2 rfl
    have ef0 := bE.frozen 0
    have ef1 := bE.frozen 1
    have ef2 := bE.frozen 2
    have el := bE.lt
    have n0 : ¬ w.heap.size = w1.heap.size := by omega
    have n1 : ¬ w1.heap.size = w.heap.size := by omega
    have n2 : ¬ w.heap.size + 1 = w1.heap.size := by omega
    have n3 : ¬ w1.heap.size = w.heap.size + 1 := by omega
    have n4 : ¬ w.heap.size = w1.heap.size + 1 := by omega
    have n5 : ¬ w1.heap.size + 1 = w.heap.size := by omega
    have dw : ∀ {B o : Nat} {v : Value} {V : World}, V.cell? ⟨B, o, none⟩ = some v → V.drew.cell? ⟨B, o, none⟩ = some v := fun h => h
    have x0 := dw p0
    have x1 := dw p1
    have x2 := dw d0
    have x3 := dw d1
    have x4 := dw d2
    go_wp2_with fail
    go_region_held3 (fun w' => w'.cell? ⟨w1.heap.size, 0, none⟩ = some (.slice a zs.length c) ∧ w'.cell? ⟨w1.heap.size, 1, none⟩ = some (.slice b ys.length d) ∧ w'.cell? ⟨w1.heap.size + 1, 0, none⟩ = some (.int .i64 p) ∧ w'.cell? ⟨w1.heap.size + 1, 1, none⟩ = some (.int .i64 q) ∧ w'.cell? ⟨w1.heap.size + 1, 2, none⟩ = some (.int .i64 t))
      (first
        | (with_reducible exact ⟨x0, x1, x2, x3, x4⟩)
        | go_keep)
      (fail)
    all_goals
      go_wp2
      exact bodyPost_ret (v := .tuple #[.agg #[.slice a zs.length c, .slice b ys.length d], .int .i64 x, .agg #[.int .i64 p, .int .i64 q, .int .i64 t], .int .i64 l]) (by simp [results, Try.results100, go_sem, r0, r1, e0, e1, e2]) rfl
        ⟨a, b, c, d, zs, ys, x, p, q, t, _, rfl, ((HP.out.five (g := w.heap.size) (h := w.heap.size + 1) (by omega) (by omega)).on (Below.refl _ _).drew).less (by omega), hlb, grown_bel (five_grown HG.out (Nat.le_refl _) (by omega)) (Below.refl _ _).drew, (five_src HS.out hlt (by omega)).drew⟩
  · have hqf : (g0 == 0) = false := by simpa using h0
    clear pl hd2 h0
    have p0 := bP.cell 0 rfl
    have p1 := bP.cell 1 rfl
    have pf0 := bP.frozen 0
    have pf1 := bP.frozen 1
    have pl := bP.lt
    have d0 := bD.cell 0 rfl
    have d1 := bD.cell 1 rfl
    have d2 := bD.cell 2 rfl
    have df0 := bD.frozen 0
    have df1 := bD.frozen 1
    have df2 := bD.frozen 2
    have dl := bD.lt
    have r0 := bR.cell 0 rfl
    have r1 := bR.cell 1 rfl
    have rf0 := bR.frozen 0
    have rf1 := bR.frozen 1
    have rl := bR.lt
    have e0 := bE.cell 0 rfl
    have e1 := bE.cell 1 rfl
    have e2 := bE.cell 2 rfl
    have ef0 := bE.frozen 0
    have ef1 := bE.frozen 1
    have ef2 := bE.frozen 2
    have el := bE.lt
    have n0 : ¬ w.heap.size = w1.heap.size := by omega
    have n1 : ¬ w1.heap.size = w.heap.size := by omega
    have n2 : ¬ w.heap.size + 1 = w1.heap.size := by omega
    have n3 : ¬ w1.heap.size = w.heap.size + 1 := by omega
    have n4 : ¬ w.heap.size = w1.heap.size + 1 := by omega
    have n5 : ¬ w1.heap.size + 1 = w.heap.size := by omega
    have dw : ∀ {B o : Nat} {v : Value} {V : World}, V.cell? ⟨B, o, none⟩ = some v → V.drew.cell? ⟨B, o, none⟩ = some v := fun h => h
    have x0 := dw p0
    have x1 := dw p1
    have x2 := dw d0
    have x3 := dw d1
    have x4 := dw d2
    go_wp2_with fail
    go_region_held3 (fun w' => w'.cell? ⟨w1.heap.size, 0, none⟩ = some (.slice a zs.length c) ∧ w'.cell? ⟨w1.heap.size, 1, none⟩ = some (.slice b ys.length d) ∧ w'.cell? ⟨w1.heap.size + 1, 0, none⟩ = some (.int .i64 p) ∧ w'.cell? ⟨w1.heap.size + 1, 1, none⟩ = some (.int .i64 q) ∧ w'.cell? ⟨w1.heap.size + 1, 2, none⟩ = some (.int .i64 t))
      (first
        | (with_reducible exact ⟨x0, x1, x2, x3, x4⟩)
        | go_keep)
      (fail)
    all_goals
      go_wp2
      exact bodyPost_ret (v := .tuple #[.agg #[.slice a zs.length c, .slice b ys.length d], .int .i64 x, .agg #[.int .i64 p, .int .i64 q, .int .i64 t], .int .i64 k]) (by simp [results, Try.results100, go_sem, r0, r1, e0, e1, e2]) rfl
        ⟨a, b, c, d, zs, ys, x, p, q, t, _, rfl, ((HP.out.five (g := w.heap.size) (h := w.heap.size + 1) (by omega) (by omega)).on (Below.refl _ _).drew).less (by omega), ⟨by omega, by omega⟩, grown_bel (five_grown HG.out (Nat.le_refl _) (by omega)) (Below.refl _ _).drew, (five_src HS.out hlt (by omega)).drew⟩

set_option maxRecDepth 100000 in
set_option maxHeartbeats 4000000 in
theorem d7t_any (w : World) (a0 : Option Addr) (cap : Nat) (cs : List Int) (h : Code8 w w.heap.size a0 cs) :
    Calls Try.prog 40 #[.slice a0 cs.length cap] w (R7B w) := by
  have HC := Lib.hid h
  clear h
  go_enter Try.func40, Try.ntmps40
  go_wp2_with fail
  generalize hW : World.alloc _ _ = W
  have bR : Bk W w.heap.size #[.slice none 0 0, .slice none 0 0] 51 := by rw [← hW]; exact (Bk.new' (by simp)).alloc _
  have bE : Bk W (w.heap.size + 1) #[.int .i64 0, .int .i64 0, .int .i64 0] 32 := by rw [← hW]; exact Bk.new' (by simp)
  have hb0 : Below w.heap.size w W := by rw [← hW]; exact (by repeat (first | exact Below.refl _ _ | (refine Below.alloc ?_ (by simp <;> omega) _) | (refine Below.setCell ?_ (by simp <;> omega) _) | (refine Below.drew ?_) | (refine bel_drewN ?_ _)))
  clear hW
  have hlE := bE.lt
  refine (from_any _ _ _ cs ((HC.out.below hb0 (Nat.le_refl _)).more hb0.size)).mono ?_
  rintro e w0 ⟨s, rfl, hs, hsrc, hb⟩
  have bR0 := bR.on hb
  have bE0 := bE.on hb
  clear bR bE
  have bR := bR0
  have bE := bE0
  clear bR0 bE0
  have hb1 := bel_end hb0 hb
  have hsl : W.heap.size ≤ s := hs
  have hsz0 := hb.size
  clear hb hb0
  have S0 := Lib.hid hsrc
  clear hsrc
  go_wp2_with fail
  refine (d7_any _ _ S0.out).mono ?_
  rintro e w1 ⟨a, b, c, d, zs, ys, x, p, q, t, l, rfl, hp, hnb, hg, -⟩
  have hb0 := hb1
  have hb : Below w.heap.size w w1 := hb1.trans (below_of_grown hg (by omega) hb1.size)
  clear hb0
  have hlE2 := bE.lt
  have hlR2 := bR.lt
  replace bR := bR.kept hg (by simp; omega)
  replace bE := bE.kept hg (by simp; omega)
  have HB := Lib.hid hb
  clear hg hb
  have HP := Lib.hid (hp.less (m' := w.heap.size + 1) (by omega))
  clear hb1 hp
  have r0 := bR.cell 0 rfl
  have r1 := bR.cell 1 rfl
  have rf0 := bR.frozen 0
  have rf1 := bR.frozen 1
  have rl := bR.lt
  have e0 := bE.cell 0 rfl
  have e1 := bE.cell 1 rfl
  have e2 := bE.cell 2 rfl
  have ef0 := bE.frozen 0
  have ef1 := bE.frozen 1
  have ef2 := bE.frozen 2
  have el := bE.lt
  go_wp2
  exact bodyPost_ret (v := .tuple #[.agg #[.slice a zs.length c, .slice b ys.length d], .int .i64 x, .agg #[.int .i64 p, .int .i64 q, .int .i64 t], .int .i64 l]) (by simp [results, Try.results40, go_sem, r0, r1, e0, e1, e2]) rfl
    ⟨a, b, c, d, zs, ys, x, p, q, t, l, rfl, (HP.out.five (g := w.heap.size) (h := w.heap.size + 1) (by omega) (by omega)).less (by omega), hnb, five_set HB.out (Nat.le_refl _) (by omega)⟩

set_option maxRecDepth 100000 in
set_option maxHeartbeats 4000000 in
theorem d7d_any (w : World) (a0 : Option Addr) (cap : Nat) (cs : List Int) (h : Code8 w w.heap.size a0 cs) :
    Calls Try.prog 69 #[.slice a0 cs.length cap] w (R7B w) := by
  have HC := Lib.hid h
  clear h
  go_enter Try.func69, Try.ntmps69
  go_wp2_with fail
  generalize hW : World.alloc _ _ = W
  have bR : Bk W w.heap.size #[.slice none 0 0, .slice none 0 0] 51 := by rw [← hW]; exact (Bk.new' (by simp)).alloc _
  have bE : Bk W (w.heap.size + 1) #[.int .i64 0, .int .i64 0, .int .i64 0] 32 := by rw [← hW]; exact Bk.new' (by simp)
  have hb0 : Below w.heap.size w W := by rw [← hW]; exact (by repeat (first | exact Below.refl _ _ | (refine Below.alloc ?_ (by simp <;> omega) _) | (refine Below.setCell ?_ (by simp <;> omega) _) | (refine Below.drew ?_) | (refine bel_drewN ?_ _)))
  clear hW
  have hlE := bE.lt
  refine (from_any _ _ _ cs ((HC.out.below hb0 (Nat.le_refl _)).more hb0.size)).mono ?_
  rintro e w0 ⟨s, rfl, hs, hsrc, hb⟩
  have bR0 := bR.on hb
  have bE0 := bE.on hb
  clear bR bE
  have bR := bR0
  have bE := bE0
  clear bR0 bE0
  have hb1 := bel_end hb0 hb
  have hsl : W.heap.size ≤ s := hs
  have hsz0 := hb.size
  clear hb hb0
  have S0 := Lib.hid hsrc
  clear hsrc
  go_wp2_with fail
  refine (d7_any _ _ S0.out).mono ?_
  rintro e w1 ⟨a, b, c, d, zs, ys, x, p, q, t, l, rfl, hp, hnb, hg, -⟩
  have hb0 := hb1
  have hb : Below w.heap.size w w1 := hb1.trans (below_of_grown hg (by omega) hb1.size)
  clear hb0
  have hlE2 := bE.lt
  have hlR2 := bR.lt
  replace bR := bR.kept hg (by simp; omega)
  replace bE := bE.kept hg (by simp; omega)
  have HB := Lib.hid hb
  clear hg hb
  have HP := Lib.hid (hp.less (m' := w.heap.size + 1) (by omega))
  clear hb1 hp
  have r0 := bR.cell 0 rfl
  have r1 := bR.cell 1 rfl
  have rf0 := bR.frozen 0
  have rf1 := bR.frozen 1
  have rl := bR.lt
  have e0 := bE.cell 0 rfl
  have e1 := bE.cell 1 rfl
  have e2 := bE.cell 2 rfl
  have ef0 := bE.frozen 0
  have ef1 := bE.frozen 1
  have ef2 := bE.frozen 2
  have el := bE.lt
  go_wp2
  exact bodyPost_ret (v := .tuple #[.agg #[.slice a zs.length c, .slice b ys.length d], .int .i64 x, .agg #[.int .i64 p, .int .i64 q, .int .i64 t], .int .i64 l]) (by simp [results, Try.results69, go_sem, r0, r1, e0, e1, e2]) rfl
    ⟨a, b, c, d, zs, ys, x, p, q, t, l, rfl, (HP.out.five (g := w.heap.size) (h := w.heap.size + 1) (by omega) (by omega)).less (by omega), hnb, five_set HB.out (Nat.le_refl _) (by omega)⟩
end Go.Proofs.Ytaaklnabomhleaa
