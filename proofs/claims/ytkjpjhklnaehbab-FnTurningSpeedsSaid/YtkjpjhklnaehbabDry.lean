/- The model's draws of directions. The model's draws of arguments of functions of directions, out of a code. The model's draws of a ray, alone and with a knot. -/
import Derived.Test.YtkjpjhklnaehbabDrp
import Derived.Test.YtkjpjhklnaehbabDrm
import Derived.Test.YtkjpjhklnaehbabDrw
import Derived.Deep.RegionWith
import Derived.Deep.RegionHeld3
import Derived.Deep.DrawnRows
namespace Go.Proofs.Ytkjpjhklnaehbab
open Go.ChangeShapes Go.WideShapes Go.ChangeAt Go.RowKit Go.Shelf Num
set_option linter.unusedVariables false
/-- a number of three is picked -/
theorem pick3c (w : World) (s b cap : Nat) (z0 z1 z2 : Int) (h : Src w s) (hb : ¬ b = s) (hk : w.heap[b]? = some (.cells #[.int .i64 z0, .int .i64 z1, .int .i64 z2] 2 (0, 0))) :
    Calls Try.prog 75 #[.pointer (some ⟨s, 0, none⟩), .slice (some ⟨b, 0, none⟩) 3 cap] w fun e w' => ∃ x : Int, e = .returned (.int .i64 x) ∧ (x = z0 ∨ x = z1 ∨ x = z2) ∧ Src w' s ∧ w.grownBy w' (some s) :=
  (pick_n w s b cap 3 [z0, z1, z2] h rfl hb (by decide) (by decide) (fun j hj => (cell_of_row w b j _ _ _ hk).trans (match j, hj with
    | 0, _ => rfl
    | 1, _ => rfl
    | 2, _ => rfl)) (by obtain ⟨hlt, _⟩ := Array.getElem?_eq_some_iff.1 hk; exact hlt)).mono fun e w' ⟨j, hj, he, hs, hg⟩ => ⟨_, he, by
      match j, hj with
      | 0, _ => exact Or.inl rfl
      | 1, _ => exact Or.inr (Or.inl rfl)
      | 2, _ => exact Or.inr (Or.inr rfl), hs, hg⟩
/-- what a draw of a direction leaves -/
def DirDrawn (w : World) (s : Nat) (e : Ending) (w' : World) : Prop := ∃ x y z : Int, e = .returned (.agg #[.int .i64 x, .int .i64 y, .int .i64 z]) ∧ Src w' s ∧ w.grownBy w' (some s)
theorem three_set {w w' : World} {s g : Nat} {a b c : Value} (h : w.grownBy w' (some s)) (hg : w.heap.size ≤ g) : w.grownBy (((w'.setCell ⟨g, 0, none⟩ a).setCell ⟨g, 1, none⟩ b).setCell ⟨g, 2, none⟩ c) (some s) := grown_set_new (grown_set_new (grown_set_new h hg _) hg _) hg _
theorem src_set3 {w : World} {s g : Nat} {a b c : Value} (h : Src w s) (hg : s < g) : Src (((w.setCell ⟨g, 0, none⟩ a).setCell ⟨g, 1, none⟩ b).setCell ⟨g, 2, none⟩ c) s := ((h.set_far hg _).set_far hg _).set_far hg _

set_option maxRecDepth 100000 in
set_option maxHeartbeats 4000000 in
theorem ddi_any (w : World) (s : Nat) (h : Src w s) :
    Calls Try.prog 57 #[.pointer (some ⟨s, 0, none⟩)] w (DirDrawn w s) := by
  have hlt := h.lt
  have HS := Lib.hid h
  clear h
  go_enter Try.func57, Try.ntmps57
  go_wp2_with fail
  generalize hW : World.alloc _ _ = W
  have bR : Bk W w.heap.size #[.int .i64 0, .int .i64 0, .int .i64 0] 34 := by rw [← hW]; exact Bk.new' rfl
  have HG : Hid (w.grownBy W (some s)) := Lib.hid (by rw [← hW]; exact grown_alloc (grown_refl _ _) _)
  replace HS : Hid (Src W s) := Lib.hid (by rw [← hW]; exact HS.out.alloc _)
  clear hW
  refine (nxt_any _ _ _ HS.out).mono ?_
  rintro e w1 ⟨q, rfl, hq0, hq1, -, hs, hg⟩
  have hq := hq1 (by omega)
  clear hq1
  replace bR := bR.kept hg (by simp; omega)
  replace HG := Lib.hid (grown_trans HG.out hg)
  replace HS := Lib.hid hs
  have hls := HS.out.lt
  clear hs hg
  go_wp2_with fail
  refine (pick3c _ _ w1.heap.size _ _ _ _ (HS.out.alloc _) (by omega) (heap_alloc_new w1 _)).mono ?_
  rintro e w2 ⟨x, rfl, hx, hs, hg⟩
  have hx20 : x ≤ 21 := by omega
  replace bR := (bR.alloc _).kept hg (by simp; omega)
  replace HG := Lib.hid (grown_trans (grown_alloc HG.out _) hg)
  replace HS := Lib.hid hs
  have hls := HS.out.lt
  clear hs hg
  go_wp2_with fail
  refine (nxt_any _ _ _ HS.out).mono ?_
  rintro e w3 ⟨m, rfl, hm0, hm1, hm2, hs, hg⟩
  have hm : m ≤ 21 := by
    by_cases h1 : 1 < x
    · have := hm1 h1; omega
    · have := hm2 (by omega); omega
  clear hm1 hm2 hx hx20
  replace bR := bR.kept hg (by simp; omega)
  replace HG := Lib.hid (grown_trans HG.out hg)
  replace HS := Lib.hid hs
  have hls := HS.out.lt
  clear hs hg
  go_wp2_with fail
  all_goals
    refine (nxt_any _ _ _ HS.out).mono ?_
    rintro e w4 ⟨t, rfl, ht0, ht1, -, hs, hg⟩
    clear ht1
    replace bR := bR.kept hg (by simp; omega)
    replace HG := Lib.hid (grown_trans HG.out hg)
    replace HS := Lib.hid hs
    have hls := HS.out.lt
    clear hs hg
    go_wp2_with fail
    have key : ∀ (a b : Int) (d : Bool) (wz : World), Calls Try.prog 76 #[.int .i64 a, .int .i64 b, .bool d] wz fun e w' => ∃ x y z c, e = .returned (.tuple #[.agg #[.int .i64 x, .int .i64 y, .int .i64 z], .int .i64 c]) ∧ Below wz.heap.size wz w' :=
      fun a b d wz => (smd_any a b d wz).mono fun e w' h => ⟨_, _, _, _, h.1, h.2⟩
    refine (key _ _ _ _).mono ?_
    rintro e w5 ⟨X, Y, V, c, rfl, hb⟩
    replace bR := bR.on hb
    replace HG := Lib.hid (grown_bel HG.out hb)
    replace HS := Lib.hid (HS.out.bel hb)
    clear hb key
    go_wp2_with fail
    generalize hW : World.alloc _ _ = W6
    have hb : Below w5.heap.size w5 W6 := by rw [← hW]; exact (by repeat (first | exact Below.refl _ _ | (refine Below.alloc ?_ (by simp <;> omega) _) | (refine Below.setCell ?_ (by simp <;> omega) _) | (refine Below.drew ?_) | (refine bel_drewN ?_ _)))
    have bD : Bk W6 w5.heap.size #[.int .i64 X, .int .i64 Y, .int .i64 V] 34 := by rw [← hW]; exact Bk.new' rfl
    have hR5 := bR.lt
    replace bR := bR.on hb
    replace HG := Lib.hid (grown_bel HG.out hb)
    have hs5 := HS.out.lt
    replace HS := Lib.hid (HS.out.bel hb)
    clear hW hb
    refine (nxt_any _ _ _ HS.out).mono ?_
    rintro e w7 ⟨v, rfl, hv0, hv1, -, hs, hg⟩
    have hv := hv1 (by omega)
    clear hv1
    replace bR := bR.kept hg (by simp; omega)
    replace bD := bD.kept hg (by simp; omega)
    replace HG := Lib.hid (grown_trans HG.out hg)
    replace HS := Lib.hid hs
    have hls := HS.out.lt
    clear hs hg
    have r0 := bR.cell 0 rfl
    have rf0 := bR.frozen 0
    have r1 := bR.cell 1 rfl
    have rf1 := bR.frozen 1
    have r2 := bR.cell 2 rfl
    have rf2 := bR.frozen 2
    have rl := bR.lt
    have d0 := bD.cell 0 rfl
    have df0 := bD.frozen 0
    have d1 := bD.cell 1 rfl
    have df1 := bD.frozen 1
    have d2 := bD.cell 2 rfl
    have df2 := bD.frozen 2
    have dl := bD.lt
    have n1 : ¬ w.heap.size = w5.heap.size := by omega
    have n2 : ¬ w5.heap.size = w.heap.size := by omega
    by_cases v0 : v = 0
    · subst v0
      go_wp2
      exact bodyPost_ret (v := .agg #[.int .i64 (wrap64 (2 * X)), .int .i64 (wrap64 (2 * Y)), .int .i64 (wrap64 (2 * V))]) (by simp [results, Try.results57, go_sem, *]) rfl ⟨_, _, _, rfl, src_set3 HS.out hlt, three_set HG.out (Nat.le_refl _)⟩
    · have b0 : (v == 0) = false := by simpa using v0
      by_cases v1 : v = 1
      · subst v1
        go_wp2
        exact bodyPost_ret (v := .agg #[.int .i64 X, .int .i64 (wrap64 (Y + 1)), .int .i64 V]) (by simp [results, Try.results57, go_sem, *]) rfl ⟨_, _, _, rfl, src_set3 (HS.out.set_far (p := ⟨w5.heap.size, 1, none⟩) (by simp; omega) _) hlt, three_set (grown_set_new (p := ⟨w5.heap.size, 1, none⟩) HG.out (Nat.le_of_lt hR5) _) (Nat.le_refl _)⟩
      · have b1 : (v == 1) = false := by simpa using v1
        by_cases v2 : v = 2
        · subst v2
          go_wp2
          exact bodyPost_ret (v := .agg #[.int .i64 1, .int .i64 0, .int .i64 1]) (by simp [results, Try.results57, go_sem, *]) rfl ⟨_, _, _, rfl, src_set3 HS.out hlt, three_set HG.out (Nat.le_refl _)⟩
        · have b2 : (v == 2) = false := by simpa using v2
          go_wp2
          exact bodyPost_ret (v := .agg #[.int .i64 X, .int .i64 Y, .int .i64 V]) (by simp [results, Try.results57, go_sem, *]) rfl ⟨_, _, _, rfl, src_set3 HS.out hlt, three_set HG.out (Nat.le_refl _)⟩
end Go.Proofs.Ytkjpjhklnaehbab
namespace Go.Proofs.Ytkjpjhklnaehbab
open Go.ChangeShapes Go.WideShapes Go.ChangeAt Go.RowKit Go.Shelf Num
set_option linter.unusedVariables false
def MkDrawn (w : World) (e : Ending) (w' : World) : Prop := ∃ (x n : Int) (b : Bool), e = .returned (.tuple #[.int .i64 x, .int .i64 n, .bool b]) ∧ (-5 ≤ x ∧ x ≤ 100) ∧ Below w.heap.size w w'
def D1Drawn (w : World) (e : Ending) (w' : World) : Prop := ∃ x y z : Int, e = .returned (.agg #[.int .i64 x, .int .i64 y, .int .i64 z]) ∧ Below w.heap.size w w'
def D2Drawn (w : World) (e : Ending) (w' : World) : Prop := ∃ x y z u v t : Int, e = .returned (.tuple #[.agg #[.int .i64 x, .int .i64 y, .int .i64 z], .agg #[.int .i64 u, .int .i64 v, .int .i64 t]]) ∧ Below w.heap.size w w'

end Go.Proofs.Ytkjpjhklnaehbab
namespace Go.Proofs.Ytkjpjhklnaehbab
open Go.ChangeShapes Go.WideShapes Go.ChangeAt Go.RowKit Go.Shelf Num
set_option linter.unusedVariables false
attribute [local go_sem ↓] Go.wp_at_zero Go.wp_at_succ
theorem PrA.less {w : World} {m m' c d : Nat} {a b : Option Addr} {zs ys : List Int} (h : PrA w m a b c d zs ys) (hm : m' ≤ m) : PrA w m' a b c d zs ys :=
  ⟨h.at_, fun x e => Nat.lt_of_le_of_lt hm (h.lo1 x e), fun x e => Nat.lt_of_le_of_lt hm (h.lo2 x e), h.n1, h.n2, h.c1, h.c2⟩
theorem PrA.n {w : World} {m c d : Nat} {a b : Option Addr} {zs ys : List Int} (h : PrA w m a b c d zs ys) : PrN w a b zs ys := ⟨h.at_, h.n1, h.n2⟩
/-- what a draw of a ray leaves -/
def RyDrawn (w : World) (s : Nat) (e : Ending) (w' : World) : Prop :=
  ∃ (a b : Option Addr) (c d : Nat) (zs ys : List Int) (x p q r : Int), e = .returned (.tuple #[.agg #[.slice a zs.length c, .slice b ys.length d], .int .i64 x, .agg #[.int .i64 p, .int .i64 q, .int .i64 r]]) ∧ PrA w' w.heap.size a b c d zs ys ∧ w.grownBy w' (some s) ∧ Src w' s
/-- .. out of a code -/
def Ry1 (w : World) (e : Ending) (w' : World) : Prop :=
  ∃ (a b : Option Addr) (c d : Nat) (zs ys : List Int) (x p q r : Int), e = .returned (.tuple #[.agg #[.slice a zs.length c, .slice b ys.length d], .int .i64 x, .agg #[.int .i64 p, .int .i64 q, .int .i64 r]]) ∧ PrN w' a b zs ys ∧ Below w.heap.size w w'
def RyK1 (w : World) (e : Ending) (w' : World) : Prop :=
  ∃ (a b : Option Addr) (c d : Nat) (zs ys : List Int) (x p q r k : Int), e = .returned (.tuple #[.agg #[.slice a zs.length c, .slice b ys.length d], .int .i64 x, .agg #[.int .i64 p, .int .i64 q, .int .i64 r], .int .i64 k]) ∧ PrA w' (w.heap.size + 1) a b c d zs ys ∧ Below w.heap.size w w'
theorem five_set {w : World} {B g h : Nat} {W : World} {u0 u1 v0 v1 v2 : Value} (hb : Below B w W) (hg : B ≤ g) (hh : B ≤ h) : Below B w (((((W.setCell ⟨g, 0, none⟩ u0).setCell ⟨g, 1, none⟩ u1).setCell ⟨h, 0, none⟩ v0).setCell ⟨h, 1, none⟩ v1).setCell ⟨h, 2, none⟩ v2) :=
  ((((hb.setCell (p := ⟨g, 0, none⟩) hg _).setCell (p := ⟨g, 1, none⟩) hg _).setCell (p := ⟨h, 0, none⟩) hh _).setCell (p := ⟨h, 1, none⟩) hh _).setCell (p := ⟨h, 2, none⟩) hh _
theorem five_grown {w : World} {s g h : Nat} {W : World} {u0 u1 v0 v1 v2 : Value} (hb : w.grownBy W (some s)) (hg : w.heap.size ≤ g) (hh : w.heap.size ≤ h) : w.grownBy (((((W.setCell ⟨g, 0, none⟩ u0).setCell ⟨g, 1, none⟩ u1).setCell ⟨h, 0, none⟩ v0).setCell ⟨h, 1, none⟩ v1).setCell ⟨h, 2, none⟩ v2) (some s) :=
  three_set (two_set hb hg) hh
theorem five_src {s g h : Nat} {W : World} {u0 u1 v0 v1 v2 : Value} (hb : Src W s) (hg : s < g) (hh : s < h) : Src (((((W.setCell ⟨g, 0, none⟩ u0).setCell ⟨g, 1, none⟩ u1).setCell ⟨h, 0, none⟩ v0).setCell ⟨h, 1, none⟩ v1).setCell ⟨h, 2, none⟩ v2) s :=
  src_set3 ((hb.set_far (by simpa using hg) _).set_far (by simpa using hg) _) hh
theorem PrA.five {W : World} {m c d g h : Nat} {a b : Option Addr} {zs ys : List Int} {u0 u1 v0 v1 v2 : Value} (hp : PrA W m a b c d zs ys) (hg : g ≤ m) (hh : h ≤ m) : PrA (((((W.setCell ⟨g, 0, none⟩ u0).setCell ⟨g, 1, none⟩ u1).setCell ⟨h, 0, none⟩ v0).setCell ⟨h, 1, none⟩ v1).setCell ⟨h, 2, none⟩ v2) m a b c d zs ys :=
  ((((hp.set ⟨g, 0, none⟩ hg _).set ⟨g, 1, none⟩ hg _).set ⟨h, 0, none⟩ hh _).set ⟨h, 1, none⟩ hh _).set ⟨h, 2, none⟩ hh _

set_option maxRecDepth 100000 in
set_option maxHeartbeats 4000000 in
theorem dry_any (w : World) (s : Nat) (h : Src w s) :
    Calls Try.prog 31 #[.pointer (some ⟨s, 0, none⟩)] w (RyDrawn w s) := by
  have hlt := h.lt
  have HS := Lib.hid h
  clear h
  go_enter Try.func31, Try.ntmps31
  go_wp2_with fail
  generalize hW : World.alloc _ _ = W
  have bR : Bk W w.heap.size #[.slice none 0 0, .slice none 0 0] 32 := by rw [← hW]; exact (Bk.new' (by simp)).alloc _
  have bE : Bk W (w.heap.size + 1) #[.int .i64 0, .int .i64 0, .int .i64 0] 34 := by rw [← hW]; exact Bk.new' (by simp)
  have HG : Hid (w.grownBy W (some s)) := Lib.hid (by rw [← hW]; exact grown_alloc (grown_alloc (grown_refl _ _) _) _)
  replace HS : Hid (Src W s) := Lib.hid (by rw [← hW]; exact (HS.out.alloc _).alloc _)
  clear hW
  have hlE := bE.lt
  refine (dkn_any _ _ HS.out).mono ?_
  rintro e w1 ⟨a, b, c, d, zs, ys, x, rfl, hp, hg, hs⟩
  have hlW := HS.out.lt
  replace bR := bR.kept hg (by simp; omega)
  replace bE := bE.kept hg (by simp; omega)
  have HP := Lib.hid hp
  replace HG := Lib.hid (grown_trans HG.out hg)
  replace HS := Lib.hid hs
  have hl1 := HS.out.lt
  have hl2 := bE.lt
  have hsz := hg.size
  clear hp hg hs
  go_wp2_with fail
  generalize hW : World.alloc _ _ = w2
  have hb : Below w1.heap.size w1 w2 := by rw [← hW]; exact (by repeat (first | exact Below.refl _ _ | (refine Below.alloc ?_ (by simp <;> omega) _) | (refine Below.setCell ?_ (by simp <;> omega) _) | (refine Below.drew ?_) | (refine bel_drewN ?_ _)))
  have bP : Bk w2 w1.heap.size #[.slice a zs.length c, .slice b ys.length d] 32 := by rw [← hW]; exact Bk.new' rfl
  replace bR := bR.on hb
  replace bE := bE.on hb
  replace HP := Lib.hid (HP.out.on hb)
  replace HG := Lib.hid (grown_bel HG.out hb)
  replace HS := Lib.hid (HS.out.bel hb)
  clear hW hb
  have p0 := bP.cell 0 rfl
  have p1 := bP.cell 1 rfl
  have pf0 := bP.frozen 0
  have pf1 := bP.frozen 1
  have pl := bP.lt
  have r0 := bR.cell 0 rfl
  have r1 := bR.cell 1 rfl
  have rf0 := bR.frozen 0
  have rf1 := bR.frozen 1
  have rl := bR.lt
  have e0 := bE.cell 0 rfl
  have e1 := bE.cell 1 rfl
  have e2 := bE.cell 2 rfl
  have ef0 := bE.frozen 0
  have ef1 := bE.frozen 1
  have ef2 := bE.frozen 2
  have el := bE.lt
  have n1 : ¬ w.heap.size = w1.heap.size := by omega
  have n2 : ¬ w1.heap.size = w.heap.size := by omega
  have n3 : ¬ w.heap.size + 1 = w1.heap.size := by omega
  have n4 : ¬ w1.heap.size = w.heap.size + 1 := by omega
  go_wp2_with fail
  go_region_with (go_at_call 57; refine (ddi_any _ _ HS.out.drew).mono ?_; rintro e w5 ⟨p, q, t, rfl, hs2, hg⟩; have bP2 := (bkD bP).kept hg (by simp; omega); have bR2 := (bkD bR).kept hg (by simp; omega); have bE2 := (bkD bE).kept hg (by simp; omega); have p0 := bP2.cell 0 rfl; have p1 := bP2.cell 1 rfl; have r0 := bR2.cell 0 rfl; have r1 := bR2.cell 1 rfl; have rf0 := bR2.frozen 0; have rf1 := bR2.frozen 1; have e0 := bE2.cell 0 rfl; have e1 := bE2.cell 1 rfl; have e2 := bE2.cell 2 rfl; have ef0 := bE2.frozen 0; have ef1 := bE2.frozen 1; have ef2 := bE2.frozen 2)
  all_goals
    have hb5 := (Below.refl w2.heap.size w2).drew
    have HP4 := Lib.hid ((((HP.out.on hb5).grown (by omega) hg)))
    have HG4 := Lib.hid (grown_trans (grown_bel HG.out hb5) hg)
    have HS4 := Lib.hid hs2
    clear hg hs2 hb5
    go_wp2
    exact bodyPost_ret (v := .tuple #[.agg #[.slice a zs.length c, .slice b ys.length d], .int .i64 x, .agg #[.int .i64 p, .int .i64 q, .int .i64 t]]) (by simp [results, Try.results31, go_sem, r0, r1, e0, e1, e2]) rfl
      ⟨a, b, c, d, zs, ys, x, p, q, t, rfl, (HP4.out.five (g := w.heap.size) (h := w.heap.size + 1) (by omega) (by omega)).less (by omega), five_grown HG4.out (Nat.le_refl _) (by omega), five_src HS4.out hlt (by omega)⟩

set_option maxRecDepth 100000 in
set_option maxHeartbeats 4000000 in
theorem dts_any (w : World) (a0 : Option Addr) (cap : Nat) (cs : List Int) (h : Code8 w w.heap.size a0 cs) :
    Calls Try.prog 14 #[.slice a0 cs.length cap] w (Ry1 w) := by
  have HC := Lib.hid h
  clear h
  go_enter Try.func14, Try.ntmps14
  go_wp2_with fail
  generalize hW : World.alloc _ _ = W
  have bR : Bk W w.heap.size #[.slice none 0 0, .slice none 0 0] 32 := by rw [← hW]; exact (Bk.new' (by simp)).alloc _
  have bE : Bk W (w.heap.size + 1) #[.int .i64 0, .int .i64 0, .int .i64 0] 34 := by rw [← hW]; exact Bk.new' (by simp)
  have hb0 : Below w.heap.size w W := by rw [← hW]; exact (by repeat (first | exact Below.refl _ _ | (refine Below.alloc ?_ (by simp <;> omega) _) | (refine Below.setCell ?_ (by simp <;> omega) _) | (refine Below.drew ?_) | (refine bel_drewN ?_ _)))
  clear hW
  have hlE := bE.lt
  refine (from_any _ _ _ cs ((HC.out.below hb0 (Nat.le_refl _)).more hb0.size)).mono ?_
  rintro e w1 ⟨s, rfl, hs, hsrc, hb⟩
  replace bR := bR.on hb
  replace bE := bE.on hb
  have HB := Lib.hid (bel_end hb0 hb)
  have HS := Lib.hid hsrc
  have hl1 := bE.lt
  have hl0 := HS.out.lt
  clear hsrc hb hb0
  go_wp2_with fail
  refine (dry_any _ _ HS.out).mono ?_
  rintro e w2 ⟨a, b, c, d, zs, ys, x, p, q, t, rfl, hp, hg, hs2⟩
  replace bR := bR.kept hg (by simp; omega)
  replace bE := bE.kept hg (by simp; omega)
  have hsz := hg.size
  replace HB := Lib.hid (HB.out.trans (below_of_grown hg (by omega) (by have := HB.out.size; omega)))
  replace HS := Lib.hid hs2
  have HP := Lib.hid hp
  clear hg hs2 hp
  have r0 := bR.cell 0 rfl
  have r1 := bR.cell 1 rfl
  have rf0 := bR.frozen 0
  have rf1 := bR.frozen 1
  have rl := bR.lt
  have e0 := bE.cell 0 rfl
  have e1 := bE.cell 1 rfl
  have e2 := bE.cell 2 rfl
  have ef0 := bE.frozen 0
  have ef1 := bE.frozen 1
  have ef2 := bE.frozen 2
  have el := bE.lt
  go_wp2
  exact bodyPost_ret (v := .tuple #[.agg #[.slice a zs.length c, .slice b ys.length d], .int .i64 x, .agg #[.int .i64 p, .int .i64 q, .int .i64 t]]) (by simp [results, Try.results14, go_sem, r0, r1, e0, e1, e2]) rfl
    ⟨a, b, c, d, zs, ys, x, p, q, t, rfl, (HP.out.five (g := w.heap.size) (h := w.heap.size + 1) (by omega) (by omega)).n, five_set HB.out (Nat.le_refl _) (by omega)⟩

end Go.Proofs.Ytkjpjhklnaehbab
