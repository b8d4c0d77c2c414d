import Derived.Test.YtgecbfbmmbfnmaaGreatCelC
import Derived.Handy
import Derived.Outline
import Derived.LoopTactic
import Derived.Deep.RegionHeld3
import Derived.Deep.DeepCutAuto
import Derived.Deep.RegionWith
namespace Go.Proofs.YtgecbfbmmbfnmaaGreat
/- The routes of a cell. -/
open Go.ChangeShapes Go.WideShapes Go.ChangeAt Go.RowKit Go.Shelf Num
set_option linter.unusedVariables false
set_option linter.unusedSimpArgs false

theorem RowG.down {w w1 W : World} {t : TypeId} {m g c n : Nat} {L : List Value} (h : RowG w1 t m g c n L W) (hb : Below w.heap.size w w1) : RowG w t m g c n L W := ⟨World.ownsRow.mono h.own hb.size, bel_end hb h.bel⟩
theorem heap_far5 {W : World} {B g : Nat} (hne : g ≠ B) (v0 v1 v2 v3 v4 : Value) : (((((W.setCell ⟨B, 0, none⟩ v0).setCell ⟨B, 1, none⟩ v1).setCell ⟨B, 2, none⟩ v2).setCell ⟨B, 3, none⟩ v3).setCell ⟨B, 4, none⟩ v4).heap[g]? = W.heap[g]? :=
  (Below.heap_setCell _ ⟨B, 4, none⟩ v4 g hne).trans (heap_far4 hne _ _ _ _)
theorem tcod_ok {zs ys : List Int} {src c s h n : Int} (e : tcod zs ys src c s h n = 0) : ∃ i N : Nat, src = (i : Int) ∧ n = (N : Int) ∧ N ≤ 100 ∧ RyOk zs ys i c s h ∧ okN zs ys i c h (fst0 i s) N = true := by
  unfold tcod at e
  by_cases hq : fcod zs ys src c s h = 0
  · rw [if_pos hq] at e
    obtain ⟨i, rfl, r⟩ := fcod_0 hq
    cases hin : inB n 0 100
    · rw [hin] at e; simp at e
    · have hn : 0 ≤ n ∧ n ≤ 100 := by unfold inB at hin; simpa using hin
      rw [hin, if_pos rfl] at e
      refine ⟨i, n.toNat, rfl, by omega, by omega, r, ?_⟩
      cases hk : okN zs ys i c h (fst0 i s) n.toNat
      · rw [Int.toNat_natCast, hk] at e; simp at e
      · rfl
  · rw [if_neg hq] at e; exact absurd e hq
/-- what routeOf returns -/
def RtP (w : World) (f : Nat → List Value) (x : RSt) (q : Int) (N : Nat) (e : Ending) (w' : World) : Prop :=
  (q = 0 ∧ ∃ g cp, e = .returned (.tuple #[.agg #[.slice (some ⟨g, 0, none⟩) N cp, .int .i64 (x.k : Int), .bool x.dn, .int .i64 x.lo, .int .i64 x.hi], .int .i64 0]) ∧ RowG w 81 5 g cp N (rowL f N) w') ∨ (¬ q = 0 ∧ e = .returned (.tuple #[.agg #[.slice none 0 0, .int .i64 0, .bool false, .int .i64 0, .int .i64 0], .int .i64 q]) ∧ Below w.heap.size w w')

set_option maxRecDepth 100000 in
set_option maxHeartbeats 4000000 in
theorem rto_any (w : World) (a b : Option Addr) (ca cb : Nat) (zs ys : List Int) (src c s h n : Int) (hp : Prof w w.heap.size a b zs ys) :
    Calls Tryz.prog 39 #[.agg #[.slice a zs.length ca, .slice b ys.length cb, .int .i64 src, .int .i64 n], .agg #[.int .i64 c, .int .i64 s, .int .i64 h]] w (RtP w (stpC a b ca cb zs ys src.toNat c s h) (runS zs ys src.toNat c h (fst0 src.toNat s) n.toNat) (tcod zs ys src c s h n) n.toNat) := by
  have HP := Lib.hid hp
  have KF : Hid (∀ W : World, Below w.heap.size w W → Calls Tryz.prog 26 #[.agg #[.slice a zs.length ca, .slice b ys.length cb, .int .i64 src, .int .i64 c, .int .i64 s, .int .i64 h], .int .i64 n] W (FssP W (stpC a b ca cb zs ys src.toNat c s h) (tcod zs ys src c s h n) n.toNat)) := Lib.hid (fun W hb => fss_any W a b ca cb zs ys src c s h n (HP.out.on hb))
  have K0 : Hid (∀ W : World, Calls Tryz.prog 27 #[.agg #[.slice a zs.length ca, .slice b ys.length cb, .int .i64 src, .int .i64 c, .int .i64 s, .int .i64 h]] W fun e w' => e = .returned (.agg #[.int .i64 src, .bool (decide (0 < s)), .int .i64 0, .int .i64 0]) ∧ Below W.heap.size W w') := Lib.hid (fun W => fs_any W a b ca cb zs ys src c s h)
  by_cases hq : tcod zs ys src c s h n = 0
  case neg =>
    have HQ := Lib.hid hq
    obtain ⟨q, hqq⟩ : ∃ u, tcod zs ys src c s h n = u := ⟨_, rfl⟩
    rw [hqq] at KF HQ ⊢
    have hq0 : (q != 0) = true := by have := HQ.out; simpa using this
    clear hqq hq hp
    go_enter Tryz.func39, Tryz.ntmps39
    go_upto_region 1 with fail
    generalize hW : World.alloc _ _ = W
    have bX : Bk W (w.heap.size) #[.slice a zs.length ca, .slice b ys.length cb, .int .i64 src, .int .i64 n] 49 := by rw [← hW]; repeat (first | (refine Bk.new' ?_; (simp; done)) | refine Bk.alloc ?_ _)
    have bD : Bk W (w.heap.size + 1) #[.int .i64 c, .int .i64 s, .int .i64 h] 28 := by rw [← hW]; repeat (first | (refine Bk.new' ?_; (simp; done)) | refine Bk.alloc ?_ _)
    have bR : Bk W (w.heap.size + 1 + 1) #[.slice none 0 0, .int .i64 0, .bool false, .int .i64 0, .int .i64 0] 55 := by rw [← hW]; repeat (first | (refine Bk.new' ?_; (simp; done)) | refine Bk.alloc ?_ _)
    have HB : Hid (Below w.heap.size w W) := Lib.hid (by rw [← hW]; exact (by repeat (first | exact Below.refl _ _ | (refine Below.alloc ?_ (by simp <;> omega) _) | (refine Below.setCell ?_ (by simp <;> omega) _) | (refine Below.drew ?_) | (refine bel_drewN ?_ _))))
    clear hW
    have bX_0 := bX.cell 0 rfl
    have bX_1 := bX.cell 1 rfl
    have bX_2 := bX.cell 2 rfl
    have bX_3 := bX.cell 3 rfl
    have bX_l := bX.lt
    have bD_0 := bD.cell 0 rfl
    have bD_1 := bD.cell 1 rfl
    have bD_2 := bD.cell 2 rfl
    have bD_l := bD.lt
    go_upto_region 2 with fail
    obtain ⟨W2, hW⟩ : ∃ X, X = W.alloc (.cells #[.slice a zs.length ca, .slice b ys.length cb, .int .i64 src, .int .i64 c, .int .i64 s, .int .i64 h] 74) := ⟨_, rfl⟩
    rw [← hW]
    have bY : Bk W2 W.heap.size #[.slice a zs.length ca, .slice b ys.length cb, .int .i64 src, .int .i64 c, .int .i64 s, .int .i64 h] 74 := by rw [hW]; exact Bk.new' rfl
    have hb : Below W.heap.size W W2 := by rw [hW]; exact (Below.refl _ _).alloc (Nat.le_refl _) _
    clear bX_0 bX_1 bX_2 bX_3 bX_l
    clear bD_0 bD_1 bD_2 bD_l
    have lR := bR.lt
    replace bX := bX.on hb
    replace bR := bR.on hb
    replace HB := Lib.hid (bel_end HB.out hb)
    clear hW hb bD
    have bX_0 := bX.cell 0 rfl
    have bX_1 := bX.cell 1 rfl
    have bX_2 := bX.cell 2 rfl
    have bX_3 := bX.cell 3 rfl
    have bX_l := bX.lt
    have bY_0 := bY.cell 0 rfl
    have bY_1 := bY.cell 1 rfl
    have bY_2 := bY.cell 2 rfl
    have bY_3 := bY.cell 3 rfl
    have bY_4 := bY.cell 4 rfl
    have bY_5 := bY.cell 5 rfl
    have bY_l := bY.lt
    go_wp2_with fail
    (with_reducible refine Calls.mono (KF.out _ HB.out) ?_)
    clear bX_0 bX_1 bX_2 bX_3 bX_l
    clear bY_0 bY_1 bY_2 bY_3 bY_4 bY_5 bY_l
    clear bX
    rintro e w3 hF
    obtain ⟨rfl, hb⟩ : e = .returned (.tuple #[.slice none 0 0, .int .i64 q]) ∧ Below W2.heap.size W2 w3 := by
      rcases hF with ⟨h0, -⟩ | ⟨-, h1, h2⟩
      · exact absurd h0 HQ.out
      · exact ⟨h1, h2⟩
    replace bR := bR.on hb
    replace HB := Lib.hid (bel_end HB.out hb)
    clear hF hb bY
    have bR_0 := bR.cell 0 rfl
    have bR_1 := bR.cell 1 rfl
    have bR_2 := bR.cell 2 rfl
    have bR_3 := bR.cell 3 rfl
    have bR_4 := bR.cell 4 rfl
    have bR_f0 := bR.frozen 0
    have bR_f1 := bR.frozen 1
    have bR_f2 := bR.frozen 2
    have bR_f3 := bR.frozen 3
    have bR_f4 := bR.frozen 4
    have bR_l := bR.lt
    go_wp2
    exact bodyPost_ret (v := .tuple #[.agg #[.slice none 0 0, .int .i64 0, .bool false, .int .i64 0, .int .i64 0], .int .i64 q]) (by simp [results, Tryz.results39, go_sem, bR_0, bR_1, bR_2, bR_3, bR_4]) rfl (Or.inr ⟨HQ.out, rfl, (by repeat (first | exact HB.out | (refine Below.setCell ?_ (by simp <;> omega) _) | (refine Below.alloc ?_ (by simp <;> omega) _) | (refine Below.drew ?_)))⟩)
  case pos =>
    obtain ⟨i, N, rfl, rfl, hN, r, hok⟩   := tcod_ok hq
    rw [hq] at KF ⊢
    rw [Int.toNat_natCast, Int.toNat_natCast] at KF ⊢
    obtain ⟨⟨k, dn, lo, hi⟩, hx⟩ : ∃ u, runS zs ys i c h (fst0 i s) N = u := ⟨_, rfl⟩
    have HX := Lib.hid hx
    rw [hx]
    have HN := Lib.hid hN
    have HX0 : Hid (N = 0 → (k : Int) = (i : Int) ∧ dn = decide (0 < s) ∧ lo = 0 ∧ hi = 0) := Lib.hid (by rintro rfl; have g : fst0 i s = ⟨k, dn, lo, hi⟩ := hx; unfold fst0 at g; injection g with g1 g2 g3 g4; subst g1 g2 g3 g4; exact ⟨rfl, rfl, rfl, rfl⟩)
    have HE : Hid (∀ M, N = M + 1 → ∃ v, stpC a b ca cb zs ys i c s h M = [v, .int .i64 (k : Int), .bool dn, .int .i64 lo, .int .i64 hi]) := Lib.hid (by rintro M rfl; exact ⟨_, by unfold stpC; rw [hx]⟩)
    obtain ⟨dd, hdd⟩ : ∃ u, decide (0 < s) = u := ⟨_, rfl⟩
    rw [hdd] at K0 HX0
    clear hq hp hok hx hdd r hN
    go_enter Tryz.func39, Tryz.ntmps39
    go_upto_region 1 with fail
    generalize hW : World.alloc _ _ = W
    have bX : Bk W (w.heap.size) #[.slice a zs.length ca, .slice b ys.length cb, .int .i64 (i : Int), .int .i64 (N : Int)] 49 := by rw [← hW]; repeat (first | (refine Bk.new' ?_; (simp; done)) | refine Bk.alloc ?_ _)
    have bD : Bk W (w.heap.size + 1) #[.int .i64 c, .int .i64 s, .int .i64 h] 28 := by rw [← hW]; repeat (first | (refine Bk.new' ?_; (simp; done)) | refine Bk.alloc ?_ _)
    have bR : Bk W (w.heap.size + 1 + 1) #[.slice none 0 0, .int .i64 0, .bool false, .int .i64 0, .int .i64 0] 55 := by rw [← hW]; repeat (first | (refine Bk.new' ?_; (simp; done)) | refine Bk.alloc ?_ _)
    have HB : Hid (Below w.heap.size w W) := Lib.hid (by rw [← hW]; exact (by repeat (first | exact Below.refl _ _ | (refine Below.alloc ?_ (by simp <;> omega) _) | (refine Below.setCell ?_ (by simp <;> omega) _) | (refine Below.drew ?_) | (refine bel_drewN ?_ _))))
    clear hW
    have bX_0 := bX.cell 0 rfl
    have bX_1 := bX.cell 1 rfl
    have bX_2 := bX.cell 2 rfl
    have bX_3 := bX.cell 3 rfl
    have bX_l := bX.lt
    have bD_0 := bD.cell 0 rfl
    have bD_1 := bD.cell 1 rfl
    have bD_2 := bD.cell 2 rfl
    have bD_l := bD.lt
    go_upto_region 2 with fail
    obtain ⟨W2, hW⟩ : ∃ X, X = W.alloc (.cells #[.slice a zs.length ca, .slice b ys.length cb, .int .i64 (i : Int), .int .i64 c, .int .i64 s, .int .i64 h] 74) := ⟨_, rfl⟩
    rw [← hW]
    have bY : Bk W2 W.heap.size #[.slice a zs.length ca, .slice b ys.length cb, .int .i64 (i : Int), .int .i64 c, .int .i64 s, .int .i64 h] 74 := by rw [hW]; exact Bk.new' rfl
    have hb : Below W.heap.size W W2 := by rw [hW]; exact (Below.refl _ _).alloc (Nat.le_refl _) _
    clear bX_0 bX_1 bX_2 bX_3 bX_l
    clear bD_0 bD_1 bD_2 bD_l
    have lR := bR.lt
    replace bX := bX.on hb
    replace bR := bR.on hb
    replace HB := Lib.hid (bel_end HB.out hb)
    clear hW hb bD
    have bX_0 := bX.cell 0 rfl
    have bX_1 := bX.cell 1 rfl
    have bX_2 := bX.cell 2 rfl
    have bX_3 := bX.cell 3 rfl
    have bX_l := bX.lt
    have bY_0 := bY.cell 0 rfl
    have bY_1 := bY.cell 1 rfl
    have bY_2 := bY.cell 2 rfl
    have bY_3 := bY.cell 3 rfl
    have bY_4 := bY.cell 4 rfl
    have bY_5 := bY.cell 5 rfl
    have bY_l := bY.lt
    go_wp2_with fail
    (with_reducible refine Calls.mono (KF.out _ HB.out) ?_)
    clear bX_0 bX_1 bX_2 bX_3 bX_l
    clear bY_0 bY_1 bY_2 bY_3 bY_4 bY_5 bY_l
    clear bX
    rintro e w3 hF
    obtain ⟨gs, cs, rfl, hst⟩ : ∃ gs cs, e = .returned (.tuple #[.slice (some ⟨gs, 0, none⟩) N cs, .int .i64 0]) ∧ RowG W2 81 5 gs cs N (rowL (stpC a b ca cb zs ys i c s h) N) w3 := by
      rcases hF with ⟨-, h1⟩ | ⟨h0, -⟩
      · exact h1
      · exact absurd rfl h0
    have hb := hst.bel
    have HS := Lib.hid hst
    have HW2 := HB
    have lR2 := bR.lt
    skip
    replace bR := bR.on hb
    replace bY := bY.on hb
    have leW := HB.out.size
    have lgs := hst.lo
    replace HB := Lib.hid (bel_end HB.out hb)
    clear hF hst hb
    have bY_0 := bY.cell 0 rfl
    have bY_1 := bY.cell 1 rfl
    have bY_2 := bY.cell 2 rfl
    have bY_3 := bY.cell 3 rfl
    have bY_4 := bY.cell 4 rfl
    have bY_5 := bY.cell 5 rfl
    have bY_l := bY.lt
    go_wp2_with fail
    (with_reducible refine Calls.mono (K0.out _) ?_)
    rintro e w4 ⟨rfl, hb⟩
    replace bR := bR.on hb
    replace HS := Lib.hid (HS.out.on hb)
    replace HB := Lib.hid (bel_end HB.out hb)
    clear hb
    clear bY_0 bY_1 bY_2 bY_3 bY_4 bY_5 bY_l
    clear bY
    go_upto_region 6 with fail
    obtain ⟨W5, hW⟩ : ∃ X, X = w4.alloc (.cells #[.int .i64 (i : Int), .bool dd, .int .i64 0, .int .i64 0] 38) := ⟨_, rfl⟩
    rw [← hW]
    obtain ⟨g9, hg⟩ : ∃ g, g = w4.heap.size := ⟨_, rfl⟩
    have bE : Bk W5 g9 #[.int .i64 (i : Int), .bool dd, .int .i64 0, .int .i64 0] 38 := by rw [hW]; exact Bk.new' hg
    have hb : Below w4.heap.size w4 W5 := by rw [hW]; exact (Below.refl _ _).alloc (Nat.le_refl _) _
    try rw [← hg]
    have lR4 := bR.lt
    have lS4 := HS.out.up
    have le9 : w.heap.size ≤ g9 := by have := HB.out.size; omega
    have ne9 : ¬ g9 = gs := by omega
    have neR9 : ¬ w.heap.size + 1 + 1 = g9 := by omega
    have ne9R : ¬ g9 = w.heap.size + 1 + 1 := by omega
    have ngsR : ¬ gs = w.heap.size + 1 + 1 := by omega
    replace bR := bR.on hb
    replace HS := Lib.hid (HS.out.on hb)
    replace HB := Lib.hid (bel_end HB.out hb)
    clear hW hb hg lR4 lS4
    by_cases h0 : N = 0
    case pos =>
      obtain ⟨x1, rfl, rfl, rfl⟩ := HX0.out h0
      have n0 : ¬ (0 : Int) < (N : Int) := by omega
      have HX1 := Lib.hid x1
      clear h0 HX0 HX HE x1
      have bE_0 := bE.cell 0 rfl
      have bE_1 := bE.cell 1 rfl
      have bE_2 := bE.cell 2 rfl
      have bE_3 := bE.cell 3 rfl
      have bE_l := bE.lt
      have bR_0 := bR.cell 0 rfl
      have bR_1 := bR.cell 1 rfl
      have bR_2 := bR.cell 2 rfl
      have bR_3 := bR.cell 3 rfl
      have bR_4 := bR.cell 4 rfl
      have bR_f0 := bR.frozen 0
      have bR_f1 := bR.frozen 1
      have bR_f2 := bR.frozen 2
      have bR_f3 := bR.frozen 3
      have bR_f4 := bR.frozen 4
      have bR_l := bR.lt
      have HBW := HB
      go_wp2
      exact bodyPost_ret (v := .tuple #[.agg #[.slice (some ⟨gs, 0, none⟩) N cs, .int .i64 (i : Int), .bool dn, .int .i64 0, .int .i64 0], .int .i64 0]) (by simp [results, Tryz.results39, go_sem, bR_0, bR_1, bR_2, bR_3, bR_4]) rfl (Or.inl ⟨rfl, gs, cs, by dsimp only; rw [HX1.out], RowG.at_ (HS.out.down HW2.out) (heap_far5 (by omega) _ _ _ _ _) (by repeat (first | exact HB.out | (refine Below.setCell ?_ (by simp <;> omega) _) | (refine Below.alloc ?_ (by simp <;> omega) _) | (refine Below.drew ?_)))⟩)
    case neg =>
      obtain ⟨M, rfl⟩ : ∃ M, N = M + 1 := ⟨N - 1, by omega⟩
      obtain ⟨v, hE⟩ := HE.out M rfl
      have s_1 := HS.out.cell (stpC_len _ _ _ _ _ _ _ _ _ _) (show M < M + 1 by omega) (show 1 < 5 by omega) (show (stpC a b ca cb zs ys i c s h M)[1]? = some _ from by rw [hE]; rfl)
      have s_2 := HS.out.cell (stpC_len _ _ _ _ _ _ _ _ _ _) (show M < M + 1 by omega) (show 2 < 5 by omega) (show (stpC a b ca cb zs ys i c s h M)[2]? = some _ from by rw [hE]; rfl)
      have s_3 := HS.out.cell (stpC_len _ _ _ _ _ _ _ _ _ _) (show M < M + 1 by omega) (show 3 < 5 by omega) (show (stpC a b ca cb zs ys i c s h M)[3]? = some _ from by rw [hE]; rfl)
      have s_4 := HS.out.cell (stpC_len _ _ _ _ _ _ _ _ _ _) (show M < M + 1 by omega) (show 4 < 5 by omega) (show (stpC a b ca cb zs ys i c s h M)[4]? = some _ from by rw [hE]; rfl)
      have n0 : (0 : Int) < ((M + 1 : Nat) : Int) := by omega
      have n1 : (1 : Int) ≤ ((M + 1 : Nat) : Int) := by omega
      have HNM := HN.out
      have wM : wrap64 (M : Int) = (M : Int) := by unfold wrap64; omega
      clear h0 hE HX0 HX HE HNM
      have bE_0 := bE.cell 0 rfl
      have bE_1 := bE.cell 1 rfl
      have bE_2 := bE.cell 2 rfl
      have bE_3 := bE.cell 3 rfl
      have bE_f0 := bE.frozen 0
      have bE_f1 := bE.frozen 1
      have bE_f2 := bE.frozen 2
      have bE_f3 := bE.frozen 3
      have bE_l := bE.lt
      go_upto_region 8 with fail
      generalize hX : World.setCell _ _ _ = W6
      have HSd := Lib.hid (HS.out.down HW2.out)
      have lgb : g9 < W5.heap.size := bE.lt
      clear HS s_1 s_2 s_3 s_4
      clear bE_0 bE_1 bE_2 bE_3 bE_f0 bE_f1 bE_f2 bE_f3 bE_l
      have hb : Below w.heap.size w W6 := by rw [← hX]; exact (((HB.out.setCell (p := ⟨g9, 0, none⟩) le9 _).setCell (p := ⟨g9, 1, none⟩) le9 _).setCell (p := ⟨g9, 2, none⟩) le9 _).setCell (p := ⟨g9, 3, none⟩) le9 _
      have bR6 : Bk W6 (w.heap.size + 1 + 1) #[.slice none 0 0, .int .i64 0, .bool false, .int .i64 0, .int .i64 0] 55 := by rw [← hX]; exact Bk.other (Bk.other (Bk.other (Bk.other bR neR9 0 _) neR9 1 _) neR9 2 _) neR9 3 _
      have bE6 : Bk W6 g9 #[.int .i64 (k : Int), .bool dn, .int .i64 lo, .int .i64 hi] 38 := by rw [← hX]; exact Bk.set (Bk.set (Bk.set (Bk.set bE 0 _ rfl) 1 _ rfl) 2 _ rfl) 3 _ rfl
      have HS6 := Lib.hid (RowG.at_ HSd.out (by rw [← hX]; exact heap_far4 (by omega) _ _ _ _) hb)
      replace HB := Lib.hid hb
      clear hX hb bE bR HSd
      have bE6_0 := bE6.cell 0 rfl
      have bE6_1 := bE6.cell 1 rfl
      have bE6_2 := bE6.cell 2 rfl
      have bE6_3 := bE6.cell 3 rfl
      have bE6_l := bE6.lt
      have bR6_0 := bR6.cell 0 rfl
      have bR6_1 := bR6.cell 1 rfl
      have bR6_2 := bR6.cell 2 rfl
      have bR6_3 := bR6.cell 3 rfl
      have bR6_4 := bR6.cell 4 rfl
      have bR6_f0 := bR6.frozen 0
      have bR6_f1 := bR6.frozen 1
      have bR6_f2 := bR6.frozen 2
      have bR6_f3 := bR6.frozen 3
      have bR6_f4 := bR6.frozen 4
      have bR6_l := bR6.lt
      go_wp2
      exact bodyPost_ret (v := .tuple #[.agg #[.slice (some ⟨gs, 0, none⟩) (M + 1) cs, .int .i64 (k : Int), .bool dn, .int .i64 lo, .int .i64 hi], .int .i64 0]) (by simp [results, Tryz.results39, go_sem, bR6_0, bR6_1, bR6_2, bR6_3, bR6_4]) rfl (Or.inl ⟨rfl, gs, cs, rfl, RowG.at_ HS6.out (heap_far5 (by omega) _ _ _ _ _) (by repeat (first | exact HB.out | (refine Below.setCell ?_ (by simp <;> omega) _) | (refine Below.alloc ?_ (by simp <;> omega) _) | (refine Below.drew ?_)))⟩)
end Go.Proofs.YtgecbfbmmbfnmaaGreat
