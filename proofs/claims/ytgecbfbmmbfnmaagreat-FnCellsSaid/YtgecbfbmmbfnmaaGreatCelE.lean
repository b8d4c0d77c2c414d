import Derived.Test.YtgecbfbmmbfnmaaGreatCelD
import Derived.Handy
import Derived.Outline
import Derived.LoopTactic
import Derived.Deep.RegionHeld3
import Derived.Deep.DeepCutAuto
import Derived.Deep.RegionWith
namespace Go.Proofs.YtgecbfbmmbfnmaaGreat
/- The errors of a sector, and both routes of a cell. -/
open Go.ChangeShapes Go.WideShapes Go.ChangeAt Go.RowKit Go.Shelf Num
set_option linter.unusedVariables false
set_option linter.unusedSimpArgs false

/-- the error of a sector -/
def eoT (zs ys : List Int) (src n : Int) : Int := if cdT (prfB zs ys) (hkB zs src) = 0 then (if inB n 0 100 then 0 else 2) else cdT (prfB zs ys) (hkB zs src)
/-- the error of a cell's routes -/
def rsC (dd de : Bool) (q1 q2 : Int) : Int := if dd == de then (if q1 = 0 then q2 else q1) else 5
/-- what routesOf returns -/
def RsP (w : World) (f1 f2 : Nat → List Value) (x1 x2 : RSt) (q : Int) (N : Nat) (e : Ending) (w' : World) : Prop :=
  (q = 0 ∧ ∃ w1 w2 g1 c1 g2 c2, e = .returned (.tuple #[.agg #[.slice (some ⟨g1, 0, none⟩) N c1, .int .i64 (x1.k : Int), .bool x1.dn, .int .i64 x1.lo, .int .i64 x1.hi, .slice (some ⟨g2, 0, none⟩) N c2, .int .i64 (x2.k : Int), .bool x2.dn, .int .i64 x2.lo, .int .i64 x2.hi], .int .i64 0]) ∧ RowG w1 81 5 g1 c1 N (rowL f1 N) w' ∧ RowG w2 81 5 g2 c2 N (rowL f2 N) w' ∧ Below w.heap.size w w') ∨ (¬ q = 0 ∧ e = .returned (.tuple #[.agg #[.slice none 0 0, .int .i64 0, .bool false, .int .i64 0, .int .i64 0, .slice none 0 0, .int .i64 0, .bool false, .int .i64 0, .int .i64 0], .int .i64 q]) ∧ Below w.heap.size w w')
theorem heap_far10 {W : World} {B g : Nat} (hne : g ≠ B) (v0 v1 v2 v3 v4 v5 v6 v7 v8 v9 : Value) : ((((((((((W.setCell ⟨B, 0, none⟩ v0).setCell ⟨B, 1, none⟩ v1).setCell ⟨B, 2, none⟩ v2).setCell ⟨B, 3, none⟩ v3).setCell ⟨B, 4, none⟩ v4).setCell ⟨B, 5, none⟩ v5).setCell ⟨B, 6, none⟩ v6).setCell ⟨B, 7, none⟩ v7).setCell ⟨B, 8, none⟩ v8).setCell ⟨B, 9, none⟩ v9).heap[g]? = W.heap[g]? :=
  (Below.heap_setCell _ ⟨B, 9, none⟩ v9 g hne).trans ((Below.heap_setCell _ ⟨B, 8, none⟩ v8 g hne).trans ((Below.heap_setCell _ ⟨B, 7, none⟩ v7 g hne).trans ((Below.heap_setCell _ ⟨B, 6, none⟩ v6 g hne).trans ((Below.heap_setCell _ ⟨B, 5, none⟩ v5 g hne).trans (heap_far5 hne _ _ _ _ _)))))
theorem bk_set10 {W : World} {g : Nat} {t : TypeId} {a0 a1 a2 a3 a4 a5 a6 a7 a8 a9 : Value} (b : Bk W g #[a0, a1, a2, a3, a4, a5, a6, a7, a8, a9] t) (v0 v1 v2 v3 v4 v5 v6 v7 v8 v9 : Value) : Bk ((((((((((W.setCell ⟨g, 0, none⟩ v0).setCell ⟨g, 1, none⟩ v1).setCell ⟨g, 2, none⟩ v2).setCell ⟨g, 3, none⟩ v3).setCell ⟨g, 4, none⟩ v4).setCell ⟨g, 5, none⟩ v5).setCell ⟨g, 6, none⟩ v6).setCell ⟨g, 7, none⟩ v7).setCell ⟨g, 8, none⟩ v8).setCell ⟨g, 9, none⟩ v9) g #[v0, v1, v2, v3, v4, v5, v6, v7, v8, v9] t := by
  have b0 : Bk (W.setCell ⟨g, 0, none⟩ v0) g #[v0, a1, a2, a3, a4, a5, a6, a7, a8, a9] t := Bk.set b 0 _ rfl
  have b1 : Bk ((W.setCell ⟨g, 0, none⟩ v0).setCell ⟨g, 1, none⟩ v1) g #[v0, v1, a2, a3, a4, a5, a6, a7, a8, a9] t := Bk.set b0 1 _ rfl
  have b2 : Bk (((W.setCell ⟨g, 0, none⟩ v0).setCell ⟨g, 1, none⟩ v1).setCell ⟨g, 2, none⟩ v2) g #[v0, v1, v2, a3, a4, a5, a6, a7, a8, a9] t := Bk.set b1 2 _ rfl
  have b3 : Bk ((((W.setCell ⟨g, 0, none⟩ v0).setCell ⟨g, 1, none⟩ v1).setCell ⟨g, 2, none⟩ v2).setCell ⟨g, 3, none⟩ v3) g #[v0, v1, v2, v3, a4, a5, a6, a7, a8, a9] t := Bk.set b2 3 _ rfl
  have b4 : Bk (((((W.setCell ⟨g, 0, none⟩ v0).setCell ⟨g, 1, none⟩ v1).setCell ⟨g, 2, none⟩ v2).setCell ⟨g, 3, none⟩ v3).setCell ⟨g, 4, none⟩ v4) g #[v0, v1, v2, v3, v4, a5, a6, a7, a8, a9] t := Bk.set b3 4 _ rfl
  have b5 : Bk ((((((W.setCell ⟨g, 0, none⟩ v0).setCell ⟨g, 1, none⟩ v1).setCell ⟨g, 2, none⟩ v2).setCell ⟨g, 3, none⟩ v3).setCell ⟨g, 4, none⟩ v4).setCell ⟨g, 5, none⟩ v5) g #[v0, v1, v2, v3, v4, v5, a6, a7, a8, a9] t := Bk.set b4 5 _ rfl
  have b6 : Bk (((((((W.setCell ⟨g, 0, none⟩ v0).setCell ⟨g, 1, none⟩ v1).setCell ⟨g, 2, none⟩ v2).setCell ⟨g, 3, none⟩ v3).setCell ⟨g, 4, none⟩ v4).setCell ⟨g, 5, none⟩ v5).setCell ⟨g, 6, none⟩ v6) g #[v0, v1, v2, v3, v4, v5, v6, a7, a8, a9] t := Bk.set b5 6 _ rfl
  have b7 : Bk ((((((((W.setCell ⟨g, 0, none⟩ v0).setCell ⟨g, 1, none⟩ v1).setCell ⟨g, 2, none⟩ v2).setCell ⟨g, 3, none⟩ v3).setCell ⟨g, 4, none⟩ v4).setCell ⟨g, 5, none⟩ v5).setCell ⟨g, 6, none⟩ v6).setCell ⟨g, 7, none⟩ v7) g #[v0, v1, v2, v3, v4, v5, v6, v7, a8, a9] t := Bk.set b6 7 _ rfl
  have b8 : Bk (((((((((W.setCell ⟨g, 0, none⟩ v0).setCell ⟨g, 1, none⟩ v1).setCell ⟨g, 2, none⟩ v2).setCell ⟨g, 3, none⟩ v3).setCell ⟨g, 4, none⟩ v4).setCell ⟨g, 5, none⟩ v5).setCell ⟨g, 6, none⟩ v6).setCell ⟨g, 7, none⟩ v7).setCell ⟨g, 8, none⟩ v8) g #[v0, v1, v2, v3, v4, v5, v6, v7, v8, a9] t := Bk.set b7 8 _ rfl
  have b9 : Bk ((((((((((W.setCell ⟨g, 0, none⟩ v0).setCell ⟨g, 1, none⟩ v1).setCell ⟨g, 2, none⟩ v2).setCell ⟨g, 3, none⟩ v3).setCell ⟨g, 4, none⟩ v4).setCell ⟨g, 5, none⟩ v5).setCell ⟨g, 6, none⟩ v6).setCell ⟨g, 7, none⟩ v7).setCell ⟨g, 8, none⟩ v8).setCell ⟨g, 9, none⟩ v9) g #[v0, v1, v2, v3, v4, v5, v6, v7, v8, v9] t := Bk.set b8 9 _ rfl
  exact b9

set_option maxRecDepth 100000 in
set_option maxHeartbeats 4000000 in
theorem seo_any (w : World) (a b : Option Addr) (ca cb : Nat) (zs ys : List Int) (src n : Int) (hp : Prof w w.heap.size a b zs ys) :
    Calls Tryz.prog 23 #[.agg #[.slice a zs.length ca, .slice b ys.length cb, .int .i64 src, .int .i64 n]] w fun e w' => e = .returned (.int .i64 (eoT zs ys src n)) ∧ Below w.heap.size w w' := by
  have HP := Lib.hid hp
  have KF : Hid (∀ W : World, Below w.heap.size w W → Calls Tryz.prog 49 #[.agg #[.slice a zs.length ca, .slice b ys.length cb], .func (.func 37) #[.agg #[.slice a zs.length ca, .slice b ys.length cb]] #[], .int .i64 src] W fun e w' => e = .returned (.int .i64 (cdT (prfB zs ys) (hkB zs src))) ∧ Below W.heap.size W w') := Lib.hid (fun W hb => eok_any W a b ca cb zs ys src (HP.out.on hb))
  obtain ⟨q, hq⟩ : ∃ u, cdT (prfB zs ys) (hkB zs src) = u := ⟨_, rfl⟩
  obtain ⟨r, hr⟩ : ∃ u, inB n 0 100 = u := ⟨_, rfl⟩
  have KL : Hid (∀ W : World, Calls Tryz.prog 35 #[.agg #[.int .i64 0, .int .i64 100], .int .i64 n] W fun e w' => e = .returned (.bool (!r)) ∧ Below W.heap.size W w') := Lib.hid (fun W => by have g := lacks_any 0 100 n W; rw [show hasB 0 100 n = r from by rw [← hr]; unfold inB hasB; by_cases p1 : 0 ≤ n <;> by_cases p2 : n ≤ 100 <;> simp [p1, p2]] at g; exact g.mono fun e w' h => ⟨h.1, by rw [h.2]; exact (by repeat (first | exact Below.refl _ _ | (refine Below.alloc ?_ (by simp <;> omega) _) | (refine Below.setCell ?_ (by simp <;> omega) _) | (refine Below.drew ?_) | (refine bel_drewN ?_ _)))⟩)
  have HR : Hid (eoT zs ys src n = if q = 0 then (if r then 0 else 2) else q) := Lib.hid (by unfold eoT; rw [hq, hr])
  rw [hq] at KF
  clear hq hr hp
  go_enter Tryz.func23, Tryz.ntmps23
  go_upto_region 1 with fail
  generalize hW : World.alloc _ _ = W
  have bX : Bk W (w.heap.size) #[.slice a zs.length ca, .slice b ys.length cb, .int .i64 src, .int .i64 n] 49 := by rw [← hW]; repeat (first | (refine Bk.new' ?_; (simp; done)) | refine Bk.alloc ?_ _)
  have HB : Hid (Below w.heap.size w W) := Lib.hid (by rw [← hW]; exact (by repeat (first | exact Below.refl _ _ | (refine Below.alloc ?_ (by simp <;> omega) _) | (refine Below.setCell ?_ (by simp <;> omega) _) | (refine Below.drew ?_) | (refine bel_drewN ?_ _))))
  clear hW
  have bX_0 := bX.cell 0 rfl
  have bX_1 := bX.cell 1 rfl
  have bX_2 := bX.cell 2 rfl
  have bX_3 := bX.cell 3 rfl
  have bX_l := bX.lt
  go_wp2_with fail
  (with_reducible refine Calls.mono (KF.out _ HB.out) ?_)
  rintro e w1 ⟨rfl, hb⟩
  clear bX_0 bX_1 bX_2 bX_3 bX_l
  replace bX := bX.on hb
  replace HB := Lib.hid (bel_end HB.out hb)
  clear hb
  have bX_0 := bX.cell 0 rfl
  have bX_1 := bX.cell 1 rfl
  have bX_2 := bX.cell 2 rfl
  have bX_3 := bX.cell 3 rfl
  have bX_l := bX.lt
  by_cases h0 : q = 0
  case neg =>
    have hq0 : (q != 0) = true := by simpa using h0
    have HQ : Hid (eoT zs ys src n = q) := Lib.hid (by rw [HR.out, if_neg h0])
    clear h0
    go_wp2
    go_ret
    exact ⟨by first | (rw [HQ.out]; done) | (rw [HQ.out]; rfl), HB.out⟩
  case pos =>
    subst h0
    rw [if_pos rfl] at HR
    go_wp2_with fail
    (with_reducible refine Calls.mono (KL.out _) ?_)
    rintro e w2 ⟨rfl, hb⟩
    have HB2 : Hid (Below w.heap.size w w2) := Lib.hid (by first | exact bel_end (HB.out.alloc (by first | omega | exact HB.out.size) _) hb | (refine bel_end ?_ hb; exact (by repeat (first | exact Below.refl _ _ | (refine Below.alloc ?_ (by simp <;> omega) _) | (refine Below.setCell ?_ (by simp <;> omega) _) | (refine Below.drew ?_) | (refine bel_drewN ?_ _)))))
    clear hb
    clear bX_0 bX_1 bX_2 bX_3 bX_l
    cases r
    all_goals
      have HQ := Lib.hid HR.out
      simp only [if_true, if_false, Bool.false_eq_true] at HQ
      go_wp2
      go_ret
      exact ⟨by first | (rw [HQ.out]; done) | (rw [HQ.out]; rfl), HB2.out⟩

set_option maxRecDepth 100000 in
set_option maxHeartbeats 8000000 in
theorem rts_any (w : World) (a b : Option Addr) (ca cb : Nat) (zs ys : List Int) (src c s h x y z n : Int) (hp : Prof w w.heap.size a b zs ys) :
    Calls Tryz.prog 17 #[.agg #[.slice a zs.length ca, .slice b ys.length cb, .int .i64 src, .int .i64 n], .agg #[.int .i64 c, .int .i64 s, .int .i64 h, .int .i64 x, .int .i64 y, .int .i64 z]] w (RsP w (stpC a b ca cb zs ys src.toNat c s h) (stpC a b ca cb zs ys src.toNat x y z) (runS zs ys src.toNat c h (fst0 src.toNat s) n.toNat) (runS zs ys src.toNat x z (fst0 src.toNat y) n.toNat) (rsC (decide (0 < s)) (decide (0 < y)) (tcod zs ys src c s h n) (tcod zs ys src x y z n)) n.toNat) := by
  have HP := Lib.hid hp
  obtain ⟨dd, hdd⟩ : ∃ u, decide (0 < s) = u := ⟨_, rfl⟩
  obtain ⟨de, hde⟩ : ∃ u, decide (0 < y) = u := ⟨_, rfl⟩
  have KG1 : Hid (∀ W : World, Calls Tryz.prog 38 #[.agg #[.int .i64 c, .int .i64 s, .int .i64 h]] W fun e w' => e = .returned (.bool dd) ∧ Below W.heap.size W w') := Lib.hid (fun W => by have := gdn_any W c s h; rwa [hdd] at this)
  have KG2 : Hid (∀ W : World, Calls Tryz.prog 38 #[.agg #[.int .i64 x, .int .i64 y, .int .i64 z]] W fun e w' => e = .returned (.bool de) ∧ Below W.heap.size W w') := Lib.hid (fun W => by have := gdn_any W x y z; rwa [hde] at this)
  obtain ⟨f1, hf1⟩ : ∃ u, stpC a b ca cb zs ys src.toNat c s h = u := ⟨_, rfl⟩
  obtain ⟨⟨k1, d1, l1, h1⟩, hx1⟩ : ∃ u, runS zs ys src.toNat c h (fst0 src.toNat s) n.toNat = u := ⟨_, rfl⟩
  obtain ⟨q1, hq1⟩ : ∃ u, tcod zs ys src c s h n = u := ⟨_, rfl⟩
  obtain ⟨f2, hf2⟩ : ∃ u, stpC a b ca cb zs ys src.toNat x y z = u := ⟨_, rfl⟩
  obtain ⟨⟨k2, d2, l2, h2⟩, hx2⟩ : ∃ u, runS zs ys src.toNat x z (fst0 src.toNat y) n.toNat = u := ⟨_, rfl⟩
  obtain ⟨q2, hq2⟩ : ∃ u, tcod zs ys src x y z n = u := ⟨_, rfl⟩
  obtain ⟨N, hN⟩ : ∃ u, n.toNat = u := ⟨_, rfl⟩
  rw [hN] at hx1 hx2
  have KR1 : Hid (∀ W : World, Below w.heap.size w W → Calls Tryz.prog 39 #[.agg #[.slice a zs.length ca, .slice b ys.length cb, .int .i64 src, .int .i64 n], .agg #[.int .i64 c, .int .i64 s, .int .i64 h]] W (RtP W f1 ⟨k1, d1, l1, h1⟩ q1 N)) := Lib.hid (fun W hb => by have := rto_any W a b ca cb zs ys src c s h n (HP.out.on hb); rw [hN, hf1, hx1, hq1] at this; exact this)
  have KR2 : Hid (∀ W : World, Below w.heap.size w W → Calls Tryz.prog 39 #[.agg #[.slice a zs.length ca, .slice b ys.length cb, .int .i64 src, .int .i64 n], .agg #[.int .i64 x, .int .i64 y, .int .i64 z]] W (RtP W f2 ⟨k2, d2, l2, h2⟩ q2 N)) := Lib.hid (fun W hb => by have := rto_any W a b ca cb zs ys src x y z n (HP.out.on hb); rw [hN, hf2, hx2, hq2] at this; exact this)
  rw [hdd, hde, hf1, hf2, hq1, hq2, hN, hx1, hx2]
  clear hdd hde hf1 hf2 hx1 hx2 hq1 hq2 hN hp
  go_enter Tryz.func17, Tryz.ntmps17
  go_upto_region 1 with fail
  generalize hW : World.alloc _ _ = W
  have bX : Bk W (w.heap.size) #[.slice a zs.length ca, .slice b ys.length cb, .int .i64 src, .int .i64 n] 49 := by rw [← hW]; repeat (first | (refine Bk.new' ?_; (simp; done)) | refine Bk.alloc ?_ _)
  have bC : Bk W (w.heap.size + 1) #[.int .i64 c, .int .i64 s, .int .i64 h, .int .i64 x, .int .i64 y, .int .i64 z] 61 := by rw [← hW]; repeat (first | (refine Bk.new' ?_; (simp; done)) | refine Bk.alloc ?_ _)
  have bR : Bk W (w.heap.size + 1 + 1) #[.slice none 0 0, .int .i64 0, .bool false, .int .i64 0, .int .i64 0, .slice none 0 0, .int .i64 0, .bool false, .int .i64 0, .int .i64 0] 57 := by rw [← hW]; repeat (first | (refine Bk.new' ?_; (simp; done)) | refine Bk.alloc ?_ _)
  have HB : Hid (Below w.heap.size w W) := Lib.hid (by rw [← hW]; exact (by repeat (first | exact Below.refl _ _ | (refine Below.alloc ?_ (by simp <;> omega) _) | (refine Below.setCell ?_ (by simp <;> omega) _) | (refine Below.drew ?_) | (refine bel_drewN ?_ _))))
  clear hW
  have lX := bX.lt
  have lC := bC.lt
  have lR := bR.lt
  go_cut [15] (fun q wx => q = .bool (dd != de) ∧ Below W.heap.size W wx)
  case first =>
    have HW : Hid (Below W.heap.size W W) := Lib.hid (Below.refl _ _)
    obtain ⟨S, hSd⟩ : ∃ S : World → Prop, ∀ w', S w' ↔ (w'.cell? ⟨w.heap.size + 1, 0, none⟩ = some (.int .i64 c) ∧ w'.cell? ⟨w.heap.size + 1, 1, none⟩ = some (.int .i64 s) ∧ w'.cell? ⟨w.heap.size + 1, 2, none⟩ = some (.int .i64 h) ∧ w'.cell? ⟨w.heap.size + 1, 3, none⟩ = some (.int .i64 x) ∧ w'.cell? ⟨w.heap.size + 1, 4, none⟩ = some (.int .i64 y) ∧ w'.cell? ⟨w.heap.size + 1, 5, none⟩ = some (.int .i64 z)) := ⟨_, fun _ => Iff.rfl⟩
    have HSp : Hid (∀ w' : World, Bk w' (w.heap.size + 1) #[.int .i64 c, .int .i64 s, .int .i64 h, .int .i64 x, .int .i64 y, .int .i64 z] 61 → S w') := Lib.hid (fun w' bC => (hSd w').2 ⟨bC.cell 0 rfl, bC.cell 1 rfl, bC.cell 2 rfl, bC.cell 3 rfl, bC.cell 4 rfl, bC.cell 5 rfl⟩)
    have HSd := Lib.hid hSd
    clear hSd
    refine wp_region_held_drew (S := S) (by kernel_rfl) ?_ (fun hH => ?_)
    · exact (HSp.out _ bC : S (World.drew W))
    clear hH
    generalize hX : World.drew W = V0
    replace bC : Bk V0 (w.heap.size + 1) #[.int .i64 c, .int .i64 s, .int .i64 h, .int .i64 x, .int .i64 y, .int .i64 z] 61 := by rw [← hX]; exact bC
    have hb : Below W.heap.size W V0 := by rw [← hX]; exact (Below.refl _ _).drew
    clear hX
    replace HW := Lib.hid (bel_end HW.out hb)
    clear hb
    have hS := HSp.out _ bC
    refine wpAnyH_take (i := 0) (oi := { dst := some 9, op := Go.Op.fieldAddr 61 (Go.Operand.tmp 3) 0, type := 0, pos := "l08_sectors.go:271", after := #[], guard := none }) (v := ?_) rfl (by kernel_rfl) (by kernel_rfl) (by kernel_rfl) (fun _ _ _ h => h) (Or.inl ⟨by rfl, ?_⟩) hS ?_
    rotate_left
    · (intro w hSw; have hSw := (HSd.out w).1 hSw; go_split_ands; go_simp) <;> with_reducible rfl
    clear hS
    try simp only [Act.put, List.setIfInBounds_toArray, List.set_cons_zero, List.set_cons_succ]
    have hS := HSp.out _ bC
    refine wpAnyH_take (i := 1) (oi := { dst := some 10, op := Go.Op.load 28 (Go.Operand.tmp 9), type := 28, pos := "l08_sectors.go:271", after := #[{ on := 0, ground := Go.Ground.data }], guard := none }) (v := ?_) rfl (by kernel_rfl) (by kernel_rfl) (by kernel_rfl) (fun _ _ _ h => h) (Or.inl ⟨by rfl, ?_⟩) hS ?_
    rotate_left
    · (intro w hSw; have hSw := (HSd.out w).1 hSw; go_split_ands; go_simp) <;> with_reducible rfl
    clear hS
    try simp only [Act.put, List.setIfInBounds_toArray, List.set_cons_zero, List.set_cons_succ]
    have hS := HSp.out _ bC
    refine wpAnyH_take (i := 3) (oi := { dst := some 12, op := Go.Op.fieldAddr 61 (Go.Operand.tmp 3) 1, type := 0, pos := "l08_sectors.go:271", after := #[], guard := none }) (v := ?_) rfl (by kernel_rfl) (by kernel_rfl) (by kernel_rfl) (fun _ _ _ h => h) (Or.inl ⟨by rfl, ?_⟩) hS ?_
    rotate_left
    · (intro w hSw; have hSw := (HSd.out w).1 hSw; go_split_ands; go_simp) <;> with_reducible rfl
    clear hS
    try simp only [Act.put, List.setIfInBounds_toArray, List.set_cons_zero, List.set_cons_succ]
    have hS := HSp.out _ bC
    refine wpAnyH_take (i := 4) (oi := { dst := some 13, op := Go.Op.load 28 (Go.Operand.tmp 12), type := 28, pos := "l08_sectors.go:271", after := #[{ on := 3, ground := Go.Ground.data }], guard := none }) (v := ?_) rfl (by kernel_rfl) (by kernel_rfl) (by kernel_rfl) (fun _ _ _ h => h) (Or.inl ⟨by rfl, ?_⟩) hS ?_
    rotate_left
    · (intro w hSw; have hSw := (HSd.out w).1 hSw; go_split_ands; go_simp) <;> with_reducible rfl
    clear hS
    try simp only [Act.put, List.setIfInBounds_toArray, List.set_cons_zero, List.set_cons_succ]
    refine wpAnyH_ready (rs := [2]) (by decide +kernel) (by simp) ?_
    refine AllReadyH.cons (o := { dst := some 11, op := Go.Op.call { callee := Go.Callee.value (Go.Operand.func 38), args := #[Go.Operand.tmp 10], argTypes := #[28] }, type := 4, pos := "l08_sectors.go:271", after := #[{ on := 1, ground := Go.Ground.data }], guard := none }) rfl (fun Kn hK => ?_) AllReadyH.nil
    first | go_at_call 38 | (go_simp; go_at_call 38)
    (with_reducible refine Calls.mono (KG1.out _) ?_)
    rintro e V1 ⟨rfl, hb⟩
    try dsimp only
    try simp only [Act.put, List.setIfInBounds_toArray, List.set_cons_zero, List.set_cons_succ]
    replace bC := bC.on hb
    replace HW := Lib.hid (bel_end HW.out hb)
    clear hb
    refine hK.out _ _ (HSp.out _ bC) (fun _ => ?_)
    clear hK Kn
    refine wpAnyH_ready (rs := [5]) (by decide +kernel) (by simp) ?_
    refine AllReadyH.cons (o := { dst := some 14, op := Go.Op.call { callee := Go.Callee.value (Go.Operand.func 38), args := #[Go.Operand.tmp 13], argTypes := #[28] }, type := 4, pos := "l08_sectors.go:271", after := #[{ on := 4, ground := Go.Ground.data }, { on := 2, ground := Go.Ground.chain }], guard := none }) rfl (fun Kn hK => ?_) AllReadyH.nil
    first | go_at_call 38 | (go_simp; go_at_call 38)
    (with_reducible refine Calls.mono (KG2.out _) ?_)
    rintro e V2 ⟨rfl, hb⟩
    try dsimp only
    try simp only [Act.put, List.setIfInBounds_toArray, List.set_cons_zero, List.set_cons_succ]
    replace bC := bC.on hb
    replace HW := Lib.hid (bel_end HW.out hb)
    clear hb
    refine hK.out _ _ (HSp.out _ bC) (fun _ => ?_)
    clear hK Kn
    have hS := HSp.out _ bC
    refine wpAnyH_take (i := 6) (oi := { dst := some 15, op := Go.Op.binOp Go.BinOp.neq 4 (Go.Operand.tmp 11) (Go.Operand.tmp 14) 4, type := 4, pos := "l08_sectors.go:271", after := #[{ on := 2, ground := Go.Ground.data }, { on := 5, ground := Go.Ground.data }], guard := none }) (v := ?_) rfl (by kernel_rfl) (by kernel_rfl) (by kernel_rfl) (fun _ _ _ h => h) (Or.inl ⟨by rfl, ?_⟩) hS ?_
    rotate_left
    · (intro w hSw; have hSw := (HSd.out w).1 hSw; go_split_ands; go_simp) <;> with_reducible rfl
    clear hS
    try simp only [Act.put, List.setIfInBounds_toArray, List.set_cons_zero, List.set_cons_succ]
    refine wpAnyH_done (by kernel_rfl) ?_ _
    go_wp2_with fail
    go_meet
    exact ⟨rfl, HW.out⟩
  case rest =>
    obtain ⟨rfl, hb⟩ := hcut
    obtain ⟨w1, hwc⟩ : ∃ X, X = wc := ⟨_, rfl⟩
    rw [← hwc] at hb ⊢
    clear hwc
    replace bX := bX.on hb
    replace bC := bC.on hb
    replace bR := bR.on hb
    replace HB := Lib.hid (bel_end HB.out hb)
    clear hb lX lC lR
    cases g : (dd == de)
    case false =>
      have g2 : (dd != de) = true := by simp [bne, g]
      have HC : Hid (rsC dd de q1 q2 = 5) := Lib.hid (by unfold rsC; rw [g]; rfl)
      have HQ : Hid (¬ rsC dd de q1 q2 = 0) := Lib.hid (by rw [HC.out]; decide)
      have bR_0 := bR.cell 0 rfl
      have bR_1 := bR.cell 1 rfl
      have bR_2 := bR.cell 2 rfl
      have bR_3 := bR.cell 3 rfl
      have bR_4 := bR.cell 4 rfl
      have bR_5 := bR.cell 5 rfl
      have bR_6 := bR.cell 6 rfl
      have bR_7 := bR.cell 7 rfl
      have bR_8 := bR.cell 8 rfl
      have bR_9 := bR.cell 9 rfl
      have bR_f0 := bR.frozen 0
      have bR_f1 := bR.frozen 1
      have bR_f2 := bR.frozen 2
      have bR_f3 := bR.frozen 3
      have bR_f4 := bR.frozen 4
      have bR_f5 := bR.frozen 5
      have bR_f6 := bR.frozen 6
      have bR_f7 := bR.frozen 7
      have bR_f8 := bR.frozen 8
      have bR_f9 := bR.frozen 9
      have bR_l := bR.lt
      rw [g2]
      go_wp2
      clear bR_0 bR_1 bR_2 bR_3 bR_4 bR_5 bR_6 bR_7 bR_8 bR_9 bR_f0 bR_f1 bR_f2 bR_f3 bR_f4 bR_f5 bR_f6 bR_f7 bR_f8 bR_f9 bR_l
      generalize hX : World.setCell _ _ _ = W9
      have hb : Below w.heap.size w W9 := by rw [← hX]; exact ((((((((((HB.out.setCell (p := ⟨w.heap.size + 1 + 1, 0, none⟩) (by dsimp only; omega) _).setCell (p := ⟨w.heap.size + 1 + 1, 1, none⟩) (by dsimp only; omega) _).setCell (p := ⟨w.heap.size + 1 + 1, 2, none⟩) (by dsimp only; omega) _).setCell (p := ⟨w.heap.size + 1 + 1, 3, none⟩) (by dsimp only; omega) _).setCell (p := ⟨w.heap.size + 1 + 1, 4, none⟩) (by dsimp only; omega) _).setCell (p := ⟨w.heap.size + 1 + 1, 5, none⟩) (by dsimp only; omega) _).setCell (p := ⟨w.heap.size + 1 + 1, 6, none⟩) (by dsimp only; omega) _).setCell (p := ⟨w.heap.size + 1 + 1, 7, none⟩) (by dsimp only; omega) _).setCell (p := ⟨w.heap.size + 1 + 1, 8, none⟩) (by dsimp only; omega) _).setCell (p := ⟨w.heap.size + 1 + 1, 9, none⟩) (by dsimp only; omega) _)
      have bR9 : Bk W9 (w.heap.size + 1 + 1) #[.slice none 0 0, .int .i64 0, .bool false, .int .i64 0, .int .i64 0, .slice none 0 0, .int .i64 0, .bool false, .int .i64 0, .int .i64 0] 57 := by rw [← hX]; exact bk_set10 bR _ _ _ _ _ _ _ _ _ _
      have HB9 := Lib.hid hb
      clear hX hb
      have r0 := bR9.cell 0 rfl
      have r1 := bR9.cell 1 rfl
      have r2 := bR9.cell 2 rfl
      have r3 := bR9.cell 3 rfl
      have r4 := bR9.cell 4 rfl
      have r5 := bR9.cell 5 rfl
      have r6 := bR9.cell 6 rfl
      have r7 := bR9.cell 7 rfl
      have r8 := bR9.cell 8 rfl
      have r9 := bR9.cell 9 rfl
      exact bodyPost_ret (v := .tuple #[.agg #[.slice none 0 0, .int .i64 0, .bool false, .int .i64 0, .int .i64 0, .slice none 0 0, .int .i64 0, .bool false, .int .i64 0, .int .i64 0], .int .i64 5]) (by simp [results, Tryz.results17, go_sem, r0, r1, r2, r3, r4, r5, r6, r7, r8, r9]) rfl (Or.inr ⟨HQ.out, by rw [HC.out], HB9.out⟩)
    case true =>
      have g2 : (dd != de) = false := by simp [bne, g]
      rw [g2]
      have bX_0 := bX.cell 0 rfl
      have bX_1 := bX.cell 1 rfl
      have bX_2 := bX.cell 2 rfl
      have bX_3 := bX.cell 3 rfl
      have bX_l := bX.lt
      have bC_0 := bC.cell 0 rfl
      have bC_1 := bC.cell 1 rfl
      have bC_2 := bC.cell 2 rfl
      have bC_3 := bC.cell 3 rfl
      have bC_4 := bC.cell 4 rfl
      have bC_5 := bC.cell 5 rfl
      have bC_l := bC.lt
      go_wp2_with fail
      (with_reducible refine Calls.mono (KR1.out _ HB.out) ?_)
      rintro e w3 hF
      clear bX_0 bX_1 bX_2 bX_3 bX_l
      clear bC_0 bC_1 bC_2 bC_3 bC_4 bC_5 bC_l
      by_cases z1 : q1 = 0
      case neg =>
        have HC : Hid (rsC dd de q1 q2 = q1) := Lib.hid (by unfold rsC; rw [g, if_pos rfl, if_neg z1])
        have HQ : Hid (¬ rsC dd de q1 q2 = 0) := Lib.hid (by rw [HC.out]; exact z1)
        obtain ⟨rfl, hb⟩ : e = .returned (.tuple #[.agg #[.slice none 0 0, .int .i64 0, .bool false, .int .i64 0, .int .i64 0], .int .i64 q1]) ∧ Below w1.heap.size w1 w3 := by
          rcases hF with ⟨h0, -⟩ | ⟨-, e1, e2⟩
          · exact absurd h0 z1
          · exact ⟨e1, e2⟩
        have y1 : (q1 != 0) = true := by simpa using z1
        replace bR := bR.on hb
        replace HB := Lib.hid (bel_end HB.out hb)
        clear hF hb z1 bX bC
        go_upto_region 5 with fail
        obtain ⟨W4, hW⟩ : ∃ X, X = w3.alloc (.cells #[.slice none 0 0, .int .i64 0, .bool false, .int .i64 0, .int .i64 0] 55) := ⟨_, rfl⟩
        rw [← hW]
        have hb : Below w3.heap.size w3 W4 := by rw [hW]; exact (Below.refl _ _).alloc (Nat.le_refl _) _
        replace bR := bR.on hb
        replace HB := Lib.hid (bel_end HB.out hb)
        clear hW hb
        have bR_0 := bR.cell 0 rfl
        have bR_1 := bR.cell 1 rfl
        have bR_2 := bR.cell 2 rfl
        have bR_3 := bR.cell 3 rfl
        have bR_4 := bR.cell 4 rfl
        have bR_5 := bR.cell 5 rfl
        have bR_6 := bR.cell 6 rfl
        have bR_7 := bR.cell 7 rfl
        have bR_8 := bR.cell 8 rfl
        have bR_9 := bR.cell 9 rfl
        have bR_f0 := bR.frozen 0
        have bR_f1 := bR.frozen 1
        have bR_f2 := bR.frozen 2
        have bR_f3 := bR.frozen 3
        have bR_f4 := bR.frozen 4
        have bR_f5 := bR.frozen 5
        have bR_f6 := bR.frozen 6
        have bR_f7 := bR.frozen 7
        have bR_f8 := bR.frozen 8
        have bR_f9 := bR.frozen 9
        have bR_l := bR.lt
        go_wp2
        clear bR_0 bR_1 bR_2 bR_3 bR_4 bR_5 bR_6 bR_7 bR_8 bR_9 bR_f0 bR_f1 bR_f2 bR_f3 bR_f4 bR_f5 bR_f6 bR_f7 bR_f8 bR_f9 bR_l
        generalize hX : World.setCell _ _ _ = W9
        have hb : Below w.heap.size w W9 := by rw [← hX]; exact ((((((((((HB.out.setCell (p := ⟨w.heap.size + 1 + 1, 0, none⟩) (by dsimp only; omega) _).setCell (p := ⟨w.heap.size + 1 + 1, 1, none⟩) (by dsimp only; omega) _).setCell (p := ⟨w.heap.size + 1 + 1, 2, none⟩) (by dsimp only; omega) _).setCell (p := ⟨w.heap.size + 1 + 1, 3, none⟩) (by dsimp only; omega) _).setCell (p := ⟨w.heap.size + 1 + 1, 4, none⟩) (by dsimp only; omega) _).setCell (p := ⟨w.heap.size + 1 + 1, 5, none⟩) (by dsimp only; omega) _).setCell (p := ⟨w.heap.size + 1 + 1, 6, none⟩) (by dsimp only; omega) _).setCell (p := ⟨w.heap.size + 1 + 1, 7, none⟩) (by dsimp only; omega) _).setCell (p := ⟨w.heap.size + 1 + 1, 8, none⟩) (by dsimp only; omega) _).setCell (p := ⟨w.heap.size + 1 + 1, 9, none⟩) (by dsimp only; omega) _)
        have bR9 : Bk W9 (w.heap.size + 1 + 1) #[.slice none 0 0, .int .i64 0, .bool false, .int .i64 0, .int .i64 0, .slice none 0 0, .int .i64 0, .bool false, .int .i64 0, .int .i64 0] 57 := by rw [← hX]; exact bk_set10 bR _ _ _ _ _ _ _ _ _ _
        have HB9 := Lib.hid hb
        clear hX hb
        have r0 := bR9.cell 0 rfl
        have r1 := bR9.cell 1 rfl
        have r2 := bR9.cell 2 rfl
        have r3 := bR9.cell 3 rfl
        have r4 := bR9.cell 4 rfl
        have r5 := bR9.cell 5 rfl
        have r6 := bR9.cell 6 rfl
        have r7 := bR9.cell 7 rfl
        have r8 := bR9.cell 8 rfl
        have r9 := bR9.cell 9 rfl
        exact bodyPost_ret (v := .tuple #[.agg #[.slice none 0 0, .int .i64 0, .bool false, .int .i64 0, .int .i64 0, .slice none 0 0, .int .i64 0, .bool false, .int .i64 0, .int .i64 0], .int .i64 q1]) (by simp [results, Tryz.results17, go_sem, r0, r1, r2, r3, r4, r5, r6, r7, r8, r9]) rfl (Or.inr ⟨HQ.out, by rw [HC.out], HB9.out⟩)
      case pos =>
        subst z1
        obtain ⟨g1, c1, rfl, hS⟩ : ∃ g1 c1, e = .returned (.tuple #[.agg #[.slice (some ⟨g1, 0, none⟩) N c1, .int .i64 (k1 : Int), .bool d1, .int .i64 l1, .int .i64 h1], .int .i64 0]) ∧ RowG w1 81 5 g1 c1 N (rowL f1 N) w3 := by
          rcases hF with ⟨-, e1⟩ | ⟨e0, -⟩
          · exact e1
          · exact absurd rfl e0
        have H1 := Lib.hid (hS.down HB.out)
        have hb := hS.bel
        have lR := bR.lt
        have lg1 := hS.lo
        have n1R : ¬ g1 = w.heap.size + 1 + 1 := by omega
        replace bX := bX.on hb
        replace bC := bC.on hb
        replace bR := bR.on hb
        replace HB := Lib.hid (bel_end HB.out hb)
        clear hF hb hS lR lg1
        go_upto_region 6 with fail
        obtain ⟨W4, hW⟩ : ∃ X, X = w3.alloc (.cells #[.slice (some ⟨g1, 0, none⟩) N c1, .int .i64 (k1 : Int), .bool d1, .int .i64 l1, .int .i64 h1] 55) := ⟨_, rfl⟩
        rw [← hW]
        obtain ⟨gA, hgA⟩ : ∃ u, u = w3.heap.size := ⟨_, rfl⟩
        have bA : Bk W4 gA #[.slice (some ⟨g1, 0, none⟩) N c1, .int .i64 (k1 : Int), .bool d1, .int .i64 l1, .int .i64 h1] 55 := by rw [hW]; exact Bk.new' hgA
        have hb : Below w3.heap.size w3 W4 := by rw [hW]; exact (Below.refl _ _).alloc (Nat.le_refl _) _
        try rw [← hgA]
        replace bX := bX.on hb
        replace bC := bC.on hb
        replace bR := bR.on hb
        replace H1 := Lib.hid (H1.out.on hb)
        replace HB := Lib.hid (bel_end HB.out hb)
        clear hW hb hgA
        have bX_0 := bX.cell 0 rfl
        have bX_1 := bX.cell 1 rfl
        have bX_2 := bX.cell 2 rfl
        have bX_3 := bX.cell 3 rfl
        have bX_l := bX.lt
        have bC_0 := bC.cell 0 rfl
        have bC_1 := bC.cell 1 rfl
        have bC_2 := bC.cell 2 rfl
        have bC_3 := bC.cell 3 rfl
        have bC_4 := bC.cell 4 rfl
        have bC_5 := bC.cell 5 rfl
        have bC_l := bC.lt
        go_wp2_with fail
        (with_reducible refine Calls.mono (KR2.out _ HB.out) ?_)
        rintro e w5 hF
        clear bX_0 bX_1 bX_2 bX_3 bX_l
        clear bC_0 bC_1 bC_2 bC_3 bC_4 bC_5 bC_l
        clear bX bC
        by_cases z2 : q2 = 0
        case neg =>
          have HC : Hid (rsC dd de 0 q2 = q2) := Lib.hid (by unfold rsC; rw [g, if_pos rfl, if_pos rfl])
          have HQ : Hid (¬ rsC dd de 0 q2 = 0) := Lib.hid (by rw [HC.out]; exact z2)
          obtain ⟨rfl, hb⟩ : e = .returned (.tuple #[.agg #[.slice none 0 0, .int .i64 0, .bool false, .int .i64 0, .int .i64 0], .int .i64 q2]) ∧ Below W4.heap.size W4 w5 := by
            rcases hF with ⟨h0, -⟩ | ⟨-, e1, e2⟩
            · exact absurd h0 z2
            · exact ⟨e1, e2⟩
          have y2 : (q2 != 0) = true := by simpa using z2
          replace bR := bR.on hb
          replace HB := Lib.hid (bel_end HB.out hb)
          clear hF hb z2 H1 bA
          go_upto_region 8 with fail
          obtain ⟨W6, hW⟩ : ∃ X, X = w5.alloc (.cells #[.slice none 0 0, .int .i64 0, .bool false, .int .i64 0, .int .i64 0] 55) := ⟨_, rfl⟩
          rw [← hW]
          have hb : Below w5.heap.size w5 W6 := by rw [hW]; exact (Below.refl _ _).alloc (Nat.le_refl _) _
          replace bR := bR.on hb
          replace HB := Lib.hid (bel_end HB.out hb)
          clear hW hb
          have bR_0 := bR.cell 0 rfl
          have bR_1 := bR.cell 1 rfl
          have bR_2 := bR.cell 2 rfl
          have bR_3 := bR.cell 3 rfl
          have bR_4 := bR.cell 4 rfl
          have bR_5 := bR.cell 5 rfl
          have bR_6 := bR.cell 6 rfl
          have bR_7 := bR.cell 7 rfl
          have bR_8 := bR.cell 8 rfl
          have bR_9 := bR.cell 9 rfl
          have bR_f0 := bR.frozen 0
          have bR_f1 := bR.frozen 1
          have bR_f2 := bR.frozen 2
          have bR_f3 := bR.frozen 3
          have bR_f4 := bR.frozen 4
          have bR_f5 := bR.frozen 5
          have bR_f6 := bR.frozen 6
          have bR_f7 := bR.frozen 7
          have bR_f8 := bR.frozen 8
          have bR_f9 := bR.frozen 9
          have bR_l := bR.lt
          go_wp2
          clear bR_0 bR_1 bR_2 bR_3 bR_4 bR_5 bR_6 bR_7 bR_8 bR_9 bR_f0 bR_f1 bR_f2 bR_f3 bR_f4 bR_f5 bR_f6 bR_f7 bR_f8 bR_f9 bR_l
          generalize hX : World.setCell _ _ _ = W9
          have hb : Below w.heap.size w W9 := by rw [← hX]; exact ((((((((((HB.out.setCell (p := ⟨w.heap.size + 1 + 1, 0, none⟩) (by dsimp only; omega) _).setCell (p := ⟨w.heap.size + 1 + 1, 1, none⟩) (by dsimp only; omega) _).setCell (p := ⟨w.heap.size + 1 + 1, 2, none⟩) (by dsimp only; omega) _).setCell (p := ⟨w.heap.size + 1 + 1, 3, none⟩) (by dsimp only; omega) _).setCell (p := ⟨w.heap.size + 1 + 1, 4, none⟩) (by dsimp only; omega) _).setCell (p := ⟨w.heap.size + 1 + 1, 5, none⟩) (by dsimp only; omega) _).setCell (p := ⟨w.heap.size + 1 + 1, 6, none⟩) (by dsimp only; omega) _).setCell (p := ⟨w.heap.size + 1 + 1, 7, none⟩) (by dsimp only; omega) _).setCell (p := ⟨w.heap.size + 1 + 1, 8, none⟩) (by dsimp only; omega) _).setCell (p := ⟨w.heap.size + 1 + 1, 9, none⟩) (by dsimp only; omega) _)
          have bR9 : Bk W9 (w.heap.size + 1 + 1) #[.slice none 0 0, .int .i64 0, .bool false, .int .i64 0, .int .i64 0, .slice none 0 0, .int .i64 0, .bool false, .int .i64 0, .int .i64 0] 57 := by rw [← hX]; exact bk_set10 bR _ _ _ _ _ _ _ _ _ _
          have HB9 := Lib.hid hb
          clear hX hb
          have r0 := bR9.cell 0 rfl
          have r1 := bR9.cell 1 rfl
          have r2 := bR9.cell 2 rfl
          have r3 := bR9.cell 3 rfl
          have r4 := bR9.cell 4 rfl
          have r5 := bR9.cell 5 rfl
          have r6 := bR9.cell 6 rfl
          have r7 := bR9.cell 7 rfl
          have r8 := bR9.cell 8 rfl
          have r9 := bR9.cell 9 rfl
          exact bodyPost_ret (v := .tuple #[.agg #[.slice none 0 0, .int .i64 0, .bool false, .int .i64 0, .int .i64 0, .slice none 0 0, .int .i64 0, .bool false, .int .i64 0, .int .i64 0], .int .i64 q2]) (by simp [results, Tryz.results17, go_sem, r0, r1, r2, r3, r4, r5, r6, r7, r8, r9]) rfl (Or.inr ⟨HQ.out, by rw [HC.out], HB9.out⟩)
        case pos =>
          subst z2
          have HC : Hid (rsC dd de 0 0 = 0) := Lib.hid (by unfold rsC; rw [g, if_pos rfl, if_pos rfl])
          obtain ⟨g2, c2, rfl, hS⟩ : ∃ g2 c2, e = .returned (.tuple #[.agg #[.slice (some ⟨g2, 0, none⟩) N c2, .int .i64 (k2 : Int), .bool d2, .int .i64 l2, .int .i64 h2], .int .i64 0]) ∧ RowG W4 81 5 g2 c2 N (rowL f2 N) w5 := by
            rcases hF with ⟨-, e1⟩ | ⟨e0, -⟩
            · exact e1
            · exact absurd rfl e0
          have H2 := Lib.hid (hS.down HB.out)
          have hb := hS.bel
          have lR := bR.lt
          have lg2 := hS.lo
          have n2R : ¬ g2 = w.heap.size + 1 + 1 := by omega
          replace bA := bA.on hb
          replace bR := bR.on hb
          replace H1 := Lib.hid (H1.out.on hb)
          replace HB := Lib.hid (bel_end HB.out hb)
          clear hF hb hS lR lg2
          go_upto_region 9 with fail
          obtain ⟨W6, hW⟩ : ∃ X, X = w5.alloc (.cells #[.slice (some ⟨g2, 0, none⟩) N c2, .int .i64 (k2 : Int), .bool d2, .int .i64 l2, .int .i64 h2] 55) := ⟨_, rfl⟩
          rw [← hW]
          obtain ⟨gE, hgE⟩ : ∃ u, u = w5.heap.size := ⟨_, rfl⟩
          have bE : Bk W6 gE #[.slice (some ⟨g2, 0, none⟩) N c2, .int .i64 (k2 : Int), .bool d2, .int .i64 l2, .int .i64 h2] 55 := by rw [hW]; exact Bk.new' hgE
          have hb : Below w5.heap.size w5 W6 := by rw [hW]; exact (Below.refl _ _).alloc (Nat.le_refl _) _
          try rw [← hgE]
          replace bA := bA.on hb
          replace bR := bR.on hb
          replace H1 := Lib.hid (H1.out.on hb)
          replace H2 := Lib.hid (H2.out.on hb)
          replace HB := Lib.hid (bel_end HB.out hb)
          clear hW hb hgE
          have bA_0 := bA.cell 0 rfl
          have bA_1 := bA.cell 1 rfl
          have bA_2 := bA.cell 2 rfl
          have bA_3 := bA.cell 3 rfl
          have bA_4 := bA.cell 4 rfl
          have bA_l := bA.lt
          have bE_0 := bE.cell 0 rfl
          have bE_1 := bE.cell 1 rfl
          have bE_2 := bE.cell 2 rfl
          have bE_3 := bE.cell 3 rfl
          have bE_4 := bE.cell 4 rfl
          have bE_l := bE.lt
          have bR_0 := bR.cell 0 rfl
          have bR_1 := bR.cell 1 rfl
          have bR_2 := bR.cell 2 rfl
          have bR_3 := bR.cell 3 rfl
          have bR_4 := bR.cell 4 rfl
          have bR_5 := bR.cell 5 rfl
          have bR_6 := bR.cell 6 rfl
          have bR_7 := bR.cell 7 rfl
          have bR_8 := bR.cell 8 rfl
          have bR_9 := bR.cell 9 rfl
          have bR_f0 := bR.frozen 0
          have bR_f1 := bR.frozen 1
          have bR_f2 := bR.frozen 2
          have bR_f3 := bR.frozen 3
          have bR_f4 := bR.frozen 4
          have bR_f5 := bR.frozen 5
          have bR_f6 := bR.frozen 6
          have bR_f7 := bR.frozen 7
          have bR_f8 := bR.frozen 8
          have bR_f9 := bR.frozen 9
          have bR_l := bR.lt
          go_wp2
          clear bA_0 bA_1 bA_2 bA_3 bA_4 bA_l
          clear bE_0 bE_1 bE_2 bE_3 bE_4 bE_l
          clear bR_0 bR_1 bR_2 bR_3 bR_4 bR_5 bR_6 bR_7 bR_8 bR_9 bR_f0 bR_f1 bR_f2 bR_f3 bR_f4 bR_f5 bR_f6 bR_f7 bR_f8 bR_f9 bR_l
          generalize hX : World.setCell _ _ _ = W9
          have hb : Below w.heap.size w W9 := by rw [← hX]; exact ((((((((((HB.out.setCell (p := ⟨w.heap.size + 1 + 1, 0, none⟩) (by dsimp only; omega) _).setCell (p := ⟨w.heap.size + 1 + 1, 1, none⟩) (by dsimp only; omega) _).setCell (p := ⟨w.heap.size + 1 + 1, 2, none⟩) (by dsimp only; omega) _).setCell (p := ⟨w.heap.size + 1 + 1, 3, none⟩) (by dsimp only; omega) _).setCell (p := ⟨w.heap.size + 1 + 1, 4, none⟩) (by dsimp only; omega) _).setCell (p := ⟨w.heap.size + 1 + 1, 5, none⟩) (by dsimp only; omega) _).setCell (p := ⟨w.heap.size + 1 + 1, 6, none⟩) (by dsimp only; omega) _).setCell (p := ⟨w.heap.size + 1 + 1, 7, none⟩) (by dsimp only; omega) _).setCell (p := ⟨w.heap.size + 1 + 1, 8, none⟩) (by dsimp only; omega) _).setCell (p := ⟨w.heap.size + 1 + 1, 9, none⟩) (by dsimp only; omega) _)
          have bR9 : Bk W9 (w.heap.size + 1 + 1) #[.slice (some ⟨g1, 0, none⟩) N c1, .int .i64 (k1 : Int), .bool d1, .int .i64 l1, .int .i64 h1, .slice (some ⟨g2, 0, none⟩) N c2, .int .i64 (k2 : Int), .bool d2, .int .i64 l2, .int .i64 h2] 57 := by rw [← hX]; exact bk_set10 bR _ _ _ _ _ _ _ _ _ _
          have HS1 := Lib.hid (show RowG w 81 5 g1 c1 N (rowL f1 N) W9 from RowG.at_ H1.out (by rw [← hX]; exact heap_far10 (by omega) _ _ _ _ _ _ _ _ _ _) hb)
          have HS2 := Lib.hid (show RowG w 81 5 g2 c2 N (rowL f2 N) W9 from RowG.at_ H2.out (by rw [← hX]; exact heap_far10 (by omega) _ _ _ _ _ _ _ _ _ _) hb)
          have HB9 := Lib.hid hb
          clear hX hb
          have r0 := bR9.cell 0 rfl
          have r1 := bR9.cell 1 rfl
          have r2 := bR9.cell 2 rfl
          have r3 := bR9.cell 3 rfl
          have r4 := bR9.cell 4 rfl
          have r5 := bR9.cell 5 rfl
          have r6 := bR9.cell 6 rfl
          have r7 := bR9.cell 7 rfl
          have r8 := bR9.cell 8 rfl
          have r9 := bR9.cell 9 rfl
          exact bodyPost_ret (v := .tuple #[.agg #[.slice (some ⟨g1, 0, none⟩) N c1, .int .i64 (k1 : Int), .bool d1, .int .i64 l1, .int .i64 h1, .slice (some ⟨g2, 0, none⟩) N c2, .int .i64 (k2 : Int), .bool d2, .int .i64 l2, .int .i64 h2], .int .i64 0]) (by simp [results, Tryz.results17, go_sem, r0, r1, r2, r3, r4, r5, r6, r7, r8, r9]) rfl (by rw [HC.out]; exact Or.inl ⟨rfl, w, w, g1, c1, g2, c2, rfl, HS1.out, HS2.out, HB9.out⟩)
end Go.Proofs.YtgecbfbmmbfnmaaGreat
