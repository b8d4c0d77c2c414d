import Derived.Test.YtgecbfbmmbfnmaaGreatCelE
import Derived.Test.YtgecbfbmmbfnmaaGreatDir
import Derived.Handy
import Derived.Outline
import Derived.LoopTactic
import Derived.Deep.RegionHeld3
import Derived.Deep.DeepCutAuto
import Derived.Deep.RegionWith
import Derived.Test.YtgecbfbmmbfnmaaGreatBdW
namespace Go.Proofs.YtgecbfbmmbfnmaaGreat
section
/- The contract of the program's CellRange. -/
open Go.ChangeShapes Go.WideShapes Go.ChangeAt Go.RowKit Go.Shelf Num
set_option linter.unusedVariables false
set_option linter.unusedSimpArgs false

theorem rsC_0 {dd de : Bool} {q1 q2 : Int} (e : rsC dd de q1 q2 = 0) : dd = de ∧ q1 = 0 ∧ q2 = 0 := by
  unfold rsC at e
  by_cases g : q1 = 0
  · subst g
    cases dd <;> cases de <;> simp_all
  · cases dd <;> cases de <;> simp_all
/-- the range of a cell and its error -/
def crgT (zs ys : List Int) (src c s h x y z n : Int) : Int × Int × Int :=
  if dirB c s h && dirB x y z then (if eoT zs ys src n = 0 then (if rsC (decide (0 < s)) (decide (0 < y)) (tcod zs ys src c s h n) (tcod zs ys src x y z n) = 0 then (if hsB zs ys src.toNat c s h x y z n.toNat then enT zs ys src.toNat c s h x y z n.toNat else (0, 0, 5)) else (0, 0, rsC (decide (0 < s)) (decide (0 < y)) (tcod zs ys src c s h n) (tcod zs ys src x y z n))) else (0, 0, eoT zs ys src n)) else (0, 0, 1)

set_option maxRecDepth 100000 in
set_option maxHeartbeats 8000000 in
theorem icr_any (w : World) (a b : Option Addr) (ca cb : Nat) (zs ys : List Int) (src c s h x y z n : Int) (hp : Prof w w.heap.size a b zs ys) :
    Calls Tryz.prog 8 #[.agg #[.slice a zs.length ca, .slice b ys.length cb], .int .i64 src, .agg #[.int .i64 c, .int .i64 s, .int .i64 h], .agg #[.int .i64 x, .int .i64 y, .int .i64 z], .int .i64 n] w fun e w' => e = .returned (.tuple #[.agg #[.int .i64 (crgT zs ys src c s h x y z n).1, .int .i64 (crgT zs ys src c s h x y z n).2.1], .int .i64 (crgT zs ys src c s h x y z n).2.2]) ∧ Below w.heap.size w w' := by
  have HP := Lib.hid hp
  obtain ⟨e1, he1⟩ : ∃ u, dirB c s h = u := ⟨_, rfl⟩
  have K1 : Hid (∀ W : World, Calls Tryz.prog 15 #[.agg #[.int .i64 c, .int .i64 s, .int .i64 h]] W fun e w' => e = .returned (.bool e1) ∧ Below W.heap.size W w') := Lib.hid (fun W => by have := idr_any c s h W; rwa [he1] at this)
  obtain ⟨e2, he2⟩ : ∃ u, dirB x y z = u := ⟨_, rfl⟩
  have K2 : Hid (∀ W : World, Calls Tryz.prog 15 #[.agg #[.int .i64 x, .int .i64 y, .int .i64 z]] W fun e w' => e = .returned (.bool e2) ∧ Below W.heap.size W w') := Lib.hid (fun W => by have := idr_any x y z W; rwa [he2] at this)
  obtain ⟨q0, hq0⟩ : ∃ u, eoT zs ys src n = u := ⟨_, rfl⟩
  have KE : Hid (∀ W : World, Below w.heap.size w W → Calls Tryz.prog 23 #[.agg #[.slice a zs.length ca, .slice b ys.length cb, .int .i64 src, .int .i64 n]] W fun e w' => e = .returned (.int .i64 q0) ∧ Below W.heap.size W w') := Lib.hid (fun W hb => by have := seo_any W a b ca cb zs ys src n (HP.out.on hb); rwa [hq0] at this)
  have KR : Hid (∀ W : World, Below w.heap.size w W → Calls Tryz.prog 17 #[.agg #[.slice a zs.length ca, .slice b ys.length cb, .int .i64 src, .int .i64 n], .agg #[.int .i64 c, .int .i64 s, .int .i64 h, .int .i64 x, .int .i64 y, .int .i64 z]] W (RsP W (stpC a b ca cb zs ys src.toNat c s h) (stpC a b ca cb zs ys src.toNat x y z) (runS zs ys src.toNat c h (fst0 src.toNat s) n.toNat) (runS zs ys src.toNat x z (fst0 src.toNat y) n.toNat) (rsC (decide (0 < s)) (decide (0 < y)) (tcod zs ys src c s h n) (tcod zs ys src x y z n)) n.toNat)) := Lib.hid (fun W hb => rts_any W a b ca cb zs ys src c s h x y z n (HP.out.on hb))
  obtain ⟨T, hT⟩ : ∃ u, crgT zs ys src c s h x y z n = u := ⟨_, rfl⟩
  have HT := hT
  unfold crgT at HT
  rw [he1, he2, hq0] at HT
  rw [hT]
  clear hT he1 he2 hq0 hp
  cases e1
  case false =>
    have HC := Lib.hid HT.symm
    simp only [Bool.false_and, Bool.false_eq_true, if_false] at HC
    clear HT
    go_enter Tryz.func8, Tryz.ntmps8
    go_upto_region 1 with fail
    generalize hW : World.alloc _ _ = W
    have bX : Bk W (w.heap.size) #[.slice a zs.length ca, .slice b ys.length cb] 26 := by rw [← hW]; repeat (first | (refine Bk.new' ?_; (simp; done)) | refine Bk.alloc ?_ _)
    have bD : Bk W (w.heap.size + 1) #[.int .i64 c, .int .i64 s, .int .i64 h] 28 := by rw [← hW]; repeat (first | (refine Bk.new' ?_; (simp; done)) | refine Bk.alloc ?_ _)
    have bE : Bk W (w.heap.size + 1 + 1) #[.int .i64 x, .int .i64 y, .int .i64 z] 28 := by rw [← hW]; repeat (first | (refine Bk.new' ?_; (simp; done)) | refine Bk.alloc ?_ _)
    have bR : Bk W (w.heap.size + 1 + 1 + 1) #[.int .i64 0, .int .i64 0] 34 := by rw [← hW]; repeat (first | (refine Bk.new' ?_; (simp; done)) | refine Bk.alloc ?_ _)
    have HB : Hid (Below w.heap.size w W) := Lib.hid (by rw [← hW]; exact (by repeat (first | exact Below.refl _ _ | (refine Below.alloc ?_ (by simp <;> omega) _) | (refine Below.setCell ?_ (by simp <;> omega) _) | (refine Below.drew ?_) | (refine bel_drewN ?_ _))))
    clear hW
    have bD_0 := bD.cell 0 rfl
    have bD_1 := bD.cell 1 rfl
    have bD_2 := bD.cell 2 rfl
    have bD_l := bD.lt
    go_wp2_with fail
    (with_reducible refine Calls.mono (K1.out _) ?_)
    rintro e w1 ⟨rfl, hb⟩
    clear bD_0 bD_1 bD_2 bD_l
    replace bX := bX.on hb
    replace bD := bD.on hb
    replace bE := bE.on hb
    replace bR := bR.on hb
    replace HB := Lib.hid (bel_end HB.out hb)
    clear hb
    clear K1
    have bR_0 := bR.cell 0 rfl
    have bR_1 := bR.cell 1 rfl
    have bR_f0 := bR.frozen 0
    have bR_f1 := bR.frozen 1
    have bR_l := bR.lt
    go_wp2
    exact bodyPost_ret (v := .tuple #[.agg #[.int .i64 0, .int .i64 0], .int .i64 1]) (by simp [results, Tryz.results8, go_sem, bR_0, bR_1]) rfl ⟨by rw [HC.out], (by repeat (first | exact HB.out | (refine Below.setCell ?_ (by simp <;> omega) _) | (refine Below.alloc ?_ (by simp <;> omega) _) | (refine Below.drew ?_)))⟩
  case true =>
    go_enter Tryz.func8, Tryz.ntmps8
    go_upto_region 1 with fail
    generalize hW : World.alloc _ _ = W
    have bX : Bk W (w.heap.size) #[.slice a zs.length ca, .slice b ys.length cb] 26 := by rw [← hW]; repeat (first | (refine Bk.new' ?_; (simp; done)) | refine Bk.alloc ?_ _)
    have bD : Bk W (w.heap.size + 1) #[.int .i64 c, .int .i64 s, .int .i64 h] 28 := by rw [← hW]; repeat (first | (refine Bk.new' ?_; (simp; done)) | refine Bk.alloc ?_ _)
    have bE : Bk W (w.heap.size + 1 + 1) #[.int .i64 x, .int .i64 y, .int .i64 z] 28 := by rw [← hW]; repeat (first | (refine Bk.new' ?_; (simp; done)) | refine Bk.alloc ?_ _)
    have bR : Bk W (w.heap.size + 1 + 1 + 1) #[.int .i64 0, .int .i64 0] 34 := by rw [← hW]; repeat (first | (refine Bk.new' ?_; (simp; done)) | refine Bk.alloc ?_ _)
    have HB : Hid (Below w.heap.size w W) := Lib.hid (by rw [← hW]; exact (by repeat (first | exact Below.refl _ _ | (refine Below.alloc ?_ (by simp <;> omega) _) | (refine Below.setCell ?_ (by simp <;> omega) _) | (refine Below.drew ?_) | (refine bel_drewN ?_ _))))
    clear hW
    have bD_0 := bD.cell 0 rfl
    have bD_1 := bD.cell 1 rfl
    have bD_2 := bD.cell 2 rfl
    have bD_l := bD.lt
    go_wp2_with fail
    (with_reducible refine Calls.mono (K1.out _) ?_)
    rintro e w1 ⟨rfl, hb⟩
    clear bD_0 bD_1 bD_2 bD_l
    replace bX := bX.on hb
    replace bD := bD.on hb
    replace bE := bE.on hb
    replace bR := bR.on hb
    replace HB := Lib.hid (bel_end HB.out hb)
    clear hb
    clear K1
    have bE_0 := bE.cell 0 rfl
    have bE_1 := bE.cell 1 rfl
    have bE_2 := bE.cell 2 rfl
    have bE_l := bE.lt
    go_wp2_with fail
    (with_reducible refine Calls.mono (K2.out _) ?_)
    rintro e w2 ⟨rfl, hb⟩
    clear bE_0 bE_1 bE_2 bE_l
    replace bX := bX.on hb
    replace bD := bD.on hb
    replace bE := bE.on hb
    replace bR := bR.on hb
    replace HB := Lib.hid (bel_end HB.out hb)
    clear hb
    clear K2
    cases e2
    case false =>
      have HC := Lib.hid HT.symm
      simp only [Bool.true_and, Bool.false_eq_true, if_false] at HC
      clear HT
      have bR_0 := bR.cell 0 rfl
      have bR_1 := bR.cell 1 rfl
      have bR_f0 := bR.frozen 0
      have bR_f1 := bR.frozen 1
      have bR_l := bR.lt
      go_wp2
      exact bodyPost_ret (v := .tuple #[.agg #[.int .i64 0, .int .i64 0], .int .i64 1]) (by simp [results, Tryz.results8, go_sem, bR_0, bR_1]) rfl ⟨by rw [HC.out], (by repeat (first | exact HB.out | (refine Below.setCell ?_ (by simp <;> omega) _) | (refine Below.alloc ?_ (by simp <;> omega) _) | (refine Below.drew ?_)))⟩
    case true =>
      simp only [Bool.and_self, if_true] at HT
      have bX_0 := bX.cell 0 rfl
      have bX_1 := bX.cell 1 rfl
      have bX_l := bX.lt
      go_upto_region 4 with fail
      obtain ⟨W3, hW⟩ : ∃ X, X = w2.alloc (.cells #[.slice a zs.length ca, .slice b ys.length cb, .int .i64 src, .int .i64 n] 49) := ⟨_, rfl⟩
      rw [← hW]
      obtain ⟨gS, hgS⟩ : ∃ u, u = w2.heap.size := ⟨_, rfl⟩
      have bS : Bk W3 gS #[.slice a zs.length ca, .slice b ys.length cb, .int .i64 src, .int .i64 n] 49 := by rw [hW]; exact Bk.new' hgS
      have hb : Below w2.heap.size w2 W3 := by rw [hW]; exact (Below.refl _ _).alloc (Nat.le_refl _) _
      try rw [← hgS]
      clear hW hgS
      clear bX_0 bX_1 bX_l
      replace bX := bX.on hb
      replace bD := bD.on hb
      replace bE := bE.on hb
      replace bR := bR.on hb
      replace HB := Lib.hid (bel_end HB.out hb)
      clear hb
      have bS_0 := bS.cell 0 rfl
      have bS_1 := bS.cell 1 rfl
      have bS_2 := bS.cell 2 rfl
      have bS_3 := bS.cell 3 rfl
      have bS_l := bS.lt
      go_wp2_with fail
      (with_reducible refine Calls.mono (KE.out _ HB.out) ?_)
      rintro e w4 ⟨rfl, hb⟩
      clear bS_0 bS_1 bS_2 bS_3 bS_l
      replace bS := bS.on hb
      replace bX := bX.on hb
      replace bD := bD.on hb
      replace bE := bE.on hb
      replace bR := bR.on hb
      replace HB := Lib.hid (bel_end HB.out hb)
      clear hb
      clear KE
      by_cases z0 : q0 = 0
      case neg =>
        rw [if_neg z0] at HT
        have HC := Lib.hid HT.symm
        have y0 : (q0 != 0) = true := by simpa using z0
        clear HT z0
        have bR_0 := bR.cell 0 rfl
        have bR_1 := bR.cell 1 rfl
        have bR_f0 := bR.frozen 0
        have bR_f1 := bR.frozen 1
        have bR_l := bR.lt
        go_wp2
        exact bodyPost_ret (v := .tuple #[.agg #[.int .i64 0, .int .i64 0], .int .i64 q0]) (by simp [results, Tryz.results8, go_sem, bR_0, bR_1]) rfl ⟨by rw [HC.out], (by repeat (first | exact HB.out | (refine Below.setCell ?_ (by simp <;> omega) _) | (refine Below.alloc ?_ (by simp <;> omega) _) | (refine Below.drew ?_)))⟩
      case pos =>
        subst z0
        rw [if_pos rfl] at HT
        have bS_0 := bS.cell 0 rfl
        have bS_1 := bS.cell 1 rfl
        have bS_2 := bS.cell 2 rfl
        have bS_3 := bS.cell 3 rfl
        have bS_l := bS.lt
        have bD_0 := bD.cell 0 rfl
        have bD_1 := bD.cell 1 rfl
        have bD_2 := bD.cell 2 rfl
        have bD_l := bD.lt
        have bE_0 := bE.cell 0 rfl
        have bE_1 := bE.cell 1 rfl
        have bE_2 := bE.cell 2 rfl
        have bE_l := bE.lt
        go_wp2_with fail
        (with_reducible refine Calls.mono (KR.out _ HB.out) ?_)
        rintro e w5 hF
        clear bS_0 bS_1 bS_2 bS_3 bS_l
        clear bD_0 bD_1 bD_2 bD_l
        clear bE_0 bE_1 bE_2 bE_l
        clear KR bS
        by_cases hq : rsC (decide (0 < s)) (decide (0 < y)) (tcod zs ys src c s h n) (tcod zs ys src x y z n) = 0
        case neg =>
          rw [if_neg hq] at HT
          have HC := Lib.hid HT.symm
          clear HT
          obtain ⟨rfl, hb⟩ : e = .returned (.tuple #[.agg #[.slice none 0 0, .int .i64 0, .bool false, .int .i64 0, .int .i64 0, .slice none 0 0, .int .i64 0, .bool false, .int .i64 0, .int .i64 0], .int .i64 (rsC (decide (0 < s)) (decide (0 < y)) (tcod zs ys src c s h n) (tcod zs ys src x y z n))]) ∧ Below w4.heap.size w4 w5 := (by rcases hF with ⟨h0, -⟩ | ⟨-, g1, g2⟩; exact absurd h0 hq; exact ⟨g1, g2⟩)
          obtain ⟨q, hqq⟩ : ∃ u, rsC (decide (0 < s)) (decide (0 < y)) (tcod zs ys src c s h n) (tcod zs ys src x y z n) = u := ⟨_, rfl⟩
          rw [hqq] at HC hq ⊢
          have y0 : (q != 0) = true := by simpa using hq
          clear hF hqq hq
          replace bX := bX.on hb
          replace bD := bD.on hb
          replace bE := bE.on hb
          replace bR := bR.on hb
          replace HB := Lib.hid (bel_end HB.out hb)
          clear hb
          go_upto_region 9 with fail
          obtain ⟨W6, hW⟩ : ∃ X, X = w5.alloc (.cells #[.slice none 0 0, .int .i64 0, .bool false, .int .i64 0, .int .i64 0, .slice none 0 0, .int .i64 0, .bool false, .int .i64 0, .int .i64 0] 57) := ⟨_, rfl⟩
          rw [← hW]
          have hb : Below w5.heap.size w5 W6 := by rw [hW]; exact (Below.refl _ _).alloc (Nat.le_refl _) _
          clear hW
          replace bX := bX.on hb
          replace bD := bD.on hb
          replace bE := bE.on hb
          replace bR := bR.on hb
          replace HB := Lib.hid (bel_end HB.out hb)
          clear hb
          have bR_0 := bR.cell 0 rfl
          have bR_1 := bR.cell 1 rfl
          have bR_f0 := bR.frozen 0
          have bR_f1 := bR.frozen 1
          have bR_l := bR.lt
          go_wp2
          exact bodyPost_ret (v := .tuple #[.agg #[.int .i64 0, .int .i64 0], .int .i64 q]) (by simp [results, Tryz.results8, go_sem, bR_0, bR_1]) rfl ⟨by rw [HC.out], (by repeat (first | exact HB.out | (refine Below.setCell ?_ (by simp <;> omega) _) | (refine Below.alloc ?_ (by simp <;> omega) _) | (refine Below.drew ?_)))⟩
        case pos =>
          rw [if_pos hq] at HT
          obtain ⟨-, t1, t2⟩ := rsC_0 hq
          obtain ⟨i, N, rfl, rfl, hN, r, ok1⟩ := tcod_ok t1
          obtain ⟨i2, N2, hi2, hN2, -, q, ok2⟩ := tcod_ok t2
          obtain rfl : i = i2 := by omega
          obtain rfl : N = N2 := by omega
          rw [Int.toNat_natCast, Int.toNat_natCast] at HT hF
          obtain ⟨⟨k1, d1, l1, h1⟩, hx1⟩ : ∃ u, runS zs ys i c h (fst0 i s) N = u := ⟨_, rfl⟩
          obtain ⟨⟨k2, d2, l2, h2⟩, hx2⟩ : ∃ u, runS zs ys i x z (fst0 i y) N = u := ⟨_, rfl⟩
          rw [hx1, hx2] at hF
          obtain ⟨v1, v2, g1, c1, g2, c2, rfl, r1, r2, hb⟩ : ∃ v1 v2 g1 c1 g2 c2, e = .returned (.tuple #[.agg #[.slice (some ⟨g1, 0, none⟩) N c1, .int .i64 (k1 : Int), .bool d1, .int .i64 l1, .int .i64 h1, .slice (some ⟨g2, 0, none⟩) N c2, .int .i64 (k2 : Int), .bool d2, .int .i64 l2, .int .i64 h2], .int .i64 0]) ∧ RowG v1 81 5 g1 c1 N (rowL (stpC a b ca cb zs ys i c s h) N) w5 ∧ RowG v2 81 5 g2 c2 N (rowL (stpC a b ca cb zs ys i x y z) N) w5 ∧ Below w4.heap.size w4 w5 := (by rcases hF with ⟨-, g0⟩ | ⟨g0, -⟩; exact g0; exact absurd hq g0)
          obtain ⟨H, hH⟩ : ∃ u, hsB zs ys i c s h x y z N = u := ⟨_, rfl⟩
          obtain ⟨U, hU⟩ : ∃ u, enT zs ys i c s h x y z N = u := ⟨_, rfl⟩
          have KH : Hid (∀ W : World, Below w5.heap.size w5 W → Calls Tryz.prog 24 #[.agg #[.slice (some ⟨g1, 0, none⟩) N c1, .int .i64 (k1 : Int), .bool d1, .int .i64 l1, .int .i64 h1, .slice (some ⟨g2, 0, none⟩) N c2, .int .i64 (k2 : Int), .bool d2, .int .i64 l2, .int .i64 h2]] W fun e w' => e = .returned (.bool H) ∧ Below W.heap.size W w') := Lib.hid (fun W hb => by have := hoh_any W v1 v2 a b ca cb zs ys i N g1 c1 g2 c2 c s h x y z (k1 : Int) l1 h1 (k2 : Int) l2 h2 d1 d2 hN (r1.on hb) (r2.on hb); rwa [hH] at this)
          have HPw := Lib.hid (HP.out.on (bel_end HB.out hb))
          have KN : Hid (∀ W : World, Below w5.heap.size w5 W → Calls Tryz.prog 25 #[.agg #[.slice (some ⟨g1, 0, none⟩) N c1, .int .i64 (k1 : Int), .bool d1, .int .i64 l1, .int .i64 h1, .slice (some ⟨g2, 0, none⟩) N c2, .int .i64 (k2 : Int), .bool d2, .int .i64 l2, .int .i64 h2]] W fun e w' => e = .returned (.tuple #[.agg #[.int .i64 U.1, .int .i64 U.2.1], .int .i64 U.2.2]) ∧ Below W.heap.size W w') := Lib.hid (fun W hb => by have := ecl_any W v1 v2 a b ca cb zs ys i N g1 c1 g2 c2 c s h x y z (k1 : Int) l1 h1 (k2 : Int) l2 h2 d1 d2 hN (HPw.out.on hb) r q ok1 ok2 (r1.on hb) (r2.on hb); rwa [hU] at this)
          obtain ⟨U1, U2, U3⟩ := U
          dsimp only at KN
          rw [hH, hU] at HT
          clear hF hq t1 t2 hN r ok1 q ok2 hx1 hx2 hi2 hN2 r1 r2 hH hU HPw
          replace bX := bX.on hb
          replace bD := bD.on hb
          replace bE := bE.on hb
          replace bR := bR.on hb
          replace HB := Lib.hid (bel_end HB.out hb)
          clear hb
          go_upto_region 10 with fail
          obtain ⟨W6, hW⟩ : ∃ X, X = w5.alloc (.cells #[.slice (some ⟨g1, 0, none⟩) N c1, .int .i64 (k1 : Int), .bool d1, .int .i64 l1, .int .i64 h1, .slice (some ⟨g2, 0, none⟩) N c2, .int .i64 (k2 : Int), .bool d2, .int .i64 l2, .int .i64 h2] 57) := ⟨_, rfl⟩
          rw [← hW]
          obtain ⟨gT, hgT⟩ : ∃ u, u = w5.heap.size := ⟨_, rfl⟩
          have bT : Bk W6 gT #[.slice (some ⟨g1, 0, none⟩) N c1, .int .i64 (k1 : Int), .bool d1, .int .i64 l1, .int .i64 h1, .slice (some ⟨g2, 0, none⟩) N c2, .int .i64 (k2 : Int), .bool d2, .int .i64 l2, .int .i64 h2] 57 := by rw [hW]; exact Bk.new' hgT
          have hb : Below w5.heap.size w5 W6 := by rw [hW]; exact (Below.refl _ _).alloc (Nat.le_refl _) _
          have HV := Lib.hid hb
          try rw [← hgT]
          clear hW hgT
          replace bX := bX.on hb
          replace bD := bD.on hb
          replace bE := bE.on hb
          replace bR := bR.on hb
          replace HB := Lib.hid (bel_end HB.out hb)
          clear hb
          have bT_0 := bT.cell 0 rfl
          have bT_1 := bT.cell 1 rfl
          have bT_2 := bT.cell 2 rfl
          have bT_3 := bT.cell 3 rfl
          have bT_4 := bT.cell 4 rfl
          have bT_5 := bT.cell 5 rfl
          have bT_6 := bT.cell 6 rfl
          have bT_7 := bT.cell 7 rfl
          have bT_8 := bT.cell 8 rfl
          have bT_9 := bT.cell 9 rfl
          have bT_l := bT.lt
          go_wp2_with fail
          (with_reducible refine Calls.mono (KH.out _ HV.out) ?_)
          rintro e w7 ⟨rfl, hb⟩
          clear bT_0 bT_1 bT_2 bT_3 bT_4 bT_5 bT_6 bT_7 bT_8 bT_9 bT_l
          replace bT := bT.on hb
          replace HV := Lib.hid (bel_end HV.out hb)
          replace bX := bX.on hb
          replace bD := bD.on hb
          replace bE := bE.on hb
          replace bR := bR.on hb
          replace HB := Lib.hid (bel_end HB.out hb)
          clear hb
          clear KH
          cases H
          case false =>
            have HC := Lib.hid HT.symm
            simp only [Bool.false_eq_true, if_false] at HC
            clear HT
            have bR_0 := bR.cell 0 rfl
            have bR_1 := bR.cell 1 rfl
            have bR_f0 := bR.frozen 0
            have bR_f1 := bR.frozen 1
            have bR_l := bR.lt
            go_wp2
            exact bodyPost_ret (v := .tuple #[.agg #[.int .i64 0, .int .i64 0], .int .i64 5]) (by simp [results, Tryz.results8, go_sem, bR_0, bR_1]) rfl ⟨by rw [HC.out], (by repeat (first | exact HB.out | (refine Below.setCell ?_ (by simp <;> omega) _) | (refine Below.alloc ?_ (by simp <;> omega) _) | (refine Below.drew ?_)))⟩
          case true =>
            rw [if_pos rfl] at HT
            have HC := Lib.hid HT.symm
            clear HT
            have bT_0 := bT.cell 0 rfl
            have bT_1 := bT.cell 1 rfl
            have bT_2 := bT.cell 2 rfl
            have bT_3 := bT.cell 3 rfl
            have bT_4 := bT.cell 4 rfl
            have bT_5 := bT.cell 5 rfl
            have bT_6 := bT.cell 6 rfl
            have bT_7 := bT.cell 7 rfl
            have bT_8 := bT.cell 8 rfl
            have bT_9 := bT.cell 9 rfl
            have bT_l := bT.lt
            go_wp2_with fail
            (with_reducible refine Calls.mono (KN.out _ HV.out) ?_)
            rintro e w8 ⟨rfl, hb⟩
            clear bT_0 bT_1 bT_2 bT_3 bT_4 bT_5 bT_6 bT_7 bT_8 bT_9 bT_l
            clear bT KN HV
            replace bX := bX.on hb
            replace bD := bD.on hb
            replace bE := bE.on hb
            replace bR := bR.on hb
            replace HB := Lib.hid (bel_end HB.out hb)
            clear hb
            have bR_0 := bR.cell 0 rfl
            have bR_1 := bR.cell 1 rfl
            have bR_f0 := bR.frozen 0
            have bR_f1 := bR.frozen 1
            have bR_l := bR.lt
            go_wp2
            exact bodyPost_ret (v := .tuple #[.agg #[.int .i64 U1, .int .i64 U2], .int .i64 U3]) (by simp [results, Tryz.results8, go_sem, bR_0, bR_1]) rfl ⟨by rw [HC.out], (by repeat (first | exact HB.out | (refine Below.setCell ?_ (by simp <;> omega) _) | (refine Below.alloc ?_ (by simp <;> omega) _) | (refine Below.drew ?_)))⟩
end
section
/- What the two sides compute of a cell is the same. -/
open Go.ChangeShapes Go.WideShapes Go.ChangeAt Go.RowKit Go.Shelf Num
set_option linter.unusedVariables false
set_option linter.unusedSimpArgs false
/-- the model's trace of a cell goes through n steps -/
def tlB (zs ys : List Int) (i : Nat) (c s h x y z : Int) : Nat → Bool
  | 0 => true
  | n + 1 => tlB zs ys i c s h x y z n && nxB zs ys i c h (runS zs ys i c h (fst0 i s) n) && nxB zs ys i x z (runS zs ys i x z (fst0 i y) n) && (valB (enS zs ys i c s h x y z (n + 1)).1 && valB (enS zs ys i c s h x y z (n + 1)).2)
/-- the model's code of a cell -/
def mcT (zs ys : List Int) (src c s h x y z n : Int) : Int :=
  if prfB zs ys && dirB c s h && dirB x y z then (if hkB zs src && inB n 0 100 then (if decide (0 < s) == decide (0 < y) then 0 else 5) else 2) else 1
/-- the model's range of a cell and its error -/
def mrgT (zs ys : List Int) (src c s h x y z n : Int) : Int × Int × Int :=
  if mcT zs ys src c s h x y z n = 0 then (if tlB zs ys src.toNat c s h x y z n.toNat then (if hsB zs ys src.toNat c s h x y z n.toNat then ((enS zs ys src.toNat c s h x y z n.toNat).1, (enS zs ys src.toNat c s h x y z n.toNat).2, 0) else (0, 0, 5)) else (0, 0, 3)) else (0, 0, mcT zs ys src c s h x y z n)
theorem enS_up {zs ys : List Int} {i : Nat} {c s h x y z : Int} (r : RyOk zs ys i c s h) (q : RyOk zs ys i x y z) {N : Nat} (e1 : okN zs ys i c h (fst0 i s) N = true) (e2 : okN zs ys i x z (fst0 i y) N = true) {n : Nat} (hn : n + 1 ≤ N) :
    (enS zs ys i c s h x y z n).1 ≤ (enS zs ys i c s h x y z (n + 1)).1 ∧ (enS zs ys i c s h x y z n).2 ≤ (enS zs ys i c s h x y z (n + 1)).2 := by
  have a1 := SOk.ad r (SOk.run r (SOk.first r) (okN_less e1 (show n ≤ N by omega)))
  have a2 := SOk.ad q (SOk.run q (SOk.first q) (okN_less e2 (show n ≤ N by omega)))
  show _ ≤ (enS zs ys i c s h x y z n).1 + mnI _ _ ∧ _ ≤ (enS zs ys i c s h x y z n).2 + mxI _ _
  unfold mnI mxI
  split <;> split <;> (constructor <;> omega)
theorem tlB_ok {zs ys : List Int} {i : Nat} {c s h x y z : Int} : ∀ {n : Nat}, tlB zs ys i c s h x y z n = true → okN zs ys i c h (fst0 i s) n = true ∧ okN zs ys i x z (fst0 i y) n = true ∧ valB (enS zs ys i c s h x y z n).1 = true ∧ valB (enS zs ys i c s h x y z n).2 = true
  | 0, _ => ⟨rfl, rfl, rfl, rfl⟩
  | n + 1, e => by
    unfold tlB at e
    simp only [Bool.and_eq_true] at e
    obtain ⟨⟨⟨g1, g2⟩, g3⟩, g4, g5⟩ := e
    obtain ⟨k1, k2, -, -⟩ := tlB_ok g1
    refine ⟨?_, ?_, g4, g5⟩
    · show (okN zs ys i c h (fst0 i s) n && nxB zs ys i c h (runS zs ys i c h (fst0 i s) n)) = true
      rw [k1, g2]; rfl
    · show (okN zs ys i x z (fst0 i y) n && nxB zs ys i x z (runS zs ys i x z (fst0 i y) n)) = true
      rw [k2, g3]; rfl
theorem valB_le {a b : Int} (h0 : 0 ≤ a) (h : a ≤ b) (hb : valB b = true) : valB a = true := by
  unfold valB at hb ⊢
  simp at hb ⊢
  omega
theorem tlB_of {zs ys : List Int} {i : Nat} {c s h x y z : Int} (r : RyOk zs ys i c s h) (q : RyOk zs ys i x y z) : ∀ {n : Nat}, okN zs ys i c h (fst0 i s) n = true → okN zs ys i x z (fst0 i y) n = true → valB (enS zs ys i c s h x y z n).1 = true → valB (enS zs ys i c s h x y z n).2 = true → tlB zs ys i c s h x y z n = true
  | 0, _, _, _, _ => rfl
  | n + 1, e1, e2, v1, v2 => by
    have u := enS_up r q e1 e2 (Nat.le_refl (n + 1))
    have p := enS_in r q e1 e2 n (by omega)
    have ih := tlB_of r q (okN_less e1 (show n ≤ n + 1 by omega)) (okN_less e2 (show n ≤ n + 1 by omega)) (valB_le p.1 u.1 v1) (valB_le (by omega) u.2 v2)
    have n1 : (okN zs ys i c h (fst0 i s) n && nxB zs ys i c h (runS zs ys i c h (fst0 i s) n)) = true := e1
    have n2 : (okN zs ys i x z (fst0 i y) n && nxB zs ys i x z (runS zs ys i x z (fst0 i y) n)) = true := e2
    rw [Bool.and_eq_true] at n1 n2
    unfold tlB
    rw [ih, n1.2, n2.2, v1, v2]
    rfl
theorem enS_two {zs ys : List Int} {i : Nat} {c s h x y z : Int} (r : RyOk zs ys i c s h) (q : RyOk zs ys i x y z) {N : Nat} (e1 : okN zs ys i c h (fst0 i s) N = true) (e2 : okN zs ys i x z (fst0 i y) N = true) : ∀ n : Nat, n ≤ N →
    (enS zs ys i c s h x y z n).2 ≤ (runS zs ys i c h (fst0 i s) n).hi + (runS zs ys i x z (fst0 i y) n).hi
  | 0, _ => by show (0 : Int) ≤ 0 + 0; omega
  | n + 1, hn => by
    have ih := enS_two r q e1 e2 n (by omega)
    have a1 := SOk.ad r (SOk.run r (SOk.first r) (okN_less e1 (show n ≤ N by omega)))
    have a2 := SOk.ad q (SOk.run q (SOk.first q) (okN_less e2 (show n ≤ N by omega)))
    show (enS zs ys i c s h x y z n).2 + mxI _ _ ≤ ((runS zs ys i c h (fst0 i s) n).hi + adHi zs ys i c h (runS zs ys i c h (fst0 i s) n).k (runS zs ys i c h (fst0 i s) n).dn) + ((runS zs ys i x z (fst0 i y) n).hi + adHi zs ys i x z (runS zs ys i x z (fst0 i y) n).k (runS zs ys i x z (fst0 i y) n).dn)
    unfold mxI
    split <;> omega
theorem hsB_self (zs ys : List Int) (i : Nat) (c s h : Int) : ∀ n, hsB zs ys i c s h c s h n = true
  | 0 => rfl
  | n + 1 => by unfold hsB; rw [hsB_self zs ys i c s h n]; simp
theorem tlB_no {zs ys : List Int} {i : Nat} {c s h x y z : Int} (r : RyOk zs ys i c s h) (q : RyOk zs ys i x y z) (hd : (decide (0 < s) == decide (0 < y)) = true) {n : Nat} (hn : n ≤ 100) (e1 : okN zs ys i c h (fst0 i s) n = true) (e2 : okN zs ys i x z (fst0 i y) n = true) (hs : hsB zs ys i c s h x y z n = false) : tlB zs ys i c s h x y z n = true := by
  have hne : z * c ≠ h * x := by
    intro e
    have g := (flat_iff r.od q.od).1 (by rw [Int.mul_comm c z, Int.mul_comm x h]; exact e)
    have s0 := r.od
    rcases g with ⟨rfl, rfl, rfl⟩ | ⟨rfl, rfl, rfl⟩
    · rw [hsB_self] at hs; cases hs
    · have hz := r.od.s0
      have hd' : (0 < s) ↔ (0 < -s) := by simpa using hd
      omega
  have t := two_up r q hne hn e1 e2
  have g := enS_two r q e1 e2 n (Nat.le_refl n)
  have p := enS_in r q e1 e2 n (Nat.le_refl n)
  have v2 : valB (enS zs ys i c s h x y z n).2 = true := by unfold valB; simp; omega
  exact tlB_of r q e1 e2 (valB_le p.1 p.2.1 v2) v2
theorem crg_eq (zs ys : List Int) (src c s h x y z n : Int) : crgT zs ys src c s h x y z n = mrgT zs ys src c s h x y z n := by
  unfold crgT mrgT mcT eoT
  cases hD1 : dirB c s h
  · cases prfB zs ys <;> rfl
  cases hD2 : dirB x y z
  · cases prfB zs ys <;> rfl
  cases hP : prfB zs ys
  · rfl
  cases hK : hkB zs src
  · rfl
  cases hI : inB n 0 100
  · rfl
  have hI2 : 0 ≤ n ∧ n ≤ 100 := inB_t hI
  have f1 : fcod zs ys src c s h = 0 := by unfold fcod rcod rcT; rw [hP, hD1, hK]; rfl
  have f2 : fcod zs ys src x y z = 0 := by unfold fcod rcod rcT; rw [hP, hD2, hK]; rfl
  obtain ⟨i, hi, r⟩ := fcod_0 f1
  obtain ⟨i2, hi2, q⟩ := fcod_0 f2
  obtain rfl : i = i2 := by omega
  subst hi
  obtain ⟨N, rfl⟩ : ∃ N : Nat, n = (N : Int) := ⟨n.toNat, by omega⟩
  have T1 : tcod zs ys (i : Int) c s h (N : Int) = if okN zs ys i c h (fst0 i s) N then 0 else 3 := by unfold tcod; rw [if_pos f1, hI, if_pos rfl]; rfl
  have T2 : tcod zs ys (i : Int) x y z (N : Int) = if okN zs ys i x z (fst0 i y) N then 0 else 3 := by unfold tcod; rw [if_pos f2, hI, if_pos rfl]; rfl
  rw [T1, T2, Int.toNat_natCast, Int.toNat_natCast]
  have hc0 : cdT true true = 0 := rfl
  cases hd : (decide (0 < s) == decide (0 < y))
  · have hr : ∀ a b : Int, rsC (decide (0 < s)) (decide (0 < y)) a b = 5 := by intro a b; unfold rsC; rw [hd]; rfl
    simp [hr, hc0]
  · have hr : ∀ a b : Int, rsC (decide (0 < s)) (decide (0 < y)) a b = if a = 0 then b else a := by intro a b; unfold rsC; rw [hd]; rfl
    simp only [hr, hc0, if_true, Bool.and_self]
    cases e1 : okN zs ys i c h (fst0 i s) N
    · have ht : tlB zs ys i c s h x y z N = false := by cases t : tlB zs ys i c s h x y z N with | false => rfl | true => exact absurd (tlB_ok t).1 (by rw [e1]; decide)
      simp [ht]
    · cases e2 : okN zs ys i x z (fst0 i y) N
      · have ht : tlB zs ys i c s h x y z N = false := by cases t : tlB zs ys i c s h x y z N with | false => rfl | true => exact absurd (tlB_ok t).2.1 (by rw [e2]; decide)
        simp [ht]
      · cases hs : hsB zs ys i c s h x y z N
        · have ht := tlB_no r q hd (show N ≤ 100 by omega) e1 e2 hs
          simp [ht]
        · unfold enT lim
          cases v1 : valB (enS zs ys i c s h x y z N).1
          · have ht : tlB zs ys i c s h x y z N = false := by cases t : tlB zs ys i c s h x y z N with | false => rfl | true => exact absurd (tlB_ok t).2.2.1 (by rw [v1]; decide)
            simp [ht]
          · cases v2 : valB (enS zs ys i c s h x y z N).2
            · have ht : tlB zs ys i c s h x y z N = false := by cases t : tlB zs ys i c s h x y z N with | false => rfl | true => exact absurd (tlB_ok t).2.2.2 (by rw [v2]; decide)
              simp [ht]
            · have ht := tlB_of r q e1 e2 v1 v2
              simp [ht]
end
end Go.Proofs.YtgecbfbmmbfnmaaGreat
