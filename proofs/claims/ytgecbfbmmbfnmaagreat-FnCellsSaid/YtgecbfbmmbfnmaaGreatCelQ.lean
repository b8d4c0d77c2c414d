import Derived.Test.YtgecbfbmmbfnmaaGreatCelP
import Derived.Test.YtgecbfbmmbfnmaaGreatCelM
import Derived.Test.YtgecbfbmmbfnmaaGreatDir
import Derived.Handy
import Derived.Outline
import Derived.LoopTactic
import Derived.Deep.RegionHeld3
import Derived.Deep.DeepCutAuto
import Derived.Deep.RegionWith
namespace Go.Proofs.YtgecbfbmmbfnmaaGreat
/- The contract of the program's CellVerdict. -/
open Go.ChangeShapes Go.WideShapes Go.ChangeAt Go.RowKit Go.Shelf Num
set_option linter.unusedVariables false
set_option linter.unusedSimpArgs false

/-- the verdict on a cell and its error -/
def cvT (zs ys : List Int) (src c s h x y z n kn ds : Int) : Int × Int :=
  if dirB c s h && dirB x y z then (if eofT zs ys src n kn ds = 0 then (if rsC (decide (0 < s)) (decide (0 < y)) (tcod zs ys src c s h n) (tcod zs ys src x y z n) = 0 then vdR (hsB zs ys src.toNat c s h x y z n.toNat) (enT zs ys src.toNat c s h x y z n.toNat) ((runS zs ys src.toNat c h (fst0 src.toNat s) n.toNat).k : Int) (runS zs ys src.toNat c h (fst0 src.toNat s) n.toNat).lo (runS zs ys src.toNat c h (fst0 src.toNat s) n.toNat).hi (runS zs ys src.toNat x z (fst0 src.toNat y) n.toNat).lo (runS zs ys src.toNat x z (fst0 src.toNat y) n.toNat).hi kn ds else (0, rsC (decide (0 < s)) (decide (0 < y)) (tcod zs ys src c s h n) (tcod zs ys src x y z n))) else (0, eofT zs ys src n kn ds)) else (0, 1)
set_option maxRecDepth 100000 in
set_option maxHeartbeats 8000000 in
theorem icv_any (w : World) (a b : Option Addr) (ca cb : Nat) (zs ys : List Int) (src c s h x y z n kn ds : Int) (hp : Prof w w.heap.size a b zs ys) :
    Calls Tryz.prog 6 #[.agg #[.slice a zs.length ca, .slice b ys.length cb], .int .i64 src, .agg #[.int .i64 c, .int .i64 s, .int .i64 h], .agg #[.int .i64 x, .int .i64 y, .int .i64 z], .int .i64 n, .int .i64 kn, .int .i64 ds] w fun e w' => e = .returned (.tuple #[.int .i64 (cvT zs ys src c s h x y z n kn ds).1, .int .i64 (cvT zs ys src c s h x y z n kn ds).2]) ∧ Below w.heap.size w w' := by
  have HP := Lib.hid hp
  obtain ⟨e1, he1⟩ : ∃ u, dirB c s h = u := ⟨_, rfl⟩
  have K1 : Hid (∀ W : World, Calls Tryz.prog 15 #[.agg #[.int .i64 c, .int .i64 s, .int .i64 h]] W fun e w' => e = .returned (.bool e1) ∧ Below W.heap.size W w') := Lib.hid (fun W => by have := idr_any c s h W; rwa [he1] at this)
  obtain ⟨e2, he2⟩ : ∃ u, dirB x y z = u := ⟨_, rfl⟩
  have K2 : Hid (∀ W : World, Calls Tryz.prog 15 #[.agg #[.int .i64 x, .int .i64 y, .int .i64 z]] W fun e w' => e = .returned (.bool e2) ∧ Below W.heap.size W w') := Lib.hid (fun W => by have := idr_any x y z W; rwa [he2] at this)
  obtain ⟨q0, hq0⟩ : ∃ u, eofT zs ys src n kn ds = u := ⟨_, rfl⟩
  have KE : Hid (∀ W : World, Below w.heap.size w W → Calls Tryz.prog 16 #[.agg #[.slice a zs.length ca, .slice b ys.length cb, .int .i64 src, .int .i64 n], .agg #[.int .i64 kn, .int .i64 ds]] W fun e w' => e = .returned (.int .i64 q0) ∧ Below W.heap.size W w') := Lib.hid (fun W hb => by have := efo_any W a b ca cb zs ys src n kn ds (HP.out.on hb); rwa [hq0] at this)
  have KR : Hid (∀ W : World, Below w.heap.size w W → Calls Tryz.prog 17 #[.agg #[.slice a zs.length ca, .slice b ys.length cb, .int .i64 src, .int .i64 n], .agg #[.int .i64 c, .int .i64 s, .int .i64 h, .int .i64 x, .int .i64 y, .int .i64 z]] W (RsP W (stpC a b ca cb zs ys src.toNat c s h) (stpC a b ca cb zs ys src.toNat x y z) (runS zs ys src.toNat c h (fst0 src.toNat s) n.toNat) (runS zs ys src.toNat x z (fst0 src.toNat y) n.toNat) (rsC (decide (0 < s)) (decide (0 < y)) (tcod zs ys src c s h n) (tcod zs ys src x y z n)) n.toNat)) := Lib.hid (fun W hb => rts_any W a b ca cb zs ys src c s h x y z n (HP.out.on hb))
  obtain ⟨T, hT⟩ : ∃ u, cvT zs ys src c s h x y z n kn ds = u := ⟨_, rfl⟩
  have HT := hT
  unfold cvT at HT
  rw [he1, he2, hq0] at HT
  rw [hT]
  clear hT he1 he2 hq0 hp
  cases e1
  case false =>
    have HC := Lib.hid HT.symm
    simp only [Bool.false_and, Bool.false_eq_true, if_false] at HC
    clear HT
    go_enter Tryz.func6, Tryz.ntmps6
    go_upto_region 1 with fail
    generalize hW : World.alloc _ _ = W
    have bX : Bk W (w.heap.size) #[.slice a zs.length ca, .slice b ys.length cb] 26 := by rw [← hW]; repeat (first | (refine Bk.new' ?_; (simp; done)) | refine Bk.alloc ?_ _)
    have bD : Bk W (w.heap.size + 1) #[.int .i64 c, .int .i64 s, .int .i64 h] 28 := by rw [← hW]; repeat (first | (refine Bk.new' ?_; (simp; done)) | refine Bk.alloc ?_ _)
    have bE : Bk W (w.heap.size + 1 + 1) #[.int .i64 x, .int .i64 y, .int .i64 z] 28 := by rw [← hW]; repeat (first | (refine Bk.new' ?_; (simp; done)) | refine Bk.alloc ?_ _)
    have HB : Hid (Below w.heap.size w W) := Lib.hid (by rw [← hW]; exact (by repeat (first | exact Below.refl _ _ | (refine Below.alloc ?_ (by simp <;> omega) _) | (refine Below.setCell ?_ (by simp <;> omega) _) | (refine Below.drew ?_) | (refine bel_drewN ?_ _))))
    clear hW
    have bD_0 := bD.cell 0 rfl
    have bD_1 := bD.cell 1 rfl
    have bD_2 := bD.cell 2 rfl
    have bD_l := bD.lt
    go_wp2_with fail
    (with_reducible refine Calls.mono (K1.out _) ?_)
    rintro e w1 ⟨rfl, hb⟩
    clear bD_0 bD_1 bD_2 bD_l
    replace bX := bX.on hb
    replace bD := bD.on hb
    replace bE := bE.on hb
    replace HB := Lib.hid (bel_end HB.out hb)
    clear hb
    clear K1
    go_wp2
    go_ret2
    exact ⟨by rw [HC.out]; rfl, HB.out⟩
  case true =>
    go_enter Tryz.func6, Tryz.ntmps6
    go_upto_region 1 with fail
    generalize hW : World.alloc _ _ = W
    have bX : Bk W (w.heap.size) #[.slice a zs.length ca, .slice b ys.length cb] 26 := by rw [← hW]; repeat (first | (refine Bk.new' ?_; (simp; done)) | refine Bk.alloc ?_ _)
    have bD : Bk W (w.heap.size + 1) #[.int .i64 c, .int .i64 s, .int .i64 h] 28 := by rw [← hW]; repeat (first | (refine Bk.new' ?_; (simp; done)) | refine Bk.alloc ?_ _)
    have bE : Bk W (w.heap.size + 1 + 1) #[.int .i64 x, .int .i64 y, .int .i64 z] 28 := by rw [← hW]; repeat (first | (refine Bk.new' ?_; (simp; done)) | refine Bk.alloc ?_ _)
    have HB : Hid (Below w.heap.size w W) := Lib.hid (by rw [← hW]; exact (by repeat (first | exact Below.refl _ _ | (refine Below.alloc ?_ (by simp <;> omega) _) | (refine Below.setCell ?_ (by simp <;> omega) _) | (refine Below.drew ?_) | (refine bel_drewN ?_ _))))
    clear hW
    have bD_0 := bD.cell 0 rfl
    have bD_1 := bD.cell 1 rfl
    have bD_2 := bD.cell 2 rfl
    have bD_l := bD.lt
    go_wp2_with fail
    (with_reducible refine Calls.mono (K1.out _) ?_)
    rintro e w1 ⟨rfl, hb⟩
    clear bD_0 bD_1 bD_2 bD_l
    replace bX := bX.on hb
    replace bD := bD.on hb
    replace bE := bE.on hb
    replace HB := Lib.hid (bel_end HB.out hb)
    clear hb
    clear K1
    have bE_0 := bE.cell 0 rfl
    have bE_1 := bE.cell 1 rfl
    have bE_2 := bE.cell 2 rfl
    have bE_l := bE.lt
    go_wp2_with fail
    (with_reducible refine Calls.mono (K2.out _) ?_)
    rintro e w2 ⟨rfl, hb⟩
    clear bE_0 bE_1 bE_2 bE_l
    replace bX := bX.on hb
    replace bD := bD.on hb
    replace bE := bE.on hb
    replace HB := Lib.hid (bel_end HB.out hb)
    clear hb
    clear K2
    cases e2
    case false =>
      have HC := Lib.hid HT.symm
      simp only [Bool.true_and, Bool.false_eq_true, if_false] at HC
      clear HT
      go_wp2
      go_ret2
      exact ⟨by rw [HC.out]; rfl, HB.out⟩
    case true =>
      simp only [Bool.and_self, if_true] at HT
      have bX_0 := bX.cell 0 rfl
      have bX_1 := bX.cell 1 rfl
      have bX_l := bX.lt
      go_upto_region 4 with fail
      obtain ⟨W3, hW⟩ : ∃ X, X = (w2.alloc (.cells #[.slice a zs.length ca, .slice b ys.length cb, .int .i64 src, .int .i64 n] 49)).alloc (.cells #[.int .i64 kn, .int .i64 ds] 51) := ⟨_, rfl⟩
      rw [← hW]
      obtain ⟨gS, hgS⟩ : ∃ u, u = w2.heap.size := ⟨_, rfl⟩
      have bS : Bk W3 gS #[.slice a zs.length ca, .slice b ys.length cb, .int .i64 src, .int .i64 n] 49 := by rw [hW]; exact (Bk.new' hgS).alloc _
      have bQ : Bk W3 (gS + 1) #[.int .i64 kn, .int .i64 ds] 51 := by rw [hW]; exact Bk.new' (by rw [hgS]; simp)
      have hb : Below w2.heap.size w2 W3 := by rw [hW]; exact (by repeat (first | exact Below.refl _ _ | (refine Below.alloc ?_ (by simp <;> omega) _) | (refine Below.setCell ?_ (by simp <;> omega) _) | (refine Below.drew ?_) | (refine bel_drewN ?_ _)))
      try rw [← hgS]
      clear hW hgS
      clear bX_0 bX_1 bX_l
      replace bX := bX.on hb
      replace bD := bD.on hb
      replace bE := bE.on hb
      replace HB := Lib.hid (bel_end HB.out hb)
      clear hb
      have bS_0 := bS.cell 0 rfl
      have bS_1 := bS.cell 1 rfl
      have bS_2 := bS.cell 2 rfl
      have bS_3 := bS.cell 3 rfl
      have bS_l := bS.lt
      have bQ_0 := bQ.cell 0 rfl
      have bQ_1 := bQ.cell 1 rfl
      have bQ_l := bQ.lt
      go_wp2_with fail
      (with_reducible refine Calls.mono (KE.out _ HB.out) ?_)
      rintro e w4 ⟨rfl, hb⟩
      clear bS_0 bS_1 bS_2 bS_3 bS_l
      clear bQ_0 bQ_1 bQ_l
      replace bS := bS.on hb
      replace bQ := bQ.on hb
      replace bX := bX.on hb
      replace bD := bD.on hb
      replace bE := bE.on hb
      replace HB := Lib.hid (bel_end HB.out hb)
      clear hb
      clear KE
      by_cases z0 : q0 = 0
      case neg =>
        rw [if_neg z0] at HT
        have HC := Lib.hid HT.symm
        have y0 : (q0 != 0) = true := by simpa using z0
        clear HT z0
        go_wp2
        go_ret2
        exact ⟨by rw [HC.out]; rfl, HB.out⟩
      case pos =>
        subst z0
        rw [if_pos rfl] at HT
        have bS_0 := bS.cell 0 rfl
        have bS_1 := bS.cell 1 rfl
        have bS_2 := bS.cell 2 rfl
        have bS_3 := bS.cell 3 rfl
        have bS_l := bS.lt
        have bD_0 := bD.cell 0 rfl
        have bD_1 := bD.cell 1 rfl
        have bD_2 := bD.cell 2 rfl
        have bD_l := bD.lt
        have bE_0 := bE.cell 0 rfl
        have bE_1 := bE.cell 1 rfl
        have bE_2 := bE.cell 2 rfl
        have bE_l := bE.lt
        go_wp2_with fail
        (with_reducible refine Calls.mono (KR.out _ HB.out) ?_)
        rintro e w5 hF
        clear bS_0 bS_1 bS_2 bS_3 bS_l
        clear bD_0 bD_1 bD_2 bD_l
        clear bE_0 bE_1 bE_2 bE_l
        clear KR bS
        by_cases hq : rsC (decide (0 < s)) (decide (0 < y)) (tcod zs ys src c s h n) (tcod zs ys src x y z n) = 0
        case neg =>
          rw [if_neg hq] at HT
          have HC := Lib.hid HT.symm
          clear HT
          obtain ⟨rfl, hb⟩ : e = .returned (.tuple #[.agg #[.slice none 0 0, .int .i64 0, .bool false, .int .i64 0, .int .i64 0, .slice none 0 0, .int .i64 0, .bool false, .int .i64 0, .int .i64 0], .int .i64 (rsC (decide (0 < s)) (decide (0 < y)) (tcod zs ys src c s h n) (tcod zs ys src x y z n))]) ∧ Below w4.heap.size w4 w5 := (by rcases hF with ⟨h0, -⟩ | ⟨-, g1, g2⟩; exact absurd h0 hq; exact ⟨g1, g2⟩)
          obtain ⟨q, hqq⟩ : ∃ u, rsC (decide (0 < s)) (decide (0 < y)) (tcod zs ys src c s h n) (tcod zs ys src x y z n) = u := ⟨_, rfl⟩
          rw [hqq] at HC hq ⊢
          have y0 : (q != 0) = true := by simpa using hq
          clear hF hqq hq bX bD bE
          replace bQ := bQ.on hb
          replace HB := Lib.hid (bel_end HB.out hb)
          clear hb
          go_upto_region 8 with fail
          obtain ⟨W6, hW⟩ : ∃ X, X = w5.alloc (.cells #[.slice none 0 0, .int .i64 0, .bool false, .int .i64 0, .int .i64 0, .slice none 0 0, .int .i64 0, .bool false, .int .i64 0, .int .i64 0] 57) := ⟨_, rfl⟩
          rw [← hW]
          have hb : Below w5.heap.size w5 W6 := by rw [hW]; exact (Below.refl _ _).alloc (Nat.le_refl _) _
          clear hW
          replace bQ := bQ.on hb
          replace HB := Lib.hid (bel_end HB.out hb)
          clear hb
          go_wp2
          go_ret2
          exact ⟨by rw [HC.out]; rfl, HB.out⟩
        case pos =>
          rw [if_pos hq] at HT
          obtain ⟨-, t1, t2⟩ := rsC_0 hq
          obtain ⟨i, N, rfl, rfl, hN, r, ok1⟩ := tcod_ok t1
          obtain ⟨i2, N2, hi2, hN2, -, q, ok2⟩ := tcod_ok t2
          obtain rfl : i = i2 := by omega
          obtain rfl : N = N2 := by omega
          rw [Int.toNat_natCast, Int.toNat_natCast] at HT hF
          obtain ⟨⟨k1, d1, l1, h1⟩, hx1⟩ : ∃ u, runS zs ys i c h (fst0 i s) N = u := ⟨_, rfl⟩
          obtain ⟨⟨k2, d2, l2, h2⟩, hx2⟩ : ∃ u, runS zs ys i x z (fst0 i y) N = u := ⟨_, rfl⟩
          rw [hx1, hx2] at hF HT
          dsimp only at HT
          obtain ⟨v1, v2, g1, c1, g2, c2, rfl, r1, r2, hb⟩ : ∃ v1 v2 g1 c1 g2 c2, e = .returned (.tuple #[.agg #[.slice (some ⟨g1, 0, none⟩) N c1, .int .i64 (k1 : Int), .bool d1, .int .i64 l1, .int .i64 h1, .slice (some ⟨g2, 0, none⟩) N c2, .int .i64 (k2 : Int), .bool d2, .int .i64 l2, .int .i64 h2], .int .i64 0]) ∧ RowG v1 81 5 g1 c1 N (rowL (stpC a b ca cb zs ys i c s h) N) w5 ∧ RowG v2 81 5 g2 c2 N (rowL (stpC a b ca cb zs ys i x y z) N) w5 ∧ Below w4.heap.size w4 w5 := (by rcases hF with ⟨-, g0⟩ | ⟨g0, -⟩; exact g0; exact absurd hq g0)
          obtain ⟨H, hH⟩ : ∃ u, hsB zs ys i c s h x y z N = u := ⟨_, rfl⟩
          obtain ⟨U, hU⟩ : ∃ u, enT zs ys i c s h x y z N = u := ⟨_, rfl⟩
          rw [hH, hU] at HT
          have HPw := Lib.hid (HP.out.on (bel_end HB.out hb))
          have KV : Hid (∀ W : World, Below w5.heap.size w5 W → Calls Tryz.prog 18 #[.agg #[.slice (some ⟨g1, 0, none⟩) N c1, .int .i64 (k1 : Int), .bool d1, .int .i64 l1, .int .i64 h1, .slice (some ⟨g2, 0, none⟩) N c2, .int .i64 (k2 : Int), .bool d2, .int .i64 l2, .int .i64 h2], .agg #[.int .i64 kn, .int .i64 ds]] W fun e w' => e = .returned (.tuple #[.int .i64 (vdR H U (k1 : Int) l1 h1 l2 h2 kn ds).1, .int .i64 (vdR H U (k1 : Int) l1 h1 l2 h2 kn ds).2]) ∧ Below W.heap.size W w') := Lib.hid (fun W hbW => vdf_any W g1 c1 g2 c2 N (k1 : Int) l1 h1 (k2 : Int) l2 h2 kn ds d1 d2 H U (fun W' hb' => by have := hoh_any W' v1 v2 a b ca cb zs ys i N g1 c1 g2 c2 c s h x y z (k1 : Int) l1 h1 (k2 : Int) l2 h2 d1 d2 hN (r1.on (bel_end hbW hb')) (r2.on (bel_end hbW hb')); rwa [hH] at this) (fun W' hb' => by have := ecl_any W' v1 v2 a b ca cb zs ys i N g1 c1 g2 c2 c s h x y z (k1 : Int) l1 h1 (k2 : Int) l2 h2 d1 d2 hN (HPw.out.on (bel_end hbW hb')) r q ok1 ok2 (r1.on (bel_end hbW hb')) (r2.on (bel_end hbW hb')); rwa [hU] at this))
          obtain ⟨⟨P1, P2⟩, hPP⟩ : ∃ u, vdR H U (k1 : Int) l1 h1 l2 h2 kn ds = u := ⟨_, rfl⟩
          rw [hPP] at HT KV
          have HC := Lib.hid HT.symm
          clear HT hPP hF hq t1 t2 hN r ok1 q ok2 hx1 hx2 hi2 hN2 hH hU HPw bX bD bE
          replace bQ := bQ.on hb
          replace HB := Lib.hid (bel_end HB.out hb)
          clear hb
          go_upto_region 10 with fail
          obtain ⟨W6, hW⟩ : ∃ X, X = w5.alloc (.cells #[.slice (some ⟨g1, 0, none⟩) N c1, .int .i64 (k1 : Int), .bool d1, .int .i64 l1, .int .i64 h1, .slice (some ⟨g2, 0, none⟩) N c2, .int .i64 (k2 : Int), .bool d2, .int .i64 l2, .int .i64 h2] 57) := ⟨_, rfl⟩
          rw [← hW]
          obtain ⟨gT, hgT⟩ : ∃ u, u = w5.heap.size := ⟨_, rfl⟩
          have bT : Bk W6 gT #[.slice (some ⟨g1, 0, none⟩) N c1, .int .i64 (k1 : Int), .bool d1, .int .i64 l1, .int .i64 h1, .slice (some ⟨g2, 0, none⟩) N c2, .int .i64 (k2 : Int), .bool d2, .int .i64 l2, .int .i64 h2] 57 := by rw [hW]; exact Bk.new' hgT
          have hb : Below w5.heap.size w5 W6 := by rw [hW]; exact (Below.refl _ _).alloc (Nat.le_refl _) _
          have HV := Lib.hid hb
          try rw [← hgT]
          clear hW hgT r1 r2
          replace bQ := bQ.on hb
          replace HB := Lib.hid (bel_end HB.out hb)
          clear hb
          have bT_0 := bT.cell 0 rfl
          have bT_1 := bT.cell 1 rfl
          have bT_2 := bT.cell 2 rfl
          have bT_3 := bT.cell 3 rfl
          have bT_4 := bT.cell 4 rfl
          have bT_5 := bT.cell 5 rfl
          have bT_6 := bT.cell 6 rfl
          have bT_7 := bT.cell 7 rfl
          have bT_8 := bT.cell 8 rfl
          have bT_9 := bT.cell 9 rfl
          have bT_l := bT.lt
          have bQ_0 := bQ.cell 0 rfl
          have bQ_1 := bQ.cell 1 rfl
          have bQ_l := bQ.lt
          go_wp2_with fail
          (with_reducible refine Calls.mono (KV.out _ HV.out) ?_)
          rintro e w7 ⟨rfl, hb⟩
          clear bT_0 bT_1 bT_2 bT_3 bT_4 bT_5 bT_6 bT_7 bT_8 bT_9 bT_l
          clear bQ_0 bQ_1 bQ_l
          replace HB := Lib.hid (bel_end HB.out hb)
          clear hb bT bQ HV KV
          go_wp2
          go_ret2
          exact ⟨by rw [HC.out]; rfl, HB.out⟩
end Go.Proofs.YtgecbfbmmbfnmaaGreat
