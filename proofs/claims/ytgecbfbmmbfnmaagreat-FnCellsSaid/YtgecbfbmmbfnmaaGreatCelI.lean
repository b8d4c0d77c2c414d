import Derived.Test.YtgecbfbmmbfnmaaGreatCelG
import Derived.Test.YtgecbfbmmbfnmaaGreatCelH
import Derived.Handy
import Derived.Outline
import Derived.LoopTactic
import Derived.Deep.RegionHeld3
import Derived.Deep.DeepCutAuto
import Derived.Deep.RegionWith
namespace Go.Proofs.YtgecbfbmmbfnmaaGreat
/- The contract of the model's CellRange. -/
open Go.ChangeShapes Go.WideShapes Go.ChangeAt Go.RowKit Go.Shelf Num
set_option linter.unusedVariables false
set_option linter.unusedSimpArgs false

theorem mcT_0 {zs ys : List Int} {src c s h x y z n : Int} (e : mcT zs ys src c s h x y z n = 0) : ∃ i N : Nat, src = (i : Int) ∧ n = (N : Int) ∧ N ≤ 100 ∧ RyOk zs ys i c s h ∧ RyOk zs ys i x y z := by
  unfold mcT at e
  cases hP : prfB zs ys <;> cases h1 : dirB c s h <;> cases h2 : dirB x y z <;> cases hK : hkB zs src <;> cases hI : inB n 0 100 <;> rw [hP, h1, h2, hK, hI] at e <;> simp at e
  have g := hkB_t hK
  have g2 := inB_t hI
  exact ⟨src.toNat, n.toNat, by omega, by omega, by omega, ⟨Okp.of hP, dirB_t h1, by omega⟩, ⟨Okp.of hP, dirB_t h2, by omega⟩⟩

set_option maxRecDepth 100000 in
set_option maxHeartbeats 4000000 in
theorem scr_any (w : World) (a b : Option Addr) (ca cb : Nat) (zs ys : List Int) (src c s h x y z n : Int) (hp : Prof w w.heap.size a b zs ys) :
    Calls Tryz.prog 9 #[.agg #[.slice a zs.length ca, .slice b ys.length cb], .int .i64 src, .agg #[.int .i64 c, .int .i64 s, .int .i64 h], .agg #[.int .i64 x, .int .i64 y, .int .i64 z], .int .i64 n] w fun e w' => e = .returned (.tuple #[.agg #[.int .i64 (mrgT zs ys src c s h x y z n).1, .int .i64 (mrgT zs ys src c s h x y z n).2.1], .int .i64 (mrgT zs ys src c s h x y z n).2.2]) ∧ Below w.heap.size w w' := by
  have HP := Lib.hid hp
  have KC : Hid (∀ W : World, Below w.heap.size w W → Calls Tryz.prog 19 #[.agg #[.slice a zs.length ca, .slice b ys.length cb], .int .i64 src, .agg #[.int .i64 c, .int .i64 s, .int .i64 h], .agg #[.int .i64 x, .int .i64 y, .int .i64 z], .int .i64 n] W fun e w' => e = .returned (.int .i64 (mcT zs ys src c s h x y z n)) ∧ Below W.heap.size W w') := Lib.hid (fun W hb => lc8_any W a b ca cb zs ys src c s h x y z n (HP.out.on hb))
  obtain ⟨T, hT⟩ : ∃ u, mrgT zs ys src c s h x y z n = u := ⟨_, rfl⟩
  have HT := hT
  unfold mrgT at HT
  rw [hT]
  clear hT hp
  by_cases hq : mcT zs ys src c s h x y z n = 0
  case neg =>
    rw [if_neg hq] at HT
    have HC := Lib.hid HT.symm
    obtain ⟨q, hqq⟩ : ∃ u, mcT zs ys src c s h x y z n = u := ⟨_, rfl⟩
    rw [hqq] at HC hq KC
    have y0 : (q != 0) = true := by simpa using hq
    clear hqq hq HT
    go_enter Tryz.func9, Tryz.ntmps9
    go_upto_region 1 with fail
    generalize hW : World.alloc _ _ = W
    have bX : Bk W (w.heap.size) #[.slice a zs.length ca, .slice b ys.length cb] 26 := by rw [← hW]; repeat (first | (refine Bk.new' ?_; (simp; done)) | refine Bk.alloc ?_ _)
    have bD : Bk W (w.heap.size + 1) #[.int .i64 c, .int .i64 s, .int .i64 h] 28 := by rw [← hW]; repeat (first | (refine Bk.new' ?_; (simp; done)) | refine Bk.alloc ?_ _)
    have bE : Bk W (w.heap.size + 1 + 1) #[.int .i64 x, .int .i64 y, .int .i64 z] 28 := by rw [← hW]; repeat (first | (refine Bk.new' ?_; (simp; done)) | refine Bk.alloc ?_ _)
    have bR : Bk W (w.heap.size + 1 + 1 + 1) #[.int .i64 0, .int .i64 0] 34 := by rw [← hW]; repeat (first | (refine Bk.new' ?_; (simp; done)) | refine Bk.alloc ?_ _)
    have HB : Hid (Below w.heap.size w W) := Lib.hid (by rw [← hW]; exact (by repeat (first | exact Below.refl _ _ | (refine Below.alloc ?_ (by simp <;> omega) _) | (refine Below.setCell ?_ (by simp <;> omega) _) | (refine Below.drew ?_) | (refine bel_drewN ?_ _))))
    clear hW
    have bX_0 := bX.cell 0 rfl
    have bX_1 := bX.cell 1 rfl
    have bX_l := bX.lt
    have bD_0 := bD.cell 0 rfl
    have bD_1 := bD.cell 1 rfl
    have bD_2 := bD.cell 2 rfl
    have bD_l := bD.lt
    have bE_0 := bE.cell 0 rfl
    have bE_1 := bE.cell 1 rfl
    have bE_2 := bE.cell 2 rfl
    have bE_l := bE.lt
    go_wp2_with fail
    (with_reducible refine Calls.mono (KC.out _ HB.out) ?_)
    rintro e w1 ⟨rfl, hb⟩
    clear bX_0 bX_1 bX_l
    clear bD_0 bD_1 bD_2 bD_l
    clear bE_0 bE_1 bE_2 bE_l
    replace bX := bX.on hb
    replace bD := bD.on hb
    replace bE := bE.on hb
    replace bR := bR.on hb
    replace HB := Lib.hid (bel_end HB.out hb)
    clear hb
    clear KC
    have bR_0 := bR.cell 0 rfl
    have bR_1 := bR.cell 1 rfl
    have bR_f0 := bR.frozen 0
    have bR_f1 := bR.frozen 1
    have bR_l := bR.lt
    go_wp2
    exact bodyPost_ret (v := .tuple #[.agg #[.int .i64 0, .int .i64 0], .int .i64 q]) (by simp [results, Tryz.results9, go_sem, bR_0, bR_1]) rfl ⟨by rw [HC.out], (by repeat (first | exact HB.out | (refine Below.setCell ?_ (by simp <;> omega) _) | (refine Below.alloc ?_ (by simp <;> omega) _) | (refine Below.drew ?_)))⟩
  case pos =>
    rw [if_pos hq] at HT
    obtain ⟨i, N, rfl, rfl, hN, r, q⟩ := mcT_0 hq
    rw [hq] at KC
    rw [Int.toNat_natCast, Int.toNat_natCast] at HT
    have KT : Hid (∀ W : World, Below w.heap.size w W → Calls Tryz.prog 21 #[.agg #[.slice a zs.length ca, .slice b ys.length cb], .int .i64 (i : Int), .agg #[.int .i64 c, .int .i64 s, .int .i64 h], .agg #[.int .i64 x, .int .i64 y, .int .i64 z], .int .i64 (N : Int)] W (T8P W zs ys i c s h x y z N)) := Lib.hid (fun W hb => tr8_any W a b ca cb zs ys i N c s h x y z hN (HP.out.on hb) r q)
    clear hq hN r q
    go_enter Tryz.func9, Tryz.ntmps9
    go_upto_region 1 with fail
    generalize hW : World.alloc _ _ = W
    have bX : Bk W (w.heap.size) #[.slice a zs.length ca, .slice b ys.length cb] 26 := by rw [← hW]; repeat (first | (refine Bk.new' ?_; (simp; done)) | refine Bk.alloc ?_ _)
    have bD : Bk W (w.heap.size + 1) #[.int .i64 c, .int .i64 s, .int .i64 h] 28 := by rw [← hW]; repeat (first | (refine Bk.new' ?_; (simp; done)) | refine Bk.alloc ?_ _)
    have bE : Bk W (w.heap.size + 1 + 1) #[.int .i64 x, .int .i64 y, .int .i64 z] 28 := by rw [← hW]; repeat (first | (refine Bk.new' ?_; (simp; done)) | refine Bk.alloc ?_ _)
    have bR : Bk W (w.heap.size + 1 + 1 + 1) #[.int .i64 0, .int .i64 0] 34 := by rw [← hW]; repeat (first | (refine Bk.new' ?_; (simp; done)) | refine Bk.alloc ?_ _)
    have HB : Hid (Below w.heap.size w W) := Lib.hid (by rw [← hW]; exact (by repeat (first | exact Below.refl _ _ | (refine Below.alloc ?_ (by simp <;> omega) _) | (refine Below.setCell ?_ (by simp <;> omega) _) | (refine Below.drew ?_) | (refine bel_drewN ?_ _))))
    clear hW
    have bX_0 := bX.cell 0 rfl
    have bX_1 := bX.cell 1 rfl
    have bX_l := bX.lt
    have bD_0 := bD.cell 0 rfl
    have bD_1 := bD.cell 1 rfl
    have bD_2 := bD.cell 2 rfl
    have bD_l := bD.lt
    have bE_0 := bE.cell 0 rfl
    have bE_1 := bE.cell 1 rfl
    have bE_2 := bE.cell 2 rfl
    have bE_l := bE.lt
    go_wp2_with fail
    (with_reducible refine Calls.mono (KC.out _ HB.out) ?_)
    rintro e w1 ⟨rfl, hb⟩
    clear bX_0 bX_1 bX_l
    clear bD_0 bD_1 bD_2 bD_l
    clear bE_0 bE_1 bE_2 bE_l
    replace bX := bX.on hb
    replace bD := bD.on hb
    replace bE := bE.on hb
    replace bR := bR.on hb
    replace HB := Lib.hid (bel_end HB.out hb)
    clear hb
    clear KC
    have bX_0 := bX.cell 0 rfl
    have bX_1 := bX.cell 1 rfl
    have bX_l := bX.lt
    have bD_0 := bD.cell 0 rfl
    have bD_1 := bD.cell 1 rfl
    have bD_2 := bD.cell 2 rfl
    have bD_l := bD.lt
    have bE_0 := bE.cell 0 rfl
    have bE_1 := bE.cell 1 rfl
    have bE_2 := bE.cell 2 rfl
    have bE_l := bE.lt
    go_wp2_with fail
    (with_reducible refine Calls.mono (KT.out _ HB.out) ?_)
    rintro e w2 hF
    clear bX_0 bX_1 bX_l
    clear bD_0 bD_1 bD_2 bD_l
    clear bE_0 bE_1 bE_2 bE_l
    clear KT
    cases ht : tlB zs ys i c s h x y z N
    case false =>
      rw [ht] at HT
      have HC := Lib.hid HT.symm
      simp only [Bool.false_eq_true, if_false] at HC
      clear HT
      obtain ⟨rfl, hb⟩ : e = .returned (.tuple #[.agg #[.int .i64 0, .bool false, .int .i64 0, .int .i64 0, .int .i64 0, .bool false, .int .i64 0, .int .i64 0, .bool false, .int .i64 0, .int .i64 0], .int .i64 3]) ∧ Below w1.heap.size w1 w2 := (by rcases hF with ⟨h0, -⟩ | ⟨-, g1, g2⟩; exact absurd h0 (by rw [ht]; decide); exact ⟨g1, g2⟩)
      clear hF ht
      replace bX := bX.on hb
      replace bD := bD.on hb
      replace bE := bE.on hb
      replace bR := bR.on hb
      replace HB := Lib.hid (bel_end HB.out hb)
      clear hb
      go_upto_region 5 with fail
      obtain ⟨W3, hW⟩ : ∃ X, X = w2.alloc (.cells #[.int .i64 0, .bool false, .int .i64 0, .int .i64 0, .int .i64 0, .bool false, .int .i64 0, .int .i64 0, .bool false, .int .i64 0, .int .i64 0] 66) := ⟨_, rfl⟩
      rw [← hW]
      have hb : Below w2.heap.size w2 W3 := by rw [hW]; exact (Below.refl _ _).alloc (Nat.le_refl _) _
      clear hW
      replace bX := bX.on hb
      replace bD := bD.on hb
      replace bE := bE.on hb
      replace bR := bR.on hb
      replace HB := Lib.hid (bel_end HB.out hb)
      clear hb
      have bR_0 := bR.cell 0 rfl
      have bR_1 := bR.cell 1 rfl
      have bR_f0 := bR.frozen 0
      have bR_f1 := bR.frozen 1
      have bR_l := bR.lt
      go_wp2
      exact bodyPost_ret (v := .tuple #[.agg #[.int .i64 0, .int .i64 0], .int .i64 3]) (by simp [results, Tryz.results9, go_sem, bR_0, bR_1]) rfl ⟨by rw [HC.out], (by repeat (first | exact HB.out | (refine Below.setCell ?_ (by simp <;> omega) _) | (refine Below.alloc ?_ (by simp <;> omega) _) | (refine Below.drew ?_)))⟩
    case true =>
      rw [ht] at HT
      rw [if_pos rfl] at HT
      obtain ⟨rfl, hb⟩ : e = .returned (.tuple #[.agg #[.int .i64 ((runS zs ys i c h (fst0 i s) N).k : Int), .bool (runS zs ys i c h (fst0 i s) N).dn, .int .i64 (runS zs ys i c h (fst0 i s) N).lo, .int .i64 (runS zs ys i c h (fst0 i s) N).hi, .int .i64 ((runS zs ys i x z (fst0 i y) N).k : Int), .bool (runS zs ys i x z (fst0 i y) N).dn, .int .i64 (runS zs ys i x z (fst0 i y) N).lo, .int .i64 (runS zs ys i x z (fst0 i y) N).hi, .bool (hsB zs ys i c s h x y z N), .int .i64 (enS zs ys i c s h x y z N).1, .int .i64 (enS zs ys i c s h x y z N).2], .int .i64 0]) ∧ Below w1.heap.size w1 w2 := (by rcases hF with ⟨-, g0⟩ | ⟨g0, -⟩; exact g0; exact absurd ht (by rw [g0]; decide))
      obtain ⟨⟨u0, u1, u2, u3⟩, hx1⟩ : ∃ u, runS zs ys i c h (fst0 i s) N = u := ⟨_, rfl⟩
      obtain ⟨⟨u4, u5, u6, u7⟩, hx2⟩ : ∃ u, runS zs ys i x z (fst0 i y) N = u := ⟨_, rfl⟩
      rw [hx1, hx2]
      dsimp only
      clear hx1 hx2
      obtain ⟨sm, hm⟩ : ∃ u, hsB zs ys i c s h x y z N = u := ⟨_, rfl⟩
      obtain ⟨⟨A, E⟩, hS⟩ : ∃ u, enS zs ys i c s h x y z N = u := ⟨_, rfl⟩
      rw [hm, hS] at HT ⊢
      dsimp only at HT ⊢
      clear hm hS ht hF
      replace bX := bX.on hb
      replace bD := bD.on hb
      replace bE := bE.on hb
      replace bR := bR.on hb
      replace HB := Lib.hid (bel_end HB.out hb)
      clear hb
      go_upto_region 5 with fail
      obtain ⟨W3, hW⟩ : ∃ X, X = w2.alloc (.cells #[.int .i64 (u0 : Int), .bool u1, .int .i64 u2, .int .i64 u3, .int .i64 (u4 : Int), .bool u5, .int .i64 u6, .int .i64 u7, .bool sm, .int .i64 A, .int .i64 E] 66) := ⟨_, rfl⟩
      rw [← hW]
      obtain ⟨gT, hg⟩ : ∃ u, u = w2.heap.size := ⟨_, rfl⟩
      have bT : Bk W3 gT #[.int .i64 (u0 : Int), .bool u1, .int .i64 u2, .int .i64 u3, .int .i64 (u4 : Int), .bool u5, .int .i64 u6, .int .i64 u7, .bool sm, .int .i64 A, .int .i64 E] 66 := by rw [hW]; exact Bk.new' hg
      have hb : Below w2.heap.size w2 W3 := by rw [hW]; exact (Below.refl _ _).alloc (Nat.le_refl _) _
      try rw [← hg]
      clear hW hg
      replace bX := bX.on hb
      replace bD := bD.on hb
      replace bE := bE.on hb
      replace bR := bR.on hb
      replace HB := Lib.hid (bel_end HB.out hb)
      clear hb
      cases sm
      case false =>
        have HC := Lib.hid HT.symm
        simp only [Bool.false_eq_true, if_false] at HC
        clear HT
        have bT_0 := bT.cell 0 rfl
        have bT_1 := bT.cell 1 rfl
        have bT_2 := bT.cell 2 rfl
        have bT_3 := bT.cell 3 rfl
        have bT_4 := bT.cell 4 rfl
        have bT_5 := bT.cell 5 rfl
        have bT_6 := bT.cell 6 rfl
        have bT_7 := bT.cell 7 rfl
        have bT_8 := bT.cell 8 rfl
        have bT_9 := bT.cell 9 rfl
        have bT_10 := bT.cell 10 rfl
        have bT_l := bT.lt
        have bR_0 := bR.cell 0 rfl
        have bR_1 := bR.cell 1 rfl
        have bR_f0 := bR.frozen 0
        have bR_f1 := bR.frozen 1
        have bR_l := bR.lt
        go_wp2
        exact bodyPost_ret (v := .tuple #[.agg #[.int .i64 0, .int .i64 0], .int .i64 5]) (by simp [results, Tryz.results9, go_sem, bR_0, bR_1]) rfl ⟨by rw [HC.out], (by repeat (first | exact HB.out | (refine Below.setCell ?_ (by simp <;> omega) _) | (refine Below.alloc ?_ (by simp <;> omega) _) | (refine Below.drew ?_)))⟩
      case true =>
        rw [if_pos rfl] at HT
        have HC := Lib.hid HT.symm
        clear HT
        have bT_0 := bT.cell 0 rfl
        have bT_1 := bT.cell 1 rfl
        have bT_2 := bT.cell 2 rfl
        have bT_3 := bT.cell 3 rfl
        have bT_4 := bT.cell 4 rfl
        have bT_5 := bT.cell 5 rfl
        have bT_6 := bT.cell 6 rfl
        have bT_7 := bT.cell 7 rfl
        have bT_8 := bT.cell 8 rfl
        have bT_9 := bT.cell 9 rfl
        have bT_10 := bT.cell 10 rfl
        have bT_l := bT.lt
        have bR_0 := bR.cell 0 rfl
        have bR_1 := bR.cell 1 rfl
        have bR_f0 := bR.frozen 0
        have bR_f1 := bR.frozen 1
        have bR_l := bR.lt
        go_wp2
        exact bodyPost_ret (v := .tuple #[.agg #[.int .i64 A, .int .i64 E], .int .i64 0]) (by simp [results, Tryz.results9, go_sem, bR_0, bR_1]) rfl ⟨by rw [HC.out], (by repeat (first | exact HB.out | (refine Below.setCell ?_ (by simp <;> omega) _) | (refine Below.alloc ?_ (by simp <;> omega) _) | (refine Below.drew ?_)))⟩
end Go.Proofs.YtgecbfbmmbfnmaaGreat
