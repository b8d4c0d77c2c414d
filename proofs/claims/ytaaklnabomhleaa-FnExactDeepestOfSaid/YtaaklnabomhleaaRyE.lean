/- The greatest depth of a ray: the contract of the program's DeepestOf. -/
import Derived.Test.YtaaklnabomhleaaRyD
import Derived.Test.YtaaklnabomhleaaIvs
namespace Go.Proofs.Ytaaklnabomhleaa
open Go.ChangeShapes Go.WideShapes Go.ChangeAt Go.RowKit Go.Shelf Num
set_option linter.unusedVariables false
set_option linter.unusedSimpArgs false
theorem dpF_succ (zs ys : List Int) (i : Nat) (c h : Int) (x : RSt) (n : Nat) : dpF zs ys i c h x (n + 1) = (mx (dpF zs ys i c h x n).1 (dpA zs ys i c h (runS zs ys i c h x n)), mx (dpF zs ys i c h x n).2 (dpB zs ys i c h (runS zs ys i c h x n))) := rfl
set_option maxRecDepth 100000 in
set_option maxHeartbeats 8000000 in
theorem idp_any (w : World) (a b : Option Addr) (ca cb : Nat) (zs ys : List Int) (src c s h n : Int) (hp : Prof w w.heap.size a b zs ys) :
    Calls Try.prog 68 #[.agg #[.slice a zs.length ca, .slice b ys.length cb], .int .i64 src, .agg #[.int .i64 c, .int .i64 s, .int .i64 h], .int .i64 n] w fun e w' => e = .returned (.tuple #[.agg #[.int .i64 (dpT zs ys src c s h n).1, .int .i64 (dpT zs ys src c s h n).2], .int .i64 (tcod zs ys src c s h n)]) ∧ Below w.heap.size w w' := by
  have HP := Lib.hid hp
  have KF : Hid (∀ W : World, Below w.heap.size w W → Calls Try.prog 101 #[.agg #[.slice a zs.length ca, .slice b ys.length cb, .int .i64 src, .int .i64 c, .int .i64 s, .int .i64 h], .int .i64 n] W (FssP W (stpC a b ca cb zs ys src.toNat c s h) (tcod zs ys src c s h n) n.toNat)) := Lib.hid (fun W hb => fss_any W a b ca cb zs ys src c s h n (HP.out.on hb))
  by_cases hq : tcod zs ys src c s h n = 0
  case neg =>
    have H1 : Hid (dpT zs ys src c s h n = (0, 0)) := Lib.hid (by unfold dpT; rw [if_neg hq])
    have HQ := Lib.hid hq
    obtain ⟨q, hqq⟩ : ∃ q, tcod zs ys src c s h n = q := ⟨_, rfl⟩
    rw [hqq] at KF HQ ⊢
    rw [H1.out]
    have hq0 : (q != 0) = true := by have := HQ.out; simpa using this
    clear hqq hq hp
    go_enter Try.func68, Try.ntmps68
    go_wp2_with fail
    generalize hW : World.alloc _ _ = W
    have bR : Bk W (w.heap.size + 1 + 1) #[.int .i64 0, .int .i64 0] 48 := by rw [← hW]; repeat (first | (refine Bk.new' ?_; (simp; done)) | refine Bk.alloc ?_ _)
    have HB : Hid (Below w.heap.size w W) := Lib.hid (by rw [← hW]; exact (by repeat (first | exact Below.refl _ _ | (refine Below.alloc ?_ (by simp <;> omega) _) | (refine Below.setCell ?_ (by simp <;> omega) _) | (refine Below.drew ?_) | (refine bel_drewN ?_ _))))
    clear hW
    (with_reducible refine Calls.mono (KF.out _ HB.out) ?_)
    rintro e w1 hF
    obtain ⟨rfl, hb⟩ : e = .returned (.tuple #[.slice none 0 0, .int .i64 q]) ∧ Below W.heap.size W w1 := by
      rcases hF with ⟨h0, -⟩ | ⟨-, h1, h2⟩
      · exact absurd h0 HQ.out
      · exact ⟨h1, h2⟩
    clear hF
    replace bR := bR.on hb
    replace HB := Lib.hid (bel_end HB.out hb)
    clear hb
    have bR_0 := bR.cell 0 rfl
    have bR_1 := bR.cell 1 rfl
    have bR_f0 := bR.frozen 0
    have bR_f1 := bR.frozen 1
    have bR_l := bR.lt
    go_wp2
    exact bodyPost_ret (v := .tuple #[.agg #[.int .i64 0, .int .i64 0], .int .i64 q]) (by simp [results, Try.results68, go_sem, bR_0, bR_1]) rfl ⟨rfl, (by repeat (first | exact HB.out | (refine Below.setCell ?_ (by simp <;> omega) _) | (refine Below.alloc ?_ (by simp <;> omega) _) | (refine Below.drew ?_)))⟩
  case pos =>
    obtain ⟨i, N, rfl, rfl, hN, r, hok⟩ := tcod_0 hq
    have H1 : Hid (dpT zs ys (i : Int) c s h (N : Int) = dpF zs ys i c h (fst0 i s) N) := Lib.hid (by unfold dpT; rw [if_pos hq]; rfl)
    have HD : Hid (∀ k, k < N → SOk zs ys i c h (runS zs ys i c h (fst0 i s) k) ∧ SOk zs ys i c h (runS zs ys i c h (fst0 i s) (k + 1))) := Lib.hid (fun k hk => ⟨SOk.run r (SOk.first r) (okN_less hok (by omega)), SOk.run r (SOk.first r) (okN_less hok (by omega))⟩)
    have KA : Hid (∀ W : World, Below w.heap.size w W → Calls Try.prog 123 #[.agg #[.slice a zs.length ca, .slice b ys.length cb], .int .i64 (i : Int)] W fun e w' => e = .returned (.agg #[.int .i64 (zs.getD i 0), .int .i64 (ys.getD i 0)]) ∧ Below W.heap.size W w') := Lib.hid (fun W hb => kat_any W a b ca cb zs ys i (HP.out.on hb) r.ok.len r.hi)
    have KX : Hid (∀ (x : Int) (W : World), Calls Try.prog 122 #[.int .i64 x] W fun e w' => e = .returned (.agg #[.int .i64 x, .int .i64 x]) ∧ Below W.heap.size W w') := Lib.hid (fun x W => exa_any x W)
    have KD : Hid (∀ (W : World) (k : Nat) (d2 : Bool) (lo hi : Int), k < N → Below w.heap.size w W → Calls Try.prog 124 #[.agg #[.slice a zs.length ca, .slice b ys.length cb, .int .i64 (i : Int), .int .i64 c, .int .i64 s, .int .i64 h], .agg #[evW a b ca cb zs ys i c s h (runS zs ys i c h (fst0 i s) k).k (runS zs ys i c h (fst0 i s) k).dn, .int .i64 ((runS zs ys i c h (fst0 i s) (k + 1)).k : Int), .bool d2, .int .i64 lo, .int .i64 hi]] W fun e w' => e = .returned (.agg #[.int .i64 (dpA zs ys i c h (runS zs ys i c h (fst0 i s) k)), .int .i64 (dpB zs ys i c h (runS zs ys i c h (fst0 i s) k))]) ∧ Below W.heap.size W w') := Lib.hid (fun W k d2 lo hi hk hb => by
      obtain ⟨o1, o2⟩ := HD.out k hk
      exact dpo_any W a b ca cb zs ys i _ _ c s h lo hi _ d2 (HP.out.on hb) r o1.kl o1.cr o2.kl)
    have HZ0 : Hid (dpF zs ys i c h (fst0 i s) 0 = (zs.getD i 0, zs.getD i 0)) := Lib.hid rfl
    have f_z := fld_z
    obtain ⟨z0, hz0⟩ : ∃ x, zs.getD i 0 = x := ⟨_, rfl⟩
    obtain ⟨y0, hy0⟩ : ∃ x, ys.getD i 0 = x := ⟨_, rfl⟩
    rw [hz0] at KA HZ0
    rw [hy0] at KA
    rw [hq] at KF ⊢
    rw [H1.out]
    rw [Int.toNat_natCast, Int.toNat_natCast] at KF
    clear hq hp hok r HD hz0 hy0
    go_enter Try.func68, Try.ntmps68
    go_wp2_with fail
    generalize hW : World.alloc _ _ = W
    have bP : Bk W (w.heap.size) #[.slice a zs.length ca, .slice b ys.length cb] 51 := by rw [← hW]; repeat (first | (refine Bk.new' ?_; (simp; done)) | refine Bk.alloc ?_ _)
    have bR : Bk W (w.heap.size + 1 + 1) #[.int .i64 0, .int .i64 0] 48 := by rw [← hW]; repeat (first | (refine Bk.new' ?_; (simp; done)) | refine Bk.alloc ?_ _)
    have bT : Bk W (w.heap.size + 1 + 1 + 1) #[.slice a zs.length ca, .slice b ys.length cb, .int .i64 (i : Int), .int .i64 c, .int .i64 s, .int .i64 h] 141 := by rw [← hW]; repeat (first | (refine Bk.new' ?_; (simp; done)) | refine Bk.alloc ?_ _)
    have HB : Hid (Below w.heap.size w W) := Lib.hid (by rw [← hW]; exact (by repeat (first | exact Below.refl _ _ | (refine Below.alloc ?_ (by simp <;> omega) _) | (refine Below.setCell ?_ (by simp <;> omega) _) | (refine Below.drew ?_) | (refine bel_drewN ?_ _))))
    clear hW
    (with_reducible refine Calls.mono (KF.out _ HB.out) ?_)
    rintro e w1 hF
    obtain ⟨g, cp, rfl, hst⟩ : ∃ g cp, e = .returned (.tuple #[.slice (some ⟨g, 0, none⟩) N cp, .int .i64 0]) ∧ RowG W 148 5 g cp N (rowL (stpC a b ca cb zs ys i c s h) N) w1 := by
      rcases hF with ⟨-, h1⟩ | ⟨h0, -⟩
      · exact h1
      · exact absurd rfl h0
    have HST := Lib.hid hst
    have hb := hst.bel
    replace HB := Lib.hid (bel_end HB.out hb)
    replace bP := bP.on hb
    replace bR := bR.on hb
    replace bT := bT.on hb
    clear hF hst hb
    have bP_0 := bP.cell 0 rfl
    have bP_1 := bP.cell 1 rfl
    have bP_l := bP.lt
    go_wp2_with fail
    (with_reducible refine Calls.mono (KA.out _ HB.out) ?_)
    rintro e w2 ⟨rfl, hb⟩
    replace HB := Lib.hid (bel_end HB.out hb)
    replace bR := bR.on hb
    replace bT := bT.on hb
    replace HST := Lib.hid (HST.out.on hb)
    clear hb bP bP_0 bP_1 bP_l
    go_wp2_with fail
    (with_reducible refine Calls.mono (KX.out _ _) ?_)
    rintro e w3 ⟨rfl, hb⟩
    replace HB := Lib.hid (bel_end HB.out hb)
    replace bR := bR.on hb
    replace bT := bT.on hb
    replace HST := Lib.hid (HST.out.on hb)
    clear hb
    have bR_l := bR.lt
    have bT_l := bT.lt
    have yl := HST.out.up
    go_upto_region 6 with fail
    generalize hW : World.alloc _ _ = W3
    obtain ⟨gD, hg⟩ : ∃ g, g = w3.heap.size := ⟨_, rfl⟩
    have bD : Bk W3 gD #[.int .i64 z0, .int .i64 z0] 48 := by rw [← hW]; exact Bk.new' hg
    have hb : Below w3.heap.size w3 W3 := by rw [← hW]; exact (Below.refl _ _).alloc (Nat.le_refl _) _
    try rw [← hg]
    have HB3 := Lib.hid hb
    have BD := Lib.hid bD
    have hg3 : w3.heap.size ≤ gD := by omega
    clear hW hb hg bD
    go_wp2_with fail
    go_loopw [38] (fun x wr => ∃ k : Nat, x = .int .i64 (k : Int) ∧ k ≤ N ∧ Below w3.heap.size w3 wr ∧ Bk wr gD #[.int .i64 (dpF zs ys i c h (fst0 i s) k).1, .int .i64 (dpF zs ys i c h (fst0 i s) k).2] 48) (fun x _ => N - (intOf x).toNat)
    case atStart => exact ⟨0, rfl, by omega, HB3.out, by rw [HZ0.out]; exact BD.out⟩
    case round =>
      obtain ⟨k, rfl, hk, hb, bD⟩ := hrel
      replace HB3 := Lib.hid hb
      have HBW := Lib.hid (bel_end HB.out hb)
      replace bR := bR.on hb
      replace bT := bT.on hb
      have HS := Lib.hid (HST.out.on hb)
      clear hb BD HST
      obtain ⟨⟨A, B⟩, hAB⟩ : ∃ x, dpF zs ys i c h (fst0 i s) k = x := ⟨_, rfl⟩
      rw [hAB] at bD
      dsimp only at bD
      have HAB := Lib.hid hAB
      clear hAB
      have bD_0 := bD.cell 0 rfl
      have bD_1 := bD.cell 1 rfl
      by_cases hkN : k < N
      case neg =>
        have EK : k = N := by omega
        subst EK
        have hkk : ¬ (k : Int) < (k : Int) := by omega
        have bR_0 := bR.cell 0 rfl
        have bR_1 := bR.cell 1 rfl
        have bR_f0 := bR.frozen 0
        have bR_f1 := bR.frozen 1
        clear hkN hk HS
        go_wp2
        exact bodyPost_ret (v := .tuple #[.agg #[.int .i64 A, .int .i64 B], .int .i64 0]) (by simp [results, Try.results68, go_sem, bR_0, bR_1]) rfl ⟨by rw [HAB.out], (by repeat (first | exact HBW.out | (refine Below.setCell ?_ (by simp <;> omega) _) | (refine Below.alloc ?_ (by simp <;> omega) _) | (refine Below.drew ?_)))⟩
      case pos =>
        have HDF := Lib.hid (dpF_succ zs ys i c h (fst0 i s) k)
        rw [HAB.out] at HDF
        dsimp only at HDF
        obtain ⟨⟨k2, d2, l2, h2⟩, hN2⟩ : ∃ x, runS zs ys i c h (fst0 i s) (k + 1) = x := ⟨_, rfl⟩
        obtain ⟨et, evv, hE⟩ := evW_iface a b ca cb zs ys i c s h (runS zs ys i c h (fst0 i s) k).k (runS zs ys i c h (fst0 i s) k).dn
        have e5 : stpC a b ca cb zs ys i c s h k = [.iface et evv, .int .i64 (k2 : Int), .bool d2, .int .i64 l2, .int .i64 h2] := by unfold stpC; rw [hN2, hE]
        obtain ⟨P, hP⟩ : ∃ x, dpA zs ys i c h (runS zs ys i c h (fst0 i s) k) = x := ⟨_, rfl⟩
        obtain ⟨Q, hQ⟩ : ∃ x, dpB zs ys i c h (runS zs ys i c h (fst0 i s) k) = x := ⟨_, rfl⟩
        have KD2 : Hid (∀ W : World, Below w.heap.size w W → Calls Try.prog 124 #[.agg #[.slice a zs.length ca, .slice b ys.length cb, .int .i64 (i : Int), .int .i64 c, .int .i64 s, .int .i64 h], .agg #[.iface et evv, .int .i64 (k2 : Int), .bool d2, .int .i64 l2, .int .i64 h2]] W fun e w' => e = .returned (.agg #[.int .i64 P, .int .i64 Q]) ∧ Below W.heap.size W w') := Lib.hid (fun W hb => by have g := KD.out W k d2 l2 h2 hkN hb; rw [hE, hN2, hP, hQ] at g; exact g)
        rw [hP, hQ] at HDF
        have y0 := HS.out.cell (stpC_len _ _ _ _ _ _ _ _ _ _) hkN (show 0 < 5 by omega) (show (stpC a b ca cb zs ys i c s h k)[0]? = some _ from by rw [e5]; rfl)
        have y1 := HS.out.cell (stpC_len _ _ _ _ _ _ _ _ _ _) hkN (show 1 < 5 by omega) (show (stpC a b ca cb zs ys i c s h k)[1]? = some _ from by rw [e5]; rfl)
        have y2 := HS.out.cell (stpC_len _ _ _ _ _ _ _ _ _ _) hkN (show 2 < 5 by omega) (show (stpC a b ca cb zs ys i c s h k)[2]? = some _ from by rw [e5]; rfl)
        have y3 := HS.out.cell (stpC_len _ _ _ _ _ _ _ _ _ _) hkN (show 3 < 5 by omega) (show (stpC a b ca cb zs ys i c s h k)[3]? = some _ from by rw [e5]; rfl)
        have y4 := HS.out.cell (stpC_len _ _ _ _ _ _ _ _ _ _) hkN (show 4 < 5 by omega) (show (stpC a b ca cb zs ys i c s h k)[4]? = some _ from by rw [e5]; rfl)
        rw [Nat.add_zero] at y0
        have ik : (k : Int) < (N : Int) := by omega
        clear hN2 hE e5 hP hQ bD_0 bD_1
        go_upto_region 9 with fail
        generalize hW : World.alloc _ _ = W4
        obtain ⟨gN, hg⟩ : ∃ g, g = wr.heap.size := ⟨_, rfl⟩
        have bN : Bk W4 gN #[.iface et evv, .int .i64 (k2 : Int), .bool d2, .int .i64 l2, .int .i64 h2] 148 := by rw [← hW]; exact Bk.new' hg
        have hb : Below wr.heap.size wr W4 := by rw [← hW]; exact (Below.refl _ _).alloc (Nat.le_refl _) _
        try rw [← hg]
        replace bD := bD.on hb
        replace bT := bT.on hb
        replace HB3 := Lib.hid (bel_end HB3.out hb)
        replace HBW := Lib.hid (bel_end HBW.out hb)
        clear hW hb hg y0 y1 y2 y3 y4 HS bR
        have bN_0 := bN.cell 0 rfl
        have bN_1 := bN.cell 1 rfl
        have bN_2 := bN.cell 2 rfl
        have bN_3 := bN.cell 3 rfl
        have bN_4 := bN.cell 4 rfl
        have bN_l := bN.lt
        have bT_0 := bT.cell 0 rfl
        have bT_1 := bT.cell 1 rfl
        have bT_2 := bT.cell 2 rfl
        have bT_3 := bT.cell 3 rfl
        have bT_4 := bT.cell 4 rfl
        have bT_5 := bT.cell 5 rfl
        go_wp2_with fail
        (with_reducible refine Calls.mono (KD2.out _ HBW.out) ?_)
        rintro e w5 ⟨rfl, hb⟩
        replace bD := bD.on hb
        replace HB3 := Lib.hid (bel_end HB3.out hb)
        replace HBW := Lib.hid (bel_end HBW.out hb)
        clear hb bN bT bN_0 bN_1 bN_2 bN_3 bN_4 bN_l bT_0 bT_1 bT_2 bT_3 bT_4 bT_5
        have bD_l := bD.lt
        go_upto_region 10 with fail
        generalize hW : World.alloc _ _ = W6
        obtain ⟨gE, hg⟩ : ∃ g, g = w5.heap.size := ⟨_, rfl⟩
        have bE : Bk W6 gE #[.int .i64 P, .int .i64 Q] 48 := by rw [← hW]; exact Bk.new' hg
        have hb : Below w5.heap.size w5 W6 := by rw [← hW]; exact (Below.refl _ _).alloc (Nat.le_refl _) _
        try rw [← hg]
        have hne : ¬ gD = gE := by omega
        have hne2 : ¬ gE = gD := by omega
        replace bD := bD.on hb
        replace HB3 := Lib.hid (bel_end HB3.out hb)
        clear hW hb hg
        have bE_0 := bE.cell 0 rfl
        have bE_1 := bE.cell 1 rfl
        have bE_l := bE.lt
        have bD_0 := bD.cell 0 rfl
        have bD_1 := bD.cell 1 rfl
        have bD_f0 := bD.frozen 0
        have bD_f1 := bD.frozen 1
        have bD_l2 := bD.lt
        go_wp2
        go_roundw
        (case rel => exact ⟨k + 1, by go_num, by omega, (HB3.out.setCell (p := ⟨gD, 0, none⟩) (by dsimp only; omega) _).setCell (p := ⟨gD, 1, none⟩) (by dsimp only; omega) _, by rw [HDF.out]; exact blk_set2 bD⟩)
        (case measure => simp [intOf]; omega)
end Go.Proofs.Ytaaklnabomhleaa
