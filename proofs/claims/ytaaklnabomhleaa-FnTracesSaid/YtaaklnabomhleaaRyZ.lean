/- Contracts of RangesOf, the program's and the model's, and of the model's TraceRay. -/
import Derived.Test.YtaaklnabomhleaaRyX
import Derived.Handy
import Derived.Outline
import Derived.LoopTactic
import Derived.Deep.RegionHeld3
import Derived.Deep.DeepCutAuto
import Derived.Deep.RegionWith
namespace Go.Proofs.Ytaaklnabomhleaa
open Go.ChangeShapes Go.WideShapes Go.ChangeAt Go.RowKit Go.Shelf Num
set_option linter.unusedVariables false
set_option linter.unusedSimpArgs false

set_option maxRecDepth 100000 in
set_option maxHeartbeats 8000000 in
theorem irg_any (w : World) (a b : Option Addr) (ca cb : Nat) (zs ys : List Int) (src c s h n : Int) (hp : Prof w w.heap.size a b zs ys) :
    Calls Try.prog 43 #[.agg #[.slice a zs.length ca, .slice b ys.length cb], .int .i64 src, .agg #[.int .i64 c, .int .i64 s, .int .i64 h], .int .i64 n] w fun e w' => ∃ (a' : Option Addr) (c' : Nat), e = .returned (.tuple #[.slice a' (trR zs ys src c s h n).length c', .int .i64 (tcod zs ys src c s h n)]) ∧ OwnI w' w.heap.size w'.heap.size a' c' (trR zs ys src c s h n) ∧ Below w.heap.size w w' := by
  have HP := Lib.hid hp
  have KF : Hid (∀ W : World, Below w.heap.size w W → Calls Try.prog 101 #[.agg #[.slice a zs.length ca, .slice b ys.length cb, .int .i64 src, .int .i64 c, .int .i64 s, .int .i64 h], .int .i64 n] W (FssP W (stpC a b ca cb zs ys src.toNat c s h) (tcod zs ys src c s h n) n.toNat)) := Lib.hid (fun W hb => fss_any W a b ca cb zs ys src c s h n (HP.out.on hb))
  by_cases hq : tcod zs ys src c s h n = 0
  case neg =>
    have H1 : Hid (trR zs ys src c s h n = []) := Lib.hid (by unfold trR; rw [if_neg hq])
    have HQ := Lib.hid hq
    obtain ⟨q, hqq⟩ : ∃ q, tcod zs ys src c s h n = q := ⟨_, rfl⟩
    rw [hqq] at KF HQ ⊢
    have hq0 : (q != 0) = true := by have := HQ.out; simpa using this
    clear hqq hq hp
    go_enter Try.func43, Try.ntmps43
    go_wp2_with fail
    generalize hW : World.alloc _ _ = W
    have bP : Bk W (w.heap.size) #[.slice a zs.length ca, .slice b ys.length cb] 51 := by rw [← hW]; repeat (first | (refine Bk.new' ?_; (simp; done)) | refine Bk.alloc ?_ _)
    have bD : Bk W (w.heap.size + 1) #[.int .i64 c, .int .i64 s, .int .i64 h] 32 := by rw [← hW]; repeat (first | (refine Bk.new' ?_; (simp; done)) | refine Bk.alloc ?_ _)
    have bT : Bk W (w.heap.size + 1 + 1) #[.slice a zs.length ca, .slice b ys.length cb, .int .i64 src, .int .i64 c, .int .i64 s, .int .i64 h] 141 := by rw [← hW]; repeat (first | (refine Bk.new' ?_; (simp; done)) | refine Bk.alloc ?_ _)
    have HB : Hid (Below w.heap.size w W) := Lib.hid (by rw [← hW]; exact (by repeat (first | exact Below.refl _ _ | (refine Below.alloc ?_ (by simp <;> omega) _) | (refine Below.setCell ?_ (by simp <;> omega) _) | (refine Below.drew ?_) | (refine bel_drewN ?_ _))))
    clear hW
    (with_reducible refine Calls.mono (KF.out _ HB.out) ?_)
    rintro e w1 hF
    obtain ⟨rfl, hb⟩ : e = .returned (.tuple #[.slice none 0 0, .int .i64 q]) ∧ Below W.heap.size W w1 := by
      rcases hF with ⟨h0, -⟩ | ⟨-, h1, h2⟩
      · exact absurd h0 HQ.out
      · exact ⟨h1, h2⟩
    clear hF
    replace HB := Lib.hid (bel_end HB.out hb)
    clear hb
    go_wp2
    go_ret2
    exact ⟨none, 0, by rw [H1.out]; rfl, by rw [H1.out]; exact OwnI.none _ _ HB.out.size, HB.out⟩
  case pos =>
    obtain ⟨i, N, rfl, rfl, hN, r, hok⟩ := tcod_0 hq
    have H1 : Hid (trR zs ys (i : Int) c s h (N : Int) = rgL zs ys i c h (fst0 i s) N) := Lib.hid (by unfold trR; rw [if_pos hq]; rfl)
    rw [hq] at KF ⊢
    rw [Int.toNat_natCast, Int.toNat_natCast] at KF
    clear hq hp hok r
    obtain ⟨j0, hj0, hy0, hy1, hy2⟩ := info_parts info_ivs
    have hmk := run_make_g (t := 64) (e := 48) Try.underlying64 info_ivs N (by omega) (by omega)
    go_enter Try.func43, Try.ntmps43
    go_wp2_with fail
    generalize hW : World.alloc _ _ = W
    have bP : Bk W (w.heap.size) #[.slice a zs.length ca, .slice b ys.length cb] 51 := by rw [← hW]; repeat (first | (refine Bk.new' ?_; (simp; done)) | refine Bk.alloc ?_ _)
    have bD : Bk W (w.heap.size + 1) #[.int .i64 c, .int .i64 s, .int .i64 h] 32 := by rw [← hW]; repeat (first | (refine Bk.new' ?_; (simp; done)) | refine Bk.alloc ?_ _)
    have bT : Bk W (w.heap.size + 1 + 1) #[.slice a zs.length ca, .slice b ys.length cb, .int .i64 (i : Int), .int .i64 c, .int .i64 s, .int .i64 h] 141 := by rw [← hW]; repeat (first | (refine Bk.new' ?_; (simp; done)) | refine Bk.alloc ?_ _)
    have HB : Hid (Below w.heap.size w W) := Lib.hid (by rw [← hW]; exact (by repeat (first | exact Below.refl _ _ | (refine Below.alloc ?_ (by simp <;> omega) _) | (refine Below.setCell ?_ (by simp <;> omega) _) | (refine Below.drew ?_) | (refine bel_drewN ?_ _))))
    clear hW
    (with_reducible refine Calls.mono (KF.out _ HB.out) ?_)
    rintro e w1 hF
    obtain ⟨g, cp, rfl, hst⟩ : ∃ g cp, e = .returned (.tuple #[.slice (some ⟨g, 0, none⟩) N cp, .int .i64 0]) ∧ RowG W 148 5 g cp N (rowL (stpC a b ca cb zs ys i c s h) N) w1 := by
      rcases hF with ⟨-, h1⟩ | ⟨h0, -⟩
      · exact h1
      · exact absurd rfl h0
    have HST := Lib.hid hst
    have hb := hst.bel
    replace HB := Lib.hid (bel_end HB.out hb)
    clear hF hst hb bT bP bD
    go_upto_region 6 with fail
    generalize hW : World.alloc _ _ = W3
    obtain ⟨gR, hg⟩ : ∃ g, g = w1.heap.size := ⟨_, rfl⟩
    have hR0 : Bk W3 gR (madeCells #[.int .i64 0, .int .i64 0] (N * 2)) 48 := by rw [← hW]; exact Bk.new' hg
    have hb : Below w1.heap.size w1 W3 := by rw [← hW]; exact (Below.refl _ _).alloc (Nat.le_refl _) _
    try rw [← hg]
    have HR0 := Lib.hid (RowG.made (w1 := w1) (m := 2) (c := N) (Z := #[.int .i64 0, .int .i64 0]) hR0 (by omega) (by unfold maxLen; omega) hb)
    clear hW hb hg hR0
    go_wp2_with fail
    go_loopw [13, 33] (fun v x wr => ∃ (k ge ce : Nat), v = .slice (some ⟨ge, 0, none⟩) k ce ∧ x = .int .i64 (k : Int) ∧ k ≤ N ∧ RowG w1 48 2 ge ce k (rowL (rgC zs ys i c s h) k) wr) (fun _ x _ => N - (intOf x).toNat)
    case atStart => exact ⟨0, gR, N, rfl, rfl, by omega, HR0.out⟩
    case round =>
      obtain ⟨k, ge, ce, rfl, rfl, hk, hR⟩ := hrel
      have HR := Lib.hid hR
      have HS := Lib.hid (HST.out.on hR.bel)
      have HBW := Lib.hid (bel_end HB.out hR.bel)
      clear hR HR0
      by_cases hkN : k < N
      case neg =>
        have EK : k = N := by omega
        subst EK
        have hkk : ¬ (k : Int) < (k : Int) := by omega
        have hRA := HR.out
        rw [rgC_map] at hRA
        have HA := Lib.hid (hRA.ownI (rgL_len ..) HB.out.size)
        clear hkN hk hRA HR HS
        go_wp2
        go_ret2
        exact ⟨some ⟨ge, 0, none⟩, ce, by rw [H1.out, rgL_len]; rfl, by rw [H1.out]; exact HA.out, HBW.out⟩
      case pos =>
        obtain ⟨⟨k2, d2, l2, h2⟩, hN2⟩ : ∃ x, runS zs ys i c h (fst0 i s) (k + 1) = x := ⟨_, rfl⟩
        obtain ⟨et, evv, hE⟩ := evW_iface a b ca cb zs ys i c s h (runS zs ys i c h (fst0 i s) k).k (runS zs ys i c h (fst0 i s) k).dn
        have e5 : stpC a b ca cb zs ys i c s h k = [.iface et evv, .int .i64 (k2 : Int), .bool d2, .int .i64 l2, .int .i64 h2] := by unfold stpC; rw [hN2, hE]
        have HGC : Hid (rgC zs ys i c s h k = [.int .i64 l2, .int .i64 h2]) := Lib.hid (by unfold rgC; rw [hN2])
        clear hE hN2
        have y0 := HS.out.cell (stpC_len _ _ _ _ _ _ _ _ _ _) hkN (show 0 < 5 by omega) (show (stpC a b ca cb zs ys i c s h k)[0]? = some _ from by rw [e5]; rfl)
        have y1 := HS.out.cell (stpC_len _ _ _ _ _ _ _ _ _ _) hkN (show 1 < 5 by omega) (show (stpC a b ca cb zs ys i c s h k)[1]? = some _ from by rw [e5]; rfl)
        have y2 := HS.out.cell (stpC_len _ _ _ _ _ _ _ _ _ _) hkN (show 2 < 5 by omega) (show (stpC a b ca cb zs ys i c s h k)[2]? = some _ from by rw [e5]; rfl)
        have y3 := HS.out.cell (stpC_len _ _ _ _ _ _ _ _ _ _) hkN (show 3 < 5 by omega) (show (stpC a b ca cb zs ys i c s h k)[3]? = some _ from by rw [e5]; rfl)
        have y4 := HS.out.cell (stpC_len _ _ _ _ _ _ _ _ _ _) hkN (show 4 < 5 by omega) (show (stpC a b ca cb zs ys i c s h k)[4]? = some _ from by rw [e5]; rfl)
        rw [Nat.add_zero] at y0
        have yl := HS.out.up
        have ik : (k : Int) < (N : Int) := by omega
        clear e5
        go_upto_region 9 with fail
        generalize hW : World.alloc _ _ = W4
        obtain ⟨gN, hg⟩ : ∃ g, g = wr.heap.size := ⟨_, rfl⟩
        have bN : Bk W4 gN #[.iface et evv, .int .i64 (k2 : Int), .bool d2, .int .i64 l2, .int .i64 h2] 148 := by rw [← hW]; exact Bk.new' hg
        have hb : Below wr.heap.size wr W4 := by rw [← hW]; exact (Below.refl _ _).alloc (Nat.le_refl _) _
        try rw [← hg]
        replace HR := Lib.hid (HR.out.on hb)
        clear hW hb hg y0 y1 y2 y3 y4 yl HS
        have bN_3 := bN.cell 3 rfl
        have bN_4 := bN.cell 4 rfl
        go_wp2_with (at_builtin; refine wpList_append_lies _ rfl _ _ 64 rfl w1.heap.size 48 j0 (.agg #[.int .i64 0, .int .i64 0]) 2 16 Try.underlying64 hj0 hy0 hy1 hy2 rfl (by decide) (.slice (some ⟨ge, 0, none⟩) k ce) k (rowL (rgC zs ys i c s h) k) rfl (HR.out.own.alloc _) ⟨W4.heap.size, 0, none⟩ 1 1 [.int .i64 l2, .int .i64 h2] rfl rfl (World.news_of_block (cs := #[.int .i64 l2, .int .i64 h2]) (t := 48) (fr := (0, 0)) (heap_alloc_new W4 _)) (by simp [Value.oneCell']) (by decide) (by unfold maxLen; omega) (by omega) (by simp; exact Nat.le_succ_of_le HR.out.bel.size) (W4.heap.size + 1) (by simp) ?_; intro g2 cp2 w9 hown hgrow hat hlt9; have HR9 := Lib.hid ((HR.out.on ((Below.refl _ _).alloc (Nat.le_refl _) _)).snoc hown hgrow); clear hown hgrow hat hlt9)
        rw [← HGC.out, ← rowL_succ] at HR9
        go_roundw
        (case rel => exact ⟨k + 1, g2, cp2, rfl, by go_num, by omega, HR9.out⟩)
        (case measure => simp [intOf]; omega)

set_option maxRecDepth 100000 in
set_option maxHeartbeats 8000000 in
theorem srg_any (w : World) (a b : Option Addr) (ca cb : Nat) (zs ys : List Int) (src c s h n : Int) (hp : Prof w w.heap.size a b zs ys) :
    Calls Try.prog 44 #[.agg #[.slice a zs.length ca, .slice b ys.length cb], .int .i64 src, .agg #[.int .i64 c, .int .i64 s, .int .i64 h], .int .i64 n] w fun e w' => ∃ (a' : Option Addr) (c' : Nat), e = .returned (.tuple #[.slice a' (trR zs ys src c s h n).length c', .int .i64 (tcod zs ys src c s h n)]) ∧ OwnI w' w.heap.size w'.heap.size a' c' (trR zs ys src c s h n) ∧ Below w.heap.size w w' := by
  have HP := Lib.hid hp
  have KF : Hid (∀ W : World, Below w.heap.size w W → Calls Try.prog 104 #[.agg #[.slice a zs.length ca, .slice b ys.length cb], .int .i64 src, .agg #[.int .i64 c, .int .i64 s, .int .i64 h], .int .i64 n] W (TrcP W (staC zs ys src.toNat c s h) (evC zs ys src.toNat c s h) (tcod zs ys src c s h n) n.toNat)) := Lib.hid (fun W hb => trc_any W a b ca cb zs ys src c s h n (HP.out.on hb))
  by_cases hq : tcod zs ys src c s h n = 0
  case neg =>
    have H1 : Hid (trR zs ys src c s h n = []) := Lib.hid (by unfold trR; rw [if_neg hq])
    have HQ := Lib.hid hq
    obtain ⟨q, hqq⟩ : ∃ q, tcod zs ys src c s h n = q := ⟨_, rfl⟩
    rw [hqq] at KF HQ ⊢
    have hq0 : (q != 0) = true := by have := HQ.out; simpa using this
    clear hqq hq hp
    go_enter Try.func44, Try.ntmps44
    go_wp2_with fail
    generalize hW : World.alloc _ _ = W
    have bP : Bk W (w.heap.size) #[.slice a zs.length ca, .slice b ys.length cb] 51 := by rw [← hW]; repeat (first | (refine Bk.new' ?_; (simp; done)) | refine Bk.alloc ?_ _)
    have bD : Bk W (w.heap.size + 1) #[.int .i64 c, .int .i64 s, .int .i64 h] 32 := by rw [← hW]; repeat (first | (refine Bk.new' ?_; (simp; done)) | refine Bk.alloc ?_ _)
    have HB : Hid (Below w.heap.size w W) := Lib.hid (by rw [← hW]; exact (by repeat (first | exact Below.refl _ _ | (refine Below.alloc ?_ (by simp <;> omega) _) | (refine Below.setCell ?_ (by simp <;> omega) _) | (refine Below.drew ?_) | (refine bel_drewN ?_ _))))
    clear hW
    (with_reducible refine Calls.mono (KF.out _ HB.out) ?_)
    rintro e w1 hF
    obtain ⟨rfl, hb⟩ : e = .returned (.tuple #[.slice none 0 0, .slice none 0 0, .int .i64 q]) ∧ Below W.heap.size W w1 := by
      rcases hF with ⟨h0, -⟩ | ⟨-, h1, h2⟩
      · exact absurd h0 HQ.out
      · exact ⟨h1, h2⟩
    clear hF
    replace HB := Lib.hid (bel_end HB.out hb)
    clear hb
    go_wp2
    go_ret2
    exact ⟨none, 0, by rw [H1.out]; rfl, by rw [H1.out]; exact OwnI.none _ _ HB.out.size, HB.out⟩
  case pos =>
    obtain ⟨i, N, rfl, rfl, hN, r, hok⟩ := tcod_0 hq
    have H1 : Hid (trR zs ys (i : Int) c s h (N : Int) = rgL zs ys i c h (fst0 i s) N) := Lib.hid (by unfold trR; rw [if_pos hq]; rfl)
    rw [hq] at KF ⊢
    rw [Int.toNat_natCast, Int.toNat_natCast] at KF
    clear hq hp hok r
    obtain ⟨j0, hj0, hy0, hy1, hy2⟩ := info_parts info_ivs
    go_enter Try.func44, Try.ntmps44
    go_wp2_with fail
    generalize hW : World.alloc _ _ = W
    have bP : Bk W (w.heap.size) #[.slice a zs.length ca, .slice b ys.length cb] 51 := by rw [← hW]; repeat (first | (refine Bk.new' ?_; (simp; done)) | refine Bk.alloc ?_ _)
    have bD : Bk W (w.heap.size + 1) #[.int .i64 c, .int .i64 s, .int .i64 h] 32 := by rw [← hW]; repeat (first | (refine Bk.new' ?_; (simp; done)) | refine Bk.alloc ?_ _)
    have HB : Hid (Below w.heap.size w W) := Lib.hid (by rw [← hW]; exact (by repeat (first | exact Below.refl _ _ | (refine Below.alloc ?_ (by simp <;> omega) _) | (refine Below.setCell ?_ (by simp <;> omega) _) | (refine Below.drew ?_) | (refine bel_drewN ?_ _))))
    clear hW
    (with_reducible refine Calls.mono (KF.out _ HB.out) ?_)
    rintro e w1 hF
    obtain ⟨gs, cs, ge0, ce0, rfl, hst, hev⟩ : ∃ gs cs ge ce, e = .returned (.tuple #[.slice (some ⟨gs, 0, none⟩) N cs, .slice (some ⟨ge, 0, none⟩) N ce, .int .i64 0]) ∧ RowG W 61 4 gs cs N (rowL (staC zs ys i c s h) N) w1 ∧ RowG W 2 1 ge ce N (rowL (evC zs ys i c s h) N) w1 := by
      rcases hF with ⟨-, h1⟩ | ⟨h0, -⟩
      · exact h1
      · exact absurd rfl h0
    have HST := Lib.hid hst
    have HEV := Lib.hid hev
    have hb := hst.bel
    replace HB := Lib.hid (bel_end HB.out hb)
    clear hF hst hev hb bP bD HEV
    go_upto_region 5 with fail
    generalize hW : World.alloc _ _ = W3
    obtain ⟨gR, hg⟩ : ∃ g, g = w1.heap.size := ⟨_, rfl⟩
    have hR0 : Bk W3 gR #[] 48 := by rw [← hW]; exact Bk.new' hg
    have hb : Below w1.heap.size w1 W3 := by rw [← hW]; exact (Below.refl _ _).alloc (Nat.le_refl _) _
    try rw [← hg]
    have HR0 := Lib.hid (RowG.lit (w1 := w1) (m := 2) hR0 (by omega) hb)
    clear hW hb hg hR0
    go_wp2_with fail
    go_loopw [13, 14] (fun v x wr => ∃ (k ge ce : Nat), v = .slice (some ⟨ge, 0, none⟩) k ce ∧ x = .int .i64 (k : Int) ∧ k ≤ N ∧ RowG w1 48 2 ge ce k (rowL (rgC zs ys i c s h) k) wr) (fun _ x _ => N - (intOf x).toNat)
    case atStart => exact ⟨0, gR, 0, rfl, rfl, by omega, HR0.out⟩
    case round =>
      obtain ⟨k, ge, ce, rfl, rfl, hk, hR⟩ := hrel
      have HR := Lib.hid hR
      have HS := Lib.hid (HST.out.on hR.bel)
      have HBW := Lib.hid (bel_end HB.out hR.bel)
      clear hR HR0
      by_cases hkN : k < N
      case neg =>
        have EK : k = N := by omega
        subst EK
        have hkk : ¬ (k : Int) < (k : Int) := by omega
        have hRA := HR.out
        rw [rgC_map] at hRA
        have HA := Lib.hid (hRA.ownI (rgL_len ..) HB.out.size)
        clear hkN hk hRA HR HS
        go_wp2
        go_ret2
        exact ⟨some ⟨ge, 0, none⟩, ce, by rw [H1.out, rgL_len]; rfl, by rw [H1.out]; exact HA.out, HBW.out⟩
      case pos =>
        obtain ⟨⟨k2, d2, l2, h2⟩, hN2⟩ : ∃ x, runS zs ys i c h (fst0 i s) (k + 1) = x := ⟨_, rfl⟩
        have e5 : staC zs ys i c s h k = [.int .i64 (k2 : Int), .bool d2, .int .i64 l2, .int .i64 h2] := by unfold staC; rw [hN2]
        have HGC : Hid (rgC zs ys i c s h k = [.int .i64 l2, .int .i64 h2]) := Lib.hid (by unfold rgC; rw [hN2])
        clear hN2
        have y2 := HS.out.cell (staC_len _ _ _ _ _ _) hkN (show 2 < 4 by omega) (show (staC zs ys i c s h k)[2]? = some _ from by rw [e5]; rfl)
        have y3 := HS.out.cell (staC_len _ _ _ _ _ _) hkN (show 3 < 4 by omega) (show (staC zs ys i c s h k)[3]? = some _ from by rw [e5]; rfl)
        have yl := HS.out.up
        have ik : (k : Int) < (N : Int) := by omega
        clear e5
        go_wp2_with (at_builtin; refine wpList_append_lies _ rfl _ _ 64 rfl w1.heap.size 48 j0 (.agg #[.int .i64 0, .int .i64 0]) 2 16 Try.underlying64 hj0 hy0 hy1 hy2 rfl (by decide) (.slice (some ⟨ge, 0, none⟩) k ce) k (rowL (rgC zs ys i c s h) k) rfl (HR.out.own.alloc _) ⟨wr.heap.size, 0, none⟩ 1 1 [.int .i64 l2, .int .i64 h2] rfl rfl (World.news_of_block (cs := #[.int .i64 l2, .int .i64 h2]) (t := 48) (fr := (0, 0)) (heap_alloc_new wr _)) (by simp [Value.oneCell']) (by decide) (by unfold maxLen; omega) (by omega) (by simp; exact Nat.le_succ_of_le HR.out.bel.size) (wr.heap.size + 1) (by simp) ?_; intro g2 cp2 w9 hown hgrow hat hlt9; have HR9 := Lib.hid ((HR.out.on ((Below.refl _ _).alloc (Nat.le_refl _) _)).snoc hown hgrow); clear hown hgrow hat hlt9)
        rw [← HGC.out, ← rowL_succ] at HR9
        go_roundw
        (case rel => exact ⟨k + 1, g2, cp2, rfl, by go_num, by omega, HR9.out⟩)
        (case measure => simp [intOf]; omega)

set_option maxRecDepth 100000 in
set_option maxHeartbeats 8000000 in
theorem str_any (w : World) (a b : Option Addr) (ca cb : Nat) (zs ys : List Int) (src c s h n : Int) (hp : Prof w w.heap.size a b zs ys) :
    Calls Try.prog 42 #[.agg #[.slice a zs.length ca, .slice b ys.length cb], .int .i64 src, .agg #[.int .i64 c, .int .i64 s, .int .i64 h], .int .i64 n] w fun e w' => ∃ (a' : Option Addr) (c' : Nat), e = .returned (.tuple #[.slice a' (trL zs ys src c s h n).length c', .agg #[.int .i64 (trS zs ys src c s h n).1, .bool (trS zs ys src c s h n).2.1, .int .i64 (trS zs ys src c s h n).2.2.1, .int .i64 (trS zs ys src c s h n).2.2.2], .int .i64 (tcod zs ys src c s h n)]) ∧ OwnA w' w.heap.size w'.heap.size a' c' (trL zs ys src c s h n) ∧ Below w.heap.size w w' := by
  have HP := Lib.hid hp
  have KF : Hid (∀ W : World, Below w.heap.size w W → Calls Try.prog 104 #[.agg #[.slice a zs.length ca, .slice b ys.length cb], .int .i64 src, .agg #[.int .i64 c, .int .i64 s, .int .i64 h], .int .i64 n] W (TrcP W (staC zs ys src.toNat c s h) (evC zs ys src.toNat c s h) (tcod zs ys src c s h n) n.toNat)) := Lib.hid (fun W hb => trc_any W a b ca cb zs ys src c s h n (HP.out.on hb))
  by_cases hq : tcod zs ys src c s h n = 0
  case neg =>
    have H2 : Hid (trS zs ys src c s h n = (0, false, 0, 0)) := Lib.hid (by unfold trS; rw [if_neg hq])
    have H1 : Hid (trL zs ys src c s h n = []) := Lib.hid (by unfold trL; rw [if_neg hq])
    have HQ := Lib.hid hq
    obtain ⟨q, hqq⟩ : ∃ q, tcod zs ys src c s h n = q := ⟨_, rfl⟩
    rw [hqq] at KF HQ ⊢
    have hq0 : (q != 0) = true := by have := HQ.out; simpa using this
    clear hqq hq hp
    go_enter Try.func42, Try.ntmps42
    go_wp2_with fail
    generalize hW : World.alloc _ _ = W
    have bP : Bk W (w.heap.size) #[.slice a zs.length ca, .slice b ys.length cb] 51 := by rw [← hW]; repeat (first | (refine Bk.new' ?_; (simp; done)) | refine Bk.alloc ?_ _)
    have bD : Bk W (w.heap.size + 1) #[.int .i64 c, .int .i64 s, .int .i64 h] 32 := by rw [← hW]; repeat (first | (refine Bk.new' ?_; (simp; done)) | refine Bk.alloc ?_ _)
    have bR : Bk W (w.heap.size + 1 + 1) #[.int .i64 0, .bool false, .int .i64 0, .int .i64 0] 61 := by rw [← hW]; repeat (first | (refine Bk.new' ?_; (simp; done)) | refine Bk.alloc ?_ _)
    have HB : Hid (Below w.heap.size w W) := Lib.hid (by rw [← hW]; exact (by repeat (first | exact Below.refl _ _ | (refine Below.alloc ?_ (by simp <;> omega) _) | (refine Below.setCell ?_ (by simp <;> omega) _) | (refine Below.drew ?_) | (refine bel_drewN ?_ _))))
    clear hW
    (with_reducible refine Calls.mono (KF.out _ HB.out) ?_)
    rintro e w1 hF
    obtain ⟨rfl, hb⟩ : e = .returned (.tuple #[.slice none 0 0, .slice none 0 0, .int .i64 q]) ∧ Below W.heap.size W w1 := by
      rcases hF with ⟨h0, -⟩ | ⟨-, h1, h2⟩
      · exact absurd h0 HQ.out
      · exact ⟨h1, h2⟩
    clear hF
    replace bR := bR.on hb
    replace HB := Lib.hid (bel_end HB.out hb)
    clear hb
    have bR_0 := bR.cell 0 rfl
    have bR_1 := bR.cell 1 rfl
    have bR_2 := bR.cell 2 rfl
    have bR_3 := bR.cell 3 rfl
    have bR_f0 := bR.frozen 0
    have bR_f1 := bR.frozen 1
    have bR_f2 := bR.frozen 2
    have bR_f3 := bR.frozen 3
    have bR_l := bR.lt
    go_wp2
    exact bodyPost_ret (v := .tuple #[.slice none 0 0, .agg #[.int .i64 0, .bool false, .int .i64 0, .int .i64 0], .int .i64 q]) (by simp [results, Try.results42, go_sem, bR_0, bR_1, bR_2, bR_3]) rfl ⟨none, 0, by rw [H1.out, H2.out]; rfl, by rw [H1.out]; exact OwnA.none _ _ (Below.size (show Below w.heap.size w _ from (by first | exact HB.out | exact ((((HB.out.setCell (p := ⟨w.heap.size + 1 + 1, 0, none⟩) (by dsimp only; omega) _).setCell (p := ⟨w.heap.size + 1 + 1, 1, none⟩) (by dsimp only; omega) _).setCell (p := ⟨w.heap.size + 1 + 1, 2, none⟩) (by dsimp only; omega) _).setCell (p := ⟨w.heap.size + 1 + 1, 3, none⟩) (by dsimp only; omega) _)))), (by first | exact HB.out | exact ((((HB.out.setCell (p := ⟨w.heap.size + 1 + 1, 0, none⟩) (by dsimp only; omega) _).setCell (p := ⟨w.heap.size + 1 + 1, 1, none⟩) (by dsimp only; omega) _).setCell (p := ⟨w.heap.size + 1 + 1, 2, none⟩) (by dsimp only; omega) _).setCell (p := ⟨w.heap.size + 1 + 1, 3, none⟩) (by dsimp only; omega) _))⟩
  case pos =>
    obtain ⟨i, N, rfl, rfl, hN, r, hok⟩ := tcod_0 hq
    have H1 : Hid (trL zs ys (i : Int) c s h (N : Int) = evL zs ys i c h (fst0 i s) N) := Lib.hid (by unfold trL; rw [if_pos hq]; rfl)
    have H2 : Hid (trS zs ys (i : Int) c s h (N : Int) = (((runS zs ys i c h (fst0 i s) N).k : Int), (runS zs ys i c h (fst0 i s) N).dn, (runS zs ys i c h (fst0 i s) N).lo, (runS zs ys i c h (fst0 i s) N).hi)) := Lib.hid (by unfold trS; rw [if_pos hq]; rfl)
    rw [hq] at KF ⊢
    rw [Int.toNat_natCast, Int.toNat_natCast] at KF
    clear hq hp hok r
    obtain ⟨dd, hd⟩ : ∃ x, decide (0 < s) = x := ⟨_, rfl⟩
    have KG : Hid (∀ W : World, Calls Try.prog 105 #[.int .i64 (i : Int), .agg #[.int .i64 c, .int .i64 s, .int .i64 h]] W fun e w' => e = .returned (.agg #[.int .i64 (i : Int), .bool dd, .int .i64 0, .int .i64 0]) ∧ Below W.heap.size W w') := Lib.hid (fun W => by have := l7f_any W (i : Int) c s h; rwa [hd] at this)
    have HX0 : Hid (runS zs ys i c h (fst0 i s) 0 = ⟨i, dd, 0, 0⟩) := Lib.hid (by rw [← hd]; rfl)
    clear hd
    by_cases hz : N = 0
    case pos =>
      subst hz
      go_enter Try.func42, Try.ntmps42
      go_wp2_with fail
      generalize hW : World.alloc _ _ = W
      have bP : Bk W (w.heap.size) #[.slice a zs.length ca, .slice b ys.length cb] 51 := by rw [← hW]; repeat (first | (refine Bk.new' ?_; (simp; done)) | refine Bk.alloc ?_ _)
      have bD : Bk W (w.heap.size + 1) #[.int .i64 c, .int .i64 s, .int .i64 h] 32 := by rw [← hW]; repeat (first | (refine Bk.new' ?_; (simp; done)) | refine Bk.alloc ?_ _)
      have bR : Bk W (w.heap.size + 1 + 1) #[.int .i64 0, .bool false, .int .i64 0, .int .i64 0] 61 := by rw [← hW]; repeat (first | (refine Bk.new' ?_; (simp; done)) | refine Bk.alloc ?_ _)
      have HB : Hid (Below w.heap.size w W) := Lib.hid (by rw [← hW]; exact (by repeat (first | exact Below.refl _ _ | (refine Below.alloc ?_ (by simp <;> omega) _) | (refine Below.setCell ?_ (by simp <;> omega) _) | (refine Below.drew ?_) | (refine bel_drewN ?_ _))))
      clear hW
      (with_reducible refine Calls.mono (KF.out _ HB.out) ?_)
      rintro e w1 hF
      obtain ⟨gs, cs, ge0, ce0, rfl, hst, hev⟩ : ∃ gs cs ge ce, e = .returned (.tuple #[.slice (some ⟨gs, 0, none⟩) 0 cs, .slice (some ⟨ge, 0, none⟩) 0 ce, .int .i64 0]) ∧ RowG W 61 4 gs cs 0 (rowL (staC zs ys i c s h) 0) w1 ∧ RowG W 2 1 ge ce 0 (rowL (evC zs ys i c s h) 0) w1 := by
        rcases hF with ⟨-, h1⟩ | ⟨h0, -⟩
        · exact h1
        · exact absurd rfl h0
      have HST := Lib.hid hst
      have HEV := Lib.hid hev
      have hb := hst.bel
      replace bD := bD.on hb
      replace bR := bR.on hb
      replace HB := Lib.hid (bel_end HB.out hb)
      clear hF hst hev hb bP
      have n0 : (((0 : Nat) : Int) == 0) = true := rfl
      have bD_0 := bD.cell 0 rfl
      have bD_1 := bD.cell 1 rfl
      have bD_2 := bD.cell 2 rfl
      have bD_l := bD.lt
      go_wp2_with fail
      clear bD_0 bD_1 bD_2 bD_l
      (with_reducible refine Calls.mono (KG.out _) ?_)
      rintro e w2 ⟨rfl, hb⟩
      replace bR := bR.on hb
      replace HB := Lib.hid (bel_end HB.out hb)
      clear hb
      rw [HX0.out] at H2
      dsimp only at H2
      have bR_0 := bR.cell 0 rfl
      have bR_1 := bR.cell 1 rfl
      have bR_2 := bR.cell 2 rfl
      have bR_3 := bR.cell 3 rfl
      have bR_f0 := bR.frozen 0
      have bR_f1 := bR.frozen 1
      have bR_f2 := bR.frozen 2
      have bR_f3 := bR.frozen 3
      have bR_l := bR.lt
      go_wp2
      exact bodyPost_ret (v := .tuple #[.slice none 0 0, .agg #[.int .i64 (i : Int), .bool dd, .int .i64 0, .int .i64 0], .int .i64 0]) (by simp [results, Try.results42, go_sem, bR_0, bR_1, bR_2, bR_3]) rfl ⟨none, 0, by rw [H1.out, H2.out]; rfl, by rw [H1.out]; exact OwnA.none _ _ (Below.size (show Below w.heap.size w _ from (by first | exact HB.out | exact ((((HB.out.setCell (p := ⟨w.heap.size + 1 + 1, 0, none⟩) (by dsimp only; omega) _).setCell (p := ⟨w.heap.size + 1 + 1, 1, none⟩) (by dsimp only; omega) _).setCell (p := ⟨w.heap.size + 1 + 1, 2, none⟩) (by dsimp only; omega) _).setCell (p := ⟨w.heap.size + 1 + 1, 3, none⟩) (by dsimp only; omega) _)))), (by first | exact HB.out | exact ((((HB.out.setCell (p := ⟨w.heap.size + 1 + 1, 0, none⟩) (by dsimp only; omega) _).setCell (p := ⟨w.heap.size + 1 + 1, 1, none⟩) (by dsimp only; omega) _).setCell (p := ⟨w.heap.size + 1 + 1, 2, none⟩) (by dsimp only; omega) _).setCell (p := ⟨w.heap.size + 1 + 1, 3, none⟩) (by dsimp only; omega) _))⟩
    case neg =>
      obtain ⟨M, hM⟩ : ∃ M, N = M + 1 := ⟨N - 1, by omega⟩
      obtain ⟨⟨k1, d1, l1, h1⟩, hX⟩ : ∃ x, runS zs ys i c h (fst0 i s) N = x := ⟨_, rfl⟩
      rw [hX] at H2
      dsimp only at H2
      have e5 : staC zs ys i c s h M = [.int .i64 (k1 : Int), .bool d1, .int .i64 l1, .int .i64 h1] := by unfold staC; rw [← hM, hX]
      have HE5 := Lib.hid e5
      clear hX e5
      have n0 : ((N : Int) == 0) = false := by simp; omega
      have ew : IntKind.wrap .i64 ((N : Int) - 1) = (M : Int) := by rw [IntWalk.i64_in _ (by omega)]; omega
      have ik : (M : Int) < (N : Int) := by omega
      have hMN : M < N := by omega
      clear hM hz
      go_enter Try.func42, Try.ntmps42
      go_wp2_with fail
      generalize hW : World.alloc _ _ = W
      have bP : Bk W (w.heap.size) #[.slice a zs.length ca, .slice b ys.length cb] 51 := by rw [← hW]; repeat (first | (refine Bk.new' ?_; (simp; done)) | refine Bk.alloc ?_ _)
      have bD : Bk W (w.heap.size + 1) #[.int .i64 c, .int .i64 s, .int .i64 h] 32 := by rw [← hW]; repeat (first | (refine Bk.new' ?_; (simp; done)) | refine Bk.alloc ?_ _)
      have bR : Bk W (w.heap.size + 1 + 1) #[.int .i64 0, .bool false, .int .i64 0, .int .i64 0] 61 := by rw [← hW]; repeat (first | (refine Bk.new' ?_; (simp; done)) | refine Bk.alloc ?_ _)
      have HB : Hid (Below w.heap.size w W) := Lib.hid (by rw [← hW]; exact (by repeat (first | exact Below.refl _ _ | (refine Below.alloc ?_ (by simp <;> omega) _) | (refine Below.setCell ?_ (by simp <;> omega) _) | (refine Below.drew ?_) | (refine bel_drewN ?_ _))))
      clear hW
      (with_reducible refine Calls.mono (KF.out _ HB.out) ?_)
      rintro e w1 hF
      obtain ⟨gs, cs, ge0, ce0, rfl, hst, hev⟩ : ∃ gs cs ge ce, e = .returned (.tuple #[.slice (some ⟨gs, 0, none⟩) N cs, .slice (some ⟨ge, 0, none⟩) N ce, .int .i64 0]) ∧ RowG W 61 4 gs cs N (rowL (staC zs ys i c s h) N) w1 ∧ RowG W 2 1 ge ce N (rowL (evC zs ys i c s h) N) w1 := by
        rcases hF with ⟨-, h1⟩ | ⟨h0, -⟩
        · exact h1
        · exact absurd rfl h0
      have HST := Lib.hid hst
      have HEV := Lib.hid hev
      have hb := hst.bel
      have hlW : w.heap.size + 1 + 1 < W.heap.size := bR.lt
      have HB0 := HB
      replace bD := bD.on hb
      replace bR := bR.on hb
      replace HB := Lib.hid (bel_end HB.out hb)
      clear hF hst hev hb bP
      have hgB : ge0 ≠ w.heap.size + 1 + 1 := by have := HEV.out.lo; have := bR.lt; have := hlW; omega
      have hsB : gs ≠ w.heap.size + 1 + 1 := by have := HST.out.lo; have := hlW; omega
      have hRA := HEV.out
      rw [evC_map] at hRA
      have HA := Lib.hid (hRA.ownA (evL_len ..) HB0.out.size)
      have HY0 := Lib.hid (HST.out.cell (staC_len _ _ _ _ _ _) (show M < N by omega) (show 0 < 4 by omega) (show (staC zs ys i c s h M)[0]? = some _ from by rw [HE5.out]; rfl))
      have HY1 := Lib.hid (HST.out.cell (staC_len _ _ _ _ _ _) (show M < N by omega) (show 1 < 4 by omega) (show (staC zs ys i c s h M)[1]? = some _ from by rw [HE5.out]; rfl))
      have HY2 := Lib.hid (HST.out.cell (staC_len _ _ _ _ _ _) (show M < N by omega) (show 2 < 4 by omega) (show (staC zs ys i c s h M)[2]? = some _ from by rw [HE5.out]; rfl))
      have HY3 := Lib.hid (HST.out.cell (staC_len _ _ _ _ _ _) (show M < N by omega) (show 3 < 4 by omega) (show (staC zs ys i c s h M)[3]? = some _ from by rw [HE5.out]; rfl))
      rw [Nat.add_zero] at HY0
      clear hRA HEV HST bD HX0 KG
      go_upto_region 6 with fail
      have hLE : w.heap.size ≤ w.heap.size + 1 + 1 := by omega
      obtain ⟨S, hSd⟩ : ∃ S : World → Prop, ∀ w', S w' ↔ (w'.cell? ⟨gs, M * 4, none⟩ = some (.int .i64 (k1 : Int)) ∧ w'.cell? ⟨gs, M * 4 + 1, none⟩ = some (.bool d1) ∧ w'.cell? ⟨gs, M * 4 + 2, none⟩ = some (.int .i64 l1) ∧ w'.cell? ⟨gs, M * 4 + 3, none⟩ = some (.int .i64 h1)) := ⟨_, fun _ => Iff.rfl⟩
      have HSp : Hid (∀ w' : World, w'.cell? ⟨gs, M * 4, none⟩ = some (.int .i64 (k1 : Int)) → w'.cell? ⟨gs, M * 4 + 1, none⟩ = some (.bool d1) → w'.cell? ⟨gs, M * 4 + 2, none⟩ = some (.int .i64 l1) → w'.cell? ⟨gs, M * 4 + 3, none⟩ = some (.int .i64 h1) → S w') := Lib.hid (fun w' y0 y1 y2 y3 => (hSd w').2 ⟨y0, y1, y2, y3⟩)
      have HSd := Lib.hid hSd
      clear hSd
      refine wp_region_held_drew (S := S) (by kernel_rfl) ?_ (fun hH => ?_)
      · exact (HSp.out _ HY0.out HY1.out HY2.out HY3.out : S (World.drew w1))
      clear hH
      generalize hX : World.drew w1 = V0
      replace bR : Bk V0 (w.heap.size + 1 + 1) #[.int .i64 0, .bool false, .int .i64 0, .int .i64 0] 61 := by rw [← hX]; exact bR
      have hb : Below w1.heap.size w1 V0 := by rw [← hX]; exact (Below.refl _ _).drew
      clear hX
      replace HA := Lib.hid (HA.out.on hb)
      replace HY0 := Lib.hid (kc1 HY0.out hb)
      replace HY1 := Lib.hid (kc1 HY1.out hb)
      replace HY2 := Lib.hid (kc1 HY2.out hb)
      replace HY3 := Lib.hid (kc1 HY3.out hb)
      replace HB := Lib.hid (bel_end HB.out hb)
      clear hb
      have hS := HSp.out _ HY0.out HY1.out HY2.out HY3.out
      refine wpAnyH_take (i := 0) (oi := { dst := some 32, op := Go.Op.move (Go.Operand.tmp 12), type := 43, pos := "l07_rays.go:100", after := #[], guard := none }) (v := ?_) rfl (by kernel_rfl) (by kernel_rfl) (by kernel_rfl) (fun _ _ _ h => h) (Or.inl ⟨by rfl, ?_⟩) hS ?_
      rotate_left
      · (intro w hSw; have hSw := (HSd.out w).1 hSw; go_split_ands; go_simp) <;> with_reducible rfl
      clear hS
      try simp only [Act.put, List.setIfInBounds_toArray, List.set_cons_zero, List.set_cons_succ]
      have hS := HSp.out _ HY0.out HY1.out HY2.out HY3.out
      refine wpAnyH_take (i := 1) (oi := { dst := some 33, op := Go.Op.move (Go.Operand.tmp 11), type := 150, pos := "l07_rays.go:100", after := #[{ on := 6, ground := Go.Ground.gcOnly Go.Departure.lateStores }], guard := none }) (v := ?_) rfl (by kernel_rfl) (by kernel_rfl) (by kernel_rfl) (fun _ _ _ h => h) (Or.inl ⟨by rfl, ?_⟩) hS ?_
      rotate_left
      · (intro w hSw; have hSw := (HSd.out w).1 hSw; go_split_ands; go_simp) <;> with_reducible rfl
      clear hS
      try simp only [Act.put, List.setIfInBounds_toArray, List.set_cons_zero, List.set_cons_succ]
      have hS := HSp.out _ HY0.out HY1.out HY2.out HY3.out
      refine wpAnyH_take (i := 2) (oi := { dst := some 34, op := Go.Op.move (Go.Operand.tmp 3), type := 2, pos := "l07_rays.go:100", after := #[{ on := 6, ground := Go.Ground.gcOnly Go.Departure.lateStores }], guard := none }) (v := ?_) rfl (by kernel_rfl) (by kernel_rfl) (by kernel_rfl) (fun _ _ _ h => h) (Or.inl ⟨by rfl, ?_⟩) hS ?_
      rotate_left
      · (intro w hSw; have hSw := (HSd.out w).1 hSw; go_split_ands; go_simp) <;> with_reducible rfl
      clear hS
      try simp only [Act.put, List.setIfInBounds_toArray, List.set_cons_zero, List.set_cons_succ]
      have hS := HSp.out _ HY0.out HY1.out HY2.out HY3.out
      refine wpAnyH_take (i := 3) (oi := { dst := some 35, op := Go.Op.binOp Go.BinOp.sub 2 (Go.Operand.tmp 34) (Go.Operand.const (Go.Value.int Go.IntKind.i64 1)) 2, type := 2, pos := "l07_rays.go:100", after := #[{ on := 2, ground := Go.Ground.data }, { on := 6, ground := Go.Ground.gcOnly Go.Departure.lateStores }], guard := none }) (v := ?_) rfl (by kernel_rfl) (by kernel_rfl) (by kernel_rfl) (fun _ _ _ h => h) (Or.inl ⟨by rfl, ?_⟩) hS ?_
      rotate_left
      · (intro w hSw; have hSw := (HSd.out w).1 hSw; go_split_ands; go_simp) <;> with_reducible rfl
      clear hS
      try simp only [Act.put, List.setIfInBounds_toArray, List.set_cons_zero, List.set_cons_succ]
      have hS := HSp.out _ HY0.out HY1.out HY2.out HY3.out
      refine wpAnyH_take (i := 4) (oi := { dst := some 36, op := Go.Op.indexAddr 150 (Go.Operand.tmp 33) (Go.Operand.tmp 35), type := 0, pos := "l07_rays.go:100", after := #[{ on := 1, ground := Go.Ground.data }, { on := 3, ground := Go.Ground.data }, { on := 6, ground := Go.Ground.gcOnly Go.Departure.lateStores }], guard := none }) (v := ?_) rfl (by kernel_rfl) (by kernel_rfl) (by kernel_rfl) (fun _ _ _ h => h) (Or.inl ⟨by rfl, ?_⟩) hS ?_
      rotate_left
      · (intro w hSw; have hSw := (HSd.out w).1 hSw; go_split_ands; go_simp) <;> with_reducible rfl
      clear hS
      try simp only [Act.put, List.setIfInBounds_toArray, List.set_cons_zero, List.set_cons_succ]
      have hS := HSp.out _ HY0.out HY1.out HY2.out HY3.out
      refine wpAnyH_take (i := 5) (oi := { dst := some 37, op := Go.Op.load 61 (Go.Operand.tmp 36), type := 61, pos := "l07_rays.go:100", after := #[{ on := 4, ground := Go.Ground.data }, { on := 6, ground := Go.Ground.gcOnly Go.Departure.lateStores }], guard := none }) (v := ?_) rfl (by kernel_rfl) (by kernel_rfl) (by kernel_rfl) (fun _ _ _ h => h) (Or.inl ⟨by rfl, ?_⟩) hS ?_
      rotate_left
      · (intro w hSw; have hSw := (HSd.out w).1 hSw; go_split_ands; go_simp) <;> with_reducible rfl
      clear hS
      try simp only [Act.put, List.setIfInBounds_toArray, List.set_cons_zero, List.set_cons_succ]
      have hS := HSp.out _ HY0.out HY1.out HY2.out HY3.out
      refine wpAnyH_take (i := 6) (oi := { dst := some 8, op := Go.Op.assign (Go.Operand.tmp 32), type := 43, pos := "l07_rays.go:100", after := #[{ on := 0, ground := Go.Ground.data }, { on := 0, ground := Go.Ground.phase }, { on := 1, ground := Go.Ground.textOnly Go.Departure.lateStores }, { on := 2, ground := Go.Ground.textOnly Go.Departure.lateStores }, { on := 3, ground := Go.Ground.textOnly Go.Departure.lateStores }, { on := 4, ground := Go.Ground.textOnly Go.Departure.lateStores }, { on := 5, ground := Go.Ground.textOnly Go.Departure.lateStores }], guard := none }) (v := ?_) rfl (by kernel_rfl) (by kernel_rfl) (by kernel_rfl) (fun _ _ _ h => h) (Or.inl ⟨by rfl, ?_⟩) hS ?_
      rotate_left
      · (intro w hSw; have hSw := (HSd.out w).1 hSw; go_split_ands; go_simp) <;> with_reducible rfl
      clear hS
      try simp only [Act.put, List.setIfInBounds_toArray, List.set_cons_zero, List.set_cons_succ]
      refine wpAnyH_ready (rs := [7]) (by kernel_rfl) (by simp) ?_
      refine AllReadyH.cons (o := { dst := none, op := Go.Op.store 61 (Go.Operand.tmp 9) (Go.Operand.tmp 37), type := 0, pos := "l07_rays.go:100", after := #[{ on := 5, ground := Go.Ground.data }, { on := 6, ground := Go.Ground.chain }, { on := 0, ground := Go.Ground.phase }, { on := 1, ground := Go.Ground.phase }, { on := 2, ground := Go.Ground.phase }, { on := 3, ground := Go.Ground.phase }, { on := 4, ground := Go.Ground.phase }, { on := 5, ground := Go.Ground.phase }, { on := 6, ground := Go.Ground.phase }], guard := none }) rfl (fun Kn hK => ?_) AllReadyH.nil
      have bR_0 := bR.cell 0 rfl
      have bR_1 := bR.cell 1 rfl
      have bR_2 := bR.cell 2 rfl
      have bR_3 := bR.cell 3 rfl
      have bR_f0 := bR.frozen 0
      have bR_f1 := bR.frozen 1
      have bR_f2 := bR.frozen 2
      have bR_f3 := bR.frozen 3
      have bR_l := bR.lt
      go_simp
      clear bR_0 bR_f0 bR_1 bR_f1 bR_2 bR_f2 bR_3 bR_f3 bR_l
      generalize hX : World.setCell _ _ _ = V1
      have hb : Below w.heap.size w V1 := by rw [← hX]; exact ((((HB.out.setCell (p := ⟨w.heap.size + 1 + 1, 0, none⟩) (by first | omega | (dsimp only; omega)) _).setCell (p := ⟨w.heap.size + 1 + 1, 1, none⟩) (by first | omega | (dsimp only; omega)) _).setCell (p := ⟨w.heap.size + 1 + 1, 2, none⟩) (by first | omega | (dsimp only; omega)) _).setCell (p := ⟨w.heap.size + 1 + 1, 3, none⟩) (by first | omega | (dsimp only; omega)) _)
      have HA2 := Lib.hid (show OwnA V1 _ _ _ _ _ from by rw [← hX]; exact HA.out.far4 hgB _ _ _ _)
      clear HA
      have HA := HA2
      clear HA2
      have hfar : ∀ o, World.cell? V1 ⟨gs, o, none⟩ = World.cell? V0 ⟨gs, o, none⟩ := fun o => by rw [← hX]; simp only [World.cell?]; rw [heap_far4 hsB]
      replace HY0 := Lib.hid ((hfar _).trans HY0.out)
      replace HY1 := Lib.hid ((hfar _).trans HY1.out)
      replace HY2 := Lib.hid ((hfar _).trans HY2.out)
      replace HY3 := Lib.hid ((hfar _).trans HY3.out)
      clear hfar
      replace bR : Bk V1 (w.heap.size + 1 + 1) #[.int .i64 (k1 : Int), .bool d1, .int .i64 l1, .int .i64 h1] 61 := by rw [← hX]; exact (Bk.set (Bk.set (Bk.set (Bk.set bR 0 _ rfl) 1 _ rfl) 2 _ rfl) 3 _ rfl)
      clear hX
      replace HB := Lib.hid hb
      clear hb
      refine hK.out _ _ (HSp.out _ HY0.out HY1.out HY2.out HY3.out) (fun _ => ?_)
      clear hK Kn
      have hS := HSp.out _ HY0.out HY1.out HY2.out HY3.out
      refine wpAnyH_take (i := 8) (oi := { dst := some 10, op := Go.Op.assign (Go.Operand.const (Go.Value.int Go.IntKind.i64 0)), type := 2, pos := "l07_rays.go:100", after := #[{ on := 7, ground := Go.Ground.chain }, { on := 0, ground := Go.Ground.phase }, { on := 1, ground := Go.Ground.phase }, { on := 2, ground := Go.Ground.phase }, { on := 3, ground := Go.Ground.phase }, { on := 4, ground := Go.Ground.phase }, { on := 5, ground := Go.Ground.phase }, { on := 6, ground := Go.Ground.phase }, { on := 7, ground := Go.Ground.phase }], guard := none }) (v := ?_) rfl (by kernel_rfl) (by kernel_rfl) (by kernel_rfl) (fun _ _ _ h => h) (Or.inl ⟨by rfl, ?_⟩) hS ?_
      rotate_left
      · (intro w hSw; have hSw := (HSd.out w).1 hSw; go_split_ands; go_simp) <;> with_reducible rfl
      clear hS
      try simp only [Act.put, List.setIfInBounds_toArray, List.set_cons_zero, List.set_cons_succ]
      refine wpAnyH_done (by kernel_rfl) ?_ _
      have c0 := bR.cell 0 rfl
      have c1 := bR.cell 1 rfl
      have c2 := bR.cell 2 rfl
      have c3 := bR.cell 3 rfl
      go_wp2
      exact bodyPost_ret (v := .tuple #[.slice (some ⟨ge0, 0, none⟩) N ce0, .agg #[.int .i64 (k1 : Int), .bool d1, .int .i64 l1, .int .i64 h1], .int .i64 0]) (by simp [results, Try.results42, go_sem, c0, c1, c2, c3]) rfl ⟨some ⟨ge0, 0, none⟩, ce0, by rw [H1.out, H2.out, evL_len], by rw [H1.out]; exact HA.out.grow HA.out.up (Nat.le_refl _), HB.out⟩
end Go.Proofs.Ytaaklnabomhleaa
