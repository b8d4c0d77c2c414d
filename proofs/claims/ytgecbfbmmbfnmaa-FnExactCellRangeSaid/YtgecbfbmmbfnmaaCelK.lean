/- The contract of the model's CellRange. The walk of the exact law of CellRange: it returns true and writes nothing that was there. -/
import Derived.Test.YtgecbfbmmbfnmaaCelG
import Derived.Test.YtgecbfbmmbfnmaaCelH
import Derived.Handy
import Derived.Outline
import Derived.LoopTactic
import Derived.Deep.RegionHeld3
import Derived.Deep.DeepCutAuto
import Derived.Deep.RegionWith
import Derived.Test.YtgecbfbmmbfnmaaCelM
import Derived.Test.YtgecbfbmmbfnmaaCelF
import Derived.Test.YtgecbfbmmbfnmaaLws
import Derived.Test.YtgecbfbmmbfnmaaPrs
import Derived.Deep.DrawnRows
namespace Go.Proofs.Ytgecbfbmmbfnmaa
open Go.ChangeShapes Go.WideShapes Go.ChangeAt Go.RowKit Go.Shelf Num
set_option linter.unusedVariables false
set_option linter.unusedSimpArgs false

theorem mcT_0 {zs ys : List Int} {src c s h x y z n : Int} (e : mcT zs ys src c s h x y z n = 0) : ∃ i N : Nat, src = (i : Int) ∧ n = (N : Int) ∧ N ≤ 100 ∧ RyOk zs ys i c s h ∧ RyOk zs ys i x y z := by
  unfold mcT at e
  cases hP : prfB zs ys <;> cases h1 : dirB c s h <;> cases h2 : dirB x y z <;> cases hK : hkB zs src <;> cases hI : inB n 0 100 <;> rw [hP, h1, h2, hK, hI] at e <;> simp at e
  have g := hkB_t hK
  have g2 := inB_t hI
  exact ⟨src.toNat, n.toNat, by omega, by omega, by omega, ⟨Okp.of hP, dirB_t h1, by omega⟩, ⟨Okp.of hP, dirB_t h2, by omega⟩⟩

set_option maxRecDepth 100000 in
set_option maxHeartbeats 4000000 in
theorem scr_any (w : World) (a b : Option Addr) (ca cb : Nat) (zs ys : List Int) (src c s h x y z n : Int) (hp : Prof w w.heap.size a b zs ys) :
    Calls Try.prog 6 #[.agg #[.slice a zs.length ca, .slice b ys.length cb], .int .i64 src, .agg #[.int .i64 c, .int .i64 s, .int .i64 h], .agg #[.int .i64 x, .int .i64 y, .int .i64 z], .int .i64 n] w fun e w' => e = .returned (.tuple #[.agg #[.int .i64 (mrgT zs ys src c s h x y z n).1, .int .i64 (mrgT zs ys src c s h x y z n).2.1], .int .i64 (mrgT zs ys src c s h x y z n).2.2]) ∧ Below w.heap.size w w' := by
  have HP := Lib.hid hp
  have KC : Hid (∀ W : World, Below w.heap.size w W → Calls Try.prog 15 #[.agg #[.slice a zs.length ca, .slice b ys.length cb], .int .i64 src, .agg #[.int .i64 c, .int .i64 s, .int .i64 h], .agg #[.int .i64 x, .int .i64 y, .int .i64 z], .int .i64 n] W fun e w' => e = .returned (.int .i64 (mcT zs ys src c s h x y z n)) ∧ Below W.heap.size W w') := Lib.hid (fun W hb => lc8_any W a b ca cb zs ys src c s h x y z n (HP.out.on hb))
  obtain ⟨T, hT⟩ : ∃ u, mrgT zs ys src c s h x y z n = u := ⟨_, rfl⟩
  have HT := hT
  unfold mrgT at HT
  rw [hT]
  clear hT hp
  by_cases hq : mcT zs ys src c s h x y z n = 0
  case neg =>
    rw [if_neg hq] at HT
    have HC := Lib.hid HT.symm
    obtain ⟨q, hqq⟩ : ∃ u, mcT zs ys src c s h x y z n = u := ⟨_, rfl⟩
    rw [hqq] at HC hq KC
    have y0 : (q != 0) = true := by simpa using hq
    clear hqq hq HT
    go_enter Try.func6, Try.ntmps6
    go_upto_region 1 with fail
    generalize hW : World.alloc _ _ = W
    have bX : Bk W (w.heap.size) #[.slice a zs.length ca, .slice b ys.length cb] 32 := by rw [← hW]; repeat (first | (refine Bk.new' ?_; (simp; done)) | refine Bk.alloc ?_ _)
    have bD : Bk W (w.heap.size + 1) #[.int .i64 c, .int .i64 s, .int .i64 h] 34 := by rw [← hW]; repeat (first | (refine Bk.new' ?_; (simp; done)) | refine Bk.alloc ?_ _)
    have bE : Bk W (w.heap.size + 1 + 1) #[.int .i64 x, .int .i64 y, .int .i64 z] 34 := by rw [← hW]; repeat (first | (refine Bk.new' ?_; (simp; done)) | refine Bk.alloc ?_ _)
    have bR : Bk W (w.heap.size + 1 + 1 + 1) #[.int .i64 0, .int .i64 0] 29 := by rw [← hW]; repeat (first | (refine Bk.new' ?_; (simp; done)) | refine Bk.alloc ?_ _)
    have HB : Hid (Below w.heap.size w W) := Lib.hid (by rw [← hW]; exact (by repeat (first | exact Below.refl _ _ | (refine Below.alloc ?_ (by simp <;> omega) _) | (refine Below.setCell ?_ (by simp <;> omega) _) | (refine Below.drew ?_) | (refine bel_drewN ?_ _))))
    clear hW
    have bX_0 := bX.cell 0 rfl
    have bX_1 := bX.cell 1 rfl
    have bX_l := bX.lt
    have bD_0 := bD.cell 0 rfl
    have bD_1 := bD.cell 1 rfl
    have bD_2 := bD.cell 2 rfl
    have bD_l := bD.lt
    have bE_0 := bE.cell 0 rfl
    have bE_1 := bE.cell 1 rfl
    have bE_2 := bE.cell 2 rfl
    have bE_l := bE.lt
    go_wp2_with fail
    (with_reducible refine Calls.mono (KC.out _ HB.out) ?_)
    rintro e w1 ⟨rfl, hb⟩
    clear bX_0 bX_1 bX_l
    clear bD_0 bD_1 bD_2 bD_l
    clear bE_0 bE_1 bE_2 bE_l
    replace bX := bX.on hb
    replace bD := bD.on hb
    replace bE := bE.on hb
    replace bR := bR.on hb
    replace HB := Lib.hid (bel_end HB.out hb)
    clear hb
    clear KC
    have bR_0 := bR.cell 0 rfl
    have bR_1 := bR.cell 1 rfl
    have bR_f0 := bR.frozen 0
    have bR_f1 := bR.frozen 1
    have bR_l := bR.lt
    go_wp2
    exact bodyPost_ret (v := .tuple #[.agg #[.int .i64 0, .int .i64 0], .int .i64 q]) (by simp [results, Try.results6, go_sem, bR_0, bR_1]) rfl ⟨by rw [HC.out], (by repeat (first | exact HB.out | (refine Below.setCell ?_ (by simp <;> omega) _) | (refine Below.alloc ?_ (by simp <;> omega) _) | (refine Below.drew ?_)))⟩
  case pos =>
    rw [if_pos hq] at HT
    obtain ⟨i, N, rfl, rfl, hN, r, q⟩ := mcT_0 hq
    rw [hq] at KC
    rw [Int.toNat_natCast, Int.toNat_natCast] at HT
    have KT : Hid (∀ W : World, Below w.heap.size w W → Calls Try.prog 16 #[.agg #[.slice a zs.length ca, .slice b ys.length cb], .int .i64 (i : Int), .agg #[.int .i64 c, .int .i64 s, .int .i64 h], .agg #[.int .i64 x, .int .i64 y, .int .i64 z], .int .i64 (N : Int)] W (T8P W zs ys i c s h x y z N)) := Lib.hid (fun W hb => tr8_any W a b ca cb zs ys i N c s h x y z hN (HP.out.on hb) r q)
    clear hq hN r q
    go_enter Try.func6, Try.ntmps6
    go_upto_region 1 with fail
    generalize hW : World.alloc _ _ = W
    have bX : Bk W (w.heap.size) #[.slice a zs.length ca, .slice b ys.length cb] 32 := by rw [← hW]; repeat (first | (refine Bk.new' ?_; (simp; done)) | refine Bk.alloc ?_ _)
    have bD : Bk W (w.heap.size + 1) #[.int .i64 c, .int .i64 s, .int .i64 h] 34 := by rw [← hW]; repeat (first | (refine Bk.new' ?_; (simp; done)) | refine Bk.alloc ?_ _)
    have bE : Bk W (w.heap.size + 1 + 1) #[.int .i64 x, .int .i64 y, .int .i64 z] 34 := by rw [← hW]; repeat (first | (refine Bk.new' ?_; (simp; done)) | refine Bk.alloc ?_ _)
    have bR : Bk W (w.heap.size + 1 + 1 + 1) #[.int .i64 0, .int .i64 0] 29 := by rw [← hW]; repeat (first | (refine Bk.new' ?_; (simp; done)) | refine Bk.alloc ?_ _)
    have HB : Hid (Below w.heap.size w W) := Lib.hid (by rw [← hW]; exact (by repeat (first | exact Below.refl _ _ | (refine Below.alloc ?_ (by simp <;> omega) _) | (refine Below.setCell ?_ (by simp <;> omega) _) | (refine Below.drew ?_) | (refine bel_drewN ?_ _))))
    clear hW
    have bX_0 := bX.cell 0 rfl
    have bX_1 := bX.cell 1 rfl
    have bX_l := bX.lt
    have bD_0 := bD.cell 0 rfl
    have bD_1 := bD.cell 1 rfl
    have bD_2 := bD.cell 2 rfl
    have bD_l := bD.lt
    have bE_0 := bE.cell 0 rfl
    have bE_1 := bE.cell 1 rfl
    have bE_2 := bE.cell 2 rfl
    have bE_l := bE.lt
    go_wp2_with fail
    (with_reducible refine Calls.mono (KC.out _ HB.out) ?_)
    rintro e w1 ⟨rfl, hb⟩
    clear bX_0 bX_1 bX_l
    clear bD_0 bD_1 bD_2 bD_l
    clear bE_0 bE_1 bE_2 bE_l
    replace bX := bX.on hb
    replace bD := bD.on hb
    replace bE := bE.on hb
    replace bR := bR.on hb
    replace HB := Lib.hid (bel_end HB.out hb)
    clear hb
    clear KC
    have bX_0 := bX.cell 0 rfl
    have bX_1 := bX.cell 1 rfl
    have bX_l := bX.lt
    have bD_0 := bD.cell 0 rfl
    have bD_1 := bD.cell 1 rfl
    have bD_2 := bD.cell 2 rfl
    have bD_l := bD.lt
    have bE_0 := bE.cell 0 rfl
    have bE_1 := bE.cell 1 rfl
    have bE_2 := bE.cell 2 rfl
    have bE_l := bE.lt
    go_wp2_with fail
    (with_reducible refine Calls.mono (KT.out _ HB.out) ?_)
    rintro e w2 hF
    clear bX_0 bX_1 bX_l
    clear bD_0 bD_1 bD_2 bD_l
    clear bE_0 bE_1 bE_2 bE_l
    clear KT
    cases ht : tlB zs ys i c s h x y z N
    case false =>
      rw [ht] at HT
      have HC := Lib.hid HT.symm
      simp only [Bool.false_eq_true, if_false] at HC
      clear HT
      obtain ⟨rfl, hb⟩ : e = .returned (.tuple #[.agg #[.int .i64 0, .bool false, .int .i64 0, .int .i64 0, .int .i64 0, .bool false, .int .i64 0, .int .i64 0, .bool false, .int .i64 0, .int .i64 0], .int .i64 3]) ∧ Below w1.heap.size w1 w2 := (by rcases hF with ⟨h0, -⟩ | ⟨-, g1, g2⟩; exact absurd h0 (by rw [ht]; decide); exact ⟨g1, g2⟩)
      clear hF ht
      replace bX := bX.on hb
      replace bD := bD.on hb
      replace bE := bE.on hb
      replace bR := bR.on hb
      replace HB := Lib.hid (bel_end HB.out hb)
      clear hb
      go_upto_region 5 with fail
      obtain ⟨W3, hW⟩ : ∃ X, X = w2.alloc (.cells #[.int .i64 0, .bool false, .int .i64 0, .int .i64 0, .int .i64 0, .bool false, .int .i64 0, .int .i64 0, .bool false, .int .i64 0, .int .i64 0] 47) := ⟨_, rfl⟩
      rw [← hW]
      have hb : Below w2.heap.size w2 W3 := by rw [hW]; exact (Below.refl _ _).alloc (Nat.le_refl _) _
      clear hW
      replace bX := bX.on hb
      replace bD := bD.on hb
      replace bE := bE.on hb
      replace bR := bR.on hb
      replace HB := Lib.hid (bel_end HB.out hb)
      clear hb
      have bR_0 := bR.cell 0 rfl
      have bR_1 := bR.cell 1 rfl
      have bR_f0 := bR.frozen 0
      have bR_f1 := bR.frozen 1
      have bR_l := bR.lt
      go_wp2
      exact bodyPost_ret (v := .tuple #[.agg #[.int .i64 0, .int .i64 0], .int .i64 3]) (by simp [results, Try.results6, go_sem, bR_0, bR_1]) rfl ⟨by rw [HC.out], (by repeat (first | exact HB.out | (refine Below.setCell ?_ (by simp <;> omega) _) | (refine Below.alloc ?_ (by simp <;> omega) _) | (refine Below.drew ?_)))⟩
    case true =>
      rw [ht] at HT
      rw [if_pos rfl] at HT
      obtain ⟨L, hL, rfl, hb⟩ : ∃ L : List Value, rs8 L ∧ e = .returned (.tuple #[.agg (L ++ [Value.bool (hsB zs ys i c s h x y z N), Value.int .i64 (enS zs ys i c s h x y z N).1, Value.int .i64 (enS zs ys i c s h x y z N).2]).toArray, .int .i64 0]) ∧ Below w1.heap.size w1 w2 := (by rcases hF with ⟨-, g0⟩ | ⟨g0, -⟩; exact g0; exact absurd ht (by rw [g0]; decide))
      obtain ⟨u0, u1, u2, u3, u4, u5, u6, u7, rfl⟩ := hL
      obtain ⟨sm, hm⟩ : ∃ u, hsB zs ys i c s h x y z N = u := ⟨_, rfl⟩
      obtain ⟨⟨A, E⟩, hS⟩ : ∃ u, enS zs ys i c s h x y z N = u := ⟨_, rfl⟩
      rw [hm, hS] at HT ⊢
      dsimp only [List.cons_append, List.nil_append] at HT ⊢
      clear hm hS ht hF
      replace bX := bX.on hb
      replace bD := bD.on hb
      replace bE := bE.on hb
      replace bR := bR.on hb
      replace HB := Lib.hid (bel_end HB.out hb)
      clear hb
      go_upto_region 5 with fail
      obtain ⟨W3, hW⟩ : ∃ X, X = w2.alloc (.cells #[.int .i64 u0, .bool u1, .int .i64 u2, .int .i64 u3, .int .i64 u4, .bool u5, .int .i64 u6, .int .i64 u7, .bool sm, .int .i64 A, .int .i64 E] 47) := ⟨_, rfl⟩
      rw [← hW]
      obtain ⟨gT, hg⟩ : ∃ u, u = w2.heap.size := ⟨_, rfl⟩
      have bT : Bk W3 gT #[.int .i64 u0, .bool u1, .int .i64 u2, .int .i64 u3, .int .i64 u4, .bool u5, .int .i64 u6, .int .i64 u7, .bool sm, .int .i64 A, .int .i64 E] 47 := by rw [hW]; exact Bk.new' hg
      have hb : Below w2.heap.size w2 W3 := by rw [hW]; exact (Below.refl _ _).alloc (Nat.le_refl _) _
      try rw [← hg]
      clear hW hg
      replace bX := bX.on hb
      replace bD := bD.on hb
      replace bE := bE.on hb
      replace bR := bR.on hb
      replace HB := Lib.hid (bel_end HB.out hb)
      clear hb
      cases sm
      case false =>
        have HC := Lib.hid HT.symm
        simp only [Bool.false_eq_true, if_false] at HC
        clear HT
        have bT_0 := bT.cell 0 rfl
        have bT_1 := bT.cell 1 rfl
        have bT_2 := bT.cell 2 rfl
        have bT_3 := bT.cell 3 rfl
        have bT_4 := bT.cell 4 rfl
        have bT_5 := bT.cell 5 rfl
        have bT_6 := bT.cell 6 rfl
        have bT_7 := bT.cell 7 rfl
        have bT_8 := bT.cell 8 rfl
        have bT_9 := bT.cell 9 rfl
        have bT_10 := bT.cell 10 rfl
        have bT_l := bT.lt
        have bR_0 := bR.cell 0 rfl
        have bR_1 := bR.cell 1 rfl
        have bR_f0 := bR.frozen 0
        have bR_f1 := bR.frozen 1
        have bR_l := bR.lt
        go_wp2
        exact bodyPost_ret (v := .tuple #[.agg #[.int .i64 0, .int .i64 0], .int .i64 5]) (by simp [results, Try.results6, go_sem, bR_0, bR_1]) rfl ⟨by rw [HC.out], (by repeat (first | exact HB.out | (refine Below.setCell ?_ (by simp <;> omega) _) | (refine Below.alloc ?_ (by simp <;> omega) _) | (refine Below.drew ?_)))⟩
      case true =>
        rw [if_pos rfl] at HT
        have HC := Lib.hid HT.symm
        clear HT
        have bT_0 := bT.cell 0 rfl
        have bT_1 := bT.cell 1 rfl
        have bT_2 := bT.cell 2 rfl
        have bT_3 := bT.cell 3 rfl
        have bT_4 := bT.cell 4 rfl
        have bT_5 := bT.cell 5 rfl
        have bT_6 := bT.cell 6 rfl
        have bT_7 := bT.cell 7 rfl
        have bT_8 := bT.cell 8 rfl
        have bT_9 := bT.cell 9 rfl
        have bT_10 := bT.cell 10 rfl
        have bT_l := bT.lt
        have bR_0 := bR.cell 0 rfl
        have bR_1 := bR.cell 1 rfl
        have bR_f0 := bR.frozen 0
        have bR_f1 := bR.frozen 1
        have bR_l := bR.lt
        go_wp2
        exact bodyPost_ret (v := .tuple #[.agg #[.int .i64 A, .int .i64 E], .int .i64 0]) (by simp [results, Try.results6, go_sem, bR_0, bR_1]) rfl ⟨by rw [HC.out], (by repeat (first | exact HB.out | (refine Below.setCell ?_ (by simp <;> omega) _) | (refine Below.alloc ?_ (by simp <;> omega) _) | (refine Below.drew ?_)))⟩
end Go.Proofs.Ytgecbfbmmbfnmaa
namespace Go.Proofs.Ytgecbfbmmbfnmaa
open Go.ChangeShapes Go.WideShapes Go.ChangeAt Go.RowKit Go.Shelf Num
set_option linter.unusedVariables false
set_option linter.unusedSimpArgs false
attribute [local go_sem ↓] Go.wp_at_zero Go.wp_at_succ

theorem icm_any (w : World) (a b : Option Addr) (ca cb : Nat) (zs ys : List Int) (src c s h x y z n : Int) (hp : Prof w w.heap.size a b zs ys) :
    Calls Try.prog 9 #[.agg #[.slice a zs.length ca, .slice b ys.length cb], .int .i64 src, .agg #[.int .i64 c, .int .i64 s, .int .i64 h], .agg #[.int .i64 x, .int .i64 y, .int .i64 z], .int .i64 n] w fun e w' => e = .returned (.tuple #[.agg #[.int .i64 (mrgT zs ys src c s h x y z n).1, .int .i64 (mrgT zs ys src c s h x y z n).2.1], .int .i64 (mrgT zs ys src c s h x y z n).2.2]) ∧ Below w.heap.size w w' := by
  have := icr_any w a b ca cb zs ys src c s h x y z n hp
  rwa [crg_eq] at this
set_option maxRecDepth 100000 in
set_option maxHeartbeats 8000000 in
theorem lcrg (a0 : Option Addr) (len0 cap0 : Nat) (z0 : List Int) (b0 : Option Addr) (len1 cap1 : Nat) (y0 : List Int) (src c s h x y z n : Int) (w : World) (w0 : IsRow .i64 w a0 len0 cap0 z0) (v0 : IsRow .i64 w b0 len1 cap1 y0) (w1 : (Lit.int .i64 src).wf = true) (w3 : (Lit.int .i64 n).wf = true) :
    Calls Try.prog 3 #[.agg #[.slice a0 len0 cap0, .slice b0 len1 cap1], .int .i64 src, .agg #[.int .i64 c, .int .i64 s, .int .i64 h], .agg #[.int .i64 x, .int .i64 y, .int .i64 z], .int .i64 n] w fun e w' => e = .returned (.bool true) ∧ Below w.heap.size w w' := by
  obtain ⟨hm, hn, e1, e2, hp⟩ := Prof.of_in w0 v0
  clear w0 v0 w1 w3
  obtain ⟨zs, hzs⟩ : ∃ zs, z0.take len0 = zs := ⟨_, rfl⟩
  obtain ⟨ys, hys⟩ : ∃ ys, y0.take len1 = ys := ⟨_, rfl⟩
  rw [hzs] at e1 hp
  rw [hys] at e2 hp
  subst e1 e2
  clear hzs hys
  by_cases hbig : 1048576 < zs.length + ys.length
  case pos =>
    have HZ := Lib.hid (szP_big hbig)
    clear hp
    go_enter Try.func3, Try.ntmps3
    go_wp2_with fail
    refine (szp_any _ _ _ _ _ _ _ hm hn).mono ?_
    rw [HZ.out]
    rintro e w1 ⟨rfl, hb⟩
    have HB : Hid (Below w.heap.size w w1) := Lib.hid (bel_end (by repeat (first | exact Below.refl _ _ | (refine Below.alloc ?_ (by simp <;> omega) _) | (refine Below.setCell ?_ (by simp <;> omega) _) | (refine Below.drew ?_) | (refine bel_drewN ?_ _))) hb)
    clear hb
    go_wp2
    go_ret
    exact ⟨rfl, HB.out⟩
  case neg =>
    have hz := szP_fit hbig
    have HP := Lib.hid (hp (by omega))
    have lz := HP.out.lz
    have ly := HP.out.ly
    clear hp
    obtain ⟨q, hq⟩ : ∃ q, szP zs.length ys.length = q := ⟨_, rfl⟩
    have hq0 : 0 ≤ q := hq ▸ hz
    have HQ := Lib.hid hq
    clear hz hq
    have KS : Hid (∀ (W : World) (a b : Option Addr) (ca cb : Nat), Prof W W.heap.size a b zs ys → Calls Try.prog 6 #[.agg #[.slice a zs.length ca, .slice b ys.length cb], .int .i64 src, .agg #[.int .i64 c, .int .i64 s, .int .i64 h], .agg #[.int .i64 x, .int .i64 y, .int .i64 z], .int .i64 n] W fun e w' => e = .returned (.tuple #[.agg #[.int .i64 (mrgT zs ys src c s h x y z n).1, .int .i64 (mrgT zs ys src c s h x y z n).2.1], .int .i64 (mrgT zs ys src c s h x y z n).2.2]) ∧ Below W.heap.size W w') := Lib.hid (fun W a b ca cb hp => scr_any W a b ca cb zs ys src c s h x y z n hp)
    have KI : Hid (∀ (W : World) (a b : Option Addr) (ca cb : Nat), Prof W W.heap.size a b zs ys → Calls Try.prog 9 #[.agg #[.slice a zs.length ca, .slice b ys.length cb], .int .i64 src, .agg #[.int .i64 c, .int .i64 s, .int .i64 h], .agg #[.int .i64 x, .int .i64 y, .int .i64 z], .int .i64 n] W fun e w' => e = .returned (.tuple #[.agg #[.int .i64 (mrgT zs ys src c s h x y z n).1, .int .i64 (mrgT zs ys src c s h x y z n).2.1], .int .i64 (mrgT zs ys src c s h x y z n).2.2]) ∧ Below W.heap.size W w') := Lib.hid (fun W a b ca cb hp => icm_any W a b ca cb zs ys src c s h x y z n hp)
    obtain ⟨⟨r00, r01, r1⟩, hT⟩ : ∃ u_, mrgT zs ys src c s h x y z n = u_ := ⟨_, rfl⟩
    rw [hT] at KS KI
    have KE : Hid (∀ W : World, Calls Try.prog 10 #[.agg #[.int .i64 r00, .int .i64 r01], .agg #[.int .i64 r00, .int .i64 r01]] W fun e w' => e = .returned (.bool true) ∧ Below W.heap.size W w') := Lib.hid (fun W => by have := eqv_any r00 r01 r00 r01 W; simpa only [beq_self_eq_true, Bool.and_self] using this)
    clear hT
    go_enter Try.func3, Try.ntmps3
    go_wp2_with fail
    generalize hW : World.alloc _ _ = W0
    have bX : Bk W0 (w.heap.size) #[.slice a0 zs.length cap0, .slice b0 ys.length cap1] 24 := by rw [← hW]; repeat (first | (refine Bk.new' ?_; (simp; done)) | refine Bk.alloc ?_ _)
    have bD : Bk W0 (w.heap.size + 1) #[.int .i64 c, .int .i64 s, .int .i64 h] 26 := by rw [← hW]; repeat (first | (refine Bk.new' ?_; (simp; done)) | refine Bk.alloc ?_ _)
    have bQ : Bk W0 (w.heap.size + 1 + 1) #[.int .i64 x, .int .i64 y, .int .i64 z] 26 := by rw [← hW]; repeat (first | (refine Bk.new' ?_; (simp; done)) | refine Bk.alloc ?_ _)
    have hb : Below w.heap.size w W0 := by rw [← hW]; exact (by repeat (first | exact Below.refl _ _ | (refine Below.alloc ?_ (by simp <;> omega) _) | (refine Below.setCell ?_ (by simp <;> omega) _) | (refine Below.drew ?_) | (refine bel_drewN ?_ _)))
    replace HP := Lib.hid (HP.out.on hb)
    have HB := Lib.hid hb
    clear hW hb
    refine (szp_any _ _ _ _ _ _ _ hm hn).mono ?_
    rw [HQ.out]
    rintro e W ⟨rfl, hb⟩
    replace bX := bX.on hb
    replace bD := bD.on hb
    replace bQ := bQ.on hb
    replace HP := Lib.hid (HP.out.on hb)
    replace HB := Lib.hid (bel_end HB.out hb)
    clear hb
    go_upto_region 5 with fail
    go_cut [12, 13] (fun s12 s13 wx => ∃ g : Nat, s12 = .pointer (some ⟨g, 0, none⟩) ∧ Bk wx g #[.int .i64 r00, .int .i64 r01] 29 ∧ W.heap.size ≤ g ∧ s13 = .int .i64 r1 ∧ Below W.heap.size W wx)
    case first =>
      have HW : Hid (Below W.heap.size W W) := Lib.hid (Below.refl _ _)
      obtain ⟨S, hSd⟩ : ∃ S : World → Prop, ∀ w', S w' ↔ (w'.cell? ⟨w.heap.size, 0, none⟩ = some (.slice a0 zs.length cap0) ∧ w'.cell? ⟨w.heap.size, 1, none⟩ = some (.slice b0 ys.length cap1) ∧ w'.cell? ⟨w.heap.size + 1, 0, none⟩ = some (.int .i64 c) ∧ w'.cell? ⟨w.heap.size + 1, 1, none⟩ = some (.int .i64 s) ∧ w'.cell? ⟨w.heap.size + 1, 2, none⟩ = some (.int .i64 h) ∧ w'.cell? ⟨w.heap.size + 1 + 1, 0, none⟩ = some (.int .i64 x) ∧ w'.cell? ⟨w.heap.size + 1 + 1, 1, none⟩ = some (.int .i64 y) ∧ w'.cell? ⟨w.heap.size + 1 + 1, 2, none⟩ = some (.int .i64 z)) := ⟨_, fun _ => Iff.rfl⟩
      have HSp : Hid (∀ w' : World, Bk w' (w.heap.size) #[.slice a0 zs.length cap0, .slice b0 ys.length cap1] 24 → Bk w' (w.heap.size + 1) #[.int .i64 c, .int .i64 s, .int .i64 h] 26 → Bk w' (w.heap.size + 1 + 1) #[.int .i64 x, .int .i64 y, .int .i64 z] 26 → S w') := Lib.hid (fun w' bX bD bQ => (hSd w').2 ⟨bX.cell 0 rfl, bX.cell 1 rfl, bD.cell 0 rfl, bD.cell 1 rfl, bD.cell 2 rfl, bQ.cell 0 rfl, bQ.cell 1 rfl, bQ.cell 2 rfl⟩)
      have HSd := Lib.hid hSd
      clear hSd
      refine wp_region_held_drew (S := S) (by kernel_rfl) ?_ (fun hH => ?_)
      · exact (HSp.out _ bX bD bQ : S (World.drew W))
      clear hH
      generalize hX : World.drew W = V0
      replace bX : Bk V0 (w.heap.size) #[.slice a0 zs.length cap0, .slice b0 ys.length cap1] 24 := by rw [← hX]; exact bX
      replace bD : Bk V0 (w.heap.size + 1) #[.int .i64 c, .int .i64 s, .int .i64 h] 26 := by rw [← hX]; exact bD
      replace bQ : Bk V0 (w.heap.size + 1 + 1) #[.int .i64 x, .int .i64 y, .int .i64 z] 26 := by rw [← hX]; exact bQ
      have hb : Below W.heap.size W V0 := by rw [← hX]; exact (Below.refl _ _).drew
      clear hX
      try replace HR := Lib.hid (HR.out.on hb)
      replace HW := Lib.hid (bel_end HW.out hb)
      clear hb
      have hS := HSp.out _ bX bD bQ
      refine wpAnyH_take (i := 0) (oi := { dst := some 23, op := Go.Op.load 24 (Go.Operand.tmp 5), type := 24, pos := "exact.go:3045", after := #[], guard := none }) (v := ?_) rfl (by kernel_rfl) (by kernel_rfl) (by kernel_rfl) (fun _ _ _ h => h) (Or.inl ⟨by rfl, ?_⟩) hS ?_
      rotate_left
      · (intro w hSw; have hSw := (HSd.out w).1 hSw; go_split_ands; go_simp) <;> with_reducible rfl
      clear hS
      try simp only [Act.put, List.setIfInBounds_toArray, List.set_cons_zero, List.set_cons_succ]
      have hS := HSp.out _ bX bD bQ
      refine wpAnyH_take (i := 2) (oi := { dst := some 25, op := Go.Op.move (Go.Operand.tmp 1), type := 2, pos := "exact.go:3045", after := #[], guard := none }) (v := ?_) rfl (by kernel_rfl) (by kernel_rfl) (by kernel_rfl) (fun _ _ _ h => h) (Or.inl ⟨by rfl, ?_⟩) hS ?_
      rotate_left
      · (intro w hSw; have hSw := (HSd.out w).1 hSw; go_split_ands; go_simp) <;> with_reducible rfl
      clear hS
      try simp only [Act.put, List.setIfInBounds_toArray, List.set_cons_zero, List.set_cons_succ]
      have hS := HSp.out _ bX bD bQ
      refine wpAnyH_take (i := 3) (oi := { dst := some 26, op := Go.Op.load 26 (Go.Operand.tmp 7), type := 26, pos := "exact.go:3045", after := #[], guard := none }) (v := ?_) rfl (by kernel_rfl) (by kernel_rfl) (by kernel_rfl) (fun _ _ _ h => h) (Or.inl ⟨by rfl, ?_⟩) hS ?_
      rotate_left
      · (intro w hSw; have hSw := (HSd.out w).1 hSw; go_split_ands; go_simp) <;> with_reducible rfl
      clear hS
      try simp only [Act.put, List.setIfInBounds_toArray, List.set_cons_zero, List.set_cons_succ]
      have hS := HSp.out _ bX bD bQ
      refine wpAnyH_take (i := 5) (oi := { dst := some 28, op := Go.Op.load 26 (Go.Operand.tmp 8), type := 26, pos := "exact.go:3045", after := #[], guard := none }) (v := ?_) rfl (by kernel_rfl) (by kernel_rfl) (by kernel_rfl) (fun _ _ _ h => h) (Or.inl ⟨by rfl, ?_⟩) hS ?_
      rotate_left
      · (intro w hSw; have hSw := (HSd.out w).1 hSw; go_split_ands; go_simp) <;> with_reducible rfl
      clear hS
      try simp only [Act.put, List.setIfInBounds_toArray, List.set_cons_zero, List.set_cons_succ]
      have hS := HSp.out _ bX bD bQ
      refine wpAnyH_take (i := 7) (oi := { dst := some 30, op := Go.Op.move (Go.Operand.tmp 4), type := 2, pos := "exact.go:3045", after := #[], guard := none }) (v := ?_) rfl (by kernel_rfl) (by kernel_rfl) (by kernel_rfl) (fun _ _ _ h => h) (Or.inl ⟨by rfl, ?_⟩) hS ?_
      rotate_left
      · (intro w hSw; have hSw := (HSd.out w).1 hSw; go_split_ands; go_simp) <;> with_reducible rfl
      clear hS
      try simp only [Act.put, List.setIfInBounds_toArray, List.set_cons_zero, List.set_cons_succ]
      refine wpAnyH_ready (rs := [1, 12]) (by kernel_rfl) (by simp) ?_
      refine AllReadyH.cons (o := { dst := some 24, op := Go.Op.call { callee := Go.Callee.value (Go.Operand.func 7), args := #[Go.Operand.tmp 23], argTypes := #[24] }, type := 32, pos := "exact.go:3045", after := #[{ on := 0, ground := Go.Ground.data }], guard := none }) rfl (fun Kn hK => ?_) ?_
      · first | go_at_call 7 | (go_simp; go_at_call 7)
        (refine Calls.mono (top_any _ _ _ _ _ zs ys (HP.out.on HW.out)) ?_)
        rintro e V1 ⟨g1, g2, rfl, hg1, hg2, hr1, hr2, hb⟩
        have HR := Lib.hid (Prof.of_rows hr1 hr2 lz ly)
        clear hr1 hr2
        try dsimp only
        try simp only [Act.put, List.setIfInBounds_toArray, List.set_cons_zero, List.set_cons_succ]
        replace bX := bX.on hb
        replace bD := bD.on hb
        replace bQ := bQ.on hb
        try replace HR := Lib.hid (HR.out.on hb)
        replace HW := Lib.hid (bel_end HW.out hb)
        clear hb
        refine hK.out _ _ (HSp.out _ bX bD bQ) (fun _ => ?_)
        clear hK Kn
        refine wpAnyH_ready (rs := [4, 12]) (by kernel_rfl) (by simp) ?_
        refine AllReadyH.cons (o := { dst := some 27, op := Go.Op.call { callee := Go.Callee.value (Go.Operand.func 8), args := #[Go.Operand.tmp 26], argTypes := #[26] }, type := 34, pos := "exact.go:3045", after := #[{ on := 3, ground := Go.Ground.data }, { on := 1, ground := Go.Ground.chain }], guard := none }) rfl (fun Kn hK => ?_) ?_
        · first | go_at_call 8 | (go_simp; go_at_call 8)
          refine (tod_any _ _ _ _).mono ?_
          rintro e V2 ⟨rfl, hb⟩
          try dsimp only
          try simp only [Act.put, List.setIfInBounds_toArray, List.set_cons_zero, List.set_cons_succ]
          replace bX := bX.on hb
          replace bD := bD.on hb
          replace bQ := bQ.on hb
          try replace HR := Lib.hid (HR.out.on hb)
          replace HW := Lib.hid (bel_end HW.out hb)
          clear hb
          refine hK.out _ _ (HSp.out _ bX bD bQ) (fun _ => ?_)
          clear hK Kn
          refine wpAnyH_ready (rs := [6, 12]) (by kernel_rfl) (by simp) ?_
          refine AllReadyH.cons (o := { dst := some 29, op := Go.Op.call { callee := Go.Callee.value (Go.Operand.func 8), args := #[Go.Operand.tmp 28], argTypes := #[26] }, type := 34, pos := "exact.go:3045", after := #[{ on := 5, ground := Go.Ground.data }, { on := 4, ground := Go.Ground.chain }], guard := none }) rfl (fun Kn hK => ?_) ?_
          · first | go_at_call 8 | (go_simp; go_at_call 8)
            refine (tod_any _ _ _ _).mono ?_
            rintro e V3 ⟨rfl, hb⟩
            try dsimp only
            try simp only [Act.put, List.setIfInBounds_toArray, List.set_cons_zero, List.set_cons_succ]
            replace bX := bX.on hb
            replace bD := bD.on hb
            replace bQ := bQ.on hb
            try replace HR := Lib.hid (HR.out.on hb)
            replace HW := Lib.hid (bel_end HW.out hb)
            clear hb
            refine hK.out _ _ (HSp.out _ bX bD bQ) (fun _ => ?_)
            clear hK Kn
            refine wpAnyH_ready (rs := [8, 12]) (by kernel_rfl) (by simp) ?_
            refine AllReadyH.cons (o := { dst := some 31, op := Go.Op.call { callee := Go.Callee.value (Go.Operand.func 6), args := #[Go.Operand.tmp 24, Go.Operand.tmp 25, Go.Operand.tmp 27, Go.Operand.tmp 29, Go.Operand.tmp 30], argTypes := #[32, 2, 34, 34, 2] }, type := 30, pos := "exact.go:3045", after := #[{ on := 1, ground := Go.Ground.data }, { on := 2, ground := Go.Ground.data }, { on := 4, ground := Go.Ground.data }, { on := 6, ground := Go.Ground.data }, { on := 7, ground := Go.Ground.data }, { on := 6, ground := Go.Ground.chain }], guard := none }) rfl (fun Kn hK => ?_) ?_
            · first | go_at_call 6 | (go_simp; go_at_call 6)
              (with_reducible refine Calls.mono (KS.out _ _ _ _ _ HR.out) ?_)
              rintro e V4 ⟨rfl, hb⟩
              try dsimp only
              try simp only [Act.put, List.setIfInBounds_toArray, List.set_cons_zero, List.set_cons_succ]
              replace bX := bX.on hb
              replace bD := bD.on hb
              replace bQ := bQ.on hb
              try replace HR := Lib.hid (HR.out.on hb)
              replace HW := Lib.hid (bel_end HW.out hb)
              clear hb
              refine hK.out _ _ (HSp.out _ bX bD bQ) (fun _ => ?_)
              clear hK Kn
              have hS := HSp.out _ bX bD bQ
              refine wpAnyH_take (i := 9) (oi := { dst := some 22, op := Go.Op.move (Go.Operand.tmp 31), type := 30, pos := "exact.go:3045", after := #[{ on := 8, ground := Go.Ground.data }], guard := none }) (v := ?_) rfl (by kernel_rfl) (by kernel_rfl) (by kernel_rfl) (fun _ _ _ h => h) (Or.inl ⟨by rfl, ?_⟩) hS ?_
              rotate_left
              · (intro w hSw; have hSw := (HSd.out w).1 hSw; go_split_ands; go_simp) <;> with_reducible rfl
              clear hS
              try simp only [Act.put, List.setIfInBounds_toArray, List.set_cons_zero, List.set_cons_succ]
              have hS := HSp.out _ bX bD bQ
              refine wpAnyH_take (i := 10) (oi := { dst := some 32, op := Go.Op.extract (Go.Operand.tmp 22) 0, type := 29, pos := "exact.go:3045", after := #[{ on := 9, ground := Go.Ground.data }], guard := none }) (v := ?_) rfl (by kernel_rfl) (by kernel_rfl) (by kernel_rfl) (fun _ _ _ h => h) (Or.inl ⟨by rfl, ?_⟩) hS ?_
              rotate_left
              · (intro w hSw; have hSw := (HSd.out w).1 hSw; go_split_ands; go_simp) <;> with_reducible rfl
              clear hS
              try simp only [Act.put, List.setIfInBounds_toArray, List.set_cons_zero, List.set_cons_succ]
              have hS := HSp.out _ bX bD bQ
              refine wpAnyH_take (i := 11) (oi := { dst := some 33, op := Go.Op.extract (Go.Operand.tmp 22) 1, type := 2, pos := "exact.go:3045", after := #[{ on := 9, ground := Go.Ground.data }, { on := 13, ground := Go.Ground.gcOnly Go.Departure.lateStores }], guard := none }) (v := ?_) rfl (by kernel_rfl) (by kernel_rfl) (by kernel_rfl) (fun _ _ _ h => h) (Or.inl ⟨by rfl, ?_⟩) hS ?_
              rotate_left
              · (intro w hSw; have hSw := (HSd.out w).1 hSw; go_split_ands; go_simp) <;> with_reducible rfl
              clear hS
              try simp only [Act.put, List.setIfInBounds_toArray, List.set_cons_zero, List.set_cons_succ]
              refine wpAnyH_ready (rs := [12]) (by kernel_rfl) (by simp) ?_
              refine AllReadyH.cons (o := { dst := some 12, op := Go.Op.alloc 29, type := 0, pos := "exact.go:3045", after := #[], guard := none }) rfl (fun Kn hK => ?_) AllReadyH.nil
              go_simp
              generalize hX : World.alloc V4 _ = V5
              obtain ⟨g12, hg⟩ : ∃ g, g = V4.heap.size := ⟨_, rfl⟩
              have bn12 : Bk V5 g12 #[.int .i64 0, .int .i64 0] 29 := by rw [← hX]; exact Bk.new' hg
              have le12 : W.heap.size ≤ g12 := by rw [hg]; exact HW.out.size
              have nebX_12 : w.heap.size ≠ g12 := by have := bX.lt; omega
              replace bX : Bk V5 (w.heap.size) #[.slice a0 zs.length cap0, .slice b0 ys.length cap1] 24 := by rw [← hX]; exact bX.alloc _
              have nebD_12 : w.heap.size + 1 ≠ g12 := by have := bD.lt; omega
              replace bD : Bk V5 (w.heap.size + 1) #[.int .i64 c, .int .i64 s, .int .i64 h] 26 := by rw [← hX]; exact bD.alloc _
              have nebQ_12 : w.heap.size + 1 + 1 ≠ g12 := by have := bQ.lt; omega
              replace bQ : Bk V5 (w.heap.size + 1 + 1) #[.int .i64 x, .int .i64 y, .int .i64 z] 26 := by rw [← hX]; exact bQ.alloc _
              try rw [← hg]
              have hb : Below V4.heap.size V4 V5 := by rw [← hX]; exact (Below.refl _ _).alloc (Nat.le_refl _) _
              clear hX hg
              try replace HR := Lib.hid (HR.out.on hb)
              replace HW := Lib.hid (bel_end HW.out hb)
              clear hb
              refine hK.out _ _ (HSp.out _ bX bD bQ) (fun _ => ?_)
              clear hK Kn
              refine wpAnyH_ready (rs := [13]) (by kernel_rfl) (by simp) ?_
              refine AllReadyH.cons (o := { dst := none, op := Go.Op.store 29 (Go.Operand.tmp 12) (Go.Operand.tmp 32), type := 0, pos := "exact.go:3045", after := #[{ on := 12, ground := Go.Ground.data }, { on := 10, ground := Go.Ground.data }, { on := 8, ground := Go.Ground.chain }, { on := 0, ground := Go.Ground.phase }, { on := 1, ground := Go.Ground.phase }, { on := 2, ground := Go.Ground.phase }, { on := 3, ground := Go.Ground.phase }, { on := 4, ground := Go.Ground.phase }, { on := 5, ground := Go.Ground.phase }, { on := 6, ground := Go.Ground.phase }, { on := 7, ground := Go.Ground.phase }, { on := 8, ground := Go.Ground.phase }, { on := 9, ground := Go.Ground.phase }, { on := 10, ground := Go.Ground.phase }, { on := 11, ground := Go.Ground.textOnly Go.Departure.lateStores }, { on := 12, ground := Go.Ground.phase }], guard := none }) rfl (fun Kn hK => ?_) AllReadyH.nil
              have bn12_0 := bn12.cell 0 rfl
              have bn12_1 := bn12.cell 1 rfl
              have bn12_f0 := bn12.frozen 0
              have bn12_f1 := bn12.frozen 1
              have bn12_l := bn12.lt
              go_simp
              clear bn12_0 bn12_f0 bn12_1 bn12_f1 bn12_l
              generalize hX : World.setCell _ _ _ = V6
              have hb : Below W.heap.size W V6 := by rw [← hX]; exact ((HW.out.setCell (p := ⟨g12, 0, none⟩) le12 _).setCell (p := ⟨g12, 1, none⟩) le12 _)
              replace bX : Bk V6 (w.heap.size) #[.slice a0 zs.length cap0, .slice b0 ys.length cap1] 24 := by rw [← hX]; exact (Bk.other (Bk.other bX nebX_12 0 _) nebX_12 1 _)
              replace bD : Bk V6 (w.heap.size + 1) #[.int .i64 c, .int .i64 s, .int .i64 h] 26 := by rw [← hX]; exact (Bk.other (Bk.other bD nebD_12 0 _) nebD_12 1 _)
              replace bQ : Bk V6 (w.heap.size + 1 + 1) #[.int .i64 x, .int .i64 y, .int .i64 z] 26 := by rw [← hX]; exact (Bk.other (Bk.other bQ nebQ_12 0 _) nebQ_12 1 _)
              replace bn12 : Bk V6 (g12) #[.int .i64 r00, .int .i64 r01] 29 := by rw [← hX]; exact (Bk.set (Bk.set bn12 0 _ rfl) 1 _ rfl)
              clear hX
              replace HW := Lib.hid hb
              clear hb
              refine hK.out _ _ (HSp.out _ bX bD bQ) (fun _ => ?_)
              clear hK Kn
              have hS := HSp.out _ bX bD bQ
              refine wpAnyH_take (i := 14) (oi := { dst := some 13, op := Go.Op.assign (Go.Operand.tmp 33), type := 2, pos := "exact.go:3045", after := #[{ on := 11, ground := Go.Ground.data }, { on := 13, ground := Go.Ground.chain }, { on := 0, ground := Go.Ground.phase }, { on := 1, ground := Go.Ground.phase }, { on := 2, ground := Go.Ground.phase }, { on := 3, ground := Go.Ground.phase }, { on := 4, ground := Go.Ground.phase }, { on := 5, ground := Go.Ground.phase }, { on := 6, ground := Go.Ground.phase }, { on := 7, ground := Go.Ground.phase }, { on := 8, ground := Go.Ground.phase }, { on := 9, ground := Go.Ground.phase }, { on := 10, ground := Go.Ground.phase }, { on := 11, ground := Go.Ground.phase }, { on := 12, ground := Go.Ground.phase }, { on := 13, ground := Go.Ground.phase }], guard := none }) (v := ?_) rfl (by kernel_rfl) (by kernel_rfl) (by kernel_rfl) (fun _ _ _ h => h) (Or.inl ⟨by rfl, ?_⟩) hS ?_
              rotate_left
              · (intro w hSw; have hSw := (HSd.out w).1 hSw; go_split_ands; go_simp) <;> with_reducible rfl
              clear hS
              try simp only [Act.put, List.setIfInBounds_toArray, List.set_cons_zero, List.set_cons_succ]
              refine wpAnyH_done (by kernel_rfl) ?_ _
              go_wp2_with fail
              go_meet
              exact ⟨_, rfl, bn12, le12, rfl, HW.out⟩
            refine AllReadyH.cons (o := { dst := some 12, op := Go.Op.alloc 29, type := 0, pos := "exact.go:3045", after := #[], guard := none }) rfl (fun Kn hK => ?_) AllReadyH.nil
            go_simp
            generalize hX : World.alloc V3 _ = V7
            obtain ⟨g12, hg⟩ : ∃ g, g = V3.heap.size := ⟨_, rfl⟩
            have bn12 : Bk V7 g12 #[.int .i64 0, .int .i64 0] 29 := by rw [← hX]; exact Bk.new' hg
            have le12 : W.heap.size ≤ g12 := by rw [hg]; exact HW.out.size
            have nebX_12 : w.heap.size ≠ g12 := by have := bX.lt; omega
            replace bX : Bk V7 (w.heap.size) #[.slice a0 zs.length cap0, .slice b0 ys.length cap1] 24 := by rw [← hX]; exact bX.alloc _
            have nebD_12 : w.heap.size + 1 ≠ g12 := by have := bD.lt; omega
            replace bD : Bk V7 (w.heap.size + 1) #[.int .i64 c, .int .i64 s, .int .i64 h] 26 := by rw [← hX]; exact bD.alloc _
            have nebQ_12 : w.heap.size + 1 + 1 ≠ g12 := by have := bQ.lt; omega
            replace bQ : Bk V7 (w.heap.size + 1 + 1) #[.int .i64 x, .int .i64 y, .int .i64 z] 26 := by rw [← hX]; exact bQ.alloc _
            try rw [← hg]
            have hb : Below V3.heap.size V3 V7 := by rw [← hX]; exact (Below.refl _ _).alloc (Nat.le_refl _) _
            clear hX hg
            try replace HR := Lib.hid (HR.out.on hb)
            replace HW := Lib.hid (bel_end HW.out hb)
            clear hb
            refine hK.out _ _ (HSp.out _ bX bD bQ) (fun _ => ?_)
            clear hK Kn
            refine wpAnyH_ready (rs := [8]) (by kernel_rfl) (by simp) ?_
            refine AllReadyH.cons (o := { dst := some 31, op := Go.Op.call { callee := Go.Callee.value (Go.Operand.func 6), args := #[Go.Operand.tmp 24, Go.Operand.tmp 25, Go.Operand.tmp 27, Go.Operand.tmp 29, Go.Operand.tmp 30], argTypes := #[32, 2, 34, 34, 2] }, type := 30, pos := "exact.go:3045", after := #[{ on := 1, ground := Go.Ground.data }, { on := 2, ground := Go.Ground.data }, { on := 4, ground := Go.Ground.data }, { on := 6, ground := Go.Ground.data }, { on := 7, ground := Go.Ground.data }, { on := 6, ground := Go.Ground.chain }], guard := none }) rfl (fun Kn hK => ?_) AllReadyH.nil
            first | go_at_call 6 | (go_simp; go_at_call 6)
            (with_reducible refine Calls.mono (KS.out _ _ _ _ _ HR.out) ?_)
            rintro e V8 ⟨rfl, hb⟩
            try dsimp only
            try simp only [Act.put, List.setIfInBounds_toArray, List.set_cons_zero, List.set_cons_succ]
            replace bX := bX.on hb
            replace bD := bD.on hb
            replace bQ := bQ.on hb
            replace bn12 := bn12.on hb
            try replace HR := Lib.hid (HR.out.on hb)
            replace HW := Lib.hid (bel_end HW.out hb)
            clear hb
            refine hK.out _ _ (HSp.out _ bX bD bQ) (fun _ => ?_)
            clear hK Kn
            have hS := HSp.out _ bX bD bQ
            refine wpAnyH_take (i := 9) (oi := { dst := some 22, op := Go.Op.move (Go.Operand.tmp 31), type := 30, pos := "exact.go:3045", after := #[{ on := 8, ground := Go.Ground.data }], guard := none }) (v := ?_) rfl (by kernel_rfl) (by kernel_rfl) (by kernel_rfl) (fun _ _ _ h => h) (Or.inl ⟨by rfl, ?_⟩) hS ?_
            rotate_left
            · (intro w hSw; have hSw := (HSd.out w).1 hSw; go_split_ands; go_simp) <;> with_reducible rfl
            clear hS
            try simp only [Act.put, List.setIfInBounds_toArray, List.set_cons_zero, List.set_cons_succ]
            have hS := HSp.out _ bX bD bQ
            refine wpAnyH_take (i := 10) (oi := { dst := some 32, op := Go.Op.extract (Go.Operand.tmp 22) 0, type := 29, pos := "exact.go:3045", after := #[{ on := 9, ground := Go.Ground.data }], guard := none }) (v := ?_) rfl (by kernel_rfl) (by kernel_rfl) (by kernel_rfl) (fun _ _ _ h => h) (Or.inl ⟨by rfl, ?_⟩) hS ?_
            rotate_left
            · (intro w hSw; have hSw := (HSd.out w).1 hSw; go_split_ands; go_simp) <;> with_reducible rfl
            clear hS
            try simp only [Act.put, List.setIfInBounds_toArray, List.set_cons_zero, List.set_cons_succ]
            have hS := HSp.out _ bX bD bQ
            refine wpAnyH_take (i := 11) (oi := { dst := some 33, op := Go.Op.extract (Go.Operand.tmp 22) 1, type := 2, pos := "exact.go:3045", after := #[{ on := 9, ground := Go.Ground.data }, { on := 13, ground := Go.Ground.gcOnly Go.Departure.lateStores }], guard := none }) (v := ?_) rfl (by kernel_rfl) (by kernel_rfl) (by kernel_rfl) (fun _ _ _ h => h) (Or.inl ⟨by rfl, ?_⟩) hS ?_
            rotate_left
            · (intro w hSw; have hSw := (HSd.out w).1 hSw; go_split_ands; go_simp) <;> with_reducible rfl
            clear hS
            try simp only [Act.put, List.setIfInBounds_toArray, List.set_cons_zero, List.set_cons_succ]
            refine wpAnyH_ready (rs := [13]) (by kernel_rfl) (by simp) ?_
            refine AllReadyH.cons (o := { dst := none, op := Go.Op.store 29 (Go.Operand.tmp 12) (Go.Operand.tmp 32), type := 0, pos := "exact.go:3045", after := #[{ on := 12, ground := Go.Ground.data }, { on := 10, ground := Go.Ground.data }, { on := 8, ground := Go.Ground.chain }, { on := 0, ground := Go.Ground.phase }, { on := 1, ground := Go.Ground.phase }, { on := 2, ground := Go.Ground.phase }, { on := 3, ground := Go.Ground.phase }, { on := 4, ground := Go.Ground.phase }, { on := 5, ground := Go.Ground.phase }, { on := 6, ground := Go.Ground.phase }, { on := 7, ground := Go.Ground.phase }, { on := 8, ground := Go.Ground.phase }, { on := 9, ground := Go.Ground.phase }, { on := 10, ground := Go.Ground.phase }, { on := 11, ground := Go.Ground.textOnly Go.Departure.lateStores }, { on := 12, ground := Go.Ground.phase }], guard := none }) rfl (fun Kn hK => ?_) AllReadyH.nil
            have bn12_0 := bn12.cell 0 rfl
            have bn12_1 := bn12.cell 1 rfl
            have bn12_f0 := bn12.frozen 0
            have bn12_f1 := bn12.frozen 1
            have bn12_l := bn12.lt
            go_simp
            clear bn12_0 bn12_f0 bn12_1 bn12_f1 bn12_l
            generalize hX : World.setCell _ _ _ = V9
            have hb : Below W.heap.size W V9 := by rw [← hX]; exact ((HW.out.setCell (p := ⟨g12, 0, none⟩) le12 _).setCell (p := ⟨g12, 1, none⟩) le12 _)
            replace bX : Bk V9 (w.heap.size) #[.slice a0 zs.length cap0, .slice b0 ys.length cap1] 24 := by rw [← hX]; exact (Bk.other (Bk.other bX nebX_12 0 _) nebX_12 1 _)
            replace bD : Bk V9 (w.heap.size + 1) #[.int .i64 c, .int .i64 s, .int .i64 h] 26 := by rw [← hX]; exact (Bk.other (Bk.other bD nebD_12 0 _) nebD_12 1 _)
            replace bQ : Bk V9 (w.heap.size + 1 + 1) #[.int .i64 x, .int .i64 y, .int .i64 z] 26 := by rw [← hX]; exact (Bk.other (Bk.other bQ nebQ_12 0 _) nebQ_12 1 _)
            replace bn12 : Bk V9 (g12) #[.int .i64 r00, .int .i64 r01] 29 := by rw [← hX]; exact (Bk.set (Bk.set bn12 0 _ rfl) 1 _ rfl)
            clear hX
            replace HW := Lib.hid hb
            clear hb
            refine hK.out _ _ (HSp.out _ bX bD bQ) (fun _ => ?_)
            clear hK Kn
            have hS := HSp.out _ bX bD bQ
            refine wpAnyH_take (i := 14) (oi := { dst := some 13, op := Go.Op.assign (Go.Operand.tmp 33), type := 2, pos := "exact.go:3045", after := #[{ on := 11, ground := Go.Ground.data }, { on := 13, ground := Go.Ground.chain }, { on := 0, ground := Go.Ground.phase }, { on := 1, ground := Go.Ground.phase }, { on := 2, ground := Go.Ground.phase }, { on := 3, ground := Go.Ground.phase }, { on := 4, ground := Go.Ground.phase }, { on := 5, ground := Go.Ground.phase }, { on := 6, ground := Go.Ground.phase }, { on := 7, ground := Go.Ground.phase }, { on := 8, ground := Go.Ground.phase }, { on := 9, ground := Go.Ground.phase }, { on := 10, ground := Go.Ground.phase }, { on := 11, ground := Go.Ground.phase }, { on := 12, ground := Go.Ground.phase }, { on := 13, ground := Go.Ground.phase }], guard := none }) (v := ?_) rfl (by kernel_rfl) (by kernel_rfl) (by kernel_rfl) (fun _ _ _ h => h) (Or.inl ⟨by rfl, ?_⟩) hS ?_
            rotate_left
            · (intro w hSw; have hSw := (HSd.out w).1 hSw; go_split_ands; go_simp) <;> with_reducible rfl
            clear hS
            try simp only [Act.put, List.setIfInBounds_toArray, List.set_cons_zero, List.set_cons_succ]
            refine wpAnyH_done (by kernel_rfl) ?_ _
            go_wp2_with fail
            go_meet
            exact ⟨_, rfl, bn12, le12, rfl, HW.out⟩
          refine AllReadyH.cons (o := { dst := some 12, op := Go.Op.alloc 29, type := 0, pos := "exact.go:3045", after := #[], guard := none }) rfl (fun Kn hK => ?_) AllReadyH.nil
          go_simp
          generalize hX : World.alloc V2 _ = V10
          obtain ⟨g12, hg⟩ : ∃ g, g = V2.heap.size := ⟨_, rfl⟩
          have bn12 : Bk V10 g12 #[.int .i64 0, .int .i64 0] 29 := by rw [← hX]; exact Bk.new' hg
          have le12 : W.heap.size ≤ g12 := by rw [hg]; exact HW.out.size
          have nebX_12 : w.heap.size ≠ g12 := by have := bX.lt; omega
          replace bX : Bk V10 (w.heap.size) #[.slice a0 zs.length cap0, .slice b0 ys.length cap1] 24 := by rw [← hX]; exact bX.alloc _
          have nebD_12 : w.heap.size + 1 ≠ g12 := by have := bD.lt; omega
          replace bD : Bk V10 (w.heap.size + 1) #[.int .i64 c, .int .i64 s, .int .i64 h] 26 := by rw [← hX]; exact bD.alloc _
          have nebQ_12 : w.heap.size + 1 + 1 ≠ g12 := by have := bQ.lt; omega
          replace bQ : Bk V10 (w.heap.size + 1 + 1) #[.int .i64 x, .int .i64 y, .int .i64 z] 26 := by rw [← hX]; exact bQ.alloc _
          try rw [← hg]
          have hb : Below V2.heap.size V2 V10 := by rw [← hX]; exact (Below.refl _ _).alloc (Nat.le_refl _) _
          clear hX hg
          try replace HR := Lib.hid (HR.out.on hb)
          replace HW := Lib.hid (bel_end HW.out hb)
          clear hb
          refine hK.out _ _ (HSp.out _ bX bD bQ) (fun _ => ?_)
          clear hK Kn
          refine wpAnyH_ready (rs := [6]) (by kernel_rfl) (by simp) ?_
          refine AllReadyH.cons (o := { dst := some 29, op := Go.Op.call { callee := Go.Callee.value (Go.Operand.func 8), args := #[Go.Operand.tmp 28], argTypes := #[26] }, type := 34, pos := "exact.go:3045", after := #[{ on := 5, ground := Go.Ground.data }, { on := 4, ground := Go.Ground.chain }], guard := none }) rfl (fun Kn hK => ?_) AllReadyH.nil
          first | go_at_call 8 | (go_simp; go_at_call 8)
          refine (tod_any _ _ _ _).mono ?_
          rintro e V11 ⟨rfl, hb⟩
          try dsimp only
          try simp only [Act.put, List.setIfInBounds_toArray, List.set_cons_zero, List.set_cons_succ]
          replace bX := bX.on hb
          replace bD := bD.on hb
          replace bQ := bQ.on hb
          replace bn12 := bn12.on hb
          try replace HR := Lib.hid (HR.out.on hb)
          replace HW := Lib.hid (bel_end HW.out hb)
          clear hb
          refine hK.out _ _ (HSp.out _ bX bD bQ) (fun _ => ?_)
          clear hK Kn
          refine wpAnyH_ready (rs := [8]) (by kernel_rfl) (by simp) ?_
          refine AllReadyH.cons (o := { dst := some 31, op := Go.Op.call { callee := Go.Callee.value (Go.Operand.func 6), args := #[Go.Operand.tmp 24, Go.Operand.tmp 25, Go.Operand.tmp 27, Go.Operand.tmp 29, Go.Operand.tmp 30], argTypes := #[32, 2, 34, 34, 2] }, type := 30, pos := "exact.go:3045", after := #[{ on := 1, ground := Go.Ground.data }, { on := 2, ground := Go.Ground.data }, { on := 4, ground := Go.Ground.data }, { on := 6, ground := Go.Ground.data }, { on := 7, ground := Go.Ground.data }, { on := 6, ground := Go.Ground.chain }], guard := none }) rfl (fun Kn hK => ?_) AllReadyH.nil
          first | go_at_call 6 | (go_simp; go_at_call 6)
          (with_reducible refine Calls.mono (KS.out _ _ _ _ _ HR.out) ?_)
          rintro e V12 ⟨rfl, hb⟩
          try dsimp only
          try simp only [Act.put, List.setIfInBounds_toArray, List.set_cons_zero, List.set_cons_succ]
          replace bX := bX.on hb
          replace bD := bD.on hb
          replace bQ := bQ.on hb
          replace bn12 := bn12.on hb
          try replace HR := Lib.hid (HR.out.on hb)
          replace HW := Lib.hid (bel_end HW.out hb)
          clear hb
          refine hK.out _ _ (HSp.out _ bX bD bQ) (fun _ => ?_)
          clear hK Kn
          have hS := HSp.out _ bX bD bQ
          refine wpAnyH_take (i := 9) (oi := { dst := some 22, op := Go.Op.move (Go.Operand.tmp 31), type := 30, pos := "exact.go:3045", after := #[{ on := 8, ground := Go.Ground.data }], guard := none }) (v := ?_) rfl (by kernel_rfl) (by kernel_rfl) (by kernel_rfl) (fun _ _ _ h => h) (Or.inl ⟨by rfl, ?_⟩) hS ?_
          rotate_left
          · (intro w hSw; have hSw := (HSd.out w).1 hSw; go_split_ands; go_simp) <;> with_reducible rfl
          clear hS
          try simp only [Act.put, List.setIfInBounds_toArray, List.set_cons_zero, List.set_cons_succ]
          have hS := HSp.out _ bX bD bQ
          refine wpAnyH_take (i := 10) (oi := { dst := some 32, op := Go.Op.extract (Go.Operand.tmp 22) 0, type := 29, pos := "exact.go:3045", after := #[{ on := 9, ground := Go.Ground.data }], guard := none }) (v := ?_) rfl (by kernel_rfl) (by kernel_rfl) (by kernel_rfl) (fun _ _ _ h => h) (Or.inl ⟨by rfl, ?_⟩) hS ?_
          rotate_left
          · (intro w hSw; have hSw := (HSd.out w).1 hSw; go_split_ands; go_simp) <;> with_reducible rfl
          clear hS
          try simp only [Act.put, List.setIfInBounds_toArray, List.set_cons_zero, List.set_cons_succ]
          have hS := HSp.out _ bX bD bQ
          refine wpAnyH_take (i := 11) (oi := { dst := some 33, op := Go.Op.extract (Go.Operand.tmp 22) 1, type := 2, pos := "exact.go:3045", after := #[{ on := 9, ground := Go.Ground.data }, { on := 13, ground := Go.Ground.gcOnly Go.Departure.lateStores }], guard := none }) (v := ?_) rfl (by kernel_rfl) (by kernel_rfl) (by kernel_rfl) (fun _ _ _ h => h) (Or.inl ⟨by rfl, ?_⟩) hS ?_
          rotate_left
          · (intro w hSw; have hSw := (HSd.out w).1 hSw; go_split_ands; go_simp) <;> with_reducible rfl
          clear hS
          try simp only [Act.put, List.setIfInBounds_toArray, List.set_cons_zero, List.set_cons_succ]
          refine wpAnyH_ready (rs := [13]) (by kernel_rfl) (by simp) ?_
          refine AllReadyH.cons (o := { dst := none, op := Go.Op.store 29 (Go.Operand.tmp 12) (Go.Operand.tmp 32), type := 0, pos := "exact.go:3045", after := #[{ on := 12, ground := Go.Ground.data }, { on := 10, ground := Go.Ground.data }, { on := 8, ground := Go.Ground.chain }, { on := 0, ground := Go.Ground.phase }, { on := 1, ground := Go.Ground.phase }, { on := 2, ground := Go.Ground.phase }, { on := 3, ground := Go.Ground.phase }, { on := 4, ground := Go.Ground.phase }, { on := 5, ground := Go.Ground.phase }, { on := 6, ground := Go.Ground.phase }, { on := 7, ground := Go.Ground.phase }, { on := 8, ground := Go.Ground.phase }, { on := 9, ground := Go.Ground.phase }, { on := 10, ground := Go.Ground.phase }, { on := 11, ground := Go.Ground.textOnly Go.Departure.lateStores }, { on := 12, ground := Go.Ground.phase }], guard := none }) rfl (fun Kn hK => ?_) AllReadyH.nil
          have bn12_0 := bn12.cell 0 rfl
          have bn12_1 := bn12.cell 1 rfl
          have bn12_f0 := bn12.frozen 0
          have bn12_f1 := bn12.frozen 1
          have bn12_l := bn12.lt
          go_simp
          clear bn12_0 bn12_f0 bn12_1 bn12_f1 bn12_l
          generalize hX : World.setCell _ _ _ = V13
          have hb : Below W.heap.size W V13 := by rw [← hX]; exact ((HW.out.setCell (p := ⟨g12, 0, none⟩) le12 _).setCell (p := ⟨g12, 1, none⟩) le12 _)
          replace bX : Bk V13 (w.heap.size) #[.slice a0 zs.length cap0, .slice b0 ys.length cap1] 24 := by rw [← hX]; exact (Bk.other (Bk.other bX nebX_12 0 _) nebX_12 1 _)
          replace bD : Bk V13 (w.heap.size + 1) #[.int .i64 c, .int .i64 s, .int .i64 h] 26 := by rw [← hX]; exact (Bk.other (Bk.other bD nebD_12 0 _) nebD_12 1 _)
          replace bQ : Bk V13 (w.heap.size + 1 + 1) #[.int .i64 x, .int .i64 y, .int .i64 z] 26 := by rw [← hX]; exact (Bk.other (Bk.other bQ nebQ_12 0 _) nebQ_12 1 _)
          replace bn12 : Bk V13 (g12) #[.int .i64 r00, .int .i64 r01] 29 := by rw [← hX]; exact (Bk.set (Bk.set bn12 0 _ rfl) 1 _ rfl)
          clear hX
          replace HW := Lib.hid hb
          clear hb
          refine hK.out _ _ (HSp.out _ bX bD bQ) (fun _ => ?_)
          clear hK Kn
          have hS := HSp.out _ bX bD bQ
          refine wpAnyH_take (i := 14) (oi := { dst := some 13, op := Go.Op.assign (Go.Operand.tmp 33), type := 2, pos := "exact.go:3045", after := #[{ on := 11, ground := Go.Ground.data }, { on := 13, ground := Go.Ground.chain }, { on := 0, ground := Go.Ground.phase }, { on := 1, ground := Go.Ground.phase }, { on := 2, ground := Go.Ground.phase }, { on := 3, ground := Go.Ground.phase }, { on := 4, ground := Go.Ground.phase }, { on := 5, ground := Go.Ground.phase }, { on := 6, ground := Go.Ground.phase }, { on := 7, ground := Go.Ground.phase }, { on := 8, ground := Go.Ground.phase }, { on := 9, ground := Go.Ground.phase }, { on := 10, ground := Go.Ground.phase }, { on := 11, ground := Go.Ground.phase }, { on := 12, ground := Go.Ground.phase }, { on := 13, ground := Go.Ground.phase }], guard := none }) (v := ?_) rfl (by kernel_rfl) (by kernel_rfl) (by kernel_rfl) (fun _ _ _ h => h) (Or.inl ⟨by rfl, ?_⟩) hS ?_
          rotate_left
          · (intro w hSw; have hSw := (HSd.out w).1 hSw; go_split_ands; go_simp) <;> with_reducible rfl
          clear hS
          try simp only [Act.put, List.setIfInBounds_toArray, List.set_cons_zero, List.set_cons_succ]
          refine wpAnyH_done (by kernel_rfl) ?_ _
          go_wp2_with fail
          go_meet
          exact ⟨_, rfl, bn12, le12, rfl, HW.out⟩
        refine AllReadyH.cons (o := { dst := some 12, op := Go.Op.alloc 29, type := 0, pos := "exact.go:3045", after := #[], guard := none }) rfl (fun Kn hK => ?_) AllReadyH.nil
        go_simp
        generalize hX : World.alloc V1 _ = V14
        obtain ⟨g12, hg⟩ : ∃ g, g = V1.heap.size := ⟨_, rfl⟩
        have bn12 : Bk V14 g12 #[.int .i64 0, .int .i64 0] 29 := by rw [← hX]; exact Bk.new' hg
        have le12 : W.heap.size ≤ g12 := by rw [hg]; exact HW.out.size
        have nebX_12 : w.heap.size ≠ g12 := by have := bX.lt; omega
        replace bX : Bk V14 (w.heap.size) #[.slice a0 zs.length cap0, .slice b0 ys.length cap1] 24 := by rw [← hX]; exact bX.alloc _
        have nebD_12 : w.heap.size + 1 ≠ g12 := by have := bD.lt; omega
        replace bD : Bk V14 (w.heap.size + 1) #[.int .i64 c, .int .i64 s, .int .i64 h] 26 := by rw [← hX]; exact bD.alloc _
        have nebQ_12 : w.heap.size + 1 + 1 ≠ g12 := by have := bQ.lt; omega
        replace bQ : Bk V14 (w.heap.size + 1 + 1) #[.int .i64 x, .int .i64 y, .int .i64 z] 26 := by rw [← hX]; exact bQ.alloc _
        try rw [← hg]
        have hb : Below V1.heap.size V1 V14 := by rw [← hX]; exact (Below.refl _ _).alloc (Nat.le_refl _) _
        clear hX hg
        try replace HR := Lib.hid (HR.out.on hb)
        replace HW := Lib.hid (bel_end HW.out hb)
        clear hb
        refine hK.out _ _ (HSp.out _ bX bD bQ) (fun _ => ?_)
        clear hK Kn
        refine wpAnyH_ready (rs := [4]) (by kernel_rfl) (by simp) ?_
        refine AllReadyH.cons (o := { dst := some 27, op := Go.Op.call { callee := Go.Callee.value (Go.Operand.func 8), args := #[Go.Operand.tmp 26], argTypes := #[26] }, type := 34, pos := "exact.go:3045", after := #[{ on := 3, ground := Go.Ground.data }, { on := 1, ground := Go.Ground.chain }], guard := none }) rfl (fun Kn hK => ?_) AllReadyH.nil
        first | go_at_call 8 | (go_simp; go_at_call 8)
        refine (tod_any _ _ _ _).mono ?_
        rintro e V15 ⟨rfl, hb⟩
        try dsimp only
        try simp only [Act.put, List.setIfInBounds_toArray, List.set_cons_zero, List.set_cons_succ]
        replace bX := bX.on hb
        replace bD := bD.on hb
        replace bQ := bQ.on hb
        replace bn12 := bn12.on hb
        try replace HR := Lib.hid (HR.out.on hb)
        replace HW := Lib.hid (bel_end HW.out hb)
        clear hb
        refine hK.out _ _ (HSp.out _ bX bD bQ) (fun _ => ?_)
        clear hK Kn
        refine wpAnyH_ready (rs := [6]) (by kernel_rfl) (by simp) ?_
        refine AllReadyH.cons (o := { dst := some 29, op := Go.Op.call { callee := Go.Callee.value (Go.Operand.func 8), args := #[Go.Operand.tmp 28], argTypes := #[26] }, type := 34, pos := "exact.go:3045", after := #[{ on := 5, ground := Go.Ground.data }, { on := 4, ground := Go.Ground.chain }], guard := none }) rfl (fun Kn hK => ?_) AllReadyH.nil
        first | go_at_call 8 | (go_simp; go_at_call 8)
        refine (tod_any _ _ _ _).mono ?_
        rintro e V16 ⟨rfl, hb⟩
        try dsimp only
        try simp only [Act.put, List.setIfInBounds_toArray, List.set_cons_zero, List.set_cons_succ]
        replace bX := bX.on hb
        replace bD := bD.on hb
        replace bQ := bQ.on hb
        replace bn12 := bn12.on hb
        try replace HR := Lib.hid (HR.out.on hb)
        replace HW := Lib.hid (bel_end HW.out hb)
        clear hb
        refine hK.out _ _ (HSp.out _ bX bD bQ) (fun _ => ?_)
        clear hK Kn
        refine wpAnyH_ready (rs := [8]) (by kernel_rfl) (by simp) ?_
        refine AllReadyH.cons (o := { dst := some 31, op := Go.Op.call { callee := Go.Callee.value (Go.Operand.func 6), args := #[Go.Operand.tmp 24, Go.Operand.tmp 25, Go.Operand.tmp 27, Go.Operand.tmp 29, Go.Operand.tmp 30], argTypes := #[32, 2, 34, 34, 2] }, type := 30, pos := "exact.go:3045", after := #[{ on := 1, ground := Go.Ground.data }, { on := 2, ground := Go.Ground.data }, { on := 4, ground := Go.Ground.data }, { on := 6, ground := Go.Ground.data }, { on := 7, ground := Go.Ground.data }, { on := 6, ground := Go.Ground.chain }], guard := none }) rfl (fun Kn hK => ?_) AllReadyH.nil
        first | go_at_call 6 | (go_simp; go_at_call 6)
        (with_reducible refine Calls.mono (KS.out _ _ _ _ _ HR.out) ?_)
        rintro e V17 ⟨rfl, hb⟩
        try dsimp only
        try simp only [Act.put, List.setIfInBounds_toArray, List.set_cons_zero, List.set_cons_succ]
        replace bX := bX.on hb
        replace bD := bD.on hb
        replace bQ := bQ.on hb
        replace bn12 := bn12.on hb
        try replace HR := Lib.hid (HR.out.on hb)
        replace HW := Lib.hid (bel_end HW.out hb)
        clear hb
        refine hK.out _ _ (HSp.out _ bX bD bQ) (fun _ => ?_)
        clear hK Kn
        have hS := HSp.out _ bX bD bQ
        refine wpAnyH_take (i := 9) (oi := { dst := some 22, op := Go.Op.move (Go.Operand.tmp 31), type := 30, pos := "exact.go:3045", after := #[{ on := 8, ground := Go.Ground.data }], guard := none }) (v := ?_) rfl (by kernel_rfl) (by kernel_rfl) (by kernel_rfl) (fun _ _ _ h => h) (Or.inl ⟨by rfl, ?_⟩) hS ?_
        rotate_left
        · (intro w hSw; have hSw := (HSd.out w).1 hSw; go_split_ands; go_simp) <;> with_reducible rfl
        clear hS
        try simp only [Act.put, List.setIfInBounds_toArray, List.set_cons_zero, List.set_cons_succ]
        have hS := HSp.out _ bX bD bQ
        refine wpAnyH_take (i := 10) (oi := { dst := some 32, op := Go.Op.extract (Go.Operand.tmp 22) 0, type := 29, pos := "exact.go:3045", after := #[{ on := 9, ground := Go.Ground.data }], guard := none }) (v := ?_) rfl (by kernel_rfl) (by kernel_rfl) (by kernel_rfl) (fun _ _ _ h => h) (Or.inl ⟨by rfl, ?_⟩) hS ?_
        rotate_left
        · (intro w hSw; have hSw := (HSd.out w).1 hSw; go_split_ands; go_simp) <;> with_reducible rfl
        clear hS
        try simp only [Act.put, List.setIfInBounds_toArray, List.set_cons_zero, List.set_cons_succ]
        have hS := HSp.out _ bX bD bQ
        refine wpAnyH_take (i := 11) (oi := { dst := some 33, op := Go.Op.extract (Go.Operand.tmp 22) 1, type := 2, pos := "exact.go:3045", after := #[{ on := 9, ground := Go.Ground.data }, { on := 13, ground := Go.Ground.gcOnly Go.Departure.lateStores }], guard := none }) (v := ?_) rfl (by kernel_rfl) (by kernel_rfl) (by kernel_rfl) (fun _ _ _ h => h) (Or.inl ⟨by rfl, ?_⟩) hS ?_
        rotate_left
        · (intro w hSw; have hSw := (HSd.out w).1 hSw; go_split_ands; go_simp) <;> with_reducible rfl
        clear hS
        try simp only [Act.put, List.setIfInBounds_toArray, List.set_cons_zero, List.set_cons_succ]
        refine wpAnyH_ready (rs := [13]) (by kernel_rfl) (by simp) ?_
        refine AllReadyH.cons (o := { dst := none, op := Go.Op.store 29 (Go.Operand.tmp 12) (Go.Operand.tmp 32), type := 0, pos := "exact.go:3045", after := #[{ on := 12, ground := Go.Ground.data }, { on := 10, ground := Go.Ground.data }, { on := 8, ground := Go.Ground.chain }, { on := 0, ground := Go.Ground.phase }, { on := 1, ground := Go.Ground.phase }, { on := 2, ground := Go.Ground.phase }, { on := 3, ground := Go.Ground.phase }, { on := 4, ground := Go.Ground.phase }, { on := 5, ground := Go.Ground.phase }, { on := 6, ground := Go.Ground.phase }, { on := 7, ground := Go.Ground.phase }, { on := 8, ground := Go.Ground.phase }, { on := 9, ground := Go.Ground.phase }, { on := 10, ground := Go.Ground.phase }, { on := 11, ground := Go.Ground.textOnly Go.Departure.lateStores }, { on := 12, ground := Go.Ground.phase }], guard := none }) rfl (fun Kn hK => ?_) AllReadyH.nil
        have bn12_0 := bn12.cell 0 rfl
        have bn12_1 := bn12.cell 1 rfl
        have bn12_f0 := bn12.frozen 0
        have bn12_f1 := bn12.frozen 1
        have bn12_l := bn12.lt
        go_simp
        clear bn12_0 bn12_f0 bn12_1 bn12_f1 bn12_l
        generalize hX : World.setCell _ _ _ = V18
        have hb : Below W.heap.size W V18 := by rw [← hX]; exact ((HW.out.setCell (p := ⟨g12, 0, none⟩) le12 _).setCell (p := ⟨g12, 1, none⟩) le12 _)
        replace bX : Bk V18 (w.heap.size) #[.slice a0 zs.length cap0, .slice b0 ys.length cap1] 24 := by rw [← hX]; exact (Bk.other (Bk.other bX nebX_12 0 _) nebX_12 1 _)
        replace bD : Bk V18 (w.heap.size + 1) #[.int .i64 c, .int .i64 s, .int .i64 h] 26 := by rw [← hX]; exact (Bk.other (Bk.other bD nebD_12 0 _) nebD_12 1 _)
        replace bQ : Bk V18 (w.heap.size + 1 + 1) #[.int .i64 x, .int .i64 y, .int .i64 z] 26 := by rw [← hX]; exact (Bk.other (Bk.other bQ nebQ_12 0 _) nebQ_12 1 _)
        replace bn12 : Bk V18 (g12) #[.int .i64 r00, .int .i64 r01] 29 := by rw [← hX]; exact (Bk.set (Bk.set bn12 0 _ rfl) 1 _ rfl)
        clear hX
        replace HW := Lib.hid hb
        clear hb
        refine hK.out _ _ (HSp.out _ bX bD bQ) (fun _ => ?_)
        clear hK Kn
        have hS := HSp.out _ bX bD bQ
        refine wpAnyH_take (i := 14) (oi := { dst := some 13, op := Go.Op.assign (Go.Operand.tmp 33), type := 2, pos := "exact.go:3045", after := #[{ on := 11, ground := Go.Ground.data }, { on := 13, ground := Go.Ground.chain }, { on := 0, ground := Go.Ground.phase }, { on := 1, ground := Go.Ground.phase }, { on := 2, ground := Go.Ground.phase }, { on := 3, ground := Go.Ground.phase }, { on := 4, ground := Go.Ground.phase }, { on := 5, ground := Go.Ground.phase }, { on := 6, ground := Go.Ground.phase }, { on := 7, ground := Go.Ground.phase }, { on := 8, ground := Go.Ground.phase }, { on := 9, ground := Go.Ground.phase }, { on := 10, ground := Go.Ground.phase }, { on := 11, ground := Go.Ground.phase }, { on := 12, ground := Go.Ground.phase }, { on := 13, ground := Go.Ground.phase }], guard := none }) (v := ?_) rfl (by kernel_rfl) (by kernel_rfl) (by kernel_rfl) (fun _ _ _ h => h) (Or.inl ⟨by rfl, ?_⟩) hS ?_
        rotate_left
        · (intro w hSw; have hSw := (HSd.out w).1 hSw; go_split_ands; go_simp) <;> with_reducible rfl
        clear hS
        try simp only [Act.put, List.setIfInBounds_toArray, List.set_cons_zero, List.set_cons_succ]
        refine wpAnyH_done (by kernel_rfl) ?_ _
        go_wp2_with fail
        go_meet
        exact ⟨_, rfl, bn12, le12, rfl, HW.out⟩
      refine AllReadyH.cons (o := { dst := some 12, op := Go.Op.alloc 29, type := 0, pos := "exact.go:3045", after := #[], guard := none }) rfl (fun Kn hK => ?_) AllReadyH.nil
      go_simp
      generalize hX : World.alloc V0 _ = V19
      obtain ⟨g12, hg⟩ : ∃ g, g = V0.heap.size := ⟨_, rfl⟩
      have bn12 : Bk V19 g12 #[.int .i64 0, .int .i64 0] 29 := by rw [← hX]; exact Bk.new' hg
      have le12 : W.heap.size ≤ g12 := by rw [hg]; exact HW.out.size
      have nebX_12 : w.heap.size ≠ g12 := by have := bX.lt; omega
      replace bX : Bk V19 (w.heap.size) #[.slice a0 zs.length cap0, .slice b0 ys.length cap1] 24 := by rw [← hX]; exact bX.alloc _
      have nebD_12 : w.heap.size + 1 ≠ g12 := by have := bD.lt; omega
      replace bD : Bk V19 (w.heap.size + 1) #[.int .i64 c, .int .i64 s, .int .i64 h] 26 := by rw [← hX]; exact bD.alloc _
      have nebQ_12 : w.heap.size + 1 + 1 ≠ g12 := by have := bQ.lt; omega
      replace bQ : Bk V19 (w.heap.size + 1 + 1) #[.int .i64 x, .int .i64 y, .int .i64 z] 26 := by rw [← hX]; exact bQ.alloc _
      try rw [← hg]
      have hb : Below V0.heap.size V0 V19 := by rw [← hX]; exact (Below.refl _ _).alloc (Nat.le_refl _) _
      clear hX hg
      try replace HR := Lib.hid (HR.out.on hb)
      replace HW := Lib.hid (bel_end HW.out hb)
      clear hb
      refine hK.out _ _ (HSp.out _ bX bD bQ) (fun _ => ?_)
      clear hK Kn
      refine wpAnyH_ready (rs := [1]) (by kernel_rfl) (by simp) ?_
      refine AllReadyH.cons (o := { dst := some 24, op := Go.Op.call { callee := Go.Callee.value (Go.Operand.func 7), args := #[Go.Operand.tmp 23], argTypes := #[24] }, type := 32, pos := "exact.go:3045", after := #[{ on := 0, ground := Go.Ground.data }], guard := none }) rfl (fun Kn hK => ?_) AllReadyH.nil
      first | go_at_call 7 | (go_simp; go_at_call 7)
      (refine Calls.mono (top_any _ _ _ _ _ zs ys (HP.out.on HW.out)) ?_)
      rintro e V20 ⟨g1, g2, rfl, hg1, hg2, hr1, hr2, hb⟩
      have HR := Lib.hid (Prof.of_rows hr1 hr2 lz ly)
      clear hr1 hr2
      try dsimp only
      try simp only [Act.put, List.setIfInBounds_toArray, List.set_cons_zero, List.set_cons_succ]
      replace bX := bX.on hb
      replace bD := bD.on hb
      replace bQ := bQ.on hb
      replace bn12 := bn12.on hb
      try replace HR := Lib.hid (HR.out.on hb)
      replace HW := Lib.hid (bel_end HW.out hb)
      clear hb
      refine hK.out _ _ (HSp.out _ bX bD bQ) (fun _ => ?_)
      clear hK Kn
      refine wpAnyH_ready (rs := [4]) (by kernel_rfl) (by simp) ?_
      refine AllReadyH.cons (o := { dst := some 27, op := Go.Op.call { callee := Go.Callee.value (Go.Operand.func 8), args := #[Go.Operand.tmp 26], argTypes := #[26] }, type := 34, pos := "exact.go:3045", after := #[{ on := 3, ground := Go.Ground.data }, { on := 1, ground := Go.Ground.chain }], guard := none }) rfl (fun Kn hK => ?_) AllReadyH.nil
      first | go_at_call 8 | (go_simp; go_at_call 8)
      refine (tod_any _ _ _ _).mono ?_
      rintro e V21 ⟨rfl, hb⟩
      try dsimp only
      try simp only [Act.put, List.setIfInBounds_toArray, List.set_cons_zero, List.set_cons_succ]
      replace bX := bX.on hb
      replace bD := bD.on hb
      replace bQ := bQ.on hb
      replace bn12 := bn12.on hb
      try replace HR := Lib.hid (HR.out.on hb)
      replace HW := Lib.hid (bel_end HW.out hb)
      clear hb
      refine hK.out _ _ (HSp.out _ bX bD bQ) (fun _ => ?_)
      clear hK Kn
      refine wpAnyH_ready (rs := [6]) (by kernel_rfl) (by simp) ?_
      refine AllReadyH.cons (o := { dst := some 29, op := Go.Op.call { callee := Go.Callee.value (Go.Operand.func 8), args := #[Go.Operand.tmp 28], argTypes := #[26] }, type := 34, pos := "exact.go:3045", after := #[{ on := 5, ground := Go.Ground.data }, { on := 4, ground := Go.Ground.chain }], guard := none }) rfl (fun Kn hK => ?_) AllReadyH.nil
      first | go_at_call 8 | (go_simp; go_at_call 8)
      refine (tod_any _ _ _ _).mono ?_
      rintro e V22 ⟨rfl, hb⟩
      try dsimp only
      try simp only [Act.put, List.setIfInBounds_toArray, List.set_cons_zero, List.set_cons_succ]
      replace bX := bX.on hb
      replace bD := bD.on hb
      replace bQ := bQ.on hb
      replace bn12 := bn12.on hb
      try replace HR := Lib.hid (HR.out.on hb)
      replace HW := Lib.hid (bel_end HW.out hb)
      clear hb
      refine hK.out _ _ (HSp.out _ bX bD bQ) (fun _ => ?_)
      clear hK Kn
      refine wpAnyH_ready (rs := [8]) (by kernel_rfl) (by simp) ?_
      refine AllReadyH.cons (o := { dst := some 31, op := Go.Op.call { callee := Go.Callee.value (Go.Operand.func 6), args := #[Go.Operand.tmp 24, Go.Operand.tmp 25, Go.Operand.tmp 27, Go.Operand.tmp 29, Go.Operand.tmp 30], argTypes := #[32, 2, 34, 34, 2] }, type := 30, pos := "exact.go:3045", after := #[{ on := 1, ground := Go.Ground.data }, { on := 2, ground := Go.Ground.data }, { on := 4, ground := Go.Ground.data }, { on := 6, ground := Go.Ground.data }, { on := 7, ground := Go.Ground.data }, { on := 6, ground := Go.Ground.chain }], guard := none }) rfl (fun Kn hK => ?_) AllReadyH.nil
      first | go_at_call 6 | (go_simp; go_at_call 6)
      (with_reducible refine Calls.mono (KS.out _ _ _ _ _ HR.out) ?_)
      rintro e V23 ⟨rfl, hb⟩
      try dsimp only
      try simp only [Act.put, List.setIfInBounds_toArray, List.set_cons_zero, List.set_cons_succ]
      replace bX := bX.on hb
      replace bD := bD.on hb
      replace bQ := bQ.on hb
      replace bn12 := bn12.on hb
      try replace HR := Lib.hid (HR.out.on hb)
      replace HW := Lib.hid (bel_end HW.out hb)
      clear hb
      refine hK.out _ _ (HSp.out _ bX bD bQ) (fun _ => ?_)
      clear hK Kn
      have hS := HSp.out _ bX bD bQ
      refine wpAnyH_take (i := 9) (oi := { dst := some 22, op := Go.Op.move (Go.Operand.tmp 31), type := 30, pos := "exact.go:3045", after := #[{ on := 8, ground := Go.Ground.data }], guard := none }) (v := ?_) rfl (by kernel_rfl) (by kernel_rfl) (by kernel_rfl) (fun _ _ _ h => h) (Or.inl ⟨by rfl, ?_⟩) hS ?_
      rotate_left
      · (intro w hSw; have hSw := (HSd.out w).1 hSw; go_split_ands; go_simp) <;> with_reducible rfl
      clear hS
      try simp only [Act.put, List.setIfInBounds_toArray, List.set_cons_zero, List.set_cons_succ]
      have hS := HSp.out _ bX bD bQ
      refine wpAnyH_take (i := 10) (oi := { dst := some 32, op := Go.Op.extract (Go.Operand.tmp 22) 0, type := 29, pos := "exact.go:3045", after := #[{ on := 9, ground := Go.Ground.data }], guard := none }) (v := ?_) rfl (by kernel_rfl) (by kernel_rfl) (by kernel_rfl) (fun _ _ _ h => h) (Or.inl ⟨by rfl, ?_⟩) hS ?_
      rotate_left
      · (intro w hSw; have hSw := (HSd.out w).1 hSw; go_split_ands; go_simp) <;> with_reducible rfl
      clear hS
      try simp only [Act.put, List.setIfInBounds_toArray, List.set_cons_zero, List.set_cons_succ]
      have hS := HSp.out _ bX bD bQ
      refine wpAnyH_take (i := 11) (oi := { dst := some 33, op := Go.Op.extract (Go.Operand.tmp 22) 1, type := 2, pos := "exact.go:3045", after := #[{ on := 9, ground := Go.Ground.data }, { on := 13, ground := Go.Ground.gcOnly Go.Departure.lateStores }], guard := none }) (v := ?_) rfl (by kernel_rfl) (by kernel_rfl) (by kernel_rfl) (fun _ _ _ h => h) (Or.inl ⟨by rfl, ?_⟩) hS ?_
      rotate_left
      · (intro w hSw; have hSw := (HSd.out w).1 hSw; go_split_ands; go_simp) <;> with_reducible rfl
      clear hS
      try simp only [Act.put, List.setIfInBounds_toArray, List.set_cons_zero, List.set_cons_succ]
      refine wpAnyH_ready (rs := [13]) (by kernel_rfl) (by simp) ?_
      refine AllReadyH.cons (o := { dst := none, op := Go.Op.store 29 (Go.Operand.tmp 12) (Go.Operand.tmp 32), type := 0, pos := "exact.go:3045", after := #[{ on := 12, ground := Go.Ground.data }, { on := 10, ground := Go.Ground.data }, { on := 8, ground := Go.Ground.chain }, { on := 0, ground := Go.Ground.phase }, { on := 1, ground := Go.Ground.phase }, { on := 2, ground := Go.Ground.phase }, { on := 3, ground := Go.Ground.phase }, { on := 4, ground := Go.Ground.phase }, { on := 5, ground := Go.Ground.phase }, { on := 6, ground := Go.Ground.phase }, { on := 7, ground := Go.Ground.phase }, { on := 8, ground := Go.Ground.phase }, { on := 9, ground := Go.Ground.phase }, { on := 10, ground := Go.Ground.phase }, { on := 11, ground := Go.Ground.textOnly Go.Departure.lateStores }, { on := 12, ground := Go.Ground.phase }], guard := none }) rfl (fun Kn hK => ?_) AllReadyH.nil
      have bn12_0 := bn12.cell 0 rfl
      have bn12_1 := bn12.cell 1 rfl
      have bn12_f0 := bn12.frozen 0
      have bn12_f1 := bn12.frozen 1
      have bn12_l := bn12.lt
      go_simp
      clear bn12_0 bn12_f0 bn12_1 bn12_f1 bn12_l
      generalize hX : World.setCell _ _ _ = V24
      have hb : Below W.heap.size W V24 := by rw [← hX]; exact ((HW.out.setCell (p := ⟨g12, 0, none⟩) le12 _).setCell (p := ⟨g12, 1, none⟩) le12 _)
      replace bX : Bk V24 (w.heap.size) #[.slice a0 zs.length cap0, .slice b0 ys.length cap1] 24 := by rw [← hX]; exact (Bk.other (Bk.other bX nebX_12 0 _) nebX_12 1 _)
      replace bD : Bk V24 (w.heap.size + 1) #[.int .i64 c, .int .i64 s, .int .i64 h] 26 := by rw [← hX]; exact (Bk.other (Bk.other bD nebD_12 0 _) nebD_12 1 _)
      replace bQ : Bk V24 (w.heap.size + 1 + 1) #[.int .i64 x, .int .i64 y, .int .i64 z] 26 := by rw [← hX]; exact (Bk.other (Bk.other bQ nebQ_12 0 _) nebQ_12 1 _)
      replace bn12 : Bk V24 (g12) #[.int .i64 r00, .int .i64 r01] 29 := by rw [← hX]; exact (Bk.set (Bk.set bn12 0 _ rfl) 1 _ rfl)
      clear hX
      replace HW := Lib.hid hb
      clear hb
      refine hK.out _ _ (HSp.out _ bX bD bQ) (fun _ => ?_)
      clear hK Kn
      have hS := HSp.out _ bX bD bQ
      refine wpAnyH_take (i := 14) (oi := { dst := some 13, op := Go.Op.assign (Go.Operand.tmp 33), type := 2, pos := "exact.go:3045", after := #[{ on := 11, ground := Go.Ground.data }, { on := 13, ground := Go.Ground.chain }, { on := 0, ground := Go.Ground.phase }, { on := 1, ground := Go.Ground.phase }, { on := 2, ground := Go.Ground.phase }, { on := 3, ground := Go.Ground.phase }, { on := 4, ground := Go.Ground.phase }, { on := 5, ground := Go.Ground.phase }, { on := 6, ground := Go.Ground.phase }, { on := 7, ground := Go.Ground.phase }, { on := 8, ground := Go.Ground.phase }, { on := 9, ground := Go.Ground.phase }, { on := 10, ground := Go.Ground.phase }, { on := 11, ground := Go.Ground.phase }, { on := 12, ground := Go.Ground.phase }, { on := 13, ground := Go.Ground.phase }], guard := none }) (v := ?_) rfl (by kernel_rfl) (by kernel_rfl) (by kernel_rfl) (fun _ _ _ h => h) (Or.inl ⟨by rfl, ?_⟩) hS ?_
      rotate_left
      · (intro w hSw; have hSw := (HSd.out w).1 hSw; go_split_ands; go_simp) <;> with_reducible rfl
      clear hS
      try simp only [Act.put, List.setIfInBounds_toArray, List.set_cons_zero, List.set_cons_succ]
      refine wpAnyH_done (by kernel_rfl) ?_ _
      go_wp2_with fail
      go_meet
      exact ⟨_, rfl, bn12, le12, rfl, HW.out⟩
    case rest =>
      obtain ⟨gS, rfl, bS, hgS, rfl, hB⟩ := hcut
      replace bX := bX.on hB
      replace bD := bD.on hB
      replace bQ := bQ.on hB
      replace HP := Lib.hid (HP.out.on hB)
      replace HB := Lib.hid (bel_end HB.out hB)
      clear hB
      have x0 := bX.cell 0 rfl
      have x1 := bX.cell 1 rfl
      have xl := bX.lt
      go_wp2_with fail
      refine (top_any _ _ _ _ _ zs ys HP.out).mono ?_
      rintro e w2 ⟨g3, g4, rfl, hg3, hg4, hr1, hr2, hb⟩
      replace bX := bX.on hb
      replace bD := bD.on hb
      replace bQ := bQ.on hb
      replace bS := bS.on hb
      replace HP := Lib.hid (HP.out.on hb)
      replace HB := Lib.hid (bel_end HB.out hb)
      have HR := Lib.hid (Prof.of_rows hr1 hr2 lz ly)
      clear hr1 hr2 hg3 hg4 hb x0 x1 xl hgS
      go_upto_region 7 with fail
      generalize hW : World.alloc _ _ = W3
      obtain ⟨gy, hgy⟩ : ∃ g, g = w2.heap.size := ⟨_, rfl⟩
      have hb : Below w2.heap.size w2 W3 := by rw [← hW]; exact (Below.refl _ _).alloc (Nat.le_refl _) _
      have bY : Bk W3 gy #[.slice (some ⟨g3, 0, none⟩) zs.length zs.length, .slice (some ⟨g4, 0, none⟩) ys.length ys.length] 32 := by rw [← hW]; exact Bk.new' hgy
      try rw [← hgy]
      replace bX := bX.on hb
      replace bD := bD.on hb
      replace bQ := bQ.on hb
      replace bS := bS.on hb
      replace HP := Lib.hid (HP.out.on hb)
      replace HR := Lib.hid (HR.out.on hb)
      replace HB := Lib.hid (bel_end HB.out hb)
      clear hW hb hgy
      go_wp2_with fail
      go_cut [15, 16] (fun s15 s16 wx => ∃ g : Nat, s15 = .pointer (some ⟨g, 0, none⟩) ∧ Bk wx g #[.int .i64 r00, .int .i64 r01] 29 ∧ W3.heap.size ≤ g ∧ s16 = .int .i64 r1 ∧ Below W3.heap.size W3 wx)
      case first =>
        have HW : Hid (Below W3.heap.size W3 W3) := Lib.hid (Below.refl _ _)
        obtain ⟨S, hSd⟩ : ∃ S : World → Prop, ∀ w', S w' ↔ (w'.cell? ⟨gy, 0, none⟩ = some (.slice (some ⟨g3, 0, none⟩) zs.length zs.length) ∧ w'.cell? ⟨gy, 1, none⟩ = some (.slice (some ⟨g4, 0, none⟩) ys.length ys.length) ∧ w'.cell? ⟨w.heap.size + 1, 0, none⟩ = some (.int .i64 c) ∧ w'.cell? ⟨w.heap.size + 1, 1, none⟩ = some (.int .i64 s) ∧ w'.cell? ⟨w.heap.size + 1, 2, none⟩ = some (.int .i64 h) ∧ w'.cell? ⟨w.heap.size + 1 + 1, 0, none⟩ = some (.int .i64 x) ∧ w'.cell? ⟨w.heap.size + 1 + 1, 1, none⟩ = some (.int .i64 y) ∧ w'.cell? ⟨w.heap.size + 1 + 1, 2, none⟩ = some (.int .i64 z)) := ⟨_, fun _ => Iff.rfl⟩
        have HSp : Hid (∀ w' : World, Bk w' (gy) #[.slice (some ⟨g3, 0, none⟩) zs.length zs.length, .slice (some ⟨g4, 0, none⟩) ys.length ys.length] 32 → Bk w' (w.heap.size + 1) #[.int .i64 c, .int .i64 s, .int .i64 h] 26 → Bk w' (w.heap.size + 1 + 1) #[.int .i64 x, .int .i64 y, .int .i64 z] 26 → S w') := Lib.hid (fun w' bY bD bQ => (hSd w').2 ⟨bY.cell 0 rfl, bY.cell 1 rfl, bD.cell 0 rfl, bD.cell 1 rfl, bD.cell 2 rfl, bQ.cell 0 rfl, bQ.cell 1 rfl, bQ.cell 2 rfl⟩)
        have HSd := Lib.hid hSd
        clear hSd
        refine wp_region_held_drew (S := S) (by kernel_rfl) ?_ (fun hH => ?_)
        · exact (HSp.out _ bY bD bQ : S (World.drew W3))
        clear hH
        generalize hX : World.drew W3 = V0
        replace bY : Bk V0 (gy) #[.slice (some ⟨g3, 0, none⟩) zs.length zs.length, .slice (some ⟨g4, 0, none⟩) ys.length ys.length] 32 := by rw [← hX]; exact bY
        replace bD : Bk V0 (w.heap.size + 1) #[.int .i64 c, .int .i64 s, .int .i64 h] 26 := by rw [← hX]; exact bD
        replace bQ : Bk V0 (w.heap.size + 1 + 1) #[.int .i64 x, .int .i64 y, .int .i64 z] 26 := by rw [← hX]; exact bQ
        have hb : Below W3.heap.size W3 V0 := by rw [← hX]; exact (Below.refl _ _).drew
        clear hX
        replace HW := Lib.hid (bel_end HW.out hb)
        clear hb
        have hS := HSp.out _ bY bD bQ
        refine wpAnyH_take (i := 0) (oi := { dst := some 37, op := Go.Op.load 32 (Go.Operand.tmp 14), type := 32, pos := "exact.go:3047", after := #[], guard := none }) (v := ?_) rfl (by kernel_rfl) (by kernel_rfl) (by kernel_rfl) (fun _ _ _ h => h) (Or.inl ⟨by rfl, ?_⟩) hS ?_
        rotate_left
        · (intro w hSw; have hSw := (HSd.out w).1 hSw; go_split_ands; go_simp) <;> with_reducible rfl
        clear hS
        try simp only [Act.put, List.setIfInBounds_toArray, List.set_cons_zero, List.set_cons_succ]
        have hS := HSp.out _ bY bD bQ
        refine wpAnyH_take (i := 1) (oi := { dst := some 38, op := Go.Op.move (Go.Operand.tmp 1), type := 2, pos := "exact.go:3047", after := #[], guard := none }) (v := ?_) rfl (by kernel_rfl) (by kernel_rfl) (by kernel_rfl) (fun _ _ _ h => h) (Or.inl ⟨by rfl, ?_⟩) hS ?_
        rotate_left
        · (intro w hSw; have hSw := (HSd.out w).1 hSw; go_split_ands; go_simp) <;> with_reducible rfl
        clear hS
        try simp only [Act.put, List.setIfInBounds_toArray, List.set_cons_zero, List.set_cons_succ]
        have hS := HSp.out _ bY bD bQ
        refine wpAnyH_take (i := 2) (oi := { dst := some 39, op := Go.Op.load 26 (Go.Operand.tmp 7), type := 26, pos := "exact.go:3047", after := #[], guard := none }) (v := ?_) rfl (by kernel_rfl) (by kernel_rfl) (by kernel_rfl) (fun _ _ _ h => h) (Or.inl ⟨by rfl, ?_⟩) hS ?_
        rotate_left
        · (intro w hSw; have hSw := (HSd.out w).1 hSw; go_split_ands; go_simp) <;> with_reducible rfl
        clear hS
        try simp only [Act.put, List.setIfInBounds_toArray, List.set_cons_zero, List.set_cons_succ]
        have hS := HSp.out _ bY bD bQ
        refine wpAnyH_take (i := 4) (oi := { dst := some 41, op := Go.Op.load 26 (Go.Operand.tmp 8), type := 26, pos := "exact.go:3047", after := #[], guard := none }) (v := ?_) rfl (by kernel_rfl) (by kernel_rfl) (by kernel_rfl) (fun _ _ _ h => h) (Or.inl ⟨by rfl, ?_⟩) hS ?_
        rotate_left
        · (intro w hSw; have hSw := (HSd.out w).1 hSw; go_split_ands; go_simp) <;> with_reducible rfl
        clear hS
        try simp only [Act.put, List.setIfInBounds_toArray, List.set_cons_zero, List.set_cons_succ]
        have hS := HSp.out _ bY bD bQ
        refine wpAnyH_take (i := 6) (oi := { dst := some 43, op := Go.Op.move (Go.Operand.tmp 4), type := 2, pos := "exact.go:3047", after := #[], guard := none }) (v := ?_) rfl (by kernel_rfl) (by kernel_rfl) (by kernel_rfl) (fun _ _ _ h => h) (Or.inl ⟨by rfl, ?_⟩) hS ?_
        rotate_left
        · (intro w hSw; have hSw := (HSd.out w).1 hSw; go_split_ands; go_simp) <;> with_reducible rfl
        clear hS
        try simp only [Act.put, List.setIfInBounds_toArray, List.set_cons_zero, List.set_cons_succ]
        refine wpAnyH_ready (rs := [3, 11]) (by kernel_rfl) (by simp) ?_
        refine AllReadyH.cons (o := { dst := some 40, op := Go.Op.call { callee := Go.Callee.value (Go.Operand.func 8), args := #[Go.Operand.tmp 39], argTypes := #[26] }, type := 34, pos := "exact.go:3047", after := #[{ on := 2, ground := Go.Ground.data }], guard := none }) rfl (fun Kn hK => ?_) ?_
        · first | go_at_call 8 | (go_simp; go_at_call 8)
          refine (tod_any _ _ _ _).mono ?_
          rintro e V1 ⟨rfl, hb⟩
          try dsimp only
          try simp only [Act.put, List.setIfInBounds_toArray, List.set_cons_zero, List.set_cons_succ]
          replace bY := bY.on hb
          replace bD := bD.on hb
          replace bQ := bQ.on hb
          replace HW := Lib.hid (bel_end HW.out hb)
          clear hb
          refine hK.out _ _ (HSp.out _ bY bD bQ) (fun _ => ?_)
          clear hK Kn
          refine wpAnyH_ready (rs := [5, 11]) (by kernel_rfl) (by simp) ?_
          refine AllReadyH.cons (o := { dst := some 42, op := Go.Op.call { callee := Go.Callee.value (Go.Operand.func 8), args := #[Go.Operand.tmp 41], argTypes := #[26] }, type := 34, pos := "exact.go:3047", after := #[{ on := 4, ground := Go.Ground.data }, { on := 3, ground := Go.Ground.chain }], guard := none }) rfl (fun Kn hK => ?_) ?_
          · first | go_at_call 8 | (go_simp; go_at_call 8)
            refine (tod_any _ _ _ _).mono ?_
            rintro e V2 ⟨rfl, hb⟩
            try dsimp only
            try simp only [Act.put, List.setIfInBounds_toArray, List.set_cons_zero, List.set_cons_succ]
            replace bY := bY.on hb
            replace bD := bD.on hb
            replace bQ := bQ.on hb
            replace HW := Lib.hid (bel_end HW.out hb)
            clear hb
            refine hK.out _ _ (HSp.out _ bY bD bQ) (fun _ => ?_)
            clear hK Kn
            refine wpAnyH_ready (rs := [7, 11]) (by kernel_rfl) (by simp) ?_
            refine AllReadyH.cons (o := { dst := some 44, op := Go.Op.call { callee := Go.Callee.value (Go.Operand.func 9), args := #[Go.Operand.tmp 37, Go.Operand.tmp 38, Go.Operand.tmp 40, Go.Operand.tmp 42, Go.Operand.tmp 43], argTypes := #[32, 2, 34, 34, 2] }, type := 30, pos := "exact.go:3047", after := #[{ on := 0, ground := Go.Ground.data }, { on := 1, ground := Go.Ground.data }, { on := 3, ground := Go.Ground.data }, { on := 5, ground := Go.Ground.data }, { on := 6, ground := Go.Ground.data }, { on := 5, ground := Go.Ground.chain }], guard := none }) rfl (fun Kn hK => ?_) ?_
            · first | go_at_call 9 | (go_simp; go_at_call 9)
              (with_reducible refine Calls.mono (KI.out _ _ _ _ _ (HR.out.on HW.out)) ?_)
              rintro e V3 ⟨rfl, hb⟩
              try dsimp only
              try simp only [Act.put, List.setIfInBounds_toArray, List.set_cons_zero, List.set_cons_succ]
              replace bY := bY.on hb
              replace bD := bD.on hb
              replace bQ := bQ.on hb
              replace HW := Lib.hid (bel_end HW.out hb)
              clear hb
              refine hK.out _ _ (HSp.out _ bY bD bQ) (fun _ => ?_)
              clear hK Kn
              have hS := HSp.out _ bY bD bQ
              refine wpAnyH_take (i := 8) (oi := { dst := some 36, op := Go.Op.move (Go.Operand.tmp 44), type := 30, pos := "exact.go:3047", after := #[{ on := 7, ground := Go.Ground.data }], guard := none }) (v := ?_) rfl (by kernel_rfl) (by kernel_rfl) (by kernel_rfl) (fun _ _ _ h => h) (Or.inl ⟨by rfl, ?_⟩) hS ?_
              rotate_left
              · (intro w hSw; have hSw := (HSd.out w).1 hSw; go_split_ands; go_simp) <;> with_reducible rfl
              clear hS
              try simp only [Act.put, List.setIfInBounds_toArray, List.set_cons_zero, List.set_cons_succ]
              have hS := HSp.out _ bY bD bQ
              refine wpAnyH_take (i := 9) (oi := { dst := some 45, op := Go.Op.extract (Go.Operand.tmp 36) 0, type := 29, pos := "exact.go:3047", after := #[{ on := 8, ground := Go.Ground.data }], guard := none }) (v := ?_) rfl (by kernel_rfl) (by kernel_rfl) (by kernel_rfl) (fun _ _ _ h => h) (Or.inl ⟨by rfl, ?_⟩) hS ?_
              rotate_left
              · (intro w hSw; have hSw := (HSd.out w).1 hSw; go_split_ands; go_simp) <;> with_reducible rfl
              clear hS
              try simp only [Act.put, List.setIfInBounds_toArray, List.set_cons_zero, List.set_cons_succ]
              have hS := HSp.out _ bY bD bQ
              refine wpAnyH_take (i := 10) (oi := { dst := some 46, op := Go.Op.extract (Go.Operand.tmp 36) 1, type := 2, pos := "exact.go:3047", after := #[{ on := 8, ground := Go.Ground.data }, { on := 12, ground := Go.Ground.gcOnly Go.Departure.lateStores }], guard := none }) (v := ?_) rfl (by kernel_rfl) (by kernel_rfl) (by kernel_rfl) (fun _ _ _ h => h) (Or.inl ⟨by rfl, ?_⟩) hS ?_
              rotate_left
              · (intro w hSw; have hSw := (HSd.out w).1 hSw; go_split_ands; go_simp) <;> with_reducible rfl
              clear hS
              try simp only [Act.put, List.setIfInBounds_toArray, List.set_cons_zero, List.set_cons_succ]
              refine wpAnyH_ready (rs := [11]) (by kernel_rfl) (by simp) ?_
              refine AllReadyH.cons (o := { dst := some 15, op := Go.Op.alloc 29, type := 0, pos := "exact.go:3047", after := #[], guard := none }) rfl (fun Kn hK => ?_) AllReadyH.nil
              go_simp
              generalize hX : World.alloc V3 _ = V4
              obtain ⟨g11, hg⟩ : ∃ g, g = V3.heap.size := ⟨_, rfl⟩
              have bn11 : Bk V4 g11 #[.int .i64 0, .int .i64 0] 29 := by rw [← hX]; exact Bk.new' hg
              have le11 : W3.heap.size ≤ g11 := by rw [hg]; exact HW.out.size
              have nebY_11 : gy ≠ g11 := by have := bY.lt; omega
              replace bY : Bk V4 (gy) #[.slice (some ⟨g3, 0, none⟩) zs.length zs.length, .slice (some ⟨g4, 0, none⟩) ys.length ys.length] 32 := by rw [← hX]; exact bY.alloc _
              have nebD_11 : w.heap.size + 1 ≠ g11 := by have := bD.lt; omega
              replace bD : Bk V4 (w.heap.size + 1) #[.int .i64 c, .int .i64 s, .int .i64 h] 26 := by rw [← hX]; exact bD.alloc _
              have nebQ_11 : w.heap.size + 1 + 1 ≠ g11 := by have := bQ.lt; omega
              replace bQ : Bk V4 (w.heap.size + 1 + 1) #[.int .i64 x, .int .i64 y, .int .i64 z] 26 := by rw [← hX]; exact bQ.alloc _
              try rw [← hg]
              have hb : Below V3.heap.size V3 V4 := by rw [← hX]; exact (Below.refl _ _).alloc (Nat.le_refl _) _
              clear hX hg
              replace HW := Lib.hid (bel_end HW.out hb)
              clear hb
              refine hK.out _ _ (HSp.out _ bY bD bQ) (fun _ => ?_)
              clear hK Kn
              refine wpAnyH_ready (rs := [12]) (by kernel_rfl) (by simp) ?_
              refine AllReadyH.cons (o := { dst := none, op := Go.Op.store 29 (Go.Operand.tmp 15) (Go.Operand.tmp 45), type := 0, pos := "exact.go:3047", after := #[{ on := 11, ground := Go.Ground.data }, { on := 9, ground := Go.Ground.data }, { on := 7, ground := Go.Ground.chain }, { on := 0, ground := Go.Ground.phase }, { on := 1, ground := Go.Ground.phase }, { on := 2, ground := Go.Ground.phase }, { on := 3, ground := Go.Ground.phase }, { on := 4, ground := Go.Ground.phase }, { on := 5, ground := Go.Ground.phase }, { on := 6, ground := Go.Ground.phase }, { on := 7, ground := Go.Ground.phase }, { on := 8, ground := Go.Ground.phase }, { on := 9, ground := Go.Ground.phase }, { on := 10, ground := Go.Ground.textOnly Go.Departure.lateStores }, { on := 11, ground := Go.Ground.phase }], guard := none }) rfl (fun Kn hK => ?_) AllReadyH.nil
              have bn11_0 := bn11.cell 0 rfl
              have bn11_1 := bn11.cell 1 rfl
              have bn11_f0 := bn11.frozen 0
              have bn11_f1 := bn11.frozen 1
              have bn11_l := bn11.lt
              go_simp
              clear bn11_0 bn11_f0 bn11_1 bn11_f1 bn11_l
              generalize hX : World.setCell _ _ _ = V5
              have hb : Below W3.heap.size W3 V5 := by rw [← hX]; exact ((HW.out.setCell (p := ⟨g11, 0, none⟩) le11 _).setCell (p := ⟨g11, 1, none⟩) le11 _)
              replace bY : Bk V5 (gy) #[.slice (some ⟨g3, 0, none⟩) zs.length zs.length, .slice (some ⟨g4, 0, none⟩) ys.length ys.length] 32 := by rw [← hX]; exact (Bk.other (Bk.other bY nebY_11 0 _) nebY_11 1 _)
              replace bD : Bk V5 (w.heap.size + 1) #[.int .i64 c, .int .i64 s, .int .i64 h] 26 := by rw [← hX]; exact (Bk.other (Bk.other bD nebD_11 0 _) nebD_11 1 _)
              replace bQ : Bk V5 (w.heap.size + 1 + 1) #[.int .i64 x, .int .i64 y, .int .i64 z] 26 := by rw [← hX]; exact (Bk.other (Bk.other bQ nebQ_11 0 _) nebQ_11 1 _)
              replace bn11 : Bk V5 (g11) #[.int .i64 r00, .int .i64 r01] 29 := by rw [← hX]; exact (Bk.set (Bk.set bn11 0 _ rfl) 1 _ rfl)
              clear hX
              replace HW := Lib.hid hb
              clear hb
              refine hK.out _ _ (HSp.out _ bY bD bQ) (fun _ => ?_)
              clear hK Kn
              have hS := HSp.out _ bY bD bQ
              refine wpAnyH_take (i := 13) (oi := { dst := some 16, op := Go.Op.assign (Go.Operand.tmp 46), type := 2, pos := "exact.go:3047", after := #[{ on := 10, ground := Go.Ground.data }, { on := 12, ground := Go.Ground.chain }, { on := 0, ground := Go.Ground.phase }, { on := 1, ground := Go.Ground.phase }, { on := 2, ground := Go.Ground.phase }, { on := 3, ground := Go.Ground.phase }, { on := 4, ground := Go.Ground.phase }, { on := 5, ground := Go.Ground.phase }, { on := 6, ground := Go.Ground.phase }, { on := 7, ground := Go.Ground.phase }, { on := 8, ground := Go.Ground.phase }, { on := 9, ground := Go.Ground.phase }, { on := 10, ground := Go.Ground.phase }, { on := 11, ground := Go.Ground.phase }, { on := 12, ground := Go.Ground.phase }], guard := none }) (v := ?_) rfl (by kernel_rfl) (by kernel_rfl) (by kernel_rfl) (fun _ _ _ h => h) (Or.inl ⟨by rfl, ?_⟩) hS ?_
              rotate_left
              · (intro w hSw; have hSw := (HSd.out w).1 hSw; go_split_ands; go_simp) <;> with_reducible rfl
              clear hS
              try simp only [Act.put, List.setIfInBounds_toArray, List.set_cons_zero, List.set_cons_succ]
              refine wpAnyH_done (by kernel_rfl) ?_ _
              go_wp2_with fail
              go_meet
              exact ⟨_, rfl, bn11, le11, rfl, HW.out⟩
            refine AllReadyH.cons (o := { dst := some 15, op := Go.Op.alloc 29, type := 0, pos := "exact.go:3047", after := #[], guard := none }) rfl (fun Kn hK => ?_) AllReadyH.nil
            go_simp
            generalize hX : World.alloc V2 _ = V6
            obtain ⟨g11, hg⟩ : ∃ g, g = V2.heap.size := ⟨_, rfl⟩
            have bn11 : Bk V6 g11 #[.int .i64 0, .int .i64 0] 29 := by rw [← hX]; exact Bk.new' hg
            have le11 : W3.heap.size ≤ g11 := by rw [hg]; exact HW.out.size
            have nebY_11 : gy ≠ g11 := by have := bY.lt; omega
            replace bY : Bk V6 (gy) #[.slice (some ⟨g3, 0, none⟩) zs.length zs.length, .slice (some ⟨g4, 0, none⟩) ys.length ys.length] 32 := by rw [← hX]; exact bY.alloc _
            have nebD_11 : w.heap.size + 1 ≠ g11 := by have := bD.lt; omega
            replace bD : Bk V6 (w.heap.size + 1) #[.int .i64 c, .int .i64 s, .int .i64 h] 26 := by rw [← hX]; exact bD.alloc _
            have nebQ_11 : w.heap.size + 1 + 1 ≠ g11 := by have := bQ.lt; omega
            replace bQ : Bk V6 (w.heap.size + 1 + 1) #[.int .i64 x, .int .i64 y, .int .i64 z] 26 := by rw [← hX]; exact bQ.alloc _
            try rw [← hg]
            have hb : Below V2.heap.size V2 V6 := by rw [← hX]; exact (Below.refl _ _).alloc (Nat.le_refl _) _
            clear hX hg
            replace HW := Lib.hid (bel_end HW.out hb)
            clear hb
            refine hK.out _ _ (HSp.out _ bY bD bQ) (fun _ => ?_)
            clear hK Kn
            refine wpAnyH_ready (rs := [7]) (by kernel_rfl) (by simp) ?_
            refine AllReadyH.cons (o := { dst := some 44, op := Go.Op.call { callee := Go.Callee.value (Go.Operand.func 9), args := #[Go.Operand.tmp 37, Go.Operand.tmp 38, Go.Operand.tmp 40, Go.Operand.tmp 42, Go.Operand.tmp 43], argTypes := #[32, 2, 34, 34, 2] }, type := 30, pos := "exact.go:3047", after := #[{ on := 0, ground := Go.Ground.data }, { on := 1, ground := Go.Ground.data }, { on := 3, ground := Go.Ground.data }, { on := 5, ground := Go.Ground.data }, { on := 6, ground := Go.Ground.data }, { on := 5, ground := Go.Ground.chain }], guard := none }) rfl (fun Kn hK => ?_) AllReadyH.nil
            first | go_at_call 9 | (go_simp; go_at_call 9)
            (with_reducible refine Calls.mono (KI.out _ _ _ _ _ (HR.out.on HW.out)) ?_)
            rintro e V7 ⟨rfl, hb⟩
            try dsimp only
            try simp only [Act.put, List.setIfInBounds_toArray, List.set_cons_zero, List.set_cons_succ]
            replace bY := bY.on hb
            replace bD := bD.on hb
            replace bQ := bQ.on hb
            replace bn11 := bn11.on hb
            replace HW := Lib.hid (bel_end HW.out hb)
            clear hb
            refine hK.out _ _ (HSp.out _ bY bD bQ) (fun _ => ?_)
            clear hK Kn
            have hS := HSp.out _ bY bD bQ
            refine wpAnyH_take (i := 8) (oi := { dst := some 36, op := Go.Op.move (Go.Operand.tmp 44), type := 30, pos := "exact.go:3047", after := #[{ on := 7, ground := Go.Ground.data }], guard := none }) (v := ?_) rfl (by kernel_rfl) (by kernel_rfl) (by kernel_rfl) (fun _ _ _ h => h) (Or.inl ⟨by rfl, ?_⟩) hS ?_
            rotate_left
            · (intro w hSw; have hSw := (HSd.out w).1 hSw; go_split_ands; go_simp) <;> with_reducible rfl
            clear hS
            try simp only [Act.put, List.setIfInBounds_toArray, List.set_cons_zero, List.set_cons_succ]
            have hS := HSp.out _ bY bD bQ
            refine wpAnyH_take (i := 9) (oi := { dst := some 45, op := Go.Op.extract (Go.Operand.tmp 36) 0, type := 29, pos := "exact.go:3047", after := #[{ on := 8, ground := Go.Ground.data }], guard := none }) (v := ?_) rfl (by kernel_rfl) (by kernel_rfl) (by kernel_rfl) (fun _ _ _ h => h) (Or.inl ⟨by rfl, ?_⟩) hS ?_
            rotate_left
            · (intro w hSw; have hSw := (HSd.out w).1 hSw; go_split_ands; go_simp) <;> with_reducible rfl
            clear hS
            try simp only [Act.put, List.setIfInBounds_toArray, List.set_cons_zero, List.set_cons_succ]
            have hS := HSp.out _ bY bD bQ
            refine wpAnyH_take (i := 10) (oi := { dst := some 46, op := Go.Op.extract (Go.Operand.tmp 36) 1, type := 2, pos := "exact.go:3047", after := #[{ on := 8, ground := Go.Ground.data }, { on := 12, ground := Go.Ground.gcOnly Go.Departure.lateStores }], guard := none }) (v := ?_) rfl (by kernel_rfl) (by kernel_rfl) (by kernel_rfl) (fun _ _ _ h => h) (Or.inl ⟨by rfl, ?_⟩) hS ?_
            rotate_left
            · (intro w hSw; have hSw := (HSd.out w).1 hSw; go_split_ands; go_simp) <;> with_reducible rfl
            clear hS
            try simp only [Act.put, List.setIfInBounds_toArray, List.set_cons_zero, List.set_cons_succ]
            refine wpAnyH_ready (rs := [12]) (by kernel_rfl) (by simp) ?_
            refine AllReadyH.cons (o := { dst := none, op := Go.Op.store 29 (Go.Operand.tmp 15) (Go.Operand.tmp 45), type := 0, pos := "exact.go:3047", after := #[{ on := 11, ground := Go.Ground.data }, { on := 9, ground := Go.Ground.data }, { on := 7, ground := Go.Ground.chain }, { on := 0, ground := Go.Ground.phase }, { on := 1, ground := Go.Ground.phase }, { on := 2, ground := Go.Ground.phase }, { on := 3, ground := Go.Ground.phase }, { on := 4, ground := Go.Ground.phase }, { on := 5, ground := Go.Ground.phase }, { on := 6, ground := Go.Ground.phase }, { on := 7, ground := Go.Ground.phase }, { on := 8, ground := Go.Ground.phase }, { on := 9, ground := Go.Ground.phase }, { on := 10, ground := Go.Ground.textOnly Go.Departure.lateStores }, { on := 11, ground := Go.Ground.phase }], guard := none }) rfl (fun Kn hK => ?_) AllReadyH.nil
            have bn11_0 := bn11.cell 0 rfl
            have bn11_1 := bn11.cell 1 rfl
            have bn11_f0 := bn11.frozen 0
            have bn11_f1 := bn11.frozen 1
            have bn11_l := bn11.lt
            go_simp
            clear bn11_0 bn11_f0 bn11_1 bn11_f1 bn11_l
            generalize hX : World.setCell _ _ _ = V8
            have hb : Below W3.heap.size W3 V8 := by rw [← hX]; exact ((HW.out.setCell (p := ⟨g11, 0, none⟩) le11 _).setCell (p := ⟨g11, 1, none⟩) le11 _)
            replace bY : Bk V8 (gy) #[.slice (some ⟨g3, 0, none⟩) zs.length zs.length, .slice (some ⟨g4, 0, none⟩) ys.length ys.length] 32 := by rw [← hX]; exact (Bk.other (Bk.other bY nebY_11 0 _) nebY_11 1 _)
            replace bD : Bk V8 (w.heap.size + 1) #[.int .i64 c, .int .i64 s, .int .i64 h] 26 := by rw [← hX]; exact (Bk.other (Bk.other bD nebD_11 0 _) nebD_11 1 _)
            replace bQ : Bk V8 (w.heap.size + 1 + 1) #[.int .i64 x, .int .i64 y, .int .i64 z] 26 := by rw [← hX]; exact (Bk.other (Bk.other bQ nebQ_11 0 _) nebQ_11 1 _)
            replace bn11 : Bk V8 (g11) #[.int .i64 r00, .int .i64 r01] 29 := by rw [← hX]; exact (Bk.set (Bk.set bn11 0 _ rfl) 1 _ rfl)
            clear hX
            replace HW := Lib.hid hb
            clear hb
            refine hK.out _ _ (HSp.out _ bY bD bQ) (fun _ => ?_)
            clear hK Kn
            have hS := HSp.out _ bY bD bQ
            refine wpAnyH_take (i := 13) (oi := { dst := some 16, op := Go.Op.assign (Go.Operand.tmp 46), type := 2, pos := "exact.go:3047", after := #[{ on := 10, ground := Go.Ground.data }, { on := 12, ground := Go.Ground.chain }, { on := 0, ground := Go.Ground.phase }, { on := 1, ground := Go.Ground.phase }, { on := 2, ground := Go.Ground.phase }, { on := 3, ground := Go.Ground.phase }, { on := 4, ground := Go.Ground.phase }, { on := 5, ground := Go.Ground.phase }, { on := 6, ground := Go.Ground.phase }, { on := 7, ground := Go.Ground.phase }, { on := 8, ground := Go.Ground.phase }, { on := 9, ground := Go.Ground.phase }, { on := 10, ground := Go.Ground.phase }, { on := 11, ground := Go.Ground.phase }, { on := 12, ground := Go.Ground.phase }], guard := none }) (v := ?_) rfl (by kernel_rfl) (by kernel_rfl) (by kernel_rfl) (fun _ _ _ h => h) (Or.inl ⟨by rfl, ?_⟩) hS ?_
            rotate_left
            · (intro w hSw; have hSw := (HSd.out w).1 hSw; go_split_ands; go_simp) <;> with_reducible rfl
            clear hS
            try simp only [Act.put, List.setIfInBounds_toArray, List.set_cons_zero, List.set_cons_succ]
            refine wpAnyH_done (by kernel_rfl) ?_ _
            go_wp2_with fail
            go_meet
            exact ⟨_, rfl, bn11, le11, rfl, HW.out⟩
          refine AllReadyH.cons (o := { dst := some 15, op := Go.Op.alloc 29, type := 0, pos := "exact.go:3047", after := #[], guard := none }) rfl (fun Kn hK => ?_) AllReadyH.nil
          go_simp
          generalize hX : World.alloc V1 _ = V9
          obtain ⟨g11, hg⟩ : ∃ g, g = V1.heap.size := ⟨_, rfl⟩
          have bn11 : Bk V9 g11 #[.int .i64 0, .int .i64 0] 29 := by rw [← hX]; exact Bk.new' hg
          have le11 : W3.heap.size ≤ g11 := by rw [hg]; exact HW.out.size
          have nebY_11 : gy ≠ g11 := by have := bY.lt; omega
          replace bY : Bk V9 (gy) #[.slice (some ⟨g3, 0, none⟩) zs.length zs.length, .slice (some ⟨g4, 0, none⟩) ys.length ys.length] 32 := by rw [← hX]; exact bY.alloc _
          have nebD_11 : w.heap.size + 1 ≠ g11 := by have := bD.lt; omega
          replace bD : Bk V9 (w.heap.size + 1) #[.int .i64 c, .int .i64 s, .int .i64 h] 26 := by rw [← hX]; exact bD.alloc _
          have nebQ_11 : w.heap.size + 1 + 1 ≠ g11 := by have := bQ.lt; omega
          replace bQ : Bk V9 (w.heap.size + 1 + 1) #[.int .i64 x, .int .i64 y, .int .i64 z] 26 := by rw [← hX]; exact bQ.alloc _
          try rw [← hg]
          have hb : Below V1.heap.size V1 V9 := by rw [← hX]; exact (Below.refl _ _).alloc (Nat.le_refl _) _
          clear hX hg
          replace HW := Lib.hid (bel_end HW.out hb)
          clear hb
          refine hK.out _ _ (HSp.out _ bY bD bQ) (fun _ => ?_)
          clear hK Kn
          refine wpAnyH_ready (rs := [5]) (by kernel_rfl) (by simp) ?_
          refine AllReadyH.cons (o := { dst := some 42, op := Go.Op.call { callee := Go.Callee.value (Go.Operand.func 8), args := #[Go.Operand.tmp 41], argTypes := #[26] }, type := 34, pos := "exact.go:3047", after := #[{ on := 4, ground := Go.Ground.data }, { on := 3, ground := Go.Ground.chain }], guard := none }) rfl (fun Kn hK => ?_) AllReadyH.nil
          first | go_at_call 8 | (go_simp; go_at_call 8)
          refine (tod_any _ _ _ _).mono ?_
          rintro e V10 ⟨rfl, hb⟩
          try dsimp only
          try simp only [Act.put, List.setIfInBounds_toArray, List.set_cons_zero, List.set_cons_succ]
          replace bY := bY.on hb
          replace bD := bD.on hb
          replace bQ := bQ.on hb
          replace bn11 := bn11.on hb
          replace HW := Lib.hid (bel_end HW.out hb)
          clear hb
          refine hK.out _ _ (HSp.out _ bY bD bQ) (fun _ => ?_)
          clear hK Kn
          refine wpAnyH_ready (rs := [7]) (by kernel_rfl) (by simp) ?_
          refine AllReadyH.cons (o := { dst := some 44, op := Go.Op.call { callee := Go.Callee.value (Go.Operand.func 9), args := #[Go.Operand.tmp 37, Go.Operand.tmp 38, Go.Operand.tmp 40, Go.Operand.tmp 42, Go.Operand.tmp 43], argTypes := #[32, 2, 34, 34, 2] }, type := 30, pos := "exact.go:3047", after := #[{ on := 0, ground := Go.Ground.data }, { on := 1, ground := Go.Ground.data }, { on := 3, ground := Go.Ground.data }, { on := 5, ground := Go.Ground.data }, { on := 6, ground := Go.Ground.data }, { on := 5, ground := Go.Ground.chain }], guard := none }) rfl (fun Kn hK => ?_) AllReadyH.nil
          first | go_at_call 9 | (go_simp; go_at_call 9)
          (with_reducible refine Calls.mono (KI.out _ _ _ _ _ (HR.out.on HW.out)) ?_)
          rintro e V11 ⟨rfl, hb⟩
          try dsimp only
          try simp only [Act.put, List.setIfInBounds_toArray, List.set_cons_zero, List.set_cons_succ]
          replace bY := bY.on hb
          replace bD := bD.on hb
          replace bQ := bQ.on hb
          replace bn11 := bn11.on hb
          replace HW := Lib.hid (bel_end HW.out hb)
          clear hb
          refine hK.out _ _ (HSp.out _ bY bD bQ) (fun _ => ?_)
          clear hK Kn
          have hS := HSp.out _ bY bD bQ
          refine wpAnyH_take (i := 8) (oi := { dst := some 36, op := Go.Op.move (Go.Operand.tmp 44), type := 30, pos := "exact.go:3047", after := #[{ on := 7, ground := Go.Ground.data }], guard := none }) (v := ?_) rfl (by kernel_rfl) (by kernel_rfl) (by kernel_rfl) (fun _ _ _ h => h) (Or.inl ⟨by rfl, ?_⟩) hS ?_
          rotate_left
          · (intro w hSw; have hSw := (HSd.out w).1 hSw; go_split_ands; go_simp) <;> with_reducible rfl
          clear hS
          try simp only [Act.put, List.setIfInBounds_toArray, List.set_cons_zero, List.set_cons_succ]
          have hS := HSp.out _ bY bD bQ
          refine wpAnyH_take (i := 9) (oi := { dst := some 45, op := Go.Op.extract (Go.Operand.tmp 36) 0, type := 29, pos := "exact.go:3047", after := #[{ on := 8, ground := Go.Ground.data }], guard := none }) (v := ?_) rfl (by kernel_rfl) (by kernel_rfl) (by kernel_rfl) (fun _ _ _ h => h) (Or.inl ⟨by rfl, ?_⟩) hS ?_
          rotate_left
          · (intro w hSw; have hSw := (HSd.out w).1 hSw; go_split_ands; go_simp) <;> with_reducible rfl
          clear hS
          try simp only [Act.put, List.setIfInBounds_toArray, List.set_cons_zero, List.set_cons_succ]
          have hS := HSp.out _ bY bD bQ
          refine wpAnyH_take (i := 10) (oi := { dst := some 46, op := Go.Op.extract (Go.Operand.tmp 36) 1, type := 2, pos := "exact.go:3047", after := #[{ on := 8, ground := Go.Ground.data }, { on := 12, ground := Go.Ground.gcOnly Go.Departure.lateStores }], guard := none }) (v := ?_) rfl (by kernel_rfl) (by kernel_rfl) (by kernel_rfl) (fun _ _ _ h => h) (Or.inl ⟨by rfl, ?_⟩) hS ?_
          rotate_left
          · (intro w hSw; have hSw := (HSd.out w).1 hSw; go_split_ands; go_simp) <;> with_reducible rfl
          clear hS
          try simp only [Act.put, List.setIfInBounds_toArray, List.set_cons_zero, List.set_cons_succ]
          refine wpAnyH_ready (rs := [12]) (by kernel_rfl) (by simp) ?_
          refine AllReadyH.cons (o := { dst := none, op := Go.Op.store 29 (Go.Operand.tmp 15) (Go.Operand.tmp 45), type := 0, pos := "exact.go:3047", after := #[{ on := 11, ground := Go.Ground.data }, { on := 9, ground := Go.Ground.data }, { on := 7, ground := Go.Ground.chain }, { on := 0, ground := Go.Ground.phase }, { on := 1, ground := Go.Ground.phase }, { on := 2, ground := Go.Ground.phase }, { on := 3, ground := Go.Ground.phase }, { on := 4, ground := Go.Ground.phase }, { on := 5, ground := Go.Ground.phase }, { on := 6, ground := Go.Ground.phase }, { on := 7, ground := Go.Ground.phase }, { on := 8, ground := Go.Ground.phase }, { on := 9, ground := Go.Ground.phase }, { on := 10, ground := Go.Ground.textOnly Go.Departure.lateStores }, { on := 11, ground := Go.Ground.phase }], guard := none }) rfl (fun Kn hK => ?_) AllReadyH.nil
          have bn11_0 := bn11.cell 0 rfl
          have bn11_1 := bn11.cell 1 rfl
          have bn11_f0 := bn11.frozen 0
          have bn11_f1 := bn11.frozen 1
          have bn11_l := bn11.lt
          go_simp
          clear bn11_0 bn11_f0 bn11_1 bn11_f1 bn11_l
          generalize hX : World.setCell _ _ _ = V12
          have hb : Below W3.heap.size W3 V12 := by rw [← hX]; exact ((HW.out.setCell (p := ⟨g11, 0, none⟩) le11 _).setCell (p := ⟨g11, 1, none⟩) le11 _)
          replace bY : Bk V12 (gy) #[.slice (some ⟨g3, 0, none⟩) zs.length zs.length, .slice (some ⟨g4, 0, none⟩) ys.length ys.length] 32 := by rw [← hX]; exact (Bk.other (Bk.other bY nebY_11 0 _) nebY_11 1 _)
          replace bD : Bk V12 (w.heap.size + 1) #[.int .i64 c, .int .i64 s, .int .i64 h] 26 := by rw [← hX]; exact (Bk.other (Bk.other bD nebD_11 0 _) nebD_11 1 _)
          replace bQ : Bk V12 (w.heap.size + 1 + 1) #[.int .i64 x, .int .i64 y, .int .i64 z] 26 := by rw [← hX]; exact (Bk.other (Bk.other bQ nebQ_11 0 _) nebQ_11 1 _)
          replace bn11 : Bk V12 (g11) #[.int .i64 r00, .int .i64 r01] 29 := by rw [← hX]; exact (Bk.set (Bk.set bn11 0 _ rfl) 1 _ rfl)
          clear hX
          replace HW := Lib.hid hb
          clear hb
          refine hK.out _ _ (HSp.out _ bY bD bQ) (fun _ => ?_)
          clear hK Kn
          have hS := HSp.out _ bY bD bQ
          refine wpAnyH_take (i := 13) (oi := { dst := some 16, op := Go.Op.assign (Go.Operand.tmp 46), type := 2, pos := "exact.go:3047", after := #[{ on := 10, ground := Go.Ground.data }, { on := 12, ground := Go.Ground.chain }, { on := 0, ground := Go.Ground.phase }, { on := 1, ground := Go.Ground.phase }, { on := 2, ground := Go.Ground.phase }, { on := 3, ground := Go.Ground.phase }, { on := 4, ground := Go.Ground.phase }, { on := 5, ground := Go.Ground.phase }, { on := 6, ground := Go.Ground.phase }, { on := 7, ground := Go.Ground.phase }, { on := 8, ground := Go.Ground.phase }, { on := 9, ground := Go.Ground.phase }, { on := 10, ground := Go.Ground.phase }, { on := 11, ground := Go.Ground.phase }, { on := 12, ground := Go.Ground.phase }], guard := none }) (v := ?_) rfl (by kernel_rfl) (by kernel_rfl) (by kernel_rfl) (fun _ _ _ h => h) (Or.inl ⟨by rfl, ?_⟩) hS ?_
          rotate_left
          · (intro w hSw; have hSw := (HSd.out w).1 hSw; go_split_ands; go_simp) <;> with_reducible rfl
          clear hS
          try simp only [Act.put, List.setIfInBounds_toArray, List.set_cons_zero, List.set_cons_succ]
          refine wpAnyH_done (by kernel_rfl) ?_ _
          go_wp2_with fail
          go_meet
          exact ⟨_, rfl, bn11, le11, rfl, HW.out⟩
        refine AllReadyH.cons (o := { dst := some 15, op := Go.Op.alloc 29, type := 0, pos := "exact.go:3047", after := #[], guard := none }) rfl (fun Kn hK => ?_) AllReadyH.nil
        go_simp
        generalize hX : World.alloc V0 _ = V13
        obtain ⟨g11, hg⟩ : ∃ g, g = V0.heap.size := ⟨_, rfl⟩
        have bn11 : Bk V13 g11 #[.int .i64 0, .int .i64 0] 29 := by rw [← hX]; exact Bk.new' hg
        have le11 : W3.heap.size ≤ g11 := by rw [hg]; exact HW.out.size
        have nebY_11 : gy ≠ g11 := by have := bY.lt; omega
        replace bY : Bk V13 (gy) #[.slice (some ⟨g3, 0, none⟩) zs.length zs.length, .slice (some ⟨g4, 0, none⟩) ys.length ys.length] 32 := by rw [← hX]; exact bY.alloc _
        have nebD_11 : w.heap.size + 1 ≠ g11 := by have := bD.lt; omega
        replace bD : Bk V13 (w.heap.size + 1) #[.int .i64 c, .int .i64 s, .int .i64 h] 26 := by rw [← hX]; exact bD.alloc _
        have nebQ_11 : w.heap.size + 1 + 1 ≠ g11 := by have := bQ.lt; omega
        replace bQ : Bk V13 (w.heap.size + 1 + 1) #[.int .i64 x, .int .i64 y, .int .i64 z] 26 := by rw [← hX]; exact bQ.alloc _
        try rw [← hg]
        have hb : Below V0.heap.size V0 V13 := by rw [← hX]; exact (Below.refl _ _).alloc (Nat.le_refl _) _
        clear hX hg
        replace HW := Lib.hid (bel_end HW.out hb)
        clear hb
        refine hK.out _ _ (HSp.out _ bY bD bQ) (fun _ => ?_)
        clear hK Kn
        refine wpAnyH_ready (rs := [3]) (by kernel_rfl) (by simp) ?_
        refine AllReadyH.cons (o := { dst := some 40, op := Go.Op.call { callee := Go.Callee.value (Go.Operand.func 8), args := #[Go.Operand.tmp 39], argTypes := #[26] }, type := 34, pos := "exact.go:3047", after := #[{ on := 2, ground := Go.Ground.data }], guard := none }) rfl (fun Kn hK => ?_) AllReadyH.nil
        first | go_at_call 8 | (go_simp; go_at_call 8)
        refine (tod_any _ _ _ _).mono ?_
        rintro e V14 ⟨rfl, hb⟩
        try dsimp only
        try simp only [Act.put, List.setIfInBounds_toArray, List.set_cons_zero, List.set_cons_succ]
        replace bY := bY.on hb
        replace bD := bD.on hb
        replace bQ := bQ.on hb
        replace bn11 := bn11.on hb
        replace HW := Lib.hid (bel_end HW.out hb)
        clear hb
        refine hK.out _ _ (HSp.out _ bY bD bQ) (fun _ => ?_)
        clear hK Kn
        refine wpAnyH_ready (rs := [5]) (by kernel_rfl) (by simp) ?_
        refine AllReadyH.cons (o := { dst := some 42, op := Go.Op.call { callee := Go.Callee.value (Go.Operand.func 8), args := #[Go.Operand.tmp 41], argTypes := #[26] }, type := 34, pos := "exact.go:3047", after := #[{ on := 4, ground := Go.Ground.data }, { on := 3, ground := Go.Ground.chain }], guard := none }) rfl (fun Kn hK => ?_) AllReadyH.nil
        first | go_at_call 8 | (go_simp; go_at_call 8)
        refine (tod_any _ _ _ _).mono ?_
        rintro e V15 ⟨rfl, hb⟩
        try dsimp only
        try simp only [Act.put, List.setIfInBounds_toArray, List.set_cons_zero, List.set_cons_succ]
        replace bY := bY.on hb
        replace bD := bD.on hb
        replace bQ := bQ.on hb
        replace bn11 := bn11.on hb
        replace HW := Lib.hid (bel_end HW.out hb)
        clear hb
        refine hK.out _ _ (HSp.out _ bY bD bQ) (fun _ => ?_)
        clear hK Kn
        refine wpAnyH_ready (rs := [7]) (by kernel_rfl) (by simp) ?_
        refine AllReadyH.cons (o := { dst := some 44, op := Go.Op.call { callee := Go.Callee.value (Go.Operand.func 9), args := #[Go.Operand.tmp 37, Go.Operand.tmp 38, Go.Operand.tmp 40, Go.Operand.tmp 42, Go.Operand.tmp 43], argTypes := #[32, 2, 34, 34, 2] }, type := 30, pos := "exact.go:3047", after := #[{ on := 0, ground := Go.Ground.data }, { on := 1, ground := Go.Ground.data }, { on := 3, ground := Go.Ground.data }, { on := 5, ground := Go.Ground.data }, { on := 6, ground := Go.Ground.data }, { on := 5, ground := Go.Ground.chain }], guard := none }) rfl (fun Kn hK => ?_) AllReadyH.nil
        first | go_at_call 9 | (go_simp; go_at_call 9)
        (with_reducible refine Calls.mono (KI.out _ _ _ _ _ (HR.out.on HW.out)) ?_)
        rintro e V16 ⟨rfl, hb⟩
        try dsimp only
        try simp only [Act.put, List.setIfInBounds_toArray, List.set_cons_zero, List.set_cons_succ]
        replace bY := bY.on hb
        replace bD := bD.on hb
        replace bQ := bQ.on hb
        replace bn11 := bn11.on hb
        replace HW := Lib.hid (bel_end HW.out hb)
        clear hb
        refine hK.out _ _ (HSp.out _ bY bD bQ) (fun _ => ?_)
        clear hK Kn
        have hS := HSp.out _ bY bD bQ
        refine wpAnyH_take (i := 8) (oi := { dst := some 36, op := Go.Op.move (Go.Operand.tmp 44), type := 30, pos := "exact.go:3047", after := #[{ on := 7, ground := Go.Ground.data }], guard := none }) (v := ?_) rfl (by kernel_rfl) (by kernel_rfl) (by kernel_rfl) (fun _ _ _ h => h) (Or.inl ⟨by rfl, ?_⟩) hS ?_
        rotate_left
        · (intro w hSw; have hSw := (HSd.out w).1 hSw; go_split_ands; go_simp) <;> with_reducible rfl
        clear hS
        try simp only [Act.put, List.setIfInBounds_toArray, List.set_cons_zero, List.set_cons_succ]
        have hS := HSp.out _ bY bD bQ
        refine wpAnyH_take (i := 9) (oi := { dst := some 45, op := Go.Op.extract (Go.Operand.tmp 36) 0, type := 29, pos := "exact.go:3047", after := #[{ on := 8, ground := Go.Ground.data }], guard := none }) (v := ?_) rfl (by kernel_rfl) (by kernel_rfl) (by kernel_rfl) (fun _ _ _ h => h) (Or.inl ⟨by rfl, ?_⟩) hS ?_
        rotate_left
        · (intro w hSw; have hSw := (HSd.out w).1 hSw; go_split_ands; go_simp) <;> with_reducible rfl
        clear hS
        try simp only [Act.put, List.setIfInBounds_toArray, List.set_cons_zero, List.set_cons_succ]
        have hS := HSp.out _ bY bD bQ
        refine wpAnyH_take (i := 10) (oi := { dst := some 46, op := Go.Op.extract (Go.Operand.tmp 36) 1, type := 2, pos := "exact.go:3047", after := #[{ on := 8, ground := Go.Ground.data }, { on := 12, ground := Go.Ground.gcOnly Go.Departure.lateStores }], guard := none }) (v := ?_) rfl (by kernel_rfl) (by kernel_rfl) (by kernel_rfl) (fun _ _ _ h => h) (Or.inl ⟨by rfl, ?_⟩) hS ?_
        rotate_left
        · (intro w hSw; have hSw := (HSd.out w).1 hSw; go_split_ands; go_simp) <;> with_reducible rfl
        clear hS
        try simp only [Act.put, List.setIfInBounds_toArray, List.set_cons_zero, List.set_cons_succ]
        refine wpAnyH_ready (rs := [12]) (by kernel_rfl) (by simp) ?_
        refine AllReadyH.cons (o := { dst := none, op := Go.Op.store 29 (Go.Operand.tmp 15) (Go.Operand.tmp 45), type := 0, pos := "exact.go:3047", after := #[{ on := 11, ground := Go.Ground.data }, { on := 9, ground := Go.Ground.data }, { on := 7, ground := Go.Ground.chain }, { on := 0, ground := Go.Ground.phase }, { on := 1, ground := Go.Ground.phase }, { on := 2, ground := Go.Ground.phase }, { on := 3, ground := Go.Ground.phase }, { on := 4, ground := Go.Ground.phase }, { on := 5, ground := Go.Ground.phase }, { on := 6, ground := Go.Ground.phase }, { on := 7, ground := Go.Ground.phase }, { on := 8, ground := Go.Ground.phase }, { on := 9, ground := Go.Ground.phase }, { on := 10, ground := Go.Ground.textOnly Go.Departure.lateStores }, { on := 11, ground := Go.Ground.phase }], guard := none }) rfl (fun Kn hK => ?_) AllReadyH.nil
        have bn11_0 := bn11.cell 0 rfl
        have bn11_1 := bn11.cell 1 rfl
        have bn11_f0 := bn11.frozen 0
        have bn11_f1 := bn11.frozen 1
        have bn11_l := bn11.lt
        go_simp
        clear bn11_0 bn11_f0 bn11_1 bn11_f1 bn11_l
        generalize hX : World.setCell _ _ _ = V17
        have hb : Below W3.heap.size W3 V17 := by rw [← hX]; exact ((HW.out.setCell (p := ⟨g11, 0, none⟩) le11 _).setCell (p := ⟨g11, 1, none⟩) le11 _)
        replace bY : Bk V17 (gy) #[.slice (some ⟨g3, 0, none⟩) zs.length zs.length, .slice (some ⟨g4, 0, none⟩) ys.length ys.length] 32 := by rw [← hX]; exact (Bk.other (Bk.other bY nebY_11 0 _) nebY_11 1 _)
        replace bD : Bk V17 (w.heap.size + 1) #[.int .i64 c, .int .i64 s, .int .i64 h] 26 := by rw [← hX]; exact (Bk.other (Bk.other bD nebD_11 0 _) nebD_11 1 _)
        replace bQ : Bk V17 (w.heap.size + 1 + 1) #[.int .i64 x, .int .i64 y, .int .i64 z] 26 := by rw [← hX]; exact (Bk.other (Bk.other bQ nebQ_11 0 _) nebQ_11 1 _)
        replace bn11 : Bk V17 (g11) #[.int .i64 r00, .int .i64 r01] 29 := by rw [← hX]; exact (Bk.set (Bk.set bn11 0 _ rfl) 1 _ rfl)
        clear hX
        replace HW := Lib.hid hb
        clear hb
        refine hK.out _ _ (HSp.out _ bY bD bQ) (fun _ => ?_)
        clear hK Kn
        have hS := HSp.out _ bY bD bQ
        refine wpAnyH_take (i := 13) (oi := { dst := some 16, op := Go.Op.assign (Go.Operand.tmp 46), type := 2, pos := "exact.go:3047", after := #[{ on := 10, ground := Go.Ground.data }, { on := 12, ground := Go.Ground.chain }, { on := 0, ground := Go.Ground.phase }, { on := 1, ground := Go.Ground.phase }, { on := 2, ground := Go.Ground.phase }, { on := 3, ground := Go.Ground.phase }, { on := 4, ground := Go.Ground.phase }, { on := 5, ground := Go.Ground.phase }, { on := 6, ground := Go.Ground.phase }, { on := 7, ground := Go.Ground.phase }, { on := 8, ground := Go.Ground.phase }, { on := 9, ground := Go.Ground.phase }, { on := 10, ground := Go.Ground.phase }, { on := 11, ground := Go.Ground.phase }, { on := 12, ground := Go.Ground.phase }], guard := none }) (v := ?_) rfl (by kernel_rfl) (by kernel_rfl) (by kernel_rfl) (fun _ _ _ h => h) (Or.inl ⟨by rfl, ?_⟩) hS ?_
        rotate_left
        · (intro w hSw; have hSw := (HSd.out w).1 hSw; go_split_ands; go_simp) <;> with_reducible rfl
        clear hS
        try simp only [Act.put, List.setIfInBounds_toArray, List.set_cons_zero, List.set_cons_succ]
        refine wpAnyH_done (by kernel_rfl) ?_ _
        go_wp2_with fail
        go_meet
        exact ⟨_, rfl, bn11, le11, rfl, HW.out⟩
      case rest =>
        obtain ⟨gI, rfl, bI, hgI, rfl, hB⟩ := hcut
        replace bX := bX.on hB
        replace bD := bD.on hB
        replace bQ := bQ.on hB
        replace bY := bY.on hB
        replace bS := bS.on hB
        replace HP := Lib.hid (HP.out.on hB)
        replace HR := Lib.hid (HR.out.on hB)
        replace HB := Lib.hid (bel_end HB.out hB)
        clear hB hgI
        have u0 := bS.cell 0 rfl
        have u1 := bS.cell 1 rfl
        have v0 := bI.cell 0 rfl
        have v1 := bI.cell 1 rfl
        go_wp2_with fail
        (with_reducible refine Calls.mono (KE.out _) ?_)
        rintro e w4 ⟨rfl, hb⟩
        replace bX := bX.on hb
        replace bY := bY.on hb
        replace HP := Lib.hid (HP.out.on hb)
        replace HR := Lib.hid (HR.out.on hb)
        replace HB := Lib.hid (bel_end HB.out hb)
        clear hb u0 u1 v0 v1 bS bI
        go_upto_region 10 with fail
        clear bD bQ
        have HW : Hid (Below w4.heap.size w4 w4) := Lib.hid (Below.refl _ _)
        obtain ⟨S, hSd⟩ : ∃ S : World → Prop, ∀ w', S w' ↔ (w'.cell? ⟨w.heap.size, 0, none⟩ = some (.slice a0 zs.length cap0) ∧ w'.cell? ⟨w.heap.size, 1, none⟩ = some (.slice b0 ys.length cap1) ∧ w'.cell? ⟨gy, 0, none⟩ = some (.slice (some ⟨g3, 0, none⟩) zs.length zs.length) ∧ w'.cell? ⟨gy, 1, none⟩ = some (.slice (some ⟨g4, 0, none⟩) ys.length ys.length)) := ⟨_, fun _ => Iff.rfl⟩
        have HSp : Hid (∀ w' : World, Bk w' (w.heap.size) #[.slice a0 zs.length cap0, .slice b0 ys.length cap1] 24 → Bk w' (gy) #[.slice (some ⟨g3, 0, none⟩) zs.length zs.length, .slice (some ⟨g4, 0, none⟩) ys.length ys.length] 32 → S w') := Lib.hid (fun w' bX bY => (hSd w').2 ⟨bX.cell 0 rfl, bX.cell 1 rfl, bY.cell 0 rfl, bY.cell 1 rfl⟩)
        have HSd := Lib.hid hSd
        clear hSd
        refine wp_region_held_drew (S := S) (by kernel_rfl) ?_ (fun hH => ?_)
        · exact (HSp.out _ bX bY : S (World.drew w4))
        clear hH
        generalize hX : World.drew w4 = V0
        replace bX : Bk V0 (w.heap.size) #[.slice a0 zs.length cap0, .slice b0 ys.length cap1] 24 := by rw [← hX]; exact bX
        replace bY : Bk V0 (gy) #[.slice (some ⟨g3, 0, none⟩) zs.length zs.length, .slice (some ⟨g4, 0, none⟩) ys.length ys.length] 32 := by rw [← hX]; exact bY
        have hb : Below w4.heap.size w4 V0 := by rw [← hX]; exact (Below.refl _ _).drew
        clear hX
        try replace HR5 := Lib.hid (HR5.out.on hb)
        replace HW := Lib.hid (bel_end HW.out hb)
        clear hb
        have hS := HSp.out _ bX bY
        refine wpAnyH_take (i := 0) (oi := { dst := some 56, op := Go.Op.load 32 (Go.Operand.tmp 14), type := 32, pos := "exact.go:3051", after := #[], guard := none }) (v := ?_) rfl (by kernel_rfl) (by kernel_rfl) (by kernel_rfl) (fun _ _ _ h => h) (Or.inl ⟨by rfl, ?_⟩) hS ?_
        rotate_left
        · (intro w hSw; have hSw := (HSd.out w).1 hSw; go_split_ands; go_simp) <;> with_reducible rfl
        clear hS
        try simp only [Act.put, List.setIfInBounds_toArray, List.set_cons_zero, List.set_cons_succ]
        have hS := HSp.out _ bX bY
        refine wpAnyH_take (i := 1) (oi := { dst := some 57, op := Go.Op.load 24 (Go.Operand.tmp 5), type := 24, pos := "exact.go:3051", after := #[], guard := none }) (v := ?_) rfl (by kernel_rfl) (by kernel_rfl) (by kernel_rfl) (fun _ _ _ h => h) (Or.inl ⟨by rfl, ?_⟩) hS ?_
        rotate_left
        · (intro w hSw; have hSw := (HSd.out w).1 hSw; go_split_ands; go_simp) <;> with_reducible rfl
        clear hS
        try simp only [Act.put, List.setIfInBounds_toArray, List.set_cons_zero, List.set_cons_succ]
        refine wpAnyH_ready (rs := [2]) (by kernel_rfl) (by simp) ?_
        refine AllReadyH.cons (o := { dst := some 58, op := Go.Op.call { callee := Go.Callee.value (Go.Operand.func 7), args := #[Go.Operand.tmp 57], argTypes := #[24] }, type := 32, pos := "exact.go:3051", after := #[{ on := 1, ground := Go.Ground.data }], guard := none }) rfl (fun Kn hK => ?_) AllReadyH.nil
        first | go_at_call 7 | (go_simp; go_at_call 7)
        (refine Calls.mono (top_any _ _ _ _ _ zs ys (HP.out.on HW.out)) ?_)
        rintro e V1 ⟨g5, g6, rfl, hg5, hg6, hr1, hr2, hb⟩
        have HR5 := Lib.hid (Prof.of_rows hr1 hr2 lz ly)
        clear hr1 hr2
        try dsimp only
        try simp only [Act.put, List.setIfInBounds_toArray, List.set_cons_zero, List.set_cons_succ]
        replace bX := bX.on hb
        replace bY := bY.on hb
        try replace HR5 := Lib.hid (HR5.out.on hb)
        replace HW := Lib.hid (bel_end HW.out hb)
        clear hb
        refine hK.out _ _ (HSp.out _ bX bY) (fun _ => ?_)
        clear hK Kn
        refine wpAnyH_ready (rs := [3]) (by kernel_rfl) (by simp) ?_
        refine AllReadyH.cons (o := { dst := some 59, op := Go.Op.call { callee := Go.Callee.value (Go.Operand.func 11), args := #[Go.Operand.tmp 56, Go.Operand.tmp 58], argTypes := #[32, 32] }, type := 4, pos := "exact.go:3051", after := #[{ on := 0, ground := Go.Ground.data }, { on := 2, ground := Go.Ground.data }, { on := 2, ground := Go.Ground.chain }], guard := none }) rfl (fun Kn hK => ?_) AllReadyH.nil
        first | go_at_call 11 | (go_simp; go_at_call 11)
        refine (eqp_any _ _ _ _ _ _ _ _ _ zs ys zs ys (HR.out.on HW.out) HR5.out).mono ?_
        rw [same_self]
        rintro e V2 ⟨rfl, hb⟩
        try dsimp only
        try simp only [Act.put, List.setIfInBounds_toArray, List.set_cons_zero, List.set_cons_succ]
        replace bX := bX.on hb
        replace bY := bY.on hb
        try replace HR5 := Lib.hid (HR5.out.on hb)
        replace HW := Lib.hid (bel_end HW.out hb)
        clear hb
        refine hK.out _ _ (HSp.out _ bX bY) (fun _ => ?_)
        clear hK Kn
        have hS := HSp.out _ bX bY
        refine wpAnyH_take (i := 4) (oi := { dst := some 60, op := Go.Op.unOp Go.UnOp.not 4 (Go.Operand.tmp 59), type := 4, pos := "exact.go:3051", after := #[{ on := 3, ground := Go.Ground.data }], guard := none }) (v := ?_) rfl (by kernel_rfl) (by kernel_rfl) (by kernel_rfl) (fun _ _ _ h => h) (Or.inl ⟨by rfl, ?_⟩) hS ?_
        rotate_left
        · (intro w hSw; have hSw := (HSd.out w).1 hSw; go_split_ands; go_simp) <;> with_reducible rfl
        clear hS
        try simp only [Act.put, List.setIfInBounds_toArray, List.set_cons_zero, List.set_cons_succ]
        refine wpAnyH_done (by kernel_rfl) ?_ _
        go_wp2
        go_ret
        exact ⟨rfl, bel_end HB.out HW.out⟩
end Go.Proofs.Ytgecbfbmmbfnmaa
