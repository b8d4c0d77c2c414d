/- Contracts of the program's cells: one history or two; the range of a cell. -/
import Derived.Test.YtgecbfbmmbfnmaaCelA
import Derived.Test.YtgecbfbmmbfnmaaEnc
import Derived.Handy
import Derived.Outline
import Derived.LoopTactic
import Derived.Deep.RegionHeld3
import Derived.Deep.DeepCutAuto
import Derived.Deep.RegionWith
namespace Go.Proofs.Ytgecbfbmmbfnmaa
open Go.ChangeShapes Go.WideShapes Go.ChangeAt Go.RowKit Go.Shelf Num
set_option linter.unusedVariables false
set_option linter.unusedSimpArgs false

/-- the event number j of a ray -/
def evJ (zs ys : List Int) (i : Nat) (c s h : Int) (j : Nat) : Int := evV zs ys i c h (runS zs ys i c h (fst0 i s) j).k (runS zs ys i c h (fst0 i s) j).dn
/-- have two rays the same first events? -/
def hsB (zs ys : List Int) (i : Nat) (c s h x y z : Int) : Nat → Bool
  | 0 => true
  | n + 1 => hsB zs ys i c s h x y z n && (evJ zs ys i c s h n == evJ zs ys i x y z n)
theorem hsB_less {zs ys : List Int} {i : Nat} {c s h x y z : Int} : ∀ {n : Nat}, hsB zs ys i c s h x y z n = true → ∀ {m : Nat}, m ≤ n → hsB zs ys i c s h x y z m = true
  | 0, _, m, hm => by obtain rfl : m = 0 := by omega
                      rfl
  | n + 1, g, m, hm => by
    rcases Nat.lt_or_ge m (n + 1) with l | l
    · unfold hsB at g
      rw [Bool.and_eq_true] at g
      exact hsB_less g.1 (by omega)
    · obtain rfl : m = n + 1 := by omega
      exact g
theorem hsN_f {zs ys : List Int} {i : Nat} {c s h x y z : Int} {k n : Nat} (hk : (evJ zs ys i c s h k == evJ zs ys i x y z k) = false) (hn : k < n) : hsB zs ys i c s h x y z n = false := by
  cases e : hsB zs ys i c s h x y z n
  · rfl
  · have := hsB_less e (show k + 1 ≤ n by omega)
    unfold hsB at this
    rw [hk] at this
    simp at this

set_option maxRecDepth 100000 in
set_option maxHeartbeats 8000000 in
theorem eqf_any (w w1 w2 : World) (a b : Option Addr) (ca cb : Nat) (zs ys : List Int) (i N gd cd ge ce : Nat) (c s h x y z : Int) (hN : N ≤ 100) (hd : RowG w1 89 5 gd cd N (rowL (stpC a b ca cb zs ys i c s h) N) w) (he : RowG w2 89 5 ge ce N (rowL (stpC a b ca cb zs ys i x y z) N) w) :
    Calls Try.prog 41 #[.slice (some ⟨gd, 0, none⟩) N cd, .slice (some ⟨ge, 0, none⟩) N ce, .func (.func 42) #[] #[]] w fun e w' => e = .returned (.bool (hsB zs ys i c s h x y z N)) ∧ Below w.heap.size w w' := by
  have HD := Lib.hid hd
  have HE := Lib.hid he
  clear hd he
  go_enter Try.func41, Try.ntmps41
  go_wp2_with fail
  go_loopw [17] (fun v wr => ∃ k : Nat, v = .int .i64 (k : Int) ∧ k ≤ N ∧ hsB zs ys i c s h x y z k = true ∧ Below w.heap.size w wr) (fun v _ => N - (intOf v).toNat)
  case atStart => exact ⟨0, rfl, by omega, rfl, Below.refl _ _⟩
  case round =>
    obtain ⟨k, rfl, hk, hh, hb⟩ := hrel
    have HH := Lib.hid hh
    have HB := Lib.hid hb
    have HDk := Lib.hid (HD.out.on hb)
    have HEk := Lib.hid (HE.out.on hb)
    clear hh hb
    by_cases hkN : k < N
    case neg =>
      obtain rfl : k = N := by omega
      have hkk : ¬ (k : Int) < (k : Int) := by omega
      go_wp2
      go_ret
      exact ⟨ret_bool HH.out.symm, HB.out⟩
    case pos =>
      have ik : (k : Int) < (N : Int) := by omega
      have ik0 : (0 : Int) ≤ (k : Int) := by omega
      obtain ⟨⟨pk, pd, pl, ph⟩, hNp⟩ : ∃ u, runS zs ys i c h (fst0 i s) (k + 1) = u := ⟨_, rfl⟩
      obtain ⟨pt, pv, hEp⟩ := evW_iface a b ca cb zs ys i c s h (runS zs ys i c h (fst0 i s) k).k (runS zs ys i c h (fst0 i s) k).dn
      have e5p : stpC a b ca cb zs ys i c s h k = [.iface pt pv, .int .i64 (pk : Int), .bool pd, .int .i64 pl, .int .i64 ph] := by unfold stpC; rw [hNp, hEp]
      have p_0 := HDk.out.cell (stpC_len _ _ _ _ _ _ _ _ _ _) hkN (show 0 < 5 by omega) (show (stpC a b ca cb zs ys i c s h k)[0]? = some _ from by rw [e5p]; rfl)
      have p_1 := HDk.out.cell (stpC_len _ _ _ _ _ _ _ _ _ _) hkN (show 1 < 5 by omega) (show (stpC a b ca cb zs ys i c s h k)[1]? = some _ from by rw [e5p]; rfl)
      have p_2 := HDk.out.cell (stpC_len _ _ _ _ _ _ _ _ _ _) hkN (show 2 < 5 by omega) (show (stpC a b ca cb zs ys i c s h k)[2]? = some _ from by rw [e5p]; rfl)
      have p_3 := HDk.out.cell (stpC_len _ _ _ _ _ _ _ _ _ _) hkN (show 3 < 5 by omega) (show (stpC a b ca cb zs ys i c s h k)[3]? = some _ from by rw [e5p]; rfl)
      have p_4 := HDk.out.cell (stpC_len _ _ _ _ _ _ _ _ _ _) hkN (show 4 < 5 by omega) (show (stpC a b ca cb zs ys i c s h k)[4]? = some _ from by rw [e5p]; rfl)
      rw [Nat.add_zero] at p_0
      have p_l := HDk.out.up
      obtain ⟨⟨qk, qd, ql, qh⟩, hNq⟩ : ∃ u, runS zs ys i x z (fst0 i y) (k + 1) = u := ⟨_, rfl⟩
      obtain ⟨qt, qv, hEq⟩ := evW_iface a b ca cb zs ys i x y z (runS zs ys i x z (fst0 i y) k).k (runS zs ys i x z (fst0 i y) k).dn
      have e5q : stpC a b ca cb zs ys i x y z k = [.iface qt qv, .int .i64 (qk : Int), .bool qd, .int .i64 ql, .int .i64 qh] := by unfold stpC; rw [hNq, hEq]
      have q_0 := HEk.out.cell (stpC_len _ _ _ _ _ _ _ _ _ _) hkN (show 0 < 5 by omega) (show (stpC a b ca cb zs ys i x y z k)[0]? = some _ from by rw [e5q]; rfl)
      have q_1 := HEk.out.cell (stpC_len _ _ _ _ _ _ _ _ _ _) hkN (show 1 < 5 by omega) (show (stpC a b ca cb zs ys i x y z k)[1]? = some _ from by rw [e5q]; rfl)
      have q_2 := HEk.out.cell (stpC_len _ _ _ _ _ _ _ _ _ _) hkN (show 2 < 5 by omega) (show (stpC a b ca cb zs ys i x y z k)[2]? = some _ from by rw [e5q]; rfl)
      have q_3 := HEk.out.cell (stpC_len _ _ _ _ _ _ _ _ _ _) hkN (show 3 < 5 by omega) (show (stpC a b ca cb zs ys i x y z k)[3]? = some _ from by rw [e5q]; rfl)
      have q_4 := HEk.out.cell (stpC_len _ _ _ _ _ _ _ _ _ _) hkN (show 4 < 5 by omega) (show (stpC a b ca cb zs ys i x y z k)[4]? = some _ from by rw [e5q]; rfl)
      rw [Nat.add_zero] at q_0
      have q_l := HEk.out.up
      have KH : Hid (∀ W : World, Calls Try.prog 42 #[.agg #[.iface pt pv, .int .i64 (pk : Int), .bool pd, .int .i64 pl, .int .i64 ph], .agg #[.iface qt qv, .int .i64 (qk : Int), .bool qd, .int .i64 ql, .int .i64 qh]] W fun e w' => e = .returned (.bool (evJ zs ys i c s h k == evJ zs ys i x y z k)) ∧ Below W.heap.size W w') := Lib.hid (fun W => by have := hoc_any W a b ca cb zs ys i (runS zs ys i c h (fst0 i s) k).k (runS zs ys i x z (fst0 i y) k).k c s h x y z (runS zs ys i c h (fst0 i s) k).dn (runS zs ys i x z (fst0 i y) k).dn (pk : Int) pl ph (qk : Int) ql qh pd qd; rw [hEp, hEq] at this; exact this)
      clear hEp hEq hNp hNq e5p e5q
      obtain ⟨g, hg⟩ : ∃ g, (evJ zs ys i c s h k == evJ zs ys i x y z k) = g := ⟨_, rfl⟩
      rw [hg] at KH
      have HGG := Lib.hid hg
      clear hg
      go_upto_region 6 with fail
      obtain ⟨W3, hW⟩ : ∃ W, W = wr.alloc (.cells #[.iface pt pv, .int .i64 (pk : Int), .bool pd, .int .i64 pl, .int .i64 ph] 89) := ⟨_, rfl⟩
      rw [← hW]
      have bX : Bk W3 wr.heap.size #[.iface pt pv, .int .i64 (pk : Int), .bool pd, .int .i64 pl, .int .i64 ph] 89 := by rw [hW]; exact Bk.new' rfl
      have hb : Below wr.heap.size wr W3 := by rw [hW]; exact (Below.refl _ _).alloc (Nat.le_refl _) _
      replace q_0 := kc1 q_0 hb
      replace q_1 := kc1 q_1 hb
      replace q_2 := kc1 q_2 hb
      replace q_3 := kc1 q_3 hb
      replace q_4 := kc1 q_4 hb
      have q_l2 : ge < W3.heap.size := Nat.lt_of_lt_of_le q_l hb.size
      have HB3 := Lib.hid (bel_end HB.out hb)
      clear hW hb p_0 p_1 p_2 p_3 p_4 p_l
      go_upto_region 7 with fail
      obtain ⟨W4, hW⟩ : ∃ W, W = W3.alloc (.cells #[.iface qt qv, .int .i64 (qk : Int), .bool qd, .int .i64 ql, .int .i64 qh] 89) := ⟨_, rfl⟩
      rw [← hW]
      have bY : Bk W4 W3.heap.size #[.iface qt qv, .int .i64 (qk : Int), .bool qd, .int .i64 ql, .int .i64 qh] 89 := by rw [hW]; exact Bk.new' rfl
      have hb : Below W3.heap.size W3 W4 := by rw [hW]; exact (Below.refl _ _).alloc (Nat.le_refl _) _
      replace bX := bX.on hb
      replace HB3 := Lib.hid (bel_end HB3.out hb)
      clear hW hb q_0 q_1 q_2 q_3 q_4 q_l q_l2
      have bX_0 := bX.cell 0 rfl
      have bX_1 := bX.cell 1 rfl
      have bX_2 := bX.cell 2 rfl
      have bX_3 := bX.cell 3 rfl
      have bX_4 := bX.cell 4 rfl
      have bX_l := bX.lt
      have bY_0 := bY.cell 0 rfl
      have bY_1 := bY.cell 1 rfl
      have bY_2 := bY.cell 2 rfl
      have bY_3 := bY.cell 3 rfl
      have bY_4 := bY.cell 4 rfl
      have bY_l := bY.lt
      go_wp2_with fail
      (with_reducible refine Calls.mono (KH.out _) ?_)
      rintro e w5 ⟨rfl, hb⟩
      replace HB3 := Lib.hid (bel_end HB3.out hb)
      clear hb KH
      clear bX_0 bX_1 bX_2 bX_3 bX_4 bX_l
      clear bY_0 bY_1 bY_2 bY_3 bY_4 bY_l
      clear bX bY
      cases g
      case false =>
        have HR : Hid (hsB zs ys i c s h x y z N = false) := Lib.hid (hsN_f HGG.out hkN)
        go_wp2
        go_ret
        exact ⟨ret_bool HR.out.symm, HB3.out⟩
      case true =>
        have HR : Hid (hsB zs ys i c s h x y z (k + 1) = true) := Lib.hid (by unfold hsB; rw [HH.out, HGG.out]; rfl)
        go_wp2
        go_roundw
        (case rel => exact ⟨k + 1, by go_num, by omega, HR.out, HB3.out⟩)
        (case measure => simp [intOf]; omega)

set_option maxRecDepth 100000 in
set_option maxHeartbeats 4000000 in
theorem hoh_any (w w1 w2 : World) (a b : Option Addr) (ca cb : Nat) (zs ys : List Int) (i N gd cd ge ce : Nat) (c s h x y z k1 l1 h1 k2 l2 h2 : Int) (d1 d2 : Bool) (hN : N ≤ 100) (hd : RowG w1 89 5 gd cd N (rowL (stpC a b ca cb zs ys i c s h) N) w) (he : RowG w2 89 5 ge ce N (rowL (stpC a b ca cb zs ys i x y z) N) w) :
    Calls Try.prog 21 #[.agg #[.slice (some ⟨gd, 0, none⟩) N cd, .int .i64 k1, .bool d1, .int .i64 l1, .int .i64 h1, .slice (some ⟨ge, 0, none⟩) N ce, .int .i64 k2, .bool d2, .int .i64 l2, .int .i64 h2]] w fun e w' => e = .returned (.bool (hsB zs ys i c s h x y z N)) ∧ Below w.heap.size w w' := by
  have HD := Lib.hid hd
  have HE := Lib.hid he
  have KQ : Hid (∀ W : World, Below w.heap.size w W → Calls Try.prog 41 #[.slice (some ⟨gd, 0, none⟩) N cd, .slice (some ⟨ge, 0, none⟩) N ce, .func (.func 42) #[] #[]] W fun e w' => e = .returned (.bool (hsB zs ys i c s h x y z N)) ∧ Below W.heap.size W w') := Lib.hid (fun W hb => eqf_any W w1 w2 a b ca cb zs ys i N gd cd ge ce c s h x y z hN (HD.out.on hb) (HE.out.on hb))
  clear hd he
  go_enter Try.func21, Try.ntmps21
  go_upto_region 1 with fail
  generalize hW : World.alloc _ _ = W
  have bX : Bk W (w.heap.size) #[.slice (some ⟨gd, 0, none⟩) N cd, .int .i64 k1, .bool d1, .int .i64 l1, .int .i64 h1, .slice (some ⟨ge, 0, none⟩) N ce, .int .i64 k2, .bool d2, .int .i64 l2, .int .i64 h2] 59 := by rw [← hW]; repeat (first | (refine Bk.new' ?_; (simp; done)) | refine Bk.alloc ?_ _)
  have HB : Hid (Below w.heap.size w W) := Lib.hid (by rw [← hW]; exact (by repeat (first | exact Below.refl _ _ | (refine Below.alloc ?_ (by simp <;> omega) _) | (refine Below.setCell ?_ (by simp <;> omega) _) | (refine Below.drew ?_) | (refine bel_drewN ?_ _))))
  clear hW
  have bX_0 := bX.cell 0 rfl
  have bX_1 := bX.cell 1 rfl
  have bX_2 := bX.cell 2 rfl
  have bX_3 := bX.cell 3 rfl
  have bX_4 := bX.cell 4 rfl
  have bX_5 := bX.cell 5 rfl
  have bX_6 := bX.cell 6 rfl
  have bX_7 := bX.cell 7 rfl
  have bX_8 := bX.cell 8 rfl
  have bX_9 := bX.cell 9 rfl
  have bX_l := bX.lt
  go_wp2_with fail
  (with_reducible refine Calls.mono (KQ.out _ HB.out) ?_)
  rintro e w3 ⟨rfl, hb⟩
  replace HB := Lib.hid (bel_end HB.out hb)
  clear hb
  clear bX_0 bX_1 bX_2 bX_3 bX_4 bX_5 bX_6 bX_7 bX_8 bX_9 bX_l
  go_wp2
  go_ret
  exact ⟨rfl, HB.out⟩
end Go.Proofs.Ytgecbfbmmbfnmaa
