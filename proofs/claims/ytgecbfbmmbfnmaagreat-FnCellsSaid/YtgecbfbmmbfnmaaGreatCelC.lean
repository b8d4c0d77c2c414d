import Derived.Test.YtgecbfbmmbfnmaaGreatCelA
import Derived.Test.YtgecbfbmmbfnmaaGreatBas
import Derived.Handy
import Derived.Outline
import Derived.LoopTactic
import Derived.Deep.RegionHeld3
import Derived.Deep.DeepCutAuto
import Derived.Deep.RegionWith
namespace Go.Proofs.YtgecbfbmmbfnmaaGreat
section
/- Contracts of the program's cells: one history or two; the range of a cell. -/
open Go.ChangeShapes Go.WideShapes Go.ChangeAt Go.RowKit Go.Shelf Num
set_option linter.unusedVariables false
set_option linter.unusedSimpArgs false

/-- the event number j of a ray -/
def evJ (zs ys : List Int) (i : Nat) (c s h : Int) (j : Nat) : Int := evV zs ys i c h (runS zs ys i c h (fst0 i s) j).k (runS zs ys i c h (fst0 i s) j).dn
/-- have two rays the same first events? -/
def hsB (zs ys : List Int) (i : Nat) (c s h x y z : Int) : Nat → Bool
  | 0 => true
  | n + 1 => hsB zs ys i c s h x y z n && (evJ zs ys i c s h n == evJ zs ys i x y z n)
theorem hsB_less {zs ys : List Int} {i : Nat} {c s h x y z : Int} : ∀ {n : Nat}, hsB zs ys i c s h x y z n = true → ∀ {m : Nat}, m ≤ n → hsB zs ys i c s h x y z m = true
  | 0, _, m, hm => by obtain rfl : m = 0 := by omega
                      rfl
  | n + 1, g, m, hm => by
    rcases Nat.lt_or_ge m (n + 1) with l | l
    · unfold hsB at g
      rw [Bool.and_eq_true] at g
      exact hsB_less g.1 (by omega)
    · obtain rfl : m = n + 1 := by omega
      exact g
theorem hsN_f {zs ys : List Int} {i : Nat} {c s h x y z : Int} {k n : Nat} (hk : (evJ zs ys i c s h k == evJ zs ys i x y z k) = false) (hn : k < n) : hsB zs ys i c s h x y z n = false := by
  cases e : hsB zs ys i c s h x y z n
  · rfl
  · have := hsB_less e (show k + 1 ≤ n by omega)
    unfold hsB at this
    rw [hk] at this
    simp at this

set_option maxRecDepth 100000 in
set_option maxHeartbeats 8000000 in
theorem eqf_any (w w1 w2 : World) (a b : Option Addr) (ca cb : Nat) (zs ys : List Int) (i N gd cd ge ce : Nat) (c s h x y z : Int) (hN : N ≤ 100) (hd : RowG w1 81 5 gd cd N (rowL (stpC a b ca cb zs ys i c s h) N) w) (he : RowG w2 81 5 ge ce N (rowL (stpC a b ca cb zs ys i x y z) N) w) :
    Calls Tryz.prog 50 #[.slice (some ⟨gd, 0, none⟩) N cd, .slice (some ⟨ge, 0, none⟩) N ce, .func (.func 51) #[] #[]] w fun e w' => e = .returned (.bool (hsB zs ys i c s h x y z N)) ∧ Below w.heap.size w w' := by
  have HD := Lib.hid hd
  have HE := Lib.hid he
  clear hd he
  go_enter Tryz.func50, Tryz.ntmps50
  go_wp2_with fail
  go_loopw [17] (fun v wr => ∃ k : Nat, v = .int .i64 (k : Int) ∧ k ≤ N ∧ hsB zs ys i c s h x y z k = true ∧ Below w.heap.size w wr) (fun v _ => N - (intOf v).toNat)
  case atStart => exact ⟨0, rfl, by omega, rfl, Below.refl _ _⟩
  case round =>
    obtain ⟨k, rfl, hk, hh, hb⟩ := hrel
    have HH := Lib.hid hh
    have HB := Lib.hid hb
    have HDk := Lib.hid (HD.out.on hb)
    have HEk := Lib.hid (HE.out.on hb)
    clear hh hb
    by_cases hkN : k < N
    case neg =>
      obtain rfl : k = N := by omega
      have hkk : ¬ (k : Int) < (k : Int) := by omega
      go_wp2
      go_ret
      exact ⟨ret_bool HH.out.symm, HB.out⟩
    case pos =>
      have ik : (k : Int) < (N : Int) := by omega
      have ik0 : (0 : Int) ≤ (k : Int) := by omega
      obtain ⟨⟨pk, pd, pl, ph⟩, hNp⟩ : ∃ u, runS zs ys i c h (fst0 i s) (k + 1) = u := ⟨_, rfl⟩
      obtain ⟨pt, pv, hEp⟩ := evW_iface a b ca cb zs ys i c s h (runS zs ys i c h (fst0 i s) k).k (runS zs ys i c h (fst0 i s) k).dn
      have e5p : stpC a b ca cb zs ys i c s h k = [.iface pt pv, .int .i64 (pk : Int), .bool pd, .int .i64 pl, .int .i64 ph] := by unfold stpC; rw [hNp, hEp]
      have p_0 := HDk.out.cell (stpC_len _ _ _ _ _ _ _ _ _ _) hkN (show 0 < 5 by omega) (show (stpC a b ca cb zs ys i c s h k)[0]? = some _ from by rw [e5p]; rfl)
      have p_1 := HDk.out.cell (stpC_len _ _ _ _ _ _ _ _ _ _) hkN (show 1 < 5 by omega) (show (stpC a b ca cb zs ys i c s h k)[1]? = some _ from by rw [e5p]; rfl)
      have p_2 := HDk.out.cell (stpC_len _ _ _ _ _ _ _ _ _ _) hkN (show 2 < 5 by omega) (show (stpC a b ca cb zs ys i c s h k)[2]? = some _ from by rw [e5p]; rfl)
      have p_3 := HDk.out.cell (stpC_len _ _ _ _ _ _ _ _ _ _) hkN (show 3 < 5 by omega) (show (stpC a b ca cb zs ys i c s h k)[3]? = some _ from by rw [e5p]; rfl)
      have p_4 := HDk.out.cell (stpC_len _ _ _ _ _ _ _ _ _ _) hkN (show 4 < 5 by omega) (show (stpC a b ca cb zs ys i c s h k)[4]? = some _ from by rw [e5p]; rfl)
      rw [Nat.add_zero] at p_0
      have p_l := HDk.out.up
      obtain ⟨⟨qk, qd, ql, qh⟩, hNq⟩ : ∃ u, runS zs ys i x z (fst0 i y) (k + 1) = u := ⟨_, rfl⟩
      obtain ⟨qt, qv, hEq⟩ := evW_iface a b ca cb zs ys i x y z (runS zs ys i x z (fst0 i y) k).k (runS zs ys i x z (fst0 i y) k).dn
      have e5q : stpC a b ca cb zs ys i x y z k = [.iface qt qv, .int .i64 (qk : Int), .bool qd, .int .i64 ql, .int .i64 qh] := by unfold stpC; rw [hNq, hEq]
      have q_0 := HEk.out.cell (stpC_len _ _ _ _ _ _ _ _ _ _) hkN (show 0 < 5 by omega) (show (stpC a b ca cb zs ys i x y z k)[0]? = some _ from by rw [e5q]; rfl)
      have q_1 := HEk.out.cell (stpC_len _ _ _ _ _ _ _ _ _ _) hkN (show 1 < 5 by omega) (show (stpC a b ca cb zs ys i x y z k)[1]? = some _ from by rw [e5q]; rfl)
      have q_2 := HEk.out.cell (stpC_len _ _ _ _ _ _ _ _ _ _) hkN (show 2 < 5 by omega) (show (stpC a b ca cb zs ys i x y z k)[2]? = some _ from by rw [e5q]; rfl)
      have q_3 := HEk.out.cell (stpC_len _ _ _ _ _ _ _ _ _ _) hkN (show 3 < 5 by omega) (show (stpC a b ca cb zs ys i x y z k)[3]? = some _ from by rw [e5q]; rfl)
      have q_4 := HEk.out.cell (stpC_len _ _ _ _ _ _ _ _ _ _) hkN (show 4 < 5 by omega) (show (stpC a b ca cb zs ys i x y z k)[4]? = some _ from by rw [e5q]; rfl)
      rw [Nat.add_zero] at q_0
      have q_l := HEk.out.up
      have KH : Hid (∀ W : World, Calls Tryz.prog 51 #[.agg #[.iface pt pv, .int .i64 (pk : Int), .bool pd, .int .i64 pl, .int .i64 ph], .agg #[.iface qt qv, .int .i64 (qk : Int), .bool qd, .int .i64 ql, .int .i64 qh]] W fun e w' => e = .returned (.bool (evJ zs ys i c s h k == evJ zs ys i x y z k)) ∧ Below W.heap.size W w') := Lib.hid (fun W => by have := hoc_any W a b ca cb zs ys i (runS zs ys i c h (fst0 i s) k).k (runS zs ys i x z (fst0 i y) k).k c s h x y z (runS zs ys i c h (fst0 i s) k).dn (runS zs ys i x z (fst0 i y) k).dn (pk : Int) pl ph (qk : Int) ql qh pd qd; rw [hEp, hEq] at this; exact this)
      clear hEp hEq hNp hNq e5p e5q
      obtain ⟨g, hg⟩ : ∃ g, (evJ zs ys i c s h k == evJ zs ys i x y z k) = g := ⟨_, rfl⟩
      rw [hg] at KH
      have HGG := Lib.hid hg
      clear hg
      go_upto_region 6 with fail
      obtain ⟨W3, hW⟩ : ∃ W, W = wr.alloc (.cells #[.iface pt pv, .int .i64 (pk : Int), .bool pd, .int .i64 pl, .int .i64 ph] 81) := ⟨_, rfl⟩
      rw [← hW]
      have bX : Bk W3 wr.heap.size #[.iface pt pv, .int .i64 (pk : Int), .bool pd, .int .i64 pl, .int .i64 ph] 81 := by rw [hW]; exact Bk.new' rfl
      have hb : Below wr.heap.size wr W3 := by rw [hW]; exact (Below.refl _ _).alloc (Nat.le_refl _) _
      replace q_0 := kc1 q_0 hb
      replace q_1 := kc1 q_1 hb
      replace q_2 := kc1 q_2 hb
      replace q_3 := kc1 q_3 hb
      replace q_4 := kc1 q_4 hb
      have q_l2 : ge < W3.heap.size := Nat.lt_of_lt_of_le q_l hb.size
      have HB3 := Lib.hid (bel_end HB.out hb)
      clear hW hb p_0 p_1 p_2 p_3 p_4 p_l
      go_upto_region 7 with fail
      obtain ⟨W4, hW⟩ : ∃ W, W = W3.alloc (.cells #[.iface qt qv, .int .i64 (qk : Int), .bool qd, .int .i64 ql, .int .i64 qh] 81) := ⟨_, rfl⟩
      rw [← hW]
      have bY : Bk W4 W3.heap.size #[.iface qt qv, .int .i64 (qk : Int), .bool qd, .int .i64 ql, .int .i64 qh] 81 := by rw [hW]; exact Bk.new' rfl
      have hb : Below W3.heap.size W3 W4 := by rw [hW]; exact (Below.refl _ _).alloc (Nat.le_refl _) _
      replace bX := bX.on hb
      replace HB3 := Lib.hid (bel_end HB3.out hb)
      clear hW hb q_0 q_1 q_2 q_3 q_4 q_l q_l2
      have bX_0 := bX.cell 0 rfl
      have bX_1 := bX.cell 1 rfl
      have bX_2 := bX.cell 2 rfl
      have bX_3 := bX.cell 3 rfl
      have bX_4 := bX.cell 4 rfl
      have bX_l := bX.lt
      have bY_0 := bY.cell 0 rfl
      have bY_1 := bY.cell 1 rfl
      have bY_2 := bY.cell 2 rfl
      have bY_3 := bY.cell 3 rfl
      have bY_4 := bY.cell 4 rfl
      have bY_l := bY.lt
      go_wp2_with fail
      (with_reducible refine Calls.mono (KH.out _) ?_)
      rintro e w5 ⟨rfl, hb⟩
      replace HB3 := Lib.hid (bel_end HB3.out hb)
      clear hb KH
      clear bX_0 bX_1 bX_2 bX_3 bX_4 bX_l
      clear bY_0 bY_1 bY_2 bY_3 bY_4 bY_l
      clear bX bY
      cases g
      case false =>
        have HR : Hid (hsB zs ys i c s h x y z N = false) := Lib.hid (hsN_f HGG.out hkN)
        go_wp2
        go_ret
        exact ⟨ret_bool HR.out.symm, HB3.out⟩
      case true =>
        have HR : Hid (hsB zs ys i c s h x y z (k + 1) = true) := Lib.hid (by unfold hsB; rw [HH.out, HGG.out]; rfl)
        go_wp2
        go_roundw
        (case rel => exact ⟨k + 1, by go_num, by omega, HR.out, HB3.out⟩)
        (case measure => simp [intOf]; omega)

set_option maxRecDepth 100000 in
set_option maxHeartbeats 4000000 in
theorem hoh_any (w w1 w2 : World) (a b : Option Addr) (ca cb : Nat) (zs ys : List Int) (i N gd cd ge ce : Nat) (c s h x y z k1 l1 h1 k2 l2 h2 : Int) (d1 d2 : Bool) (hN : N ≤ 100) (hd : RowG w1 81 5 gd cd N (rowL (stpC a b ca cb zs ys i c s h) N) w) (he : RowG w2 81 5 ge ce N (rowL (stpC a b ca cb zs ys i x y z) N) w) :
    Calls Tryz.prog 24 #[.agg #[.slice (some ⟨gd, 0, none⟩) N cd, .int .i64 k1, .bool d1, .int .i64 l1, .int .i64 h1, .slice (some ⟨ge, 0, none⟩) N ce, .int .i64 k2, .bool d2, .int .i64 l2, .int .i64 h2]] w fun e w' => e = .returned (.bool (hsB zs ys i c s h x y z N)) ∧ Below w.heap.size w w' := by
  have HD := Lib.hid hd
  have HE := Lib.hid he
  have KQ : Hid (∀ W : World, Below w.heap.size w W → Calls Tryz.prog 50 #[.slice (some ⟨gd, 0, none⟩) N cd, .slice (some ⟨ge, 0, none⟩) N ce, .func (.func 51) #[] #[]] W fun e w' => e = .returned (.bool (hsB zs ys i c s h x y z N)) ∧ Below W.heap.size W w') := Lib.hid (fun W hb => eqf_any W w1 w2 a b ca cb zs ys i N gd cd ge ce c s h x y z hN (HD.out.on hb) (HE.out.on hb))
  clear hd he
  go_enter Tryz.func24, Tryz.ntmps24
  go_upto_region 1 with fail
  generalize hW : World.alloc _ _ = W
  have bX : Bk W (w.heap.size) #[.slice (some ⟨gd, 0, none⟩) N cd, .int .i64 k1, .bool d1, .int .i64 l1, .int .i64 h1, .slice (some ⟨ge, 0, none⟩) N ce, .int .i64 k2, .bool d2, .int .i64 l2, .int .i64 h2] 57 := by rw [← hW]; repeat (first | (refine Bk.new' ?_; (simp; done)) | refine Bk.alloc ?_ _)
  have HB : Hid (Below w.heap.size w W) := Lib.hid (by rw [← hW]; exact (by repeat (first | exact Below.refl _ _ | (refine Below.alloc ?_ (by simp <;> omega) _) | (refine Below.setCell ?_ (by simp <;> omega) _) | (refine Below.drew ?_) | (refine bel_drewN ?_ _))))
  clear hW
  have bX_0 := bX.cell 0 rfl
  have bX_1 := bX.cell 1 rfl
  have bX_2 := bX.cell 2 rfl
  have bX_3 := bX.cell 3 rfl
  have bX_4 := bX.cell 4 rfl
  have bX_5 := bX.cell 5 rfl
  have bX_6 := bX.cell 6 rfl
  have bX_7 := bX.cell 7 rfl
  have bX_8 := bX.cell 8 rfl
  have bX_9 := bX.cell 9 rfl
  have bX_l := bX.lt
  go_wp2_with fail
  (with_reducible refine Calls.mono (KQ.out _ HB.out) ?_)
  rintro e w3 ⟨rfl, hb⟩
  replace HB := Lib.hid (bel_end HB.out hb)
  clear hb
  clear bX_0 bX_1 bX_2 bX_3 bX_4 bX_5 bX_6 bX_7 bX_8 bX_9 bX_l
  go_wp2
  go_ret
  exact ⟨rfl, HB.out⟩
end
section
/- The range of a cell of one history. -/
open Go.ChangeShapes Go.WideShapes Go.ChangeAt Go.RowKit Go.Shelf Num
set_option linter.unusedVariables false
set_option linter.unusedSimpArgs false

/-- the sums of the least and of the greatest that the events of two rays add -/
def enS (zs ys : List Int) (i : Nat) (c s h x y z : Int) : Nat → Int × Int
  | 0 => (0, 0)
  | n + 1 => ((enS zs ys i c s h x y z n).1 + mnI (adLo zs ys i c h (runS zs ys i c h (fst0 i s) n).k (runS zs ys i c h (fst0 i s) n).dn) (adLo zs ys i x z (runS zs ys i x z (fst0 i y) n).k (runS zs ys i x z (fst0 i y) n).dn),
      (enS zs ys i c s h x y z n).2 + mxI (adHi zs ys i c h (runS zs ys i c h (fst0 i s) n).k (runS zs ys i c h (fst0 i s) n).dn) (adHi zs ys i x z (runS zs ys i x z (fst0 i y) n).k (runS zs ys i x z (fst0 i y) n).dn))
theorem enS_in {zs ys : List Int} {i : Nat} {c s h x y z : Int} (r : RyOk zs ys i c s h) (q : RyOk zs ys i x y z) {N : Nat} (e1 : okN zs ys i c h (fst0 i s) N = true) (e2 : okN zs ys i x z (fst0 i y) N = true) : ∀ n : Nat, n ≤ N →
    0 ≤ (enS zs ys i c s h x y z n).1 ∧ (enS zs ys i c s h x y z n).1 ≤ (enS zs ys i c s h x y z n).2 ∧ (enS zs ys i c s h x y z n).2 ≤ 4000002000000000 * n
  | 0, _ => ⟨Int.le_refl _, Int.le_refl _, by show (0 : Int) ≤ _; omega⟩
  | n + 1, hn => by
    obtain ⟨h1, h2, h3⟩ := enS_in r q e1 e2 n (by omega)
    have a1 := SOk.ad r (SOk.run r (SOk.first r) (okN_less e1 (show n ≤ N by omega)))
    have a2 := SOk.ad q (SOk.run q (SOk.first q) (okN_less e2 (show n ≤ N by omega)))
    unfold enS
    dsimp only
    unfold mnI mxI
    split <;> split <;> (refine ⟨?_, ?_, ?_⟩ <;> omega)
/-- the range of the cell -/
def enT (zs ys : List Int) (i : Nat) (c s h x y z : Int) (N : Nat) : Int × Int × Int := lim (enS zs ys i c s h x y z N).1 (enS zs ys i c s h x y z N).2

set_option maxRecDepth 100000 in
set_option maxHeartbeats 8000000 in
theorem ecl_any (w w1 w2 : World) (a b : Option Addr) (ca cb : Nat) (zs ys : List Int) (i N gd cd ge ce : Nat) (c s h x y z k1 l1 h1 k2 l2 h2 : Int) (d1 d2 : Bool) (hN : N ≤ 100) (hp : Prof w w.heap.size a b zs ys) (r : RyOk zs ys i c s h) (q : RyOk zs ys i x y z) (e1 : okN zs ys i c h (fst0 i s) N = true) (e2 : okN zs ys i x z (fst0 i y) N = true) (hd : RowG w1 81 5 gd cd N (rowL (stpC a b ca cb zs ys i c s h) N) w) (he : RowG w2 81 5 ge ce N (rowL (stpC a b ca cb zs ys i x y z) N) w) :
    Calls Tryz.prog 25 #[.agg #[.slice (some ⟨gd, 0, none⟩) N cd, .int .i64 k1, .bool d1, .int .i64 l1, .int .i64 h1, .slice (some ⟨ge, 0, none⟩) N ce, .int .i64 k2, .bool d2, .int .i64 l2, .int .i64 h2]] w fun e w' => e = .returned (.tuple #[.agg #[.int .i64 (enT zs ys i c s h x y z N).1, .int .i64 (enT zs ys i c s h x y z N).2.1], .int .i64 (enT zs ys i c s h x y z N).2.2]) ∧ Below w.heap.size w w' := by
  have HD := Lib.hid hd
  have HE := Lib.hid he
  have HP := Lib.hid hp
  have HIN : Hid (∀ n, n ≤ N → 0 ≤ (enS zs ys i c s h x y z n).1 ∧ (enS zs ys i c s h x y z n).1 ≤ (enS zs ys i c s h x y z n).2 ∧ (enS zs ys i c s h x y z n).2 ≤ 4000002000000000 * n) := Lib.hid (fun n hn => enS_in r q e1 e2 n hn)
  have KA : Hid (∀ (W : World) (k : Nat), k < N → Below w.heap.size w W → Calls Tryz.prog 53 #[evW a b ca cb zs ys i c s h (runS zs ys i c h (fst0 i s) k).k (runS zs ys i c h (fst0 i s) k).dn] W fun e w' => e = .returned (.agg #[.int .i64 (adLo zs ys i c h (runS zs ys i c h (fst0 i s) k).k (runS zs ys i c h (fst0 i s) k).dn), .int .i64 (adHi zs ys i c h (runS zs ys i c h (fst0 i s) k).k (runS zs ys i c h (fst0 i s) k).dn)]) ∧ Below W.heap.size W w') := Lib.hid (fun W k hk hb => ady_any W a b ca cb zs ys i (runS zs ys i c h (fst0 i s) k).k c s h (runS zs ys i c h (fst0 i s) k).lo (runS zs ys i c h (fst0 i s) k).hi (runS zs ys i c h (fst0 i s) k).dn (HP.out.on hb) r (SOk.run r (SOk.first r) (okN_less e1 (by omega))))
  have KE : Hid (∀ (W : World) (k : Nat), k < N → Below w.heap.size w W → Calls Tryz.prog 53 #[evW a b ca cb zs ys i x y z (runS zs ys i x z (fst0 i y) k).k (runS zs ys i x z (fst0 i y) k).dn] W fun e w' => e = .returned (.agg #[.int .i64 (adLo zs ys i x z (runS zs ys i x z (fst0 i y) k).k (runS zs ys i x z (fst0 i y) k).dn), .int .i64 (adHi zs ys i x z (runS zs ys i x z (fst0 i y) k).k (runS zs ys i x z (fst0 i y) k).dn)]) ∧ Below W.heap.size W w') := Lib.hid (fun W k hk hb => ady_any W a b ca cb zs ys i (runS zs ys i x z (fst0 i y) k).k x y z (runS zs ys i x z (fst0 i y) k).lo (runS zs ys i x z (fst0 i y) k).hi (runS zs ys i x z (fst0 i y) k).dn (HP.out.on hb) q (SOk.run q (SOk.first q) (okN_less e2 (by omega))))
  clear hd he hp r q e1 e2
  go_enter Tryz.func25, Tryz.ntmps25
  go_upto_region 1 with fail
  generalize hW : World.alloc _ _ = W
  have bX : Bk W (w.heap.size) #[.slice (some ⟨gd, 0, none⟩) N cd, .int .i64 k1, .bool d1, .int .i64 l1, .int .i64 h1, .slice (some ⟨ge, 0, none⟩) N ce, .int .i64 k2, .bool d2, .int .i64 l2, .int .i64 h2] 57 := by rw [← hW]; repeat (first | (refine Bk.new' ?_; (simp; done)) | refine Bk.alloc ?_ _)
  have bR : Bk W (w.heap.size + 1) #[.int .i64 0, .int .i64 0] 34 := by rw [← hW]; repeat (first | (refine Bk.new' ?_; (simp; done)) | refine Bk.alloc ?_ _)
  have HB : Hid (Below w.heap.size w W) := Lib.hid (by rw [← hW]; exact (by repeat (first | exact Below.refl _ _ | (refine Below.alloc ?_ (by simp <;> omega) _) | (refine Below.setCell ?_ (by simp <;> omega) _) | (refine Below.drew ?_) | (refine bel_drewN ?_ _))))
  clear hW
  go_upto_region 2 with fail
  obtain ⟨W2, hW⟩ : ∃ X, X = W.alloc (.cells #[.int .i64 0, .int .i64 0] 34) := ⟨_, rfl⟩
  rw [← hW]
  obtain ⟨gS, hg⟩ : ∃ g, g = W.heap.size := ⟨_, rfl⟩
  have bS : Bk W2 gS #[.int .i64 0, .int .i64 0] 34 := by rw [hW]; exact Bk.new' hg
  have hb : Below W.heap.size W W2 := by rw [hW]; exact (Below.refl _ _).alloc (Nat.le_refl _) _
  try rw [← hg]
  have leS : w.heap.size ≤ gS := by have := HB.out.size; omega
  have lX := bX.lt
  have lR := bR.lt
  have neX : ¬ gS = w.heap.size := by omega
  have neR : ¬ gS = w.heap.size + 1 := by omega
  replace bX := bX.on hb
  replace bR := bR.on hb
  replace HB := Lib.hid (bel_end HB.out hb)
  clear hW hb hg lX lR
  have bX_0 := bX.cell 0 rfl
  have bX_1 := bX.cell 1 rfl
  have bX_2 := bX.cell 2 rfl
  have bX_3 := bX.cell 3 rfl
  have bX_4 := bX.cell 4 rfl
  have bX_5 := bX.cell 5 rfl
  have bX_6 := bX.cell 6 rfl
  have bX_7 := bX.cell 7 rfl
  have bX_8 := bX.cell 8 rfl
  have bX_9 := bX.cell 9 rfl
  have bX_l := bX.lt
  have HX := Lib.hid bX
  have HR := Lib.hid bR
  have HS := Lib.hid bS
  clear bX bR bS
  go_wp2_with fail
  clear bX_0 bX_1 bX_2 bX_3 bX_4 bX_5 bX_6 bX_7 bX_8 bX_9 bX_l
  go_loopw [12] (fun v wr => ∃ k : Nat, v = .int .i64 (k : Int) ∧ k ≤ N ∧ Below w.heap.size w wr ∧ Bk wr (w.heap.size) #[.slice (some ⟨gd, 0, none⟩) N cd, .int .i64 k1, .bool d1, .int .i64 l1, .int .i64 h1, .slice (some ⟨ge, 0, none⟩) N ce, .int .i64 k2, .bool d2, .int .i64 l2, .int .i64 h2] 57 ∧ Bk wr (w.heap.size + 1) #[.int .i64 0, .int .i64 0] 34 ∧ Bk wr gS #[.int .i64 (enS zs ys i c s h x y z k).1, .int .i64 (enS zs ys i c s h x y z k).2] 34) (fun v _ => N - (intOf v).toNat)
  case atStart => exact ⟨0, rfl, by omega, HB.out, HX.out, HR.out, HS.out⟩
  case round =>
    obtain ⟨k, rfl, hk, hb, bX, bR, bS⟩ := hrel
    have HB2 := Lib.hid hb
    have HDk := Lib.hid (HD.out.on hb)
    have HEk := Lib.hid (HE.out.on hb)
    clear HX HR HS HB hb
    by_cases hkN : k < N
    case neg =>
      obtain rfl : k = N := by omega
      have hkk : ¬ (k : Int) < (k : Int) := by omega
      have HI := HIN.out k (Nat.le_refl _)
      have HL : Hid (enT zs ys i c s h x y z k = lim (enS zs ys i c s h x y z k).1 (enS zs ys i c s h x y z k).2) := Lib.hid rfl
      obtain ⟨⟨A, B⟩, hAB⟩ : ∃ u, enS zs ys i c s h x y z k = u := ⟨_, rfl⟩
      rw [hAB] at bS HI HL
      dsimp only at bS HI HL
      have KW : Hid (∀ W : World, Calls Tryz.prog 55 #[.agg #[.int .i64 A, .int .i64 B]] W fun e w' => e = .returned (.tuple #[.agg #[.int .i64 (lim A B).1, .int .i64 (lim A B).2.1], .int .i64 (lim A B).2.2]) ∧ Below W.heap.size W w') := Lib.hid (fun W => wlm_any A B HI.2.1 W)
      obtain ⟨⟨P, Q, R⟩, hPQ⟩ : ∃ u, lim A B = u := ⟨_, rfl⟩
      rw [hPQ] at KW HL
      dsimp only at KW
      clear hAB hPQ HI
      have bS_0 := bS.cell 0 rfl
      have bS_1 := bS.cell 1 rfl
      have bS_l := bS.lt
      go_wp2_with fail
      (with_reducible refine Calls.mono (KW.out _) ?_)
      rintro e w3 ⟨rfl, hb⟩
      replace bR := bR.on hb
      replace HB2 := Lib.hid (bel_end HB2.out hb)
      clear hb
      clear bS_0 bS_1 bS_l
      clear bS
      have bR_0 := bR.cell 0 rfl
      have bR_1 := bR.cell 1 rfl
      have bR_f0 := bR.frozen 0
      have bR_f1 := bR.frozen 1
      have bR_l := bR.lt
      go_wp2
      exact bodyPost_ret (v := .tuple #[.agg #[.int .i64 P, .int .i64 Q], .int .i64 R]) (by simp [results, Tryz.results25, go_sem, bR_0, bR_1]) rfl ⟨by rw [HL.out], ((HB2.out.setCell (p := ⟨w.heap.size + 1, 0, none⟩) (by dsimp only; omega) _).setCell (p := ⟨w.heap.size + 1, 1, none⟩) (by dsimp only; omega) _)⟩
    case pos =>
      have ik : (k : Int) < (N : Int) := by omega
      have ik0 : (0 : Int) ≤ (k : Int) := by omega
      have HI := HIN.out (k + 1) (by omega)
      have HSS : Hid (enS zs ys i c s h x y z (k + 1) = ((enS zs ys i c s h x y z k).1 + mnI (adLo zs ys i c h (runS zs ys i c h (fst0 i s) k).k (runS zs ys i c h (fst0 i s) k).dn) (adLo zs ys i x z (runS zs ys i x z (fst0 i y) k).k (runS zs ys i x z (fst0 i y) k).dn), (enS zs ys i c s h x y z k).2 + mxI (adHi zs ys i c h (runS zs ys i c h (fst0 i s) k).k (runS zs ys i c h (fst0 i s) k).dn) (adHi zs ys i x z (runS zs ys i x z (fst0 i y) k).k (runS zs ys i x z (fst0 i y) k).dn))) := Lib.hid rfl
      have KAk : Hid (∀ W : World, Below w.heap.size w W → _) := Lib.hid (fun W hb => KA.out W k hkN hb)
      have KEk : Hid (∀ W : World, Below w.heap.size w W → _) := Lib.hid (fun W hb => KE.out W k hkN hb)
      obtain ⟨pt, pv, hEp⟩ := evW_iface a b ca cb zs ys i c s h (runS zs ys i c h (fst0 i s) k).k (runS zs ys i c h (fst0 i s) k).dn
      obtain ⟨qt, qv, hEq⟩ := evW_iface a b ca cb zs ys i x y z (runS zs ys i x z (fst0 i y) k).k (runS zs ys i x z (fst0 i y) k).dn
      obtain ⟨⟨pk, pd, pl, ph⟩, hNp⟩ : ∃ u, runS zs ys i c h (fst0 i s) (k + 1) = u := ⟨_, rfl⟩
      have e5p : stpC a b ca cb zs ys i c s h k = [.iface pt pv, .int .i64 (pk : Int), .bool pd, .int .i64 pl, .int .i64 ph] := by unfold stpC; rw [hNp, hEp]
      have p_0 := HDk.out.cell (stpC_len _ _ _ _ _ _ _ _ _ _) hkN (show 0 < 5 by omega) (show (stpC a b ca cb zs ys i c s h k)[0]? = some _ from by rw [e5p]; rfl)
      have p_1 := HDk.out.cell (stpC_len _ _ _ _ _ _ _ _ _ _) hkN (show 1 < 5 by omega) (show (stpC a b ca cb zs ys i c s h k)[1]? = some _ from by rw [e5p]; rfl)
      have p_2 := HDk.out.cell (stpC_len _ _ _ _ _ _ _ _ _ _) hkN (show 2 < 5 by omega) (show (stpC a b ca cb zs ys i c s h k)[2]? = some _ from by rw [e5p]; rfl)
      have p_3 := HDk.out.cell (stpC_len _ _ _ _ _ _ _ _ _ _) hkN (show 3 < 5 by omega) (show (stpC a b ca cb zs ys i c s h k)[3]? = some _ from by rw [e5p]; rfl)
      have p_4 := HDk.out.cell (stpC_len _ _ _ _ _ _ _ _ _ _) hkN (show 4 < 5 by omega) (show (stpC a b ca cb zs ys i c s h k)[4]? = some _ from by rw [e5p]; rfl)
      rw [Nat.add_zero] at p_0
      have p_l := HDk.out.up
      obtain ⟨⟨qk, qd, ql, qh⟩, hNq⟩ : ∃ u, runS zs ys i x z (fst0 i y) (k + 1) = u := ⟨_, rfl⟩
      have e5q : stpC a b ca cb zs ys i x y z k = [.iface qt qv, .int .i64 (qk : Int), .bool qd, .int .i64 ql, .int .i64 qh] := by unfold stpC; rw [hNq, hEq]
      have q_0 := HEk.out.cell (stpC_len _ _ _ _ _ _ _ _ _ _) hkN (show 0 < 5 by omega) (show (stpC a b ca cb zs ys i x y z k)[0]? = some _ from by rw [e5q]; rfl)
      rw [Nat.add_zero] at q_0
      have q_l := HEk.out.up
      rw [hEp] at KAk
      rw [hEq] at KEk
      have HQ0 : Hid (∀ W : World, RowG w2 81 5 ge ce N (rowL (stpC a b ca cb zs ys i x y z) N) W → W.cell? ⟨ge, k * 5, none⟩ = some (.iface qt qv)) := Lib.hid (fun W hr => by have u := hr.cell (stpC_len _ _ _ _ _ _ _ _ _ _) hkN (show 0 < 5 by omega) (show (stpC a b ca cb zs ys i x y z k)[0]? = some _ from by rw [e5q]; rfl); rwa [Nat.add_zero] at u)
      obtain ⟨A1, hA1⟩ : ∃ u, adLo zs ys i c h (runS zs ys i c h (fst0 i s) k).k (runS zs ys i c h (fst0 i s) k).dn = u := ⟨_, rfl⟩
      rw [hA1] at HSS KAk
      clear hA1
      obtain ⟨B1, hB1⟩ : ∃ u, adHi zs ys i c h (runS zs ys i c h (fst0 i s) k).k (runS zs ys i c h (fst0 i s) k).dn = u := ⟨_, rfl⟩
      rw [hB1] at HSS KAk
      clear hB1
      obtain ⟨A2, hA2⟩ : ∃ u, adLo zs ys i x z (runS zs ys i x z (fst0 i y) k).k (runS zs ys i x z (fst0 i y) k).dn = u := ⟨_, rfl⟩
      rw [hA2] at HSS KEk
      clear hA2
      obtain ⟨B2, hB2⟩ : ∃ u, adHi zs ys i x z (runS zs ys i x z (fst0 i y) k).k (runS zs ys i x z (fst0 i y) k).dn = u := ⟨_, rfl⟩
      rw [hB2] at HSS KEk
      clear hB2
      obtain ⟨⟨A, B⟩, hAB⟩ : ∃ u, enS zs ys i c s h x y z k = u := ⟨_, rfl⟩
      rw [hAB] at bS HSS
      dsimp only at bS HSS
      clear hAB
      rw [HSS.out] at HI
      dsimp only at HI
      obtain ⟨U, hU⟩ : ∃ u, mnI A1 A2 = u := ⟨_, rfl⟩
      obtain ⟨V_, hV_⟩ : ∃ u, mxI B1 B2 = u := ⟨_, rfl⟩
      rw [hU, hV_] at HI HSS
      have KJ : Hid (∀ W : World, Calls Tryz.prog 54 #[.agg #[.int .i64 A1, .int .i64 B1], .agg #[.int .i64 A2, .int .i64 B2]] W fun e w' => e = .returned (.agg #[.int .i64 U, .int .i64 V_]) ∧ Below W.heap.size W w') := Lib.hid (fun W => by have u := jwi_any A1 B1 A2 B2 W; rwa [hU, hV_] at u)
      have KP : Hid (∀ W : World, Calls Tryz.prog 52 #[.agg #[.int .i64 A, .int .i64 B], .agg #[.int .i64 U, .int .i64 V_]] W fun e w' => e = .returned (.agg #[.int .i64 (A + U), .int .i64 (B + V_)]) ∧ Below W.heap.size W w') := Lib.hid (fun W => pls_any A B U V_ (by omega) (by omega) (by omega) (by omega) W)
      clear hU hV_ HI hEp hEq hNp hNq e5p e5q
      have lS := bS.lt
      go_upto_region 5 with fail
      obtain ⟨W3, hW⟩ : ∃ W, W = wr.alloc (.cells #[.iface pt pv, .int .i64 (pk : Int), .bool pd, .int .i64 pl, .int .i64 ph] 81) := ⟨_, rfl⟩
      rw [← hW]
      obtain ⟨gT, hgT⟩ : ∃ g, g = wr.heap.size := ⟨_, rfl⟩
      have bT : Bk W3 gT #[.iface pt pv, .int .i64 (pk : Int), .bool pd, .int .i64 pl, .int .i64 ph] 81 := by rw [hW]; exact Bk.new' hgT
      have hb : Below wr.heap.size wr W3 := by rw [hW]; exact (Below.refl _ _).alloc (Nat.le_refl _) _
      try rw [← hgT]
      have leT : w.heap.size ≤ gT := by have := HB2.out.size; omega
      have neST : ¬ gS = gT := by omega
      have neTS : ¬ gT = gS := by omega
      have lX := bX.lt
      have lR := bR.lt
      have neXT : ¬ w.heap.size = gT := by omega
      have neRT : ¬ w.heap.size + 1 = gT := by omega
      replace bX := bX.on hb
      replace bR := bR.on hb
      replace bS := bS.on hb
      clear HEk
      replace HB2 := Lib.hid (bel_end HB2.out hb)
      clear hW hb hgT lS lX lR p_0 p_1 p_2 p_3 p_4 p_l q_0
      obtain ⟨S, hSd⟩ : ∃ S : World → Prop, ∀ w', S w' ↔ (w'.cell? ⟨gT, 0, none⟩ = some (.iface pt pv) ∧ w'.cell? ⟨w.heap.size, 5, none⟩ = some (.slice (some ⟨ge, 0, none⟩) N ce) ∧ w'.cell? ⟨ge, k * 5, none⟩ = some (.iface qt qv)) := ⟨_, fun _ => Iff.rfl⟩
      have HSp : Hid (∀ w' : World, Bk w' (gT) #[.iface pt pv, .int .i64 (pk : Int), .bool pd, .int .i64 pl, .int .i64 ph] 81 → Bk w' (w.heap.size) #[.slice (some ⟨gd, 0, none⟩) N cd, .int .i64 k1, .bool d1, .int .i64 l1, .int .i64 h1, .slice (some ⟨ge, 0, none⟩) N ce, .int .i64 k2, .bool d2, .int .i64 l2, .int .i64 h2] 57 → w'.cell? ⟨ge, k * 5, none⟩ = some (.iface qt qv) → S w') := Lib.hid (fun w' bT bX y0 => (hSd w').2 ⟨bT.cell 0 rfl, bX.cell 5 rfl, y0⟩)
      have HSd := Lib.hid hSd
      clear hSd
      refine wp_region_held_drew (S := S) (by kernel_rfl) ?_ (fun hH => ?_)
      · exact (HSp.out _ bT bX (by first | exact HQ0.out _ (HE.out.on HB2.out) | exact HQ0.out _ (HE.out.on HB2.out.drew)) : S (World.drew W3))
      clear hH
      generalize hX : World.drew W3 = V0
      replace bS : Bk V0 (gS) #[.int .i64 A, .int .i64 B] 34 := by rw [← hX]; exact bS
      replace bT : Bk V0 (gT) #[.iface pt pv, .int .i64 (pk : Int), .bool pd, .int .i64 pl, .int .i64 ph] 81 := by rw [← hX]; exact bT
      replace bX : Bk V0 (w.heap.size) #[.slice (some ⟨gd, 0, none⟩) N cd, .int .i64 k1, .bool d1, .int .i64 l1, .int .i64 h1, .slice (some ⟨ge, 0, none⟩) N ce, .int .i64 k2, .bool d2, .int .i64 l2, .int .i64 h2] 57 := by rw [← hX]; exact bX
      replace bR : Bk V0 (w.heap.size + 1) #[.int .i64 0, .int .i64 0] 34 := by rw [← hX]; exact bR
      have hb : Below W3.heap.size W3 V0 := by rw [← hX]; exact (Below.refl _ _).drew
      clear hX
      replace HB2 := Lib.hid (bel_end HB2.out hb)
      clear hb
      have hS := HSp.out _ bT bX (by first | exact HQ0.out _ (HE.out.on HB2.out) | exact HQ0.out _ (HE.out.on HB2.out.drew))
      refine wpAnyH_take (i := 1) (oi := { dst := some 18, op := Go.Op.fieldAddr 81 (Go.Operand.tmp 6) 0, type := 0, pos := "l08_sectors.go:314", after := #[], guard := none }) (v := ?_) rfl (by kernel_rfl) (by kernel_rfl) (by kernel_rfl) (fun _ _ _ h => h) (Or.inl ⟨by rfl, ?_⟩) hS ?_
      rotate_left
      · (intro w hSw; have hSw := (HSd.out w).1 hSw; go_split_ands; go_simp) <;> with_reducible rfl
      clear hS
      try simp only [Act.put, List.setIfInBounds_toArray, List.set_cons_zero, List.set_cons_succ]
      have hS := HSp.out _ bT bX (by first | exact HQ0.out _ (HE.out.on HB2.out) | exact HQ0.out _ (HE.out.on HB2.out.drew))
      refine wpAnyH_take (i := 2) (oi := { dst := some 19, op := Go.Op.load 79 (Go.Operand.tmp 18), type := 79, pos := "l08_sectors.go:314", after := #[{ on := 1, ground := Go.Ground.data }], guard := none }) (v := ?_) rfl (by kernel_rfl) (by kernel_rfl) (by kernel_rfl) (fun _ _ _ h => h) (Or.inl ⟨by rfl, ?_⟩) hS ?_
      rotate_left
      · (intro w hSw; have hSw := (HSd.out w).1 hSw; go_split_ands; go_simp) <;> with_reducible rfl
      clear hS
      try simp only [Act.put, List.setIfInBounds_toArray, List.set_cons_zero, List.set_cons_succ]
      have hS := HSp.out _ bT bX (by first | exact HQ0.out _ (HE.out.on HB2.out) | exact HQ0.out _ (HE.out.on HB2.out.drew))
      refine wpAnyH_take (i := 4) (oi := { dst := some 21, op := Go.Op.fieldAddr 57 (Go.Operand.tmp 1) 1, type := 0, pos := "l08_sectors.go:314", after := #[], guard := none }) (v := ?_) rfl (by kernel_rfl) (by kernel_rfl) (by kernel_rfl) (fun _ _ _ h => h) (Or.inl ⟨by rfl, ?_⟩) hS ?_
      rotate_left
      · (intro w hSw; have hSw := (HSd.out w).1 hSw; go_split_ands; go_simp) <;> with_reducible rfl
      clear hS
      try simp only [Act.put, List.setIfInBounds_toArray, List.set_cons_zero, List.set_cons_succ]
      have hS := HSp.out _ bT bX (by first | exact HQ0.out _ (HE.out.on HB2.out) | exact HQ0.out _ (HE.out.on HB2.out.drew))
      refine wpAnyH_take (i := 5) (oi := { dst := some 22, op := Go.Op.fieldAddr 55 (Go.Operand.tmp 21) 0, type := 0, pos := "l08_sectors.go:314", after := #[{ on := 4, ground := Go.Ground.data }], guard := none }) (v := ?_) rfl (by kernel_rfl) (by kernel_rfl) (by kernel_rfl) (fun _ _ _ h => h) (Or.inl ⟨by rfl, ?_⟩) hS ?_
      rotate_left
      · (intro w hSw; have hSw := (HSd.out w).1 hSw; go_split_ands; go_simp) <;> with_reducible rfl
      clear hS
      try simp only [Act.put, List.setIfInBounds_toArray, List.set_cons_zero, List.set_cons_succ]
      have hS := HSp.out _ bT bX (by first | exact HQ0.out _ (HE.out.on HB2.out) | exact HQ0.out _ (HE.out.on HB2.out.drew))
      refine wpAnyH_take (i := 6) (oi := { dst := some 23, op := Go.Op.load 53 (Go.Operand.tmp 22), type := 53, pos := "l08_sectors.go:314", after := #[{ on := 5, ground := Go.Ground.data }], guard := none }) (v := ?_) rfl (by kernel_rfl) (by kernel_rfl) (by kernel_rfl) (fun _ _ _ h => h) (Or.inl ⟨by rfl, ?_⟩) hS ?_
      rotate_left
      · (intro w hSw; have hSw := (HSd.out w).1 hSw; go_split_ands; go_simp) <;> with_reducible rfl
      clear hS
      try simp only [Act.put, List.setIfInBounds_toArray, List.set_cons_zero, List.set_cons_succ]
      have hS := HSp.out _ bT bX (by first | exact HQ0.out _ (HE.out.on HB2.out) | exact HQ0.out _ (HE.out.on HB2.out.drew))
      refine wpAnyH_take (i := 7) (oi := { dst := some 24, op := Go.Op.move (Go.Operand.tmp 5), type := 3, pos := "l08_sectors.go:314", after := #[], guard := none }) (v := ?_) rfl (by kernel_rfl) (by kernel_rfl) (by kernel_rfl) (fun _ _ _ h => h) (Or.inl ⟨by rfl, ?_⟩) hS ?_
      rotate_left
      · (intro w hSw; have hSw := (HSd.out w).1 hSw; go_split_ands; go_simp) <;> with_reducible rfl
      clear hS
      try simp only [Act.put, List.setIfInBounds_toArray, List.set_cons_zero, List.set_cons_succ]
      have hS := HSp.out _ bT bX (by first | exact HQ0.out _ (HE.out.on HB2.out) | exact HQ0.out _ (HE.out.on HB2.out.drew))
      refine wpAnyH_take (i := 8) (oi := { dst := some 25, op := Go.Op.indexAddr 53 (Go.Operand.tmp 23) (Go.Operand.tmp 24), type := 0, pos := "l08_sectors.go:314", after := #[{ on := 6, ground := Go.Ground.data }, { on := 7, ground := Go.Ground.data }], guard := none }) (v := ?_) rfl (by kernel_rfl) (by kernel_rfl) (by kernel_rfl) (fun _ _ _ h => h) (Or.inl ⟨by rfl, ?_⟩) hS ?_
      rotate_left
      · (intro w hSw; have hSw := (HSd.out w).1 hSw; go_split_ands; go_simp) <;> with_reducible rfl
      clear hS
      try simp only [Act.put, List.setIfInBounds_toArray, List.set_cons_zero, List.set_cons_succ]
      have hS := HSp.out _ bT bX (by first | exact HQ0.out _ (HE.out.on HB2.out) | exact HQ0.out _ (HE.out.on HB2.out.drew))
      refine wpAnyH_take (i := 9) (oi := { dst := some 26, op := Go.Op.fieldAddr 81 (Go.Operand.tmp 25) 0, type := 0, pos := "l08_sectors.go:314", after := #[{ on := 8, ground := Go.Ground.data }], guard := none }) (v := ?_) rfl (by kernel_rfl) (by kernel_rfl) (by kernel_rfl) (fun _ _ _ h => h) (Or.inl ⟨by rfl, ?_⟩) hS ?_
      rotate_left
      · (intro w hSw; have hSw := (HSd.out w).1 hSw; go_split_ands; go_simp) <;> with_reducible rfl
      clear hS
      try simp only [Act.put, List.setIfInBounds_toArray, List.set_cons_zero, List.set_cons_succ]
      have hS := HSp.out _ bT bX (by first | exact HQ0.out _ (HE.out.on HB2.out) | exact HQ0.out _ (HE.out.on HB2.out.drew))
      refine wpAnyH_take (i := 10) (oi := { dst := some 27, op := Go.Op.load 79 (Go.Operand.tmp 26), type := 79, pos := "l08_sectors.go:314", after := #[{ on := 9, ground := Go.Ground.data }], guard := none }) (v := ?_) rfl (by kernel_rfl) (by kernel_rfl) (by kernel_rfl) (fun _ _ _ h => h) (Or.inl ⟨by rfl, ?_⟩) hS ?_
      rotate_left
      · (intro w hSw; have hSw := (HSd.out w).1 hSw; go_split_ands; go_simp) <;> with_reducible rfl
      clear hS
      try simp only [Act.put, List.setIfInBounds_toArray, List.set_cons_zero, List.set_cons_succ]
      refine wpAnyH_ready (rs := [0, 3]) (by decide +kernel) (by simp) ?_
      refine AllReadyH.cons (o := { dst := some 17, op := Go.Op.load 34 (Go.Operand.tmp 4), type := 34, pos := "l08_sectors.go:314", after := #[], guard := none }) rfl (fun Kn hK => ?_) ?_
      have bS_0 := bS.cell 0 rfl
      have bS_1 := bS.cell 1 rfl
      go_simp
      clear bS_0 bS_1
      refine hK.out _ _ (HSp.out _ bT bX (by first | exact HQ0.out _ (HE.out.on HB2.out) | exact HQ0.out _ (HE.out.on HB2.out.drew))) (fun _ => ?_)
      clear hK Kn
      rotate_left
      refine AllReadyH.cons (o := { dst := some 20, op := Go.Op.call { callee := Go.Callee.value (Go.Operand.func 53), args := #[Go.Operand.tmp 19], argTypes := #[79] }, type := 34, pos := "l08_sectors.go:314", after := #[{ on := 2, ground := Go.Ground.data }], guard := none }) rfl (fun Kn hK => ?_) AllReadyH.nil
      first | go_at_call 53 | (go_simp; go_at_call 53)
      (with_reducible refine Calls.mono (KAk.out _ HB2.out) ?_)
      rintro e V1 ⟨rfl, hb⟩
      try dsimp only
      try simp only [Act.put, List.setIfInBounds_toArray, List.set_cons_zero, List.set_cons_succ]
      replace bS := bS.on hb
      replace bT := bT.on hb
      replace bX := bX.on hb
      replace bR := bR.on hb
      replace HB2 := Lib.hid (bel_end HB2.out hb)
      clear hb
      refine hK.out _ _ (HSp.out _ bT bX (by first | exact HQ0.out _ (HE.out.on HB2.out) | exact HQ0.out _ (HE.out.on HB2.out.drew))) (fun _ => ?_)
      clear hK Kn
      all_goals
        first
        | (refine wpAnyH_ready (rs := [3]) (by decide +kernel) (by simp) ?_
           refine AllReadyH.cons (o := { dst := some 20, op := Go.Op.call { callee := Go.Callee.value (Go.Operand.func 53), args := #[Go.Operand.tmp 19], argTypes := #[79] }, type := 34, pos := "l08_sectors.go:314", after := #[{ on := 2, ground := Go.Ground.data }], guard := none }) rfl (fun Kn hK => ?_) AllReadyH.nil
           first | go_at_call 53 | (go_simp; go_at_call 53)
           (with_reducible refine Calls.mono (KAk.out _ HB2.out) ?_)
           rintro e V1 ⟨rfl, hb⟩
           try dsimp only
           try simp only [Act.put, List.setIfInBounds_toArray, List.set_cons_zero, List.set_cons_succ]
           replace bS := bS.on hb
           replace bT := bT.on hb
           replace bX := bX.on hb
           replace bR := bR.on hb
           replace HB2 := Lib.hid (bel_end HB2.out hb)
           clear hb
           refine hK.out _ _ (HSp.out _ bT bX (by first | exact HQ0.out _ (HE.out.on HB2.out) | exact HQ0.out _ (HE.out.on HB2.out.drew))) (fun _ => ?_)
           clear hK Kn)
        | (refine wpAnyH_ready (rs := [0, 11]) (by decide +kernel) (by simp) ?_
           refine AllReadyH.cons (o := { dst := some 17, op := Go.Op.load 34 (Go.Operand.tmp 4), type := 34, pos := "l08_sectors.go:314", after := #[], guard := none }) rfl (fun Kn hK => ?_) ?_
           have bS_0 := bS.cell 0 rfl
           have bS_1 := bS.cell 1 rfl
           go_simp
           clear bS_0 bS_1
           refine hK.out _ _ (HSp.out _ bT bX (by first | exact HQ0.out _ (HE.out.on HB2.out) | exact HQ0.out _ (HE.out.on HB2.out.drew))) (fun _ => ?_)
           clear hK Kn
           rotate_left
           refine AllReadyH.cons (o := { dst := some 28, op := Go.Op.call { callee := Go.Callee.value (Go.Operand.func 53), args := #[Go.Operand.tmp 27], argTypes := #[79] }, type := 34, pos := "l08_sectors.go:314", after := #[{ on := 10, ground := Go.Ground.data }, { on := 3, ground := Go.Ground.chain }], guard := none }) rfl (fun Kn hK => ?_) AllReadyH.nil
           first | go_at_call 53 | (go_simp; go_at_call 53)
           (with_reducible refine Calls.mono (KEk.out _ HB2.out) ?_)
           rintro e V2 ⟨rfl, hb⟩
           try dsimp only
           try simp only [Act.put, List.setIfInBounds_toArray, List.set_cons_zero, List.set_cons_succ]
           replace bS := bS.on hb
           replace bT := bT.on hb
           replace bX := bX.on hb
           replace bR := bR.on hb
           replace HB2 := Lib.hid (bel_end HB2.out hb)
           clear hb
           refine hK.out _ _ (HSp.out _ bT bX (by first | exact HQ0.out _ (HE.out.on HB2.out) | exact HQ0.out _ (HE.out.on HB2.out.drew))) (fun _ => ?_)
           clear hK Kn)
      all_goals
        first
        | (refine wpAnyH_ready (rs := [11]) (by decide +kernel) (by simp) ?_
           refine AllReadyH.cons (o := { dst := some 28, op := Go.Op.call { callee := Go.Callee.value (Go.Operand.func 53), args := #[Go.Operand.tmp 27], argTypes := #[79] }, type := 34, pos := "l08_sectors.go:314", after := #[{ on := 10, ground := Go.Ground.data }, { on := 3, ground := Go.Ground.chain }], guard := none }) rfl (fun Kn hK => ?_) AllReadyH.nil
           first | go_at_call 53 | (go_simp; go_at_call 53)
           (with_reducible refine Calls.mono (KEk.out _ HB2.out) ?_)
           rintro e V2 ⟨rfl, hb⟩
           try dsimp only
           try simp only [Act.put, List.setIfInBounds_toArray, List.set_cons_zero, List.set_cons_succ]
           replace bS := bS.on hb
           replace bT := bT.on hb
           replace bX := bX.on hb
           replace bR := bR.on hb
           replace HB2 := Lib.hid (bel_end HB2.out hb)
           clear hb
           refine hK.out _ _ (HSp.out _ bT bX (by first | exact HQ0.out _ (HE.out.on HB2.out) | exact HQ0.out _ (HE.out.on HB2.out.drew))) (fun _ => ?_)
           clear hK Kn)
        | (refine wpAnyH_ready (rs := [0, 12]) (by decide +kernel) (by simp) ?_
           refine AllReadyH.cons (o := { dst := some 17, op := Go.Op.load 34 (Go.Operand.tmp 4), type := 34, pos := "l08_sectors.go:314", after := #[], guard := none }) rfl (fun Kn hK => ?_) ?_
           have bS_0 := bS.cell 0 rfl
           have bS_1 := bS.cell 1 rfl
           go_simp
           clear bS_0 bS_1
           refine hK.out _ _ (HSp.out _ bT bX (by first | exact HQ0.out _ (HE.out.on HB2.out) | exact HQ0.out _ (HE.out.on HB2.out.drew))) (fun _ => ?_)
           clear hK Kn
           rotate_left
           refine AllReadyH.cons (o := { dst := some 29, op := Go.Op.call { callee := Go.Callee.value (Go.Operand.func 54), args := #[Go.Operand.tmp 20, Go.Operand.tmp 28], argTypes := #[34, 34] }, type := 34, pos := "l08_sectors.go:314", after := #[{ on := 3, ground := Go.Ground.data }, { on := 11, ground := Go.Ground.data }, { on := 11, ground := Go.Ground.chain }], guard := none }) rfl (fun Kn hK => ?_) AllReadyH.nil
           first | go_at_call 54 | (go_simp; go_at_call 54)
           (with_reducible refine Calls.mono (KJ.out _) ?_)
           rintro e V3 ⟨rfl, hb⟩
           try dsimp only
           try simp only [Act.put, List.setIfInBounds_toArray, List.set_cons_zero, List.set_cons_succ]
           replace bS := bS.on hb
           replace bT := bT.on hb
           replace bX := bX.on hb
           replace bR := bR.on hb
           replace HB2 := Lib.hid (bel_end HB2.out hb)
           clear hb
           refine hK.out _ _ (HSp.out _ bT bX (by first | exact HQ0.out _ (HE.out.on HB2.out) | exact HQ0.out _ (HE.out.on HB2.out.drew))) (fun _ => ?_)
           clear hK Kn)
      all_goals
        first
        | (refine wpAnyH_ready (rs := [12]) (by decide +kernel) (by simp) ?_
           refine AllReadyH.cons (o := { dst := some 29, op := Go.Op.call { callee := Go.Callee.value (Go.Operand.func 54), args := #[Go.Operand.tmp 20, Go.Operand.tmp 28], argTypes := #[34, 34] }, type := 34, pos := "l08_sectors.go:314", after := #[{ on := 3, ground := Go.Ground.data }, { on := 11, ground := Go.Ground.data }, { on := 11, ground := Go.Ground.chain }], guard := none }) rfl (fun Kn hK => ?_) AllReadyH.nil
           first | go_at_call 54 | (go_simp; go_at_call 54)
           (with_reducible refine Calls.mono (KJ.out _) ?_)
           rintro e V3 ⟨rfl, hb⟩
           try dsimp only
           try simp only [Act.put, List.setIfInBounds_toArray, List.set_cons_zero, List.set_cons_succ]
           replace bS := bS.on hb
           replace bT := bT.on hb
           replace bX := bX.on hb
           replace bR := bR.on hb
           replace HB2 := Lib.hid (bel_end HB2.out hb)
           clear hb
           refine hK.out _ _ (HSp.out _ bT bX (by first | exact HQ0.out _ (HE.out.on HB2.out) | exact HQ0.out _ (HE.out.on HB2.out.drew))) (fun _ => ?_)
           clear hK Kn)
        | (refine wpAnyH_ready (rs := [0]) (by decide +kernel) (by simp) ?_
           refine AllReadyH.cons (o := { dst := some 17, op := Go.Op.load 34 (Go.Operand.tmp 4), type := 34, pos := "l08_sectors.go:314", after := #[], guard := none }) rfl (fun Kn hK => ?_) AllReadyH.nil
           have bS_0 := bS.cell 0 rfl
           have bS_1 := bS.cell 1 rfl
           go_simp
           clear bS_0 bS_1
           refine hK.out _ _ (HSp.out _ bT bX (by first | exact HQ0.out _ (HE.out.on HB2.out) | exact HQ0.out _ (HE.out.on HB2.out.drew))) (fun _ => ?_)
           clear hK Kn)
      all_goals
        refine wpAnyH_ready (rs := [13]) (by decide +kernel) (by simp) ?_
        refine AllReadyH.cons (o := { dst := some 30, op := Go.Op.call { callee := Go.Callee.value (Go.Operand.func 52), args := #[Go.Operand.tmp 17, Go.Operand.tmp 29], argTypes := #[34, 34] }, type := 34, pos := "l08_sectors.go:314", after := #[{ on := 0, ground := Go.Ground.data }, { on := 12, ground := Go.Ground.data }, { on := 12, ground := Go.Ground.chain }], guard := none }) rfl (fun Kn hK => ?_) AllReadyH.nil
        first | go_at_call 52 | (go_simp; go_at_call 52)
        (with_reducible refine Calls.mono (KP.out _) ?_)
        rintro e V4 ⟨rfl, hb⟩
        try dsimp only
        try simp only [Act.put, List.setIfInBounds_toArray, List.set_cons_zero, List.set_cons_succ]
        replace bS := bS.on hb
        replace bT := bT.on hb
        replace bX := bX.on hb
        replace bR := bR.on hb
        replace HB2 := Lib.hid (bel_end HB2.out hb)
        clear hb
        refine hK.out _ _ (HSp.out _ bT bX (by first | exact HQ0.out _ (HE.out.on HB2.out) | exact HQ0.out _ (HE.out.on HB2.out.drew))) (fun _ => ?_)
        clear hK Kn
      all_goals
        refine wpAnyH_ready (rs := [14]) (by decide +kernel) (by simp) ?_
        refine AllReadyH.cons (o := { dst := none, op := Go.Op.store 34 (Go.Operand.tmp 4) (Go.Operand.tmp 30), type := 0, pos := "l08_sectors.go:314", after := #[{ on := 13, ground := Go.Ground.data }, { on := 13, ground := Go.Ground.chain }, { on := 0, ground := Go.Ground.phase }, { on := 1, ground := Go.Ground.phase }, { on := 2, ground := Go.Ground.phase }, { on := 3, ground := Go.Ground.phase }, { on := 4, ground := Go.Ground.phase }, { on := 5, ground := Go.Ground.phase }, { on := 6, ground := Go.Ground.phase }, { on := 7, ground := Go.Ground.phase }, { on := 8, ground := Go.Ground.phase }, { on := 9, ground := Go.Ground.phase }, { on := 10, ground := Go.Ground.phase }, { on := 11, ground := Go.Ground.phase }, { on := 12, ground := Go.Ground.phase }, { on := 13, ground := Go.Ground.phase }], guard := none }) rfl (fun Kn hK => ?_) AllReadyH.nil
        have bS_0 := bS.cell 0 rfl
        have bS_1 := bS.cell 1 rfl
        have bS_f0 := bS.frozen 0
        have bS_f1 := bS.frozen 1
        have bS_l := bS.lt
        go_simp
        clear bS_0 bS_f0 bS_1 bS_f1 bS_l
        generalize hX : World.setCell _ _ _ = V5
        have hb : Below w.heap.size w V5 := by rw [← hX]; exact ((HB2.out.setCell (p := ⟨gS, 0, none⟩) (by first | omega | (dsimp only; omega)) _).setCell (p := ⟨gS, 1, none⟩) (by first | omega | (dsimp only; omega)) _)
        replace bT : Bk V5 (gT) #[.iface pt pv, .int .i64 (pk : Int), .bool pd, .int .i64 pl, .int .i64 ph] 81 := by rw [← hX]; exact (Bk.other (Bk.other bT (by omega) 0 _) (by omega) 1 _)
        replace bX : Bk V5 (w.heap.size) #[.slice (some ⟨gd, 0, none⟩) N cd, .int .i64 k1, .bool d1, .int .i64 l1, .int .i64 h1, .slice (some ⟨ge, 0, none⟩) N ce, .int .i64 k2, .bool d2, .int .i64 l2, .int .i64 h2] 57 := by rw [← hX]; exact (Bk.other (Bk.other bX (by omega) 0 _) (by omega) 1 _)
        replace bR : Bk V5 (w.heap.size + 1) #[.int .i64 0, .int .i64 0] 34 := by rw [← hX]; exact (Bk.other (Bk.other bR (by omega) 0 _) (by omega) 1 _)
        replace bS : Bk V5 (gS) #[.int .i64 (A + U), .int .i64 (B + V_)] 34 := by rw [← hX]; exact (Bk.set (Bk.set bS 0 _ rfl) 1 _ rfl)
        clear hX
        replace HB2 := Lib.hid hb
        clear hb
        refine hK.out _ _ (HSp.out _ bT bX (by first | exact HQ0.out _ (HE.out.on HB2.out) | exact HQ0.out _ (HE.out.on HB2.out.drew))) (fun _ => ?_)
        clear hK Kn
      all_goals
        refine wpAnyH_done (by kernel_rfl) ?_ _
        go_wp2
        go_roundw
        (case rel => exact ⟨k + 1, by go_num, by omega, HB2.out, bX, bR, by rw [HSS.out]; exact bS⟩)
        (case measure => simp [intOf]; omega)
end
end Go.Proofs.YtgecbfbmmbfnmaaGreat
