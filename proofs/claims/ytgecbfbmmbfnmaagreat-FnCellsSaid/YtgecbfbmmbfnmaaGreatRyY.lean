import Derived.Test.YtgecbfbmmbfnmaaGreatRyU
import Derived.Test.YtgecbfbmmbfnmaaGreatLys
import Derived.Handy
import Derived.Outline
import Derived.LoopTactic
import Derived.Deep.DeepCutAuto
namespace Go.Proofs.YtgecbfbmmbfnmaaGreat
section
/- Contracts of the model's IsRayState, FirstState, StepRay. -/
open Go.ChangeShapes Go.WideShapes Go.ChangeAt Go.RowKit Go.Shelf Num
set_option linter.unusedVariables false
set_option linter.unusedSimpArgs false
end
section
/- The contract of the model's trace of a ray. -/
open Go.ChangeShapes Go.WideShapes Go.ChangeAt Go.RowKit Go.Shelf Num
set_option linter.unusedVariables false
set_option linter.unusedSimpArgs false
/-- the cells of the state behind the event number j; of the event -/
def staC (zs ys : List Int) (i : Nat) (c s h : Int) (j : Nat) : List Value :=
  [.int .i64 ((runS zs ys i c h (fst0 i s) (j + 1)).k : Int), .bool (runS zs ys i c h (fst0 i s) (j + 1)).dn, .int .i64 (runS zs ys i c h (fst0 i s) (j + 1)).lo, .int .i64 (runS zs ys i c h (fst0 i s) (j + 1)).hi]
theorem staC_len (zs ys : List Int) (i : Nat) (c s h : Int) (j : Nat) : (staC zs ys i c s h j).length = 4 := rfl
def evC (zs ys : List Int) (i : Nat) (c s h : Int) (j : Nat) : List Value := [.int .i64 (evV zs ys i c h (runS zs ys i c h (fst0 i s) j).k (runS zs ys i c h (fst0 i s) j).dn)]
theorem evC_map (zs ys : List Int) (i : Nat) (c s h : Int) : ∀ n, rowL (evC zs ys i c s h) n = (evL zs ys i c h (fst0 i s) n).map iv4
  | 0 => rfl
  | n + 1 => by rw [rowL_succ, evC_map zs ys i c s h n, evL_succ, List.map_append]; rfl
theorem info_ryst : (Tryz.prog.info? 38).map (fun i => (i.zero, i.size, i.bytes)) = some (some (.agg #[.int .i64 0, .bool false, .int .i64 0, .int .i64 0]), 4, 32) := by kernel_rfl
theorem heap_far4s {W : World} {B g : Nat} (hne : g ≠ B) (v0 v1 v2 v3 : Value) : ((((W.setCell ⟨B, 0, none⟩ v0).setCell ⟨B, 1, none⟩ v1).setCell ⟨B, 2, none⟩ v2).setCell ⟨B, 3, none⟩ v3).heap[g]? = W.heap[g]? :=
  (Below.heap_setCell _ ⟨B, 3, none⟩ v3 g hne).trans ((Below.heap_setCell _ ⟨B, 2, none⟩ v2 g hne).trans ((Below.heap_setCell _ ⟨B, 1, none⟩ v1 g hne).trans (Below.heap_setCell _ ⟨B, 0, none⟩ v0 g hne)))
/-- what the trace leaves -/
def TrcP (w : World) (fs fe : Nat → List Value) (q : Int) (N : Nat) (e : Ending) (w' : World) : Prop :=
  (q = 0 ∧ ∃ gs cs ge ce, e = .returned (.tuple #[.slice (some ⟨gs, 0, none⟩) N cs, .slice (some ⟨ge, 0, none⟩) N ce, .int .i64 0]) ∧ RowG w 38 4 gs cs N (rowL fs N) w' ∧ RowG w 2 1 ge ce N (rowL fe N) w') ∨ (¬ q = 0 ∧ e = .returned (.tuple #[.slice none 0 0, .slice none 0 0, .int .i64 q]) ∧ Below w.heap.size w w')

set_option maxRecDepth 100000 in
set_option maxHeartbeats 8000000 in
theorem trc_any (w : World) (a b : Option Addr) (ca cb : Nat) (zs ys : List Int) (src c s h n : Int) (hp : Prof w w.heap.size a b zs ys) :
    Calls Tryz.prog 60 #[.agg #[.slice a zs.length ca, .slice b ys.length cb], .int .i64 src, .agg #[.int .i64 c, .int .i64 s, .int .i64 h], .int .i64 n] w (TrcP w (staC zs ys src.toNat c s h) (evC zs ys src.toNat c s h) (tcod zs ys src c s h n) n.toNat) := by
  have HP := Lib.hid hp
  have KE : Hid (∀ W : World, Below w.heap.size w W → Calls Tryz.prog 73 #[.agg #[.slice a zs.length ca, .slice b ys.length cb], .int .i64 src, .agg #[.int .i64 c, .int .i64 s, .int .i64 h], .int .i64 0] W fun e w' => e = .returned (.int .i64 (fcod zs ys src c s h)) ∧ Below W.heap.size W w') := Lib.hid (fun W hb => by have := lrc_any W a b ca cb zs ys src 0 c s h (HP.out.on hb); rwa [show rcT (prfB zs ys) (dirB c s h) (hkB zs src) (hkB zs 0) = fcod zs ys src c s h from fcod_m zs ys src c s h] at this)
  by_cases hq : fcod zs ys src c s h = 0
  case neg =>
    have HT : Hid (tcod zs ys src c s h n = fcod zs ys src c s h) := Lib.hid (by unfold tcod; rw [if_neg hq])
    rw [HT.out]
    have HQ := Lib.hid hq
    obtain ⟨q, hqq⟩ : ∃ q, fcod zs ys src c s h = q := ⟨_, rfl⟩
    rw [hqq] at KE hq HQ ⊢
    have hq0 : (q != 0) = true := by simpa using hq
    have hq1 : (q == 0) = false := by simpa using hq
    clear hqq hq hp HT
    go_enter Tryz.func60, Tryz.ntmps60
    go_wp2_with fail
    generalize hW : World.alloc _ _ = W
    have bP : Bk W (w.heap.size) #[.slice a zs.length ca, .slice b ys.length cb] 26 := by rw [← hW]; repeat (first | (refine Bk.new' ?_; (simp; done)) | refine Bk.alloc ?_ _)
    have bD : Bk W (w.heap.size + 1) #[.int .i64 c, .int .i64 s, .int .i64 h] 28 := by rw [← hW]; repeat (first | (refine Bk.new' ?_; (simp; done)) | refine Bk.alloc ?_ _)
    have HB : Hid (Below w.heap.size w W) := Lib.hid (by rw [← hW]; exact (by repeat (first | exact Below.refl _ _ | (refine Below.alloc ?_ (by simp <;> omega) _) | (refine Below.setCell ?_ (by simp <;> omega) _) | (refine Below.drew ?_) | (refine bel_drewN ?_ _))))
    clear hW
    (with_reducible refine Calls.mono (KE.out _ HB.out) ?_)
    rintro e w1 ⟨rfl, hb⟩
    go_wp2
    exact bodyPost_ret (v := .tuple #[.slice none 0 0, .slice none 0 0, .int .i64 q]) (by simp [results, Tryz.results60, go_sem]) rfl (Or.inr ⟨HQ.out, rfl, bel_end HB.out hb⟩)
  case pos =>
    have HT : Hid (tcod zs ys src c s h n = if inB n 0 100 then (if okN zs ys src.toNat c h (fst0 src.toNat s) n.toNat then 0 else 3) else 2) := Lib.hid (by unfold tcod; rw [if_pos hq])
    rw [hq] at KE
    obtain ⟨i, rfl, r⟩ := fcod_0 hq
    rw [Int.toNat_natCast] at HT ⊢
    have HRy := Lib.hid r
    clear hq hp r
    have KI : Hid (∀ W : World, Calls Tryz.prog 44 #[.int .i64 n, .int .i64 0, .int .i64 100] W fun e w' => e = .returned (.bool (inB n 0 100)) ∧ W = w') := Lib.hid (fun W => lin_any n 0 100 W)
    cases hin : inB n 0 100
    case false =>
      rw [hin] at KI
      have HQ : Hid (tcod zs ys (i : Int) c s h n = 2) := Lib.hid (by rw [HT.out, hin]; rfl)
      rw [HQ.out]
      clear HT HQ hin
      go_enter Tryz.func60, Tryz.ntmps60
      go_wp2_with fail
      generalize hW : World.alloc _ _ = W
      have bP : Bk W (w.heap.size) #[.slice a zs.length ca, .slice b ys.length cb] 26 := by rw [← hW]; repeat (first | (refine Bk.new' ?_; (simp; done)) | refine Bk.alloc ?_ _)
      have bD : Bk W (w.heap.size + 1) #[.int .i64 c, .int .i64 s, .int .i64 h] 28 := by rw [← hW]; repeat (first | (refine Bk.new' ?_; (simp; done)) | refine Bk.alloc ?_ _)
      have HB : Hid (Below w.heap.size w W) := Lib.hid (by rw [← hW]; exact (by repeat (first | exact Below.refl _ _ | (refine Below.alloc ?_ (by simp <;> omega) _) | (refine Below.setCell ?_ (by simp <;> omega) _) | (refine Below.drew ?_) | (refine bel_drewN ?_ _))))
      clear hW
      (with_reducible refine Calls.mono (KE.out _ HB.out) ?_)
      rintro e w1 ⟨rfl, hb⟩
      go_wp2_with (go_at_call 44; (with_reducible refine Calls.mono (KI.out _) ?_); rintro e w' ⟨rfl, hw⟩; subst hw)
      exact bodyPost_ret (v := .tuple #[.slice none 0 0, .slice none 0 0, .int .i64 2]) (by simp [results, Tryz.results60, go_sem]) rfl (Or.inr ⟨by decide, rfl, bel_end HB.out hb⟩)
    case true =>
      rw [hin] at KI
      have hnn : 0 ≤ n ∧ n ≤ 100 := by unfold inB at hin; simpa using hin
      obtain ⟨N, rfl⟩ : ∃ N : Nat, n = (N : Int) := ⟨n.toNat, by omega⟩
      have hN : N ≤ 100 := by omega
      have HQ : Hid (tcod zs ys (i : Int) c s h (N : Int) = if okN zs ys i c h (fst0 i s) N then 0 else 3) := Lib.hid (by rw [HT.out, hin, if_pos rfl, Int.toNat_natCast])
      rw [Int.toNat_natCast]
      clear HT hin hnn
      obtain ⟨i0, hi0, hz0, hz1, hz2⟩ := info_parts info_ryst
      obtain ⟨j0, hj0, hy0, hy1, hy2⟩ := info_parts info_i64
      obtain ⟨dd, hd⟩ : ∃ x, decide (0 < s) = x := ⟨_, rfl⟩
      have KF : Hid (∀ W : World, Calls Tryz.prog 46 #[.int .i64 (i : Int), .agg #[.int .i64 c, .int .i64 s, .int .i64 h]] W fun e w' => e = .returned (.agg #[.int .i64 (i : Int), .bool dd, .int .i64 0, .int .i64 0]) ∧ Below W.heap.size W w') := Lib.hid (fun W => by have := l7f_any W (i : Int) c s h; rwa [hd] at this)
      have HX0 : Hid (runS zs ys i c h (fst0 i s) 0 = ⟨i, dd, 0, 0⟩) := Lib.hid (by rw [← hd]; rfl)
      clear hd
      go_enter Tryz.func60, Tryz.ntmps60
      go_wp2_with fail
      generalize hW : World.alloc _ _ = W
      have bP : Bk W (w.heap.size) #[.slice a zs.length ca, .slice b ys.length cb] 26 := by rw [← hW]; repeat (first | (refine Bk.new' ?_; (simp; done)) | refine Bk.alloc ?_ _)
      have bD : Bk W (w.heap.size + 1) #[.int .i64 c, .int .i64 s, .int .i64 h] 28 := by rw [← hW]; repeat (first | (refine Bk.new' ?_; (simp; done)) | refine Bk.alloc ?_ _)
      have HB : Hid (Below w.heap.size w W) := Lib.hid (by rw [← hW]; exact (by repeat (first | exact Below.refl _ _ | (refine Below.alloc ?_ (by simp <;> omega) _) | (refine Below.setCell ?_ (by simp <;> omega) _) | (refine Below.drew ?_) | (refine bel_drewN ?_ _))))
      clear hW
      (with_reducible refine Calls.mono (KE.out _ HB.out) ?_)
      rintro e w1 ⟨rfl, hb⟩
      replace bP := bP.on hb
      replace bD := bD.on hb
      replace HB := Lib.hid (bel_end HB.out hb)
      clear hb
      have BP1 := Lib.hid bP
      have BD1 := Lib.hid bD
      go_upto_region 7 with (go_at_call 44; (with_reducible refine Calls.mono (KI.out _) ?_); rintro e w' ⟨rfl, hw⟩; subst hw)
      generalize hW : World.alloc _ _ = W2
      obtain ⟨g0, hg0⟩ : ∃ g, g = w1.heap.size := ⟨_, rfl⟩
      obtain ⟨e0, he0⟩ : ∃ g, g = w1.heap.size + 1 := ⟨_, rfl⟩
      have bS : Bk W2 g0 #[] 38 := by rw [← hW]; exact (Bk.new' hg0).alloc _
      have bE : Bk W2 e0 #[] 2 := by rw [← hW]; exact Bk.new' (by simp; exact he0)
      have hb : Below w1.heap.size w1 W2 := by rw [← hW]; exact ((Below.refl _ _).alloc (Nat.le_refl _) _).alloc (by simp) _
      try rw [← he0]
      try rw [← hg0]
      replace bP := bP.on hb
      replace bD := bD.on hb
      have HB2 := Lib.hid (bel_end HB.out hb)
      have HW := Lib.hid hb
      have hl1 : w1.heap.size ≤ g0 := by omega
      have hl2 : w1.heap.size ≤ e0 := by omega
      clear hW hb hg0 he0
      have bD_0 := bD.cell 0 rfl
      have bD_1 := bD.cell 1 rfl
      have bD_2 := bD.cell 2 rfl
      have bD_l := bD.lt
      go_wp2_with fail
      clear bD_0 bD_1 bD_2 bD_l
      (with_reducible refine Calls.mono (KF.out _) ?_)
      rintro e w3 ⟨rfl, hb⟩
      replace bP := bP.on hb
      replace bD := bD.on hb
      replace bS := bS.on hb
      replace bE := bE.on hb
      replace HB2 := Lib.hid (bel_end HB2.out hb)
      replace HW := Lib.hid (bel_end HW.out hb)
      clear hb
      go_upto_region 8 with fail
      generalize hW : World.alloc _ _ = W4
      obtain ⟨gx, hg⟩ : ∃ g, g = w3.heap.size := ⟨_, rfl⟩
      have hx : Bk W4 gx #[.int .i64 (i : Int), .bool dd, .int .i64 0, .int .i64 0] 38 := by rw [← hW]; exact Bk.new' hg
      have hb : Below w3.heap.size w3 W4 := by rw [← hW]; exact (Below.refl _ _).alloc (Nat.le_refl _) _
      try rw [← hg]
      have hne : g0 ≠ gx := by have := bS.lt; omega
      have hl3 : w1.heap.size ≤ gx := by have := HW.out.size; omega
      replace bS := bS.on hb
      replace bE := bE.on hb
      replace HW := Lib.hid (bel_end HW.out hb)
      have HS0 := Lib.hid (RowG.lit (w1 := w1) (m := 4) bS hl1 HW.out)
      have HE0 := Lib.hid (RowG.lit (w1 := w1) (m := 1) bE hl2 HW.out)
      have HX1 := Lib.hid hx
      have HNE := Lib.hid hne
      clear hW hb hg bS bE HB2 hx hne bP bD
      go_wp2_with fail
      go_loopw [12, 13, 15] (fun v u x wr => ∃ (k gs cs ge ce k1 : Nat) (d1 : Bool) (l1 h1 : Int), v = .slice (some ⟨gs, 0, none⟩) k cs ∧ u = .slice (some ⟨ge, 0, none⟩) k ce ∧ x = .int .i64 (k : Int) ∧ k ≤ N ∧ okN zs ys i c h (fst0 i s) k = true ∧ runS zs ys i c h (fst0 i s) k = ⟨k1, d1, l1, h1⟩ ∧ RowG w1 38 4 gs cs k (rowL (staC zs ys i c s h) k) wr ∧ RowG w1 2 1 ge ce k (rowL (evC zs ys i c s h) k) wr ∧ Bk wr gx #[.int .i64 (k1 : Int), .bool d1, .int .i64 l1, .int .i64 h1] 38 ∧ gs ≠ gx) (fun _ _ x _ => N - (intOf x).toNat)
      case atStart => exact ⟨0, g0, 0, e0, 0, i, dd, 0, 0, rfl, rfl, rfl, by omega, rfl, HX0.out, HS0.out, HE0.out, HX1.out, HNE.out⟩
      case round =>
        obtain ⟨k, gs, cs, ge, ce, k1, d1, l1, h1, rfl, rfl, rfl, hk, hok, hX, hS, hE, hx, hne⟩ := hrel
        have o := SOk.run HRy.out (SOk.first HRy.out) hok
        rw [hX] at o
        have HO := Lib.hid o
        have HOK := Lib.hid hok
        have HXk := Lib.hid hX
        have HS := Lib.hid hS
        have HE := Lib.hid hE
        have bP2 := BP1.out.on hS.bel
        have bD2 := BD1.out.on hS.bel
        have HB2 := Lib.hid (bel_end HB.out hS.bel)
        have hge : ge ≠ gx := hE.ne hx (by decide)
        clear o hok hX hS hE HS0 HE0 HX1 HX0 HNE HW
        by_cases hkN : k < N
        case neg =>
          have EK : k = N := by omega
          subst EK
          have HQ0 : Hid (tcod zs ys (i : Int) c s h (k : Int) = 0) := Lib.hid (by rw [HQ.out, HOK.out]; rfl)
          have hkk : ¬ (k : Int) < (k : Int) := by omega
          clear hkN hk
          go_wp2
          exact bodyPost_ret (v := .tuple #[.slice (some ⟨gs, 0, none⟩) k cs, .slice (some ⟨ge, 0, none⟩) k ce, .int .i64 0]) (by simp [results, Tryz.results60, go_sem]) rfl (Or.inl ⟨HQ0.out, gs, cs, ge, ce, rfl, ⟨World.ownsRow.mono HS.out.own HB.out.size, HB2.out⟩, ⟨World.ownsRow.mono HE.out.own HB.out.size, HB2.out⟩⟩)
        case pos =>
          obtain ⟨⟨k2, d2, l2, h2⟩, hN2⟩ : ∃ x, nxt zs ys i c h ⟨k1, d1, l1, h1⟩ = x := ⟨_, rfl⟩
          obtain ⟨ev, hev⟩ : ∃ x, evV zs ys i c h k1 d1 = x := ⟨_, rfl⟩
          have KT0 : Hid (∀ W : World, Below w.heap.size w W → Calls Tryz.prog 47 #[.agg #[.slice a zs.length ca, .slice b ys.length cb], .int .i64 (i : Int), .agg #[.int .i64 c, .int .i64 s, .int .i64 h], .agg #[.int .i64 (k1 : Int), .bool d1, .int .i64 l1, .int .i64 h1]] W fun e w' => e = .returned (.tuple #[.agg #[.int .i64 (stpT zs ys i c h k1 d1 l1 h1).1, .bool (stpT zs ys i c h k1 d1 l1 h1).2.1, .int .i64 (stpT zs ys i c h k1 d1 l1 h1).2.2.1, .int .i64 (stpT zs ys i c h k1 d1 l1 h1).2.2.2.1], .int .i64 (stpT zs ys i c h k1 d1 l1 h1).2.2.2.2.1, .int .i64 (stpT zs ys i c h k1 d1 l1 h1).2.2.2.2.2]) ∧ Below W.heap.size W w') := Lib.hid (fun W hb => l7s_any W a b ca cb zs ys i k1 c s h l1 h1 d1 (HP.out.on hb) HRy.out HO.out)
          have hst : stpT zs ys i c h k1 d1 l1 h1 = if nxB zs ys i c h ⟨k1, d1, l1, h1⟩ then ((k2 : Int), d2, l2, h2, ev, 0) else (0, false, 0, 0, 0, 3) := by unfold stpT; rw [hN2, hev]
          rw [hst] at KT0
          have HN1 : Hid (runS zs ys i c h (fst0 i s) (k + 1) = ⟨k2, d2, l2, h2⟩) := Lib.hid (by show nxt zs ys i c h (runS zs ys i c h (fst0 i s) k) = _; rw [HXk.out, hN2])
          have HST : Hid (staC zs ys i c s h k = [.int .i64 (k2 : Int), .bool d2, .int .i64 l2, .int .i64 h2]) := Lib.hid (by unfold staC; rw [HN1.out])
          have HEV : Hid (evC zs ys i c s h k = [.int .i64 ev]) := Lib.hid (by unfold evC; rw [HXk.out]; dsimp only; rw [hev])
          have HOK2 : Hid (okN zs ys i c h (fst0 i s) (k + 1) = nxB zs ys i c h ⟨k1, d1, l1, h1⟩) := Lib.hid (by show (okN zs ys i c h (fst0 i s) k && nxB zs ys i c h (runS zs ys i c h (fst0 i s) k)) = _; rw [HOK.out, HXk.out, Bool.true_and])
          clear hN2 hev hst
          obtain ⟨NB, hNB⟩ : ∃ x, nxB zs ys i c h ⟨k1, d1, l1, h1⟩ = x := ⟨_, rfl⟩
          rw [hNB] at KT0 HOK2
          clear hNB
          cases NB
          case false =>
            have KT1 := KT0.out
            simp only [if_true, Bool.false_eq_true, if_false] at KT1
            have KT := Lib.hid KT1
            clear KT0 KT1
            have HQ0 : Hid (tcod zs ys (i : Int) c s h (N : Int) = 3) := Lib.hid (by rw [HQ.out, okN_more (m := k + 1) HOK2.out (by omega)]; rfl)
            have bP2_0 := bP2.cell 0 rfl
            have bP2_1 := bP2.cell 1 rfl
            have bP2_l := bP2.lt
            have bD2_0 := bD2.cell 0 rfl
            have bD2_1 := bD2.cell 1 rfl
            have bD2_2 := bD2.cell 2 rfl
            have bD2_l := bD2.lt
            have hx_0 := hx.cell 0 rfl
            have hx_1 := hx.cell 1 rfl
            have hx_2 := hx.cell 2 rfl
            have hx_3 := hx.cell 3 rfl
            go_wp2_with fail
            clear hx_0 hx_1 hx_2 hx_3
            clear bP2_0 bP2_1 bP2_l
            clear bD2_0 bD2_1 bD2_2 bD2_l
            (with_reducible refine Calls.mono (KT.out _ HB2.out) ?_)
            rintro e w5 ⟨rfl, hb⟩
            go_wp2
            exact bodyPost_ret (v := .tuple #[.slice none 0 0, .slice none 0 0, .int .i64 3]) (by simp [results, Tryz.results60, go_sem]) rfl (Or.inr ⟨by rw [HQ0.out]; decide, by rw [HQ0.out], by first | exact bel_end HB2.out hb | exact (bel_end HB2.out hb).alloc (Nat.le_trans HB2.out.size hb.size) _⟩)
          case true =>
            have KT1 := KT0.out
            simp only [if_true, Bool.false_eq_true, if_false] at KT1
            have KT := Lib.hid KT1
            clear KT0 KT1
            have bP2_0 := bP2.cell 0 rfl
            have bP2_1 := bP2.cell 1 rfl
            have bP2_l := bP2.lt
            have bD2_0 := bD2.cell 0 rfl
            have bD2_1 := bD2.cell 1 rfl
            have bD2_2 := bD2.cell 2 rfl
            have bD2_l := bD2.lt
            have hx_0 := hx.cell 0 rfl
            have hx_1 := hx.cell 1 rfl
            have hx_2 := hx.cell 2 rfl
            have hx_3 := hx.cell 3 rfl
            go_wp2_with fail
            clear hx_0 hx_1 hx_2 hx_3
            clear bP2_0 bP2_1 bP2_l
            clear bD2_0 bD2_1 bD2_2 bD2_l
            (with_reducible refine Calls.mono (KT.out _ HB2.out) ?_)
            rintro e w5 ⟨rfl, hb⟩
            replace hx := hx.on hb
            replace HS := Lib.hid (HS.out.on hb)
            replace HE := Lib.hid (HE.out.on hb)
            clear hb bP2 bD2
            go_upto_region 14 with fail
            generalize hW : World.alloc _ _ = W6
            obtain ⟨gn, hg⟩ : ∃ g, g = w5.heap.size := ⟨_, rfl⟩
            have bN : Bk W6 gn #[.int .i64 (k2 : Int), .bool d2, .int .i64 l2, .int .i64 h2] 38 := by rw [← hW]; exact Bk.new' hg
            have hb : Below w5.heap.size w5 W6 := by rw [← hW]; exact (Below.refl _ _).alloc (Nat.le_refl _) _
            try rw [← hg]
            have hnx : gn ≠ gx := by have := hx.lt; omega
            replace hx := hx.on hb
            replace HS := Lib.hid (HS.out.on hb)
            replace HE := Lib.hid (HE.out.on hb)
            clear hW hb hg
            have hx_0 := hx.cell 0 rfl
            have hx_1 := hx.cell 1 rfl
            have hx_2 := hx.cell 2 rfl
            have hx_3 := hx.cell 3 rfl
            have hx_f0 := hx.frozen 0
            have hx_f1 := hx.frozen 1
            have hx_f2 := hx.frozen 2
            have hx_f3 := hx.frozen 3
            have hx_l := hx.lt
            have bN_0 := bN.cell 0 rfl
            have bN_1 := bN.cell 1 rfl
            have bN_2 := bN.cell 2 rfl
            have bN_3 := bN.cell 3 rfl
            have bN_l := bN.lt
            go_upto_region 15 with fail
            clear hx_0 hx_1 hx_2 hx_3 hx_f0 hx_f1 hx_f2 hx_f3 hx_l
            clear bN_0 bN_1 bN_2 bN_3 bN_l
            generalize hW : World.setCell _ _ _ = W7
            have hb : Below w1.heap.size w1 W7 := by rw [← hW]; exact ((((HS.out.bel.setCell (p := ⟨gx, 0, none⟩) hl3 _).setCell (p := ⟨gx, 1, none⟩) hl3 _).setCell (p := ⟨gx, 2, none⟩) hl3 _).setCell (p := ⟨gx, 3, none⟩) hl3 _)
            have HS7 := Lib.hid (RowG.at_ HS.out (by rw [← hW]; exact heap_far4s hne _ _ _ _) hb)
            have HE7 := Lib.hid (RowG.at_ HE.out (by rw [← hW]; exact heap_far4s hge _ _ _ _) hb)
            replace hx : Bk W7 gx #[.int .i64 (k2 : Int), .bool d2, .int .i64 l2, .int .i64 h2] 38 := by rw [← hW]; exact (((hx.set 0 _ rfl).set 1 _ rfl).set 2 _ rfl).set 3 _ rfl
            clear hW hb HS HE bN hnx
            have hx_0 := hx.cell 0 rfl
            have hx_1 := hx.cell 1 rfl
            have hx_2 := hx.cell 2 rfl
            have hx_3 := hx.cell 3 rfl
            have hx_l := hx.lt
            have hgs7 := HS7.out.up
            have hges : ge ≠ gs := by
              obtain ⟨cur, hc⟩ := HS7.out.blk
              exact HE7.out.ne hc (by decide)
            go_upto_region 16 with (at_builtin; refine wpList_append_lies _ rfl _ _ 124 rfl w1.heap.size 38 i0 (.agg #[.int .i64 0, .bool false, .int .i64 0, .int .i64 0]) 4 32 Tryz.underlying124 hi0 hz0 hz1 hz2 rfl (by decide) (.slice (some ⟨gs, 0, none⟩) k cs) k (rowL (staC zs ys i c s h) k) rfl (HS7.out.own.alloc _) ⟨W7.heap.size, 0, none⟩ 1 1 [.int .i64 (k2 : Int), .bool d2, .int .i64 l2, .int .i64 h2] rfl rfl (World.news_of_block (cs := #[.int .i64 (k2 : Int), .bool d2, .int .i64 l2, .int .i64 h2]) (t := 38) (fr := (0, 0)) (heap_alloc_new W7 _)) (by simp [Value.oneCell']) (by decide) (by unfold maxLen; omega) (by omega) (by simp; exact Nat.le_succ_of_le HS7.out.bel.size) (W7.heap.size + 1) (by simp) ?_; intro g2 cp2 w9 hown hgrow hat hlt9; have HS9 := Lib.hid ((HS7.out.on ((Below.refl _ _).alloc (Nat.le_refl _) _)).snoc hown hgrow); have HE9 := Lib.hid ((HE7.out.on ((Below.refl _ _).alloc (Nat.le_refl _) _)).at_ (hgrow.block ge (by have := HE7.out.up; simp; omega) (fun e => hges (by injection e))) HS9.out.bel); have hx9 := (hx.alloc _).kept hgrow (fun e => hne (by injection e with e; exact e.symm)); have hg2 : g2 ≠ gx := (by rcases hat with e | e; (have e : some gs = some g2 := e; injection e with e; omega); omega); clear hown hgrow hat hlt9)
            clear hx_0 hx_1 hx_2 hx_3 hx_l HS7 HE7 hgs7 hx
            have hg29 : ge ≠ g2 := by
              obtain ⟨cur, hc⟩ := HS9.out.blk
              exact HE9.out.ne hc (by decide)
            go_wp2_with (at_builtin; refine wpList_append_lies _ rfl _ _ 24 rfl w1.heap.size 2 j0 (.int .i64 0) 1 8 Tryz.underlying24 hj0 hy0 hy1 hy2 rfl (by decide) (.slice (some ⟨ge, 0, none⟩) k ce) k (rowL (evC zs ys i c s h) k) rfl (HE9.out.own.alloc _) ⟨w9.heap.size, 0, none⟩ 1 1 [.int .i64 ev] rfl rfl (World.news_of_block (cs := #[.int .i64 ev]) (t := 2) (fr := (0, 0)) (heap_alloc_new w9 _)) (by simp [Value.oneCell']) (by decide) (by unfold maxLen; omega) (by omega) (by simp; exact Nat.le_succ_of_le HE9.out.bel.size) (w9.heap.size + 1) (by simp) ?_; intro g3 cp3 w10 hown hgrow hat hlt9; have HE10 := Lib.hid ((HE9.out.on ((Below.refl _ _).alloc (Nat.le_refl _) _)).snoc hown hgrow); have HS10 := Lib.hid ((HS9.out.on ((Below.refl _ _).alloc (Nat.le_refl _) _)).at_ (hgrow.block g2 (by have := HS9.out.up; simp; omega) (fun e => hg29 (by injection e with e; exact e.symm))) HE10.out.bel); have hx10 := (hx9.alloc _).kept hgrow (fun e => hge (by injection e with e; exact e.symm)); clear hown hgrow hat hlt9)
            rw [← HST.out, ← rowL_succ] at HS10
            rw [← HEV.out, ← rowL_succ] at HE10
            go_roundw
            (case rel => exact ⟨k + 1, g2, cp2, g3, cp3, k2, d2, l2, h2, rfl, rfl, by go_num, by omega, HOK2.out, HN1.out, HS10.out, HE10.out, hx10, hg2⟩)
            (case measure => simp [intOf]; omega)
end
end Go.Proofs.YtgecbfbmmbfnmaaGreat
