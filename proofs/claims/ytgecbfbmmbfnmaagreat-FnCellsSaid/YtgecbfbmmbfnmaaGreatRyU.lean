import Derived.Test.YtgecbfbmmbfnmaaGreatRyT
import Derived.StillTailTactics
import Derived.Deep.QuietTactic
import Derived.BigQuiet
import Derived.Deep.DeepCutAuto
namespace Go.Proofs.YtgecbfbmmbfnmaaGreat
/- Contracts of the model's states and steps of a ray. -/
open Go.ChangeShapes Go.WideShapes Go.ChangeAt Go.RowKit Go.Shelf Num
set_option linter.unusedVariables false
set_option linter.unusedSimpArgs false
/-- the step of a valid state -/
def stpT (zs ys : List Int) (i : Nat) (c h : Int) (k : Nat) (dn : Bool) (lo hi : Int) : Int × Bool × Int × Int × Int × Int :=
  (if nxB zs ys i c h ⟨k, dn, lo, hi⟩ then (((nxt zs ys i c h ⟨k, dn, lo, hi⟩).k : Int), (nxt zs ys i c h ⟨k, dn, lo, hi⟩).dn, (nxt zs ys i c h ⟨k, dn, lo, hi⟩).lo, (nxt zs ys i c h ⟨k, dn, lo, hi⟩).hi, evV zs ys i c h k dn, (0 : Int)) else ((0 : Int), false, (0 : Int), (0 : Int), (0 : Int), (3 : Int)))

set_option maxRecDepth 100000 in
set_option maxHeartbeats 16000000 in
theorem l7s_any (w : World) (a b : Option Addr) (ca cb : Nat) (zs ys : List Int) (i k : Nat) (c s h lo hi : Int) (dn : Bool) (hp : Prof w w.heap.size a b zs ys) (r : RyOk zs ys i c s h) (o : SOk zs ys i c h ⟨k, dn, lo, hi⟩) :
    Calls Tryz.prog 47 #[.agg #[.slice a zs.length ca, .slice b ys.length cb], .int .i64 (i : Int), .agg #[.int .i64 c, .int .i64 s, .int .i64 h], .agg #[.int .i64 (k : Int), .bool dn, .int .i64 lo, .int .i64 hi]] w fun e w' => e = .returned (.tuple #[.agg #[.int .i64 (stpT zs ys i c h k dn lo hi).1, .bool (stpT zs ys i c h k dn lo hi).2.1, .int .i64 (stpT zs ys i c h k dn lo hi).2.2.1, .int .i64 (stpT zs ys i c h k dn lo hi).2.2.2.1], .int .i64 (stpT zs ys i c h k dn lo hi).2.2.2.2.1, .int .i64 (stpT zs ys i c h k dn lo hi).2.2.2.2.2]) ∧ Below w.heap.size w w' := by
  have HP := Lib.hid hp
  have kl : k < zs.length := o.kl
  have h12 := r.ok.n12
  have KL : Hid (∀ W : World, Below w.heap.size w W → Calls Tryz.prog 66 #[.agg #[.slice a zs.length ca, .slice b ys.length cb], .agg #[.int .i64 (k : Int), .bool dn, .int .i64 lo, .int .i64 hi]] W fun e w' => e = .returned (.tuple #[.int .i64 (lyI k dn), .bool (inP zs.length k dn)]) ∧ Below W.heap.size W w') := Lib.hid (fun W hb => lly7_any W a b ca cb zs ys k dn lo hi (by omega) kl)
  cases hin : inP zs.length k dn
  case false =>
    obtain ⟨g1, g2, g3⟩ := nx_out (x := ⟨k, dn, lo, hi⟩) o hin
    have HT0 : stpT zs ys i c h k dn lo hi = ((k : Int), !dn, lo, hi, (if dn then 4 else 3), 0) := by unfold stpT; rw [if_pos g1, g2]; dsimp only at g3 ⊢; rw [g3]
    rw [hin] at KL
    obtain ⟨ly, hly⟩ : ∃ l, lyI k dn = l := ⟨_, rfl⟩
    rw [hly] at KL
    clear hly g1 g2 g3 hin hp r o kl h12
    cases dn
    case false =>
      have HT := Lib.hid HT0
      clear HT0
      go_enter Tryz.func47, Tryz.ntmps47
      go_wp2_with fail
      generalize hW : World.alloc _ _ = W
      have bP : Bk W (w.heap.size) #[.slice a zs.length ca, .slice b ys.length cb] 26 := by rw [← hW]; repeat (first | (refine Bk.new' ?_; (simp; done)) | refine Bk.alloc ?_ _)
      have bD : Bk W (w.heap.size + 1) #[.int .i64 c, .int .i64 s, .int .i64 h] 28 := by rw [← hW]; repeat (first | (refine Bk.new' ?_; (simp; done)) | refine Bk.alloc ?_ _)
      have bS : Bk W (w.heap.size + 1 + 1) #[.int .i64 (k : Int), .bool false, .int .i64 lo, .int .i64 hi] 38 := by rw [← hW]; repeat (first | (refine Bk.new' ?_; (simp; done)) | refine Bk.alloc ?_ _)
      have bR : Bk W (w.heap.size + 1 + 1 + 1) #[.int .i64 0, .bool false, .int .i64 0, .int .i64 0] 38 := by rw [← hW]; repeat (first | (refine Bk.new' ?_; (simp; done)) | refine Bk.alloc ?_ _)
      have HB : Hid (Below w.heap.size w W) := Lib.hid (by rw [← hW]; exact (by repeat (first | exact Below.refl _ _ | (refine Below.alloc ?_ (by simp <;> omega) _) | (refine Below.setCell ?_ (by simp <;> omega) _) | (refine Below.drew ?_) | (refine bel_drewN ?_ _))))
      clear hW
      (with_reducible refine Calls.mono (KL.out _ HB.out) ?_)
      rintro e w1 ⟨rfl, hb⟩
      replace bP := bP.on hb
      replace bD := bD.on hb
      replace bS := bS.on hb
      replace bR := bR.on hb
      replace HB := Lib.hid (bel_end HB.out hb)
      clear hb
      have bS_0 := bS.cell 0 rfl
      have bS_1 := bS.cell 1 rfl
      have bS_2 := bS.cell 2 rfl
      have bS_3 := bS.cell 3 rfl
      have bS_l := bS.lt
      go_upto_region 3 with fail
      generalize hW : World.alloc _ _ = W2
      obtain ⟨g, hg⟩ : ∃ g, g = w1.heap.size := ⟨_, rfl⟩
      have bO : Bk W2 g #[.int .i64 (k : Int), .bool false, .int .i64 lo, .int .i64 hi] 38 := by rw [← hW]; exact Bk.new' hg
      have hgl : w.heap.size + 1 + 1 + 1 < g := by have := bR.lt; omega
      have hb : Below w1.heap.size w1 W2 := by rw [← hW]; exact (Below.refl _ _).alloc (Nat.le_refl _) _
      try rw [← hg]
      clear hW hg
      clear bS_0 bS_1 bS_2 bS_3 bS_l
      replace bS := bS.on hb
      replace bR := bR.on hb
      replace HB := Lib.hid (bel_end HB.out hb)
      clear hb
      have bS_0 := bS.cell 0 rfl
      have bS_1 := bS.cell 1 rfl
      have bS_2 := bS.cell 2 rfl
      have bS_3 := bS.cell 3 rfl
      have bS_l := bS.lt
      have bO_0 := bO.cell 0 rfl
      have bO_1 := bO.cell 1 rfl
      have bO_2 := bO.cell 2 rfl
      have bO_3 := bO.cell 3 rfl
      have bO_f0 := bO.frozen 0
      have bO_f1 := bO.frozen 1
      have bO_f2 := bO.frozen 2
      have bO_f3 := bO.frozen 3
      have bO_l := bO.lt
      go_upto_region 5 with fail
      generalize hW : World.setCell _ _ _ = W4
      have hb : Below w.heap.size w W4 := by rw [← hW]; exact HB.out.setCell (p := ⟨g, 1, none⟩) (by dsimp only; omega) _
      replace bS : Bk W4 (w.heap.size + 1 + 1) #[.int .i64 (k : Int), .bool false, .int .i64 lo, .int .i64 hi] 38 := by rw [← hW]; exact bS.other (by omega) 1 _
      replace bR : Bk W4 (w.heap.size + 1 + 1 + 1) #[.int .i64 0, .bool false, .int .i64 0, .int .i64 0] 38 := by rw [← hW]; exact bR.other (by omega) 1 _
      clear bO_0 bO_1 bO_2 bO_3 bO_f0 bO_f1 bO_f2 bO_f3 bO_l
      clear bS_0 bS_1 bS_2 bS_3 bS_l
      replace bO : Bk W4 g #[.int .i64 (k : Int), .bool true, .int .i64 lo, .int .i64 hi] 38 := by rw [← hW]; exact bO.set 1 _ rfl
      clear hW
      replace HB := Lib.hid hb
      clear hb
      have bS_0 := bS.cell 0 rfl
      have bS_1 := bS.cell 1 rfl
      have bS_2 := bS.cell 2 rfl
      have bS_3 := bS.cell 3 rfl
      have bS_l := bS.lt
      have bO_0 := bO.cell 0 rfl
      have bO_1 := bO.cell 1 rfl
      have bO_2 := bO.cell 2 rfl
      have bO_3 := bO.cell 3 rfl
      have bO_l := bO.lt
      have bR_0 := bR.cell 0 rfl
      have bR_1 := bR.cell 1 rfl
      have bR_2 := bR.cell 2 rfl
      have bR_3 := bR.cell 3 rfl
      have bR_f0 := bR.frozen 0
      have bR_f1 := bR.frozen 1
      have bR_f2 := bR.frozen 2
      have bR_f3 := bR.frozen 3
      have bR_l := bR.lt
      go_wp2
      exact bodyPost_ret (v := .tuple #[.agg #[.int .i64 (k : Int), .bool true, .int .i64 lo, .int .i64 hi], .int .i64 3, .int .i64 0]) (by simp [results, Tryz.results47, go_sem, bR_0, bR_1, bR_2, bR_3]) rfl ⟨resR HT.out, (by first | exact HB.out | exact ((((HB.out.setCell (p := ⟨w.heap.size + 1 + 1 + 1, 0, none⟩) (by dsimp only; omega) _).setCell (p := ⟨w.heap.size + 1 + 1 + 1, 1, none⟩) (by dsimp only; omega) _).setCell (p := ⟨w.heap.size + 1 + 1 + 1, 2, none⟩) (by dsimp only; omega) _).setCell (p := ⟨w.heap.size + 1 + 1 + 1, 3, none⟩) (by dsimp only; omega) _))⟩
    case true =>
      have HT := Lib.hid HT0
      clear HT0
      go_enter Tryz.func47, Tryz.ntmps47
      go_wp2_with fail
      generalize hW : World.alloc _ _ = W
      have bP : Bk W (w.heap.size) #[.slice a zs.length ca, .slice b ys.length cb] 26 := by rw [← hW]; repeat (first | (refine Bk.new' ?_; (simp; done)) | refine Bk.alloc ?_ _)
      have bD : Bk W (w.heap.size + 1) #[.int .i64 c, .int .i64 s, .int .i64 h] 28 := by rw [← hW]; repeat (first | (refine Bk.new' ?_; (simp; done)) | refine Bk.alloc ?_ _)
      have bS : Bk W (w.heap.size + 1 + 1) #[.int .i64 (k : Int), .bool true, .int .i64 lo, .int .i64 hi] 38 := by rw [← hW]; repeat (first | (refine Bk.new' ?_; (simp; done)) | refine Bk.alloc ?_ _)
      have bR : Bk W (w.heap.size + 1 + 1 + 1) #[.int .i64 0, .bool false, .int .i64 0, .int .i64 0] 38 := by rw [← hW]; repeat (first | (refine Bk.new' ?_; (simp; done)) | refine Bk.alloc ?_ _)
      have HB : Hid (Below w.heap.size w W) := Lib.hid (by rw [← hW]; exact (by repeat (first | exact Below.refl _ _ | (refine Below.alloc ?_ (by simp <;> omega) _) | (refine Below.setCell ?_ (by simp <;> omega) _) | (refine Below.drew ?_) | (refine bel_drewN ?_ _))))
      clear hW
      (with_reducible refine Calls.mono (KL.out _ HB.out) ?_)
      rintro e w1 ⟨rfl, hb⟩
      replace bP := bP.on hb
      replace bD := bD.on hb
      replace bS := bS.on hb
      replace bR := bR.on hb
      replace HB := Lib.hid (bel_end HB.out hb)
      clear hb
      have bS_0 := bS.cell 0 rfl
      have bS_1 := bS.cell 1 rfl
      have bS_2 := bS.cell 2 rfl
      have bS_3 := bS.cell 3 rfl
      have bS_l := bS.lt
      go_upto_region 3 with fail
      generalize hW : World.alloc _ _ = W2
      obtain ⟨g, hg⟩ : ∃ g, g = w1.heap.size := ⟨_, rfl⟩
      have bO : Bk W2 g #[.int .i64 (k : Int), .bool true, .int .i64 lo, .int .i64 hi] 38 := by rw [← hW]; exact Bk.new' hg
      have hgl : w.heap.size + 1 + 1 + 1 < g := by have := bR.lt; omega
      have hb : Below w1.heap.size w1 W2 := by rw [← hW]; exact (Below.refl _ _).alloc (Nat.le_refl _) _
      try rw [← hg]
      clear hW hg
      clear bS_0 bS_1 bS_2 bS_3 bS_l
      replace bS := bS.on hb
      replace bR := bR.on hb
      replace HB := Lib.hid (bel_end HB.out hb)
      clear hb
      have bS_0 := bS.cell 0 rfl
      have bS_1 := bS.cell 1 rfl
      have bS_2 := bS.cell 2 rfl
      have bS_3 := bS.cell 3 rfl
      have bS_l := bS.lt
      have bO_0 := bO.cell 0 rfl
      have bO_1 := bO.cell 1 rfl
      have bO_2 := bO.cell 2 rfl
      have bO_3 := bO.cell 3 rfl
      have bO_f0 := bO.frozen 0
      have bO_f1 := bO.frozen 1
      have bO_f2 := bO.frozen 2
      have bO_f3 := bO.frozen 3
      have bO_l := bO.lt
      go_upto_region 5 with fail
      generalize hW : World.setCell _ _ _ = W4
      have hb : Below w.heap.size w W4 := by rw [← hW]; exact HB.out.setCell (p := ⟨g, 1, none⟩) (by dsimp only; omega) _
      replace bS : Bk W4 (w.heap.size + 1 + 1) #[.int .i64 (k : Int), .bool true, .int .i64 lo, .int .i64 hi] 38 := by rw [← hW]; exact bS.other (by omega) 1 _
      replace bR : Bk W4 (w.heap.size + 1 + 1 + 1) #[.int .i64 0, .bool false, .int .i64 0, .int .i64 0] 38 := by rw [← hW]; exact bR.other (by omega) 1 _
      clear bO_0 bO_1 bO_2 bO_3 bO_f0 bO_f1 bO_f2 bO_f3 bO_l
      clear bS_0 bS_1 bS_2 bS_3 bS_l
      replace bO : Bk W4 g #[.int .i64 (k : Int), .bool false, .int .i64 lo, .int .i64 hi] 38 := by rw [← hW]; exact bO.set 1 _ rfl
      clear hW
      replace HB := Lib.hid hb
      clear hb
      have bS_0 := bS.cell 0 rfl
      have bS_1 := bS.cell 1 rfl
      have bS_2 := bS.cell 2 rfl
      have bS_3 := bS.cell 3 rfl
      have bS_l := bS.lt
      have bO_0 := bO.cell 0 rfl
      have bO_1 := bO.cell 1 rfl
      have bO_2 := bO.cell 2 rfl
      have bO_3 := bO.cell 3 rfl
      have bO_l := bO.lt
      have bR_0 := bR.cell 0 rfl
      have bR_1 := bR.cell 1 rfl
      have bR_2 := bR.cell 2 rfl
      have bR_3 := bR.cell 3 rfl
      have bR_f0 := bR.frozen 0
      have bR_f1 := bR.frozen 1
      have bR_f2 := bR.frozen 2
      have bR_f3 := bR.frozen 3
      have bR_l := bR.lt
      go_wp2
      exact bodyPost_ret (v := .tuple #[.agg #[.int .i64 (k : Int), .bool false, .int .i64 lo, .int .i64 hi], .int .i64 4, .int .i64 0]) (by simp [results, Tryz.results47, go_sem, bR_0, bR_1, bR_2, bR_3]) rfl ⟨resR HT.out, (by first | exact HB.out | exact ((((HB.out.setCell (p := ⟨w.heap.size + 1 + 1 + 1, 0, none⟩) (by dsimp only; omega) _).setCell (p := ⟨w.heap.size + 1 + 1 + 1, 1, none⟩) (by dsimp only; omega) _).setCell (p := ⟨w.heap.size + 1 + 1 + 1, 2, none⟩) (by dsimp only; omega) _).setCell (p := ⟨w.heap.size + 1 + 1 + 1, 3, none⟩) (by dsimp only; omega) _))⟩
  case true =>
    obtain ⟨hl, hn, hf, hfl⟩ := inP_l (n := zs.length) kl hin
    have eF := lyI_n hin
    rw [hin, eF] at KL
    have KP : Hid (∀ W : World, Below w.heap.size w W → Calls Tryz.prog 67 #[.agg #[.slice a zs.length ca, .slice b ys.length cb], .int .i64 (i : Int), .agg #[.int .i64 c, .int .i64 s, .int .i64 h], .int .i64 (lk k dn : Nat), .bool dn] W fun e w' => e = .returned (.tuple #[.agg #[.int .i64 (pasT zs ys i c h (lk k dn) dn).1, .int .i64 (pasT zs ys i c h (lk k dn) dn).2.1], .int .i64 (pasT zs ys i c h (lk k dn) dn).2.2.1, .int .i64 (pasT zs ys i c h (lk k dn) dn).2.2.2]) ∧ Below W.heap.size W w') := Lib.hid (fun W hb => lpa_any W a b ca cb zs ys i (lk k dn) c s h dn (HP.out.on hb) r hl (by rw [hn]; exact o.cr))
    have hps := pas_step (x := ⟨k, dn, lo, hi⟩) r o hin
    dsimp only at hps
    rw [hps] at KP
    obtain ⟨a1, a2, a3⟩ := o.ad r
    dsimp only at a1 a2 a3
    have q0 : 0 ≤ lo := o.l0
    have q1 : lo ≤ hi := o.lh
    have q2 : hi ≤ 1000000000000 := o.h1
    have hbad := nx_of_ad (x := ⟨k, dn, lo, hi⟩) r o
    dsimp only at hbad
    have hnl := nx_lim (zs := zs) (ys := ys) (i := i) (c := c) (h := h) (x := ⟨k, dn, lo, hi⟩)
    dsimp only at hnl
    have hnx := nx_in (zs := zs) (ys := ys) (i := i) (c := c) (h := h) (x := ⟨k, dn, lo, hi⟩) hin
    dsimp only at hnx
    have KE : Hid (∀ w : World, Calls Tryz.prog 68 #[.int .i64 (lk k dn : Nat), .bool dn] w fun e w' => e = .returned (.tuple #[.int .i64 (k : Int), .int .i64 (fk k dn : Nat)]) ∧ w = w') := Lib.hid (fun w => by have := les_any (lk k dn) dn (by omega) w; rwa [hn, hf] at this)
    have HT0 : stpT zs ys i c h k dn lo hi = (if nxB zs ys i c h ⟨k, dn, lo, hi⟩ then (((nxt zs ys i c h ⟨k, dn, lo, hi⟩).k : Int), (nxt zs ys i c h ⟨k, dn, lo, hi⟩).dn, (nxt zs ys i c h ⟨k, dn, lo, hi⟩).lo, (nxt zs ys i c h ⟨k, dn, lo, hi⟩).hi, evV zs ys i c h k dn, (0 : Int)) else ((0 : Int), false, (0 : Int), (0 : Int), (0 : Int), (3 : Int))) := rfl
    obtain ⟨A1, hA1⟩ : ∃ x, adLo zs ys i c h k dn = x := ⟨_, rfl⟩
    obtain ⟨A2, hA2⟩ : ∃ x, adHi zs ys i c h k dn = x := ⟨_, rfl⟩
    obtain ⟨ev, hev⟩ : ∃ x, evV zs ys i c h k dn = x := ⟨_, rfl⟩
    obtain ⟨⟨k1, d1, l1, h1⟩, hN⟩ : ∃ x, nxt zs ys i c h ⟨k, dn, lo, hi⟩ = x := ⟨_, rfl⟩
    obtain ⟨N, hB⟩ : ∃ x, nxB zs ys i c h ⟨k, dn, lo, hi⟩ = x := ⟨_, rfl⟩
    obtain ⟨L, hL⟩ : ∃ x, lk k dn = x := ⟨_, rfl⟩
    obtain ⟨F, hF⟩ : ∃ x, fk k dn = x := ⟨_, rfl⟩
    rw [hA1] at KP hbad hnl a1 a2
    rw [hA2] at KP hbad hnl a2 a3
    rw [hev] at KP hnx HT0
    rw [hN] at hnl hnx HT0
    rw [hB] at hbad hnl HT0
    rw [hL] at KL KP KE
    rw [hF] at KE hnx
    dsimp only at hnx HT0 hnl
    clear hA1 hA2 hev hN hB hL hF hps eF hl hn hf hfl hin hp r o kl h12
    have e1 : IntKind.wrap .i64 (lo + A1) = lo + A1 := IntWalk.i64_in _ (by omega)
    have e2 : IntKind.wrap .i64 (hi + A2) = hi + A2 := IntWalk.i64_in _ (by omega)
    clear a1 a2 a3 q0 q1 q2
    cases hv : (valB A1 && valB A2)
    case false =>
      rw [hv] at KP hbad
      have hN0 := hbad rfl
      subst hN0
      replace HT0 := HT0.trans (if_neg (by simp))
      have KP2 := KP.out
      simp only [Bool.false_eq_true, if_false] at KP2
      replace KP := Lib.hid KP2
      have HT := Lib.hid HT0
      clear KP2 HT0 hbad hnl hnx hv KE e1 e2
      go_enter Tryz.func47, Tryz.ntmps47
      go_wp2_with fail
      generalize hW : World.alloc _ _ = W
      have bP : Bk W (w.heap.size) #[.slice a zs.length ca, .slice b ys.length cb] 26 := by rw [← hW]; repeat (first | (refine Bk.new' ?_; (simp; done)) | refine Bk.alloc ?_ _)
      have bD : Bk W (w.heap.size + 1) #[.int .i64 c, .int .i64 s, .int .i64 h] 28 := by rw [← hW]; repeat (first | (refine Bk.new' ?_; (simp; done)) | refine Bk.alloc ?_ _)
      have bS : Bk W (w.heap.size + 1 + 1) #[.int .i64 (k : Int), .bool dn, .int .i64 lo, .int .i64 hi] 38 := by rw [← hW]; repeat (first | (refine Bk.new' ?_; (simp; done)) | refine Bk.alloc ?_ _)
      have bR : Bk W (w.heap.size + 1 + 1 + 1) #[.int .i64 0, .bool false, .int .i64 0, .int .i64 0] 38 := by rw [← hW]; repeat (first | (refine Bk.new' ?_; (simp; done)) | refine Bk.alloc ?_ _)
      have HB : Hid (Below w.heap.size w W) := Lib.hid (by rw [← hW]; exact (by repeat (first | exact Below.refl _ _ | (refine Below.alloc ?_ (by simp <;> omega) _) | (refine Below.setCell ?_ (by simp <;> omega) _) | (refine Below.drew ?_) | (refine bel_drewN ?_ _))))
      clear hW
      (with_reducible refine Calls.mono (KL.out _ HB.out) ?_)
      rintro e w1 ⟨rfl, hb⟩
      replace bP := bP.on hb
      replace bD := bD.on hb
      replace bS := bS.on hb
      replace bR := bR.on hb
      replace HB := Lib.hid (bel_end HB.out hb)
      clear hb
      have bS_0 := bS.cell 0 rfl
      have bS_1 := bS.cell 1 rfl
      have bS_2 := bS.cell 2 rfl
      have bS_3 := bS.cell 3 rfl
      have bS_l := bS.lt
      go_upto_region 3 with fail
      generalize hW : World.alloc _ _ = W2
      obtain ⟨g, hg⟩ : ∃ g, g = w1.heap.size := ⟨_, rfl⟩
      have bO : Bk W2 g #[.int .i64 (k : Int), .bool dn, .int .i64 lo, .int .i64 hi] 38 := by rw [← hW]; exact Bk.new' hg
      have hgl : w.heap.size + 1 + 1 + 1 < g := by have := bR.lt; omega
      have hb : Below w1.heap.size w1 W2 := by rw [← hW]; exact (Below.refl _ _).alloc (Nat.le_refl _) _
      try rw [← hg]
      clear hW hg
      clear bS_0 bS_1 bS_2 bS_3 bS_l
      replace bP := bP.on hb
      replace bD := bD.on hb
      replace bS := bS.on hb
      replace bR := bR.on hb
      replace HB := Lib.hid (bel_end HB.out hb)
      clear hb
      have bP_0 := bP.cell 0 rfl
      have bP_1 := bP.cell 1 rfl
      have bP_l := bP.lt
      have bD_0 := bD.cell 0 rfl
      have bD_1 := bD.cell 1 rfl
      have bD_2 := bD.cell 2 rfl
      have bD_l := bD.lt
      have bS_0 := bS.cell 0 rfl
      have bS_1 := bS.cell 1 rfl
      have bS_2 := bS.cell 2 rfl
      have bS_3 := bS.cell 3 rfl
      have bS_l := bS.lt
      go_wp2_with fail
      clear bP_0 bP_1 bP_l
      clear bD_0 bD_1 bD_2 bD_l
      clear bS_0 bS_1 bS_2 bS_3 bS_l
      (with_reducible refine Calls.mono (KP.out _ HB.out) ?_)
      rintro e w3 ⟨rfl, hb⟩
      replace bS := bS.on hb
      replace bR := bR.on hb
      replace bO := bO.on hb
      replace HB := Lib.hid (bel_end HB.out hb)
      clear hb
      have bR_0 := bR.cell 0 rfl
      have bR_1 := bR.cell 1 rfl
      have bR_2 := bR.cell 2 rfl
      have bR_3 := bR.cell 3 rfl
      have bR_f0 := bR.frozen 0
      have bR_f1 := bR.frozen 1
      have bR_f2 := bR.frozen 2
      have bR_f3 := bR.frozen 3
      have bR_l := bR.lt
      go_upto_region 9 with fail
      generalize hW : World.alloc _ _ = W5
      have hb : Below w3.heap.size w3 W5 := by rw [← hW]; exact (Below.refl _ _).alloc (Nat.le_refl _) _
      clear hW
      clear bR_0 bR_1 bR_2 bR_3 bR_f0 bR_f1 bR_f2 bR_f3 bR_l
      replace bR := bR.on hb
      replace HB := Lib.hid (bel_end HB.out hb)
      clear hb
      have bR_0 := bR.cell 0 rfl
      have bR_1 := bR.cell 1 rfl
      have bR_2 := bR.cell 2 rfl
      have bR_3 := bR.cell 3 rfl
      have bR_f0 := bR.frozen 0
      have bR_f1 := bR.frozen 1
      have bR_f2 := bR.frozen 2
      have bR_f3 := bR.frozen 3
      have bR_l := bR.lt
      go_wp2
      exact bodyPost_ret (v := .tuple #[.agg #[.int .i64 0, .bool false, .int .i64 0, .int .i64 0], .int .i64 0, .int .i64 3]) (by simp [results, Tryz.results47, go_sem, bR_0, bR_1, bR_2, bR_3]) rfl ⟨resR HT.out, (by first | exact HB.out | exact ((((HB.out.setCell (p := ⟨w.heap.size + 1 + 1 + 1, 0, none⟩) (by dsimp only; omega) _).setCell (p := ⟨w.heap.size + 1 + 1 + 1, 1, none⟩) (by dsimp only; omega) _).setCell (p := ⟨w.heap.size + 1 + 1 + 1, 2, none⟩) (by dsimp only; omega) _).setCell (p := ⟨w.heap.size + 1 + 1 + 1, 3, none⟩) (by dsimp only; omega) _))⟩
    case true =>
      rw [hv] at KP
      have KP2 := KP.out
      simp only [if_true] at KP2
      replace KP := Lib.hid KP2
      clear KP2 hv hbad
      have KM : Hid (∀ W : World, Calls Tryz.prog 48 #[.int .i64 (lo + A1), .int .i64 (hi + A2)] W fun e w' => e = .returned (.tuple #[.agg #[.int .i64 (lim (lo + A1) (hi + A2)).1, .int .i64 (lim (lo + A1) (hi + A2)).2.1], .int .i64 (lim (lo + A1) (hi + A2)).2.2]) ∧ Below W.heap.size W w') := Lib.hid (fun W => llm_any (lo + A1) (hi + A2) W)
      rw [hnl] at KM
      clear hnl
      cases N
      case false =>
        replace HT0 := HT0.trans (if_neg (by simp))
        have KM2 := KM.out
        simp only [Bool.false_eq_true, if_false] at KM2
        replace KM := Lib.hid KM2
        have HT := Lib.hid HT0
        clear KM2 HT0 hnx KE
        go_enter Tryz.func47, Tryz.ntmps47
        go_wp2_with fail
        generalize hW : World.alloc _ _ = W
        have bP : Bk W (w.heap.size) #[.slice a zs.length ca, .slice b ys.length cb] 26 := by rw [← hW]; repeat (first | (refine Bk.new' ?_; (simp; done)) | refine Bk.alloc ?_ _)
        have bD : Bk W (w.heap.size + 1) #[.int .i64 c, .int .i64 s, .int .i64 h] 28 := by rw [← hW]; repeat (first | (refine Bk.new' ?_; (simp; done)) | refine Bk.alloc ?_ _)
        have bS : Bk W (w.heap.size + 1 + 1) #[.int .i64 (k : Int), .bool dn, .int .i64 lo, .int .i64 hi] 38 := by rw [← hW]; repeat (first | (refine Bk.new' ?_; (simp; done)) | refine Bk.alloc ?_ _)
        have bR : Bk W (w.heap.size + 1 + 1 + 1) #[.int .i64 0, .bool false, .int .i64 0, .int .i64 0] 38 := by rw [← hW]; repeat (first | (refine Bk.new' ?_; (simp; done)) | refine Bk.alloc ?_ _)
        have HB : Hid (Below w.heap.size w W) := Lib.hid (by rw [← hW]; exact (by repeat (first | exact Below.refl _ _ | (refine Below.alloc ?_ (by simp <;> omega) _) | (refine Below.setCell ?_ (by simp <;> omega) _) | (refine Below.drew ?_) | (refine bel_drewN ?_ _))))
        clear hW
        (with_reducible refine Calls.mono (KL.out _ HB.out) ?_)
        rintro e w1 ⟨rfl, hb⟩
        replace bP := bP.on hb
        replace bD := bD.on hb
        replace bS := bS.on hb
        replace bR := bR.on hb
        replace HB := Lib.hid (bel_end HB.out hb)
        clear hb
        have bS_0 := bS.cell 0 rfl
        have bS_1 := bS.cell 1 rfl
        have bS_2 := bS.cell 2 rfl
        have bS_3 := bS.cell 3 rfl
        have bS_l := bS.lt
        go_upto_region 3 with fail
        generalize hW : World.alloc _ _ = W2
        obtain ⟨g, hg⟩ : ∃ g, g = w1.heap.size := ⟨_, rfl⟩
        have bO : Bk W2 g #[.int .i64 (k : Int), .bool dn, .int .i64 lo, .int .i64 hi] 38 := by rw [← hW]; exact Bk.new' hg
        have hgl : w.heap.size + 1 + 1 + 1 < g := by have := bR.lt; omega
        have hb : Below w1.heap.size w1 W2 := by rw [← hW]; exact (Below.refl _ _).alloc (Nat.le_refl _) _
        try rw [← hg]
        clear hW hg
        clear bS_0 bS_1 bS_2 bS_3 bS_l
        replace bP := bP.on hb
        replace bD := bD.on hb
        replace bS := bS.on hb
        replace bR := bR.on hb
        replace HB := Lib.hid (bel_end HB.out hb)
        clear hb
        have bP_0 := bP.cell 0 rfl
        have bP_1 := bP.cell 1 rfl
        have bP_l := bP.lt
        have bD_0 := bD.cell 0 rfl
        have bD_1 := bD.cell 1 rfl
        have bD_2 := bD.cell 2 rfl
        have bD_l := bD.lt
        have bS_0 := bS.cell 0 rfl
        have bS_1 := bS.cell 1 rfl
        have bS_2 := bS.cell 2 rfl
        have bS_3 := bS.cell 3 rfl
        have bS_l := bS.lt
        go_wp2_with fail
        clear bP_0 bP_1 bP_l
        clear bD_0 bD_1 bD_2 bD_l
        clear bS_0 bS_1 bS_2 bS_3 bS_l
        (with_reducible refine Calls.mono (KP.out _ HB.out) ?_)
        rintro e w3 ⟨rfl, hb⟩
        replace bS := bS.on hb
        replace bR := bR.on hb
        replace bO := bO.on hb
        replace HB := Lib.hid (bel_end HB.out hb)
        clear hb
        go_upto_region 9 with fail
        generalize hW : World.alloc _ _ = W5
        obtain ⟨g5, hg⟩ : ∃ g, g = w3.heap.size := ⟨_, rfl⟩
        have bA : Bk W5 g5 #[.int .i64 A1, .int .i64 A2] 34 := by rw [← hW]; exact Bk.new' hg
        have hgl5 : g < g5 := by have := bO.lt; omega
        have hb : Below w3.heap.size w3 W5 := by rw [← hW]; exact (Below.refl _ _).alloc (Nat.le_refl _) _
        try rw [← hg]
        clear hW hg
        replace bS := bS.on hb
        replace bR := bR.on hb
        replace bO := bO.on hb
        replace HB := Lib.hid (bel_end HB.out hb)
        clear hb
        have bS_0 := bS.cell 0 rfl
        have bS_1 := bS.cell 1 rfl
        have bS_2 := bS.cell 2 rfl
        have bS_3 := bS.cell 3 rfl
        have bS_l := bS.lt
        have bA_0 := bA.cell 0 rfl
        have bA_1 := bA.cell 1 rfl
        have bA_l := bA.lt
        go_wp2_with fail
        clear bS_0 bS_1 bS_2 bS_3 bS_l
        clear bA_0 bA_1 bA_l
        (with_reducible refine Calls.mono (KM.out _) ?_)
        rintro e w6 ⟨rfl, hb⟩
        replace bS := bS.on hb
        replace bR := bR.on hb
        replace bO := bO.on hb
        replace HB := Lib.hid (bel_end HB.out hb)
        clear hb
        go_upto_region 12 with fail
        generalize hW : World.alloc _ _ = W7
        have hb : Below w6.heap.size w6 W7 := by rw [← hW]; exact (Below.refl _ _).alloc (Nat.le_refl _) _
        clear hW
        replace bR := bR.on hb
        replace HB := Lib.hid (bel_end HB.out hb)
        clear hb
        have bR_0 := bR.cell 0 rfl
        have bR_1 := bR.cell 1 rfl
        have bR_2 := bR.cell 2 rfl
        have bR_3 := bR.cell 3 rfl
        have bR_f0 := bR.frozen 0
        have bR_f1 := bR.frozen 1
        have bR_f2 := bR.frozen 2
        have bR_f3 := bR.frozen 3
        have bR_l := bR.lt
        go_wp2
        exact bodyPost_ret (v := .tuple #[.agg #[.int .i64 0, .bool false, .int .i64 0, .int .i64 0], .int .i64 0, .int .i64 3]) (by simp [results, Tryz.results47, go_sem, bR_0, bR_1, bR_2, bR_3]) rfl ⟨resR HT.out, (by first | exact HB.out | exact ((((HB.out.setCell (p := ⟨w.heap.size + 1 + 1 + 1, 0, none⟩) (by dsimp only; omega) _).setCell (p := ⟨w.heap.size + 1 + 1 + 1, 1, none⟩) (by dsimp only; omega) _).setCell (p := ⟨w.heap.size + 1 + 1 + 1, 2, none⟩) (by dsimp only; omega) _).setCell (p := ⟨w.heap.size + 1 + 1 + 1, 3, none⟩) (by dsimp only; omega) _))⟩
      case true =>
        replace HT0 := HT0.trans (if_pos rfl)
        have KM2 := KM.out
        simp only [if_true] at KM2
        replace KM := Lib.hid KM2
        clear KM2
        rcases hnx with ⟨v1, v2, v3⟩ | ⟨v1, v2, v3⟩
        · subst v1
          rw [v2, v3] at HT0
          clear v2 v3
          have HT := Lib.hid HT0
          clear HT0
          go_enter Tryz.func47, Tryz.ntmps47
          go_wp2_with fail
          generalize hW : World.alloc _ _ = W
          have bP : Bk W (w.heap.size) #[.slice a zs.length ca, .slice b ys.length cb] 26 := by rw [← hW]; repeat (first | (refine Bk.new' ?_; (simp; done)) | refine Bk.alloc ?_ _)
          have bD : Bk W (w.heap.size + 1) #[.int .i64 c, .int .i64 s, .int .i64 h] 28 := by rw [← hW]; repeat (first | (refine Bk.new' ?_; (simp; done)) | refine Bk.alloc ?_ _)
          have bS : Bk W (w.heap.size + 1 + 1) #[.int .i64 (k : Int), .bool dn, .int .i64 lo, .int .i64 hi] 38 := by rw [← hW]; repeat (first | (refine Bk.new' ?_; (simp; done)) | refine Bk.alloc ?_ _)
          have bR : Bk W (w.heap.size + 1 + 1 + 1) #[.int .i64 0, .bool false, .int .i64 0, .int .i64 0] 38 := by rw [← hW]; repeat (first | (refine Bk.new' ?_; (simp; done)) | refine Bk.alloc ?_ _)
          have HB : Hid (Below w.heap.size w W) := Lib.hid (by rw [← hW]; exact (by repeat (first | exact Below.refl _ _ | (refine Below.alloc ?_ (by simp <;> omega) _) | (refine Below.setCell ?_ (by simp <;> omega) _) | (refine Below.drew ?_) | (refine bel_drewN ?_ _))))
          clear hW
          (with_reducible refine Calls.mono (KL.out _ HB.out) ?_)
          rintro e w1 ⟨rfl, hb⟩
          replace bP := bP.on hb
          replace bD := bD.on hb
          replace bS := bS.on hb
          replace bR := bR.on hb
          replace HB := Lib.hid (bel_end HB.out hb)
          clear hb
          have bS_0 := bS.cell 0 rfl
          have bS_1 := bS.cell 1 rfl
          have bS_2 := bS.cell 2 rfl
          have bS_3 := bS.cell 3 rfl
          have bS_l := bS.lt
          go_upto_region 3 with fail
          generalize hW : World.alloc _ _ = W2
          obtain ⟨g, hg⟩ : ∃ g, g = w1.heap.size := ⟨_, rfl⟩
          have bO : Bk W2 g #[.int .i64 (k : Int), .bool dn, .int .i64 lo, .int .i64 hi] 38 := by rw [← hW]; exact Bk.new' hg
          have hgl : w.heap.size + 1 + 1 + 1 < g := by have := bR.lt; omega
          have hb : Below w1.heap.size w1 W2 := by rw [← hW]; exact (Below.refl _ _).alloc (Nat.le_refl _) _
          try rw [← hg]
          clear hW hg
          clear bS_0 bS_1 bS_2 bS_3 bS_l
          replace bP := bP.on hb
          replace bD := bD.on hb
          replace bS := bS.on hb
          replace bR := bR.on hb
          replace HB := Lib.hid (bel_end HB.out hb)
          clear hb
          have bP_0 := bP.cell 0 rfl
          have bP_1 := bP.cell 1 rfl
          have bP_l := bP.lt
          have bD_0 := bD.cell 0 rfl
          have bD_1 := bD.cell 1 rfl
          have bD_2 := bD.cell 2 rfl
          have bD_l := bD.lt
          have bS_0 := bS.cell 0 rfl
          have bS_1 := bS.cell 1 rfl
          have bS_2 := bS.cell 2 rfl
          have bS_3 := bS.cell 3 rfl
          have bS_l := bS.lt
          go_wp2_with fail
          clear bP_0 bP_1 bP_l
          clear bD_0 bD_1 bD_2 bD_l
          clear bS_0 bS_1 bS_2 bS_3 bS_l
          (with_reducible refine Calls.mono (KP.out _ HB.out) ?_)
          rintro e w3 ⟨rfl, hb⟩
          replace bS := bS.on hb
          replace bR := bR.on hb
          replace bO := bO.on hb
          replace HB := Lib.hid (bel_end HB.out hb)
          clear hb
          go_upto_region 9 with fail
          generalize hW : World.alloc _ _ = W5
          obtain ⟨g5, hg⟩ : ∃ g, g = w3.heap.size := ⟨_, rfl⟩
          have bA : Bk W5 g5 #[.int .i64 A1, .int .i64 A2] 34 := by rw [← hW]; exact Bk.new' hg
          have hgl5 : g < g5 := by have := bO.lt; omega
          have hb : Below w3.heap.size w3 W5 := by rw [← hW]; exact (Below.refl _ _).alloc (Nat.le_refl _) _
          try rw [← hg]
          clear hW hg
          replace bS := bS.on hb
          replace bR := bR.on hb
          replace bO := bO.on hb
          replace HB := Lib.hid (bel_end HB.out hb)
          clear hb
          have bS_0 := bS.cell 0 rfl
          have bS_1 := bS.cell 1 rfl
          have bS_2 := bS.cell 2 rfl
          have bS_3 := bS.cell 3 rfl
          have bS_l := bS.lt
          have bA_0 := bA.cell 0 rfl
          have bA_1 := bA.cell 1 rfl
          have bA_l := bA.lt
          go_wp2_with fail
          clear bS_0 bS_1 bS_2 bS_3 bS_l
          clear bA_0 bA_1 bA_l
          (with_reducible refine Calls.mono (KM.out _) ?_)
          rintro e w6 ⟨rfl, hb⟩
          replace bS := bS.on hb
          replace bR := bR.on hb
          replace bO := bO.on hb
          replace HB := Lib.hid (bel_end HB.out hb)
          clear hb
          go_upto_region 12 with fail
          generalize hW : World.alloc _ _ = W7
          obtain ⟨g7, hg⟩ : ∃ g, g = w6.heap.size := ⟨_, rfl⟩
          have bM : Bk W7 g7 #[.int .i64 l1, .int .i64 h1] 34 := by rw [← hW]; exact Bk.new' hg
          have hgl7 : g < g7 := by have := bO.lt; omega
          have hb : Below w6.heap.size w6 W7 := by rw [← hW]; exact (Below.refl _ _).alloc (Nat.le_refl _) _
          try rw [← hg]
          clear hW hg
          replace bS := bS.on hb
          replace bR := bR.on hb
          replace bO := bO.on hb
          replace HB := Lib.hid (bel_end HB.out hb)
          clear hb
          have bM_0 := bM.cell 0 rfl
          have bM_1 := bM.cell 1 rfl
          have bM_l := bM.lt
          have bO_0 := bO.cell 0 rfl
          have bO_1 := bO.cell 1 rfl
          have bO_2 := bO.cell 2 rfl
          have bO_3 := bO.cell 3 rfl
          have bO_f0 := bO.frozen 0
          have bO_f1 := bO.frozen 1
          have bO_f2 := bO.frozen 2
          have bO_f3 := bO.frozen 3
          have bO_l := bO.lt
          go_upto_region 15 with fail
          generalize hW : World.setCell _ _ _ = W8
          have hb : Below w.heap.size w W8 := by rw [← hW]; exact (HB.out.setCell (p := ⟨g, 2, none⟩) (by dsimp only; omega) _).setCell (p := ⟨g, 3, none⟩) (by dsimp only; omega) _
          replace bS : Bk W8 (w.heap.size + 1 + 1) #[.int .i64 (k : Int), .bool dn, .int .i64 lo, .int .i64 hi] 38 := by rw [← hW]; exact (bS.other (by omega) 2 _).other (by omega) 3 _
          replace bR : Bk W8 (w.heap.size + 1 + 1 + 1) #[.int .i64 0, .bool false, .int .i64 0, .int .i64 0] 38 := by rw [← hW]; exact (bR.other (by omega) 2 _).other (by omega) 3 _
          clear bM_0 bM_1 bM_l
          clear bO_0 bO_1 bO_2 bO_3 bO_f0 bO_f1 bO_f2 bO_f3 bO_l
          replace bO : Bk W8 g #[.int .i64 (k : Int), .bool dn, .int .i64 l1, .int .i64 h1] 38 := by rw [← hW]; exact (bO.set 2 _ rfl).set 3 _ rfl
          clear hW
          replace HB := Lib.hid hb
          clear hb
          have bS_0 := bS.cell 0 rfl
          have bS_1 := bS.cell 1 rfl
          have bS_2 := bS.cell 2 rfl
          have bS_3 := bS.cell 3 rfl
          have bS_l := bS.lt
          have bO_0 := bO.cell 0 rfl
          have bO_1 := bO.cell 1 rfl
          have bO_2 := bO.cell 2 rfl
          have bO_3 := bO.cell 3 rfl
          have bO_f0 := bO.frozen 0
          have bO_f1 := bO.frozen 1
          have bO_f2 := bO.frozen 2
          have bO_f3 := bO.frozen 3
          have bO_l := bO.lt
          go_upto_region 19 with (go_at_call 68; (with_reducible refine Calls.mono (KE.out _) ?_); rintro e w' ⟨rfl, hw⟩; subst hw)
          generalize hW : World.setCell _ _ _ = W9
          have hb : Below w.heap.size w W9 := by rw [← hW]; exact HB.out.setCell (p := ⟨g, 0, none⟩) (by dsimp only; omega) _
          replace bR : Bk W9 (w.heap.size + 1 + 1 + 1) #[.int .i64 0, .bool false, .int .i64 0, .int .i64 0] 38 := by rw [← hW]; exact bR.other (by omega) 0 _
          clear bS_0 bS_1 bS_2 bS_3 bS_l
          clear bO_0 bO_1 bO_2 bO_3 bO_f0 bO_f1 bO_f2 bO_f3 bO_l
          replace bO : Bk W9 g #[.int .i64 (F : Int), .bool dn, .int .i64 l1, .int .i64 h1] 38 := by rw [← hW]; exact bO.set 0 _ rfl
          clear hW
          replace HB := Lib.hid hb
          clear hb
          have bO_0 := bO.cell 0 rfl
          have bO_1 := bO.cell 1 rfl
          have bO_2 := bO.cell 2 rfl
          have bO_3 := bO.cell 3 rfl
          have bO_l := bO.lt
          have bR_0 := bR.cell 0 rfl
          have bR_1 := bR.cell 1 rfl
          have bR_2 := bR.cell 2 rfl
          have bR_3 := bR.cell 3 rfl
          have bR_f0 := bR.frozen 0
          have bR_f1 := bR.frozen 1
          have bR_f2 := bR.frozen 2
          have bR_f3 := bR.frozen 3
          have bR_l := bR.lt
          go_wp2
          exact bodyPost_ret (v := .tuple #[.agg #[.int .i64 (F : Int), .bool dn, .int .i64 l1, .int .i64 h1], .int .i64 1, .int .i64 0]) (by simp [results, Tryz.results47, go_sem, bR_0, bR_1, bR_2, bR_3]) rfl ⟨resR HT.out, (by first | exact HB.out | exact ((((HB.out.setCell (p := ⟨w.heap.size + 1 + 1 + 1, 0, none⟩) (by dsimp only; omega) _).setCell (p := ⟨w.heap.size + 1 + 1 + 1, 1, none⟩) (by dsimp only; omega) _).setCell (p := ⟨w.heap.size + 1 + 1 + 1, 2, none⟩) (by dsimp only; omega) _).setCell (p := ⟨w.heap.size + 1 + 1 + 1, 3, none⟩) (by dsimp only; omega) _))⟩
        · subst v1
          rw [v2, v3] at HT0
          clear v2 v3
          have HT := Lib.hid HT0
          clear HT0 KE
          go_enter Tryz.func47, Tryz.ntmps47
          go_wp2_with fail
          generalize hW : World.alloc _ _ = W
          have bP : Bk W (w.heap.size) #[.slice a zs.length ca, .slice b ys.length cb] 26 := by rw [← hW]; repeat (first | (refine Bk.new' ?_; (simp; done)) | refine Bk.alloc ?_ _)
          have bD : Bk W (w.heap.size + 1) #[.int .i64 c, .int .i64 s, .int .i64 h] 28 := by rw [← hW]; repeat (first | (refine Bk.new' ?_; (simp; done)) | refine Bk.alloc ?_ _)
          have bS : Bk W (w.heap.size + 1 + 1) #[.int .i64 (k : Int), .bool dn, .int .i64 lo, .int .i64 hi] 38 := by rw [← hW]; repeat (first | (refine Bk.new' ?_; (simp; done)) | refine Bk.alloc ?_ _)
          have bR : Bk W (w.heap.size + 1 + 1 + 1) #[.int .i64 0, .bool false, .int .i64 0, .int .i64 0] 38 := by rw [← hW]; repeat (first | (refine Bk.new' ?_; (simp; done)) | refine Bk.alloc ?_ _)
          have HB : Hid (Below w.heap.size w W) := Lib.hid (by rw [← hW]; exact (by repeat (first | exact Below.refl _ _ | (refine Below.alloc ?_ (by simp <;> omega) _) | (refine Below.setCell ?_ (by simp <;> omega) _) | (refine Below.drew ?_) | (refine bel_drewN ?_ _))))
          clear hW
          (with_reducible refine Calls.mono (KL.out _ HB.out) ?_)
          rintro e w1 ⟨rfl, hb⟩
          replace bP := bP.on hb
          replace bD := bD.on hb
          replace bS := bS.on hb
          replace bR := bR.on hb
          replace HB := Lib.hid (bel_end HB.out hb)
          clear hb
          have bS_0 := bS.cell 0 rfl
          have bS_1 := bS.cell 1 rfl
          have bS_2 := bS.cell 2 rfl
          have bS_3 := bS.cell 3 rfl
          have bS_l := bS.lt
          go_upto_region 3 with fail
          generalize hW : World.alloc _ _ = W2
          obtain ⟨g, hg⟩ : ∃ g, g = w1.heap.size := ⟨_, rfl⟩
          have bO : Bk W2 g #[.int .i64 (k : Int), .bool dn, .int .i64 lo, .int .i64 hi] 38 := by rw [← hW]; exact Bk.new' hg
          have hgl : w.heap.size + 1 + 1 + 1 < g := by have := bR.lt; omega
          have hb : Below w1.heap.size w1 W2 := by rw [← hW]; exact (Below.refl _ _).alloc (Nat.le_refl _) _
          try rw [← hg]
          clear hW hg
          clear bS_0 bS_1 bS_2 bS_3 bS_l
          replace bP := bP.on hb
          replace bD := bD.on hb
          replace bS := bS.on hb
          replace bR := bR.on hb
          replace HB := Lib.hid (bel_end HB.out hb)
          clear hb
          have bP_0 := bP.cell 0 rfl
          have bP_1 := bP.cell 1 rfl
          have bP_l := bP.lt
          have bD_0 := bD.cell 0 rfl
          have bD_1 := bD.cell 1 rfl
          have bD_2 := bD.cell 2 rfl
          have bD_l := bD.lt
          have bS_0 := bS.cell 0 rfl
          have bS_1 := bS.cell 1 rfl
          have bS_2 := bS.cell 2 rfl
          have bS_3 := bS.cell 3 rfl
          have bS_l := bS.lt
          go_wp2_with fail
          clear bP_0 bP_1 bP_l
          clear bD_0 bD_1 bD_2 bD_l
          clear bS_0 bS_1 bS_2 bS_3 bS_l
          (with_reducible refine Calls.mono (KP.out _ HB.out) ?_)
          rintro e w3 ⟨rfl, hb⟩
          replace bS := bS.on hb
          replace bR := bR.on hb
          replace bO := bO.on hb
          replace HB := Lib.hid (bel_end HB.out hb)
          clear hb
          go_upto_region 9 with fail
          generalize hW : World.alloc _ _ = W5
          obtain ⟨g5, hg⟩ : ∃ g, g = w3.heap.size := ⟨_, rfl⟩
          have bA : Bk W5 g5 #[.int .i64 A1, .int .i64 A2] 34 := by rw [← hW]; exact Bk.new' hg
          have hgl5 : g < g5 := by have := bO.lt; omega
          have hb : Below w3.heap.size w3 W5 := by rw [← hW]; exact (Below.refl _ _).alloc (Nat.le_refl _) _
          try rw [← hg]
          clear hW hg
          replace bS := bS.on hb
          replace bR := bR.on hb
          replace bO := bO.on hb
          replace HB := Lib.hid (bel_end HB.out hb)
          clear hb
          have bS_0 := bS.cell 0 rfl
          have bS_1 := bS.cell 1 rfl
          have bS_2 := bS.cell 2 rfl
          have bS_3 := bS.cell 3 rfl
          have bS_l := bS.lt
          have bA_0 := bA.cell 0 rfl
          have bA_1 := bA.cell 1 rfl
          have bA_l := bA.lt
          go_wp2_with fail
          clear bS_0 bS_1 bS_2 bS_3 bS_l
          clear bA_0 bA_1 bA_l
          (with_reducible refine Calls.mono (KM.out _) ?_)
          rintro e w6 ⟨rfl, hb⟩
          replace bS := bS.on hb
          replace bR := bR.on hb
          replace bO := bO.on hb
          replace HB := Lib.hid (bel_end HB.out hb)
          clear hb
          go_upto_region 12 with fail
          generalize hW : World.alloc _ _ = W7
          obtain ⟨g7, hg⟩ : ∃ g, g = w6.heap.size := ⟨_, rfl⟩
          have bM : Bk W7 g7 #[.int .i64 l1, .int .i64 h1] 34 := by rw [← hW]; exact Bk.new' hg
          have hgl7 : g < g7 := by have := bO.lt; omega
          have hb : Below w6.heap.size w6 W7 := by rw [← hW]; exact (Below.refl _ _).alloc (Nat.le_refl _) _
          try rw [← hg]
          clear hW hg
          replace bS := bS.on hb
          replace bR := bR.on hb
          replace bO := bO.on hb
          replace HB := Lib.hid (bel_end HB.out hb)
          clear hb
          have bM_0 := bM.cell 0 rfl
          have bM_1 := bM.cell 1 rfl
          have bM_l := bM.lt
          have bO_0 := bO.cell 0 rfl
          have bO_1 := bO.cell 1 rfl
          have bO_2 := bO.cell 2 rfl
          have bO_3 := bO.cell 3 rfl
          have bO_f0 := bO.frozen 0
          have bO_f1 := bO.frozen 1
          have bO_f2 := bO.frozen 2
          have bO_f3 := bO.frozen 3
          have bO_l := bO.lt
          go_upto_region 15 with fail
          generalize hW : World.setCell _ _ _ = W8
          have hb : Below w.heap.size w W8 := by rw [← hW]; exact (HB.out.setCell (p := ⟨g, 2, none⟩) (by dsimp only; omega) _).setCell (p := ⟨g, 3, none⟩) (by dsimp only; omega) _
          replace bS : Bk W8 (w.heap.size + 1 + 1) #[.int .i64 (k : Int), .bool dn, .int .i64 lo, .int .i64 hi] 38 := by rw [← hW]; exact (bS.other (by omega) 2 _).other (by omega) 3 _
          replace bR : Bk W8 (w.heap.size + 1 + 1 + 1) #[.int .i64 0, .bool false, .int .i64 0, .int .i64 0] 38 := by rw [← hW]; exact (bR.other (by omega) 2 _).other (by omega) 3 _
          clear bM_0 bM_1 bM_l
          clear bO_0 bO_1 bO_2 bO_3 bO_f0 bO_f1 bO_f2 bO_f3 bO_l
          replace bO : Bk W8 g #[.int .i64 (k : Int), .bool dn, .int .i64 l1, .int .i64 h1] 38 := by rw [← hW]; exact (bO.set 2 _ rfl).set 3 _ rfl
          clear hW
          replace HB := Lib.hid hb
          clear hb
          have bS_0 := bS.cell 0 rfl
          have bS_1 := bS.cell 1 rfl
          have bS_2 := bS.cell 2 rfl
          have bS_3 := bS.cell 3 rfl
          have bS_l := bS.lt
          have bO_0 := bO.cell 0 rfl
          have bO_1 := bO.cell 1 rfl
          have bO_2 := bO.cell 2 rfl
          have bO_3 := bO.cell 3 rfl
          have bO_f0 := bO.frozen 0
          have bO_f1 := bO.frozen 1
          have bO_f2 := bO.frozen 2
          have bO_f3 := bO.frozen 3
          have bO_l := bO.lt
          go_upto_region 17 with fail
          generalize hW : World.setCell _ _ _ = W9
          have hb : Below w.heap.size w W9 := by rw [← hW]; exact HB.out.setCell (p := ⟨g, 1, none⟩) (by dsimp only; omega) _
          replace bR : Bk W9 (w.heap.size + 1 + 1 + 1) #[.int .i64 0, .bool false, .int .i64 0, .int .i64 0] 38 := by rw [← hW]; exact bR.other (by omega) 1 _
          clear bS_0 bS_1 bS_2 bS_3 bS_l
          clear bO_0 bO_1 bO_2 bO_3 bO_f0 bO_f1 bO_f2 bO_f3 bO_l
          replace bO : Bk W9 g #[.int .i64 (k : Int), .bool (!dn), .int .i64 l1, .int .i64 h1] 38 := by rw [← hW]; exact bO.set 1 _ rfl
          clear hW
          replace HB := Lib.hid hb
          clear hb
          have bO_0 := bO.cell 0 rfl
          have bO_1 := bO.cell 1 rfl
          have bO_2 := bO.cell 2 rfl
          have bO_3 := bO.cell 3 rfl
          have bO_l := bO.lt
          have bR_0 := bR.cell 0 rfl
          have bR_1 := bR.cell 1 rfl
          have bR_2 := bR.cell 2 rfl
          have bR_3 := bR.cell 3 rfl
          have bR_f0 := bR.frozen 0
          have bR_f1 := bR.frozen 1
          have bR_f2 := bR.frozen 2
          have bR_f3 := bR.frozen 3
          have bR_l := bR.lt
          go_wp2
          exact bodyPost_ret (v := .tuple #[.agg #[.int .i64 (k : Int), .bool (!dn), .int .i64 l1, .int .i64 h1], .int .i64 2, .int .i64 0]) (by simp [results, Tryz.results47, go_sem, bR_0, bR_1, bR_2, bR_3]) rfl ⟨resR HT.out, (by first | exact HB.out | exact ((((HB.out.setCell (p := ⟨w.heap.size + 1 + 1 + 1, 0, none⟩) (by dsimp only; omega) _).setCell (p := ⟨w.heap.size + 1 + 1 + 1, 1, none⟩) (by dsimp only; omega) _).setCell (p := ⟨w.heap.size + 1 + 1 + 1, 2, none⟩) (by dsimp only; omega) _).setCell (p := ⟨w.heap.size + 1 + 1 + 1, 3, none⟩) (by dsimp only; omega) _))⟩
end Go.Proofs.YtgecbfbmmbfnmaaGreat
