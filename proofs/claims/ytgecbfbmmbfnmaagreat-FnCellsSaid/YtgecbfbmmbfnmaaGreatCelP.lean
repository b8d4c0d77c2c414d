import Derived.Test.YtgecbfbmmbfnmaaGreatCelM
import Derived.Test.YtgecbfbmmbfnmaaGreatCelE
import Derived.Handy
import Derived.Outline
import Derived.LoopTactic
import Derived.Deep.RegionHeld3
import Derived.Deep.DeepCutAuto
import Derived.Deep.RegionWith
namespace Go.Proofs.YtgecbfbmmbfnmaaGreat
/- Contracts of the verdict on a cell, the program's. -/
open Go.ChangeShapes Go.WideShapes Go.ChangeAt Go.RowKit Go.Shelf Num
set_option linter.unusedVariables false
set_option linter.unusedSimpArgs false

/-- the error of a cell for a receiver -/
def eofT (zs ys : List Int) (src n kn ds : Int) : Int := if eoT zs ys src n = 0 then (if hkB zs kn && hasB 0 1000000000000 ds then 0 else 2) else eoT zs ys src n
/-- the verdict from two states and the common range -/
def vrC (k l1 h1 l2 h2 lo hi kn ds : Int) : Int := if k = kn ∧ hasB lo hi ds = true then (if (h1 < ds ∧ ds < l2) ∨ (h2 < ds ∧ ds < l1) then 2 else 1) else 0
/-- the verdict and its error -/
def vdR (H : Bool) (U : Int × Int × Int) (k l1 h1 l2 h2 kn ds : Int) : Int × Int := if H then (if U.2.2 = 0 then (vrC k l1 h1 l2 h2 U.1 U.2.1 kn ds, 0) else (0, U.2.2)) else (1, 0)

set_option maxRecDepth 100000 in
set_option maxHeartbeats 2000000 in
theorem isb_low (w : World) (l1 h1 l2 h2 : Int) :
    Calls Tryz.prog 41 #[.agg #[.int .i64 l1, .int .i64 h1], .agg #[.int .i64 l2, .int .i64 h2]] w fun e w' => e = .returned (.bool (decide (h1 < l2))) ∧ Below w.heap.size w w' := by
  go_enter Tryz.func41, Tryz.ntmps41
  go_wp2
  go_ret
  exact ⟨rfl, (by repeat (first | exact Below.refl _ _ | (refine Below.alloc ?_ (by simp <;> omega) _) | (refine Below.setCell ?_ (by simp <;> omega) _) | (refine Below.drew ?_) | (refine bel_drewN ?_ _)))⟩

set_option maxRecDepth 100000 in
set_option maxHeartbeats 4000000 in
theorem efo_any (w : World) (a b : Option Addr) (ca cb : Nat) (zs ys : List Int) (src n kn ds : Int) (hp : Prof w w.heap.size a b zs ys) :
    Calls Tryz.prog 16 #[.agg #[.slice a zs.length ca, .slice b ys.length cb, .int .i64 src, .int .i64 n], .agg #[.int .i64 kn, .int .i64 ds]] w fun e w' => e = .returned (.int .i64 (eofT zs ys src n kn ds)) ∧ Below w.heap.size w w' := by
  have HP := Lib.hid hp
  obtain ⟨q0, hq0⟩ : ∃ u, eoT zs ys src n = u := ⟨_, rfl⟩
  have KE : Hid (∀ W : World, Below w.heap.size w W → Calls Tryz.prog 23 #[.agg #[.slice a zs.length ca, .slice b ys.length cb, .int .i64 src, .int .i64 n]] W fun e w' => e = .returned (.int .i64 q0) ∧ Below W.heap.size W w') := Lib.hid (fun W hb => by have := seo_any W a b ca cb zs ys src n (HP.out.on hb); rwa [hq0] at this)
  obtain ⟨k0, hk0⟩ : ∃ u, hkB zs kn = u := ⟨_, rfl⟩
  have KK : Hid (∀ W : World, Below w.heap.size w W → Calls Tryz.prog 37 #[.agg #[.slice a zs.length ca, .slice b ys.length cb], .int .i64 kn] W fun e w' => e = .returned (.bool k0) ∧ Below W.heap.size W w') := Lib.hid (fun W hb => by have := hkt_any W a b ca cb zs ys kn HP.out.lz; rwa [hk0] at this)
  obtain ⟨r0, hr0⟩ : ∃ u, hasB 0 1000000000000 ds = u := ⟨_, rfl⟩
  have KL : Hid (∀ W : World, Calls Tryz.prog 35 #[.agg #[.int .i64 0, .int .i64 1000000000000], .int .i64 ds] W fun e w' => e = .returned (.bool (!r0)) ∧ Below W.heap.size W w') := Lib.hid (fun W => by have g := lacks_any 0 1000000000000 ds W; rw [hr0] at g; exact g.mono fun e w' h => ⟨h.1, by rw [h.2]; exact (by repeat (first | exact Below.refl _ _ | (refine Below.alloc ?_ (by simp <;> omega) _) | (refine Below.setCell ?_ (by simp <;> omega) _) | (refine Below.drew ?_) | (refine bel_drewN ?_ _)))⟩)
  have HR : Hid (eofT zs ys src n kn ds = if q0 = 0 then (if k0 && r0 then 0 else 2) else q0) := Lib.hid (by unfold eofT; rw [hq0, hk0, hr0])
  clear hq0 hk0 hr0 hp
  go_enter Tryz.func16, Tryz.ntmps16
  go_upto_region 1 with fail
  generalize hW : World.alloc _ _ = W
  have bS : Bk W (w.heap.size) #[.slice a zs.length ca, .slice b ys.length cb, .int .i64 src, .int .i64 n] 49 := by rw [← hW]; repeat (first | (refine Bk.new' ?_; (simp; done)) | refine Bk.alloc ?_ _)
  have bX : Bk W (w.heap.size + 1) #[.int .i64 kn, .int .i64 ds] 51 := by rw [← hW]; repeat (first | (refine Bk.new' ?_; (simp; done)) | refine Bk.alloc ?_ _)
  have HB : Hid (Below w.heap.size w W) := Lib.hid (by rw [← hW]; exact (by repeat (first | exact Below.refl _ _ | (refine Below.alloc ?_ (by simp <;> omega) _) | (refine Below.setCell ?_ (by simp <;> omega) _) | (refine Below.drew ?_) | (refine bel_drewN ?_ _))))
  clear hW
  have bS_0 := bS.cell 0 rfl
  have bS_1 := bS.cell 1 rfl
  have bS_2 := bS.cell 2 rfl
  have bS_3 := bS.cell 3 rfl
  have bS_l := bS.lt
  go_wp2_with fail
  (with_reducible refine Calls.mono (KE.out _ HB.out) ?_)
  rintro e w1 ⟨rfl, hb⟩
  clear bS_0 bS_1 bS_2 bS_3 bS_l
  replace bS := bS.on hb
  replace bX := bX.on hb
  replace HB := Lib.hid (bel_end HB.out hb)
  clear hb
  by_cases z0 : q0 = 0
  case neg =>
    have y0 : (q0 != 0) = true := by simpa using z0
    have HC : Hid (eofT zs ys src n kn ds = q0) := Lib.hid (by rw [HR.out, if_neg z0])
    clear HR
    go_wp2
    go_ret
    exact ⟨by rw [HC.out]; rfl, HB.out⟩
  case pos =>
    subst z0
    have HR2 : Hid (eofT zs ys src n kn ds = if k0 && r0 then 0 else 2) := Lib.hid (by rw [HR.out, if_pos rfl])
    clear HR
    go_upto_region 5 with fail
    obtain ⟨W3, hW⟩ : ∃ X, X = w1.alloc (.cells #[.int .i64 0, .int .i64 1000000000000] 34) := ⟨_, rfl⟩
    rw [← hW]
    obtain ⟨gI, hgI⟩ : ∃ u, u = w1.heap.size := ⟨_, rfl⟩
    have bI : Bk W3 gI #[.int .i64 0, .int .i64 1000000000000] 34 := by rw [hW]; exact Bk.new' hgI
    have hb : Below w1.heap.size w1 W3 := by rw [hW]; exact (Below.refl _ _).alloc (Nat.le_refl _) _
    try rw [← hgI]
    clear hW hgI
    replace bS := bS.on hb
    replace bX := bX.on hb
    replace HB := Lib.hid (bel_end HB.out hb)
    clear hb
    have bS_0 := bS.cell 0 rfl
    have bS_1 := bS.cell 1 rfl
    have bS_2 := bS.cell 2 rfl
    have bS_3 := bS.cell 3 rfl
    have bS_l := bS.lt
    have bX_0 := bX.cell 0 rfl
    have bX_1 := bX.cell 1 rfl
    have bX_l := bX.lt
    go_wp2_with fail
    (with_reducible refine Calls.mono (KK.out _ HB.out) ?_)
    rintro e w4 ⟨rfl, hb⟩
    clear bS_0 bS_1 bS_2 bS_3 bS_l
    clear bX_0 bX_1 bX_l
    replace bS := bS.on hb
    replace bX := bX.on hb
    replace bI := bI.on hb
    replace HB := Lib.hid (bel_end HB.out hb)
    clear hb
    cases k0
    case false =>
      go_wp2
      go_ret
      exact ⟨by rw [HR2.out]; rfl, HB.out⟩
    case true =>
      have bI_0 := bI.cell 0 rfl
      have bI_1 := bI.cell 1 rfl
      have bI_l := bI.lt
      have bX_0 := bX.cell 0 rfl
      have bX_1 := bX.cell 1 rfl
      have bX_l := bX.lt
      go_wp2_with fail
      (with_reducible refine Calls.mono (KL.out _) ?_)
      rintro e w5 ⟨rfl, hb⟩
      clear bI_0 bI_1 bI_l
      clear bX_0 bX_1 bX_l
      replace HB := Lib.hid (bel_end HB.out hb)
      clear hb
      cases r0
      all_goals
        go_wp2
        go_ret
        exact ⟨by rw [HR2.out]; rfl, HB.out⟩

set_option maxRecDepth 100000 in
set_option maxHeartbeats 8000000 in
theorem vdf_any (w : World) (g1 c1 g2 c2 N : Nat) (k1 l1 h1 k2 l2 h2 kn ds : Int) (d1 d2 H : Bool) (U : Int × Int × Int) (KH : ∀ W : World, Below w.heap.size w W → Calls Tryz.prog 24 #[.agg #[.slice (some ⟨g1, 0, none⟩) N c1, .int .i64 k1, .bool d1, .int .i64 l1, .int .i64 h1, .slice (some ⟨g2, 0, none⟩) N c2, .int .i64 k2, .bool d2, .int .i64 l2, .int .i64 h2]] W fun e w' => e = .returned (.bool H) ∧ Below W.heap.size W w') (KN : ∀ W : World, Below w.heap.size w W → Calls Tryz.prog 25 #[.agg #[.slice (some ⟨g1, 0, none⟩) N c1, .int .i64 k1, .bool d1, .int .i64 l1, .int .i64 h1, .slice (some ⟨g2, 0, none⟩) N c2, .int .i64 k2, .bool d2, .int .i64 l2, .int .i64 h2]] W fun e w' => e = .returned (.tuple #[.agg #[.int .i64 U.1, .int .i64 U.2.1], .int .i64 U.2.2]) ∧ Below W.heap.size W w') :
    Calls Tryz.prog 18 #[.agg #[.slice (some ⟨g1, 0, none⟩) N c1, .int .i64 k1, .bool d1, .int .i64 l1, .int .i64 h1, .slice (some ⟨g2, 0, none⟩) N c2, .int .i64 k2, .bool d2, .int .i64 l2, .int .i64 h2], .agg #[.int .i64 kn, .int .i64 ds]] w fun e w' => e = .returned (.tuple #[.int .i64 (vdR H U k1 l1 h1 l2 h2 kn ds).1, .int .i64 (vdR H U k1 l1 h1 l2 h2 kn ds).2]) ∧ Below w.heap.size w w' := by
  have HKH := Lib.hid KH
  have HKN := Lib.hid KN
  clear KH KN
  obtain ⟨U1, U2, U3⟩ := U
  dsimp only at HKN
  obtain ⟨V, hV⟩ : ∃ u, vdR H (U1, U2, U3) k1 l1 h1 l2 h2 kn ds = u := ⟨_, rfl⟩
  have HV := hV
  unfold vdR at HV
  dsimp only at HV
  rw [hV]
  clear hV
  obtain ⟨r0, hr0⟩ : ∃ u, hasB U1 U2 ds = u := ⟨_, rfl⟩
  have KL : Hid (∀ W : World, Calls Tryz.prog 35 #[.agg #[.int .i64 U1, .int .i64 U2], .int .i64 ds] W fun e w' => e = .returned (.bool (!r0)) ∧ Below W.heap.size W w') := Lib.hid (fun W => by have g := lacks_any U1 U2 ds W; rw [hr0] at g; exact g.mono fun e w' h => ⟨h.1, by rw [h.2]; exact (by repeat (first | exact Below.refl _ _ | (refine Below.alloc ?_ (by simp <;> omega) _) | (refine Below.setCell ?_ (by simp <;> omega) _) | (refine Below.drew ?_) | (refine bel_drewN ?_ _)))⟩)
  have KX : Hid (∀ W : World, Calls Tryz.prog 40 #[.int .i64 ds] W fun e w' => e = .returned (.agg #[.int .i64 ds, .int .i64 ds]) ∧ Below W.heap.size W w') := Lib.hid (fun W => exa_any ds W)
  unfold vrC at HV
  rw [hr0] at HV
  clear hr0
  go_enter Tryz.func18, Tryz.ntmps18
  go_upto_region 1 with fail
  generalize hW : World.alloc _ _ = W
  have bT : Bk W (w.heap.size) #[.slice (some ⟨g1, 0, none⟩) N c1, .int .i64 k1, .bool d1, .int .i64 l1, .int .i64 h1, .slice (some ⟨g2, 0, none⟩) N c2, .int .i64 k2, .bool d2, .int .i64 l2, .int .i64 h2] 57 := by rw [← hW]; repeat (first | (refine Bk.new' ?_; (simp; done)) | refine Bk.alloc ?_ _)
  have bQ : Bk W (w.heap.size + 1) #[.int .i64 kn, .int .i64 ds] 51 := by rw [← hW]; repeat (first | (refine Bk.new' ?_; (simp; done)) | refine Bk.alloc ?_ _)
  have HB : Hid (Below w.heap.size w W) := Lib.hid (by rw [← hW]; exact (by repeat (first | exact Below.refl _ _ | (refine Below.alloc ?_ (by simp <;> omega) _) | (refine Below.setCell ?_ (by simp <;> omega) _) | (refine Below.drew ?_) | (refine bel_drewN ?_ _))))
  clear hW
  have bT_0 := bT.cell 0 rfl
  have bT_1 := bT.cell 1 rfl
  have bT_2 := bT.cell 2 rfl
  have bT_3 := bT.cell 3 rfl
  have bT_4 := bT.cell 4 rfl
  have bT_5 := bT.cell 5 rfl
  have bT_6 := bT.cell 6 rfl
  have bT_7 := bT.cell 7 rfl
  have bT_8 := bT.cell 8 rfl
  have bT_9 := bT.cell 9 rfl
  have bT_l := bT.lt
  go_wp2_with fail
  (with_reducible refine Calls.mono (HKH.out _ HB.out) ?_)
  rintro e w1 ⟨rfl, hb⟩
  clear bT_0 bT_1 bT_2 bT_3 bT_4 bT_5 bT_6 bT_7 bT_8 bT_9 bT_l
  replace bT := bT.on hb
  replace bQ := bQ.on hb
  replace HB := Lib.hid (bel_end HB.out hb)
  clear hb
  cases H
  case false =>
    have HC := Lib.hid HV.symm
    clear HV
    simp only [Bool.false_eq_true, if_false] at HC
    go_wp2
    go_ret2
    exact ⟨by rw [HC.out]; rfl, HB.out⟩
  case true =>
    rw [if_pos rfl] at HV
    have bT_0 := bT.cell 0 rfl
    have bT_1 := bT.cell 1 rfl
    have bT_2 := bT.cell 2 rfl
    have bT_3 := bT.cell 3 rfl
    have bT_4 := bT.cell 4 rfl
    have bT_5 := bT.cell 5 rfl
    have bT_6 := bT.cell 6 rfl
    have bT_7 := bT.cell 7 rfl
    have bT_8 := bT.cell 8 rfl
    have bT_9 := bT.cell 9 rfl
    have bT_l := bT.lt
    go_wp2_with fail
    (with_reducible refine Calls.mono (HKN.out _ HB.out) ?_)
    rintro e w2 ⟨rfl, hb⟩
    clear bT_0 bT_1 bT_2 bT_3 bT_4 bT_5 bT_6 bT_7 bT_8 bT_9 bT_l
    replace bT := bT.on hb
    replace bQ := bQ.on hb
    replace HB := Lib.hid (bel_end HB.out hb)
    clear hb
    go_upto_region 4 with fail
    obtain ⟨W3, hW⟩ : ∃ X, X = w2.alloc (.cells #[.int .i64 U1, .int .i64 U2] 34) := ⟨_, rfl⟩
    rw [← hW]
    obtain ⟨gI, hgI⟩ : ∃ u, u = w2.heap.size := ⟨_, rfl⟩
    have bI : Bk W3 gI #[.int .i64 U1, .int .i64 U2] 34 := by rw [hW]; exact Bk.new' hgI
    have hb : Below w2.heap.size w2 W3 := by rw [hW]; exact (Below.refl _ _).alloc (Nat.le_refl _) _
    try rw [← hgI]
    clear hW hgI
    replace bT := bT.on hb
    replace bQ := bQ.on hb
    replace HB := Lib.hid (bel_end HB.out hb)
    clear hb
    by_cases z0 : U3 = 0
    case neg =>
      rw [if_neg z0] at HV
      have HC := Lib.hid HV.symm
      have y0 : (U3 != 0) = true := by simpa using z0
      clear HV z0
      go_wp2
      go_ret2
      exact ⟨by rw [HC.out]; rfl, HB.out⟩
    case pos =>
      subst z0
      rw [if_pos rfl] at HV
      by_cases hk : k1 = kn
      case neg =>
        have hkn : (k1 != kn) = true := by simpa using hk
        have HC : Hid ((0, 0) = V) := Lib.hid (by rw [← HV, if_neg (fun h => hk h.1)])
        clear HV hk
        have bT_0 := bT.cell 0 rfl
        have bT_1 := bT.cell 1 rfl
        have bT_2 := bT.cell 2 rfl
        have bT_3 := bT.cell 3 rfl
        have bT_4 := bT.cell 4 rfl
        have bT_5 := bT.cell 5 rfl
        have bT_6 := bT.cell 6 rfl
        have bT_7 := bT.cell 7 rfl
        have bT_8 := bT.cell 8 rfl
        have bT_9 := bT.cell 9 rfl
        have bT_l := bT.lt
        have bQ_0 := bQ.cell 0 rfl
        have bQ_1 := bQ.cell 1 rfl
        have bQ_l := bQ.lt
        go_wp2
        go_ret2
        exact ⟨by rw [← HC.out]; rfl, HB.out⟩
      case pos =>
        subst hk
        have bT_0 := bT.cell 0 rfl
        have bT_1 := bT.cell 1 rfl
        have bT_2 := bT.cell 2 rfl
        have bT_3 := bT.cell 3 rfl
        have bT_4 := bT.cell 4 rfl
        have bT_5 := bT.cell 5 rfl
        have bT_6 := bT.cell 6 rfl
        have bT_7 := bT.cell 7 rfl
        have bT_8 := bT.cell 8 rfl
        have bT_9 := bT.cell 9 rfl
        have bT_l := bT.lt
        have bQ_0 := bQ.cell 0 rfl
        have bQ_1 := bQ.cell 1 rfl
        have bQ_l := bQ.lt
        have bI_0 := bI.cell 0 rfl
        have bI_1 := bI.cell 1 rfl
        have bI_l := bI.lt
        go_wp2_with fail
        (with_reducible refine Calls.mono (KL.out _) ?_)
        rintro e w4 ⟨rfl, hb⟩
        clear bT_0 bT_1 bT_2 bT_3 bT_4 bT_5 bT_6 bT_7 bT_8 bT_9 bT_l
        clear bQ_0 bQ_1 bQ_l
        clear bI_0 bI_1 bI_l
        replace bT := bT.on hb
        replace bQ := bQ.on hb
        replace HB := Lib.hid (bel_end HB.out hb)
        clear hb
        cases r0
        case false =>
          have HC : Hid ((0, 0) = V) := Lib.hid (by rw [← HV, if_neg (fun h => by simp at h)])
          clear HV
          go_wp2
          go_ret2
          exact ⟨by rw [← HC.out]; rfl, HB.out⟩
        case true =>
          have HV2 : ((if (h1 < ds ∧ ds < l2) ∨ (h2 < ds ∧ ds < l1) then 2 else 1 : Int), (0 : Int)) = V := by rw [← HV]; simp
          clear HV bI
          go_upto_region 8 with fail
          go_cut [8, 9, 10] (fun s8 s9 s10 wx => ∃ x8 x9 x10, s8 = .pointer (some ⟨x8, 0, none⟩) ∧ s9 = .pointer (some ⟨x9, 0, none⟩) ∧ s10 = .pointer (some ⟨x10, 0, none⟩) ∧ Bk wx x8 #[.int .i64 l1, .int .i64 h1] 34 ∧ Bk wx x9 #[.int .i64 l2, .int .i64 h2] 34 ∧ Bk wx x10 #[.int .i64 ds, .int .i64 ds] 34 ∧ Below w4.heap.size w4 wx)
          case first =>
            have HW : Hid (Below w4.heap.size w4 w4) := Lib.hid (Below.refl _ _)
            obtain ⟨S, hSd⟩ : ∃ S : World → Prop, ∀ w', S w' ↔ (w'.cell? ⟨w.heap.size, 3, none⟩ = some (.int .i64 l1) ∧ w'.cell? ⟨w.heap.size, 4, none⟩ = some (.int .i64 h1) ∧ w'.cell? ⟨w.heap.size, 8, none⟩ = some (.int .i64 l2) ∧ w'.cell? ⟨w.heap.size, 9, none⟩ = some (.int .i64 h2) ∧ w'.cell? ⟨w.heap.size + 1, 1, none⟩ = some (.int .i64 ds)) := ⟨_, fun _ => Iff.rfl⟩
            have HSp : Hid (∀ w' : World, Bk w' (w.heap.size) #[.slice (some ⟨g1, 0, none⟩) N c1, .int .i64 k1, .bool d1, .int .i64 l1, .int .i64 h1, .slice (some ⟨g2, 0, none⟩) N c2, .int .i64 k2, .bool d2, .int .i64 l2, .int .i64 h2] 57 → Bk w' (w.heap.size + 1) #[.int .i64 k1, .int .i64 ds] 51 → S w') := Lib.hid (fun w' bT bQ => (hSd w').2 ⟨bT.cell 3 rfl, bT.cell 4 rfl, bT.cell 8 rfl, bT.cell 9 rfl, bQ.cell 1 rfl⟩)
            have HSd := Lib.hid hSd
            clear hSd
            refine wp_region_held_drew (S := S) (by kernel_rfl) ?_ (fun hH => ?_)
            · exact (HSp.out _ bT bQ : S (World.drew w4))
            clear hH
            generalize hX : World.drew w4 = V0
            replace bT : Bk V0 (w.heap.size) #[.slice (some ⟨g1, 0, none⟩) N c1, .int .i64 k1, .bool d1, .int .i64 l1, .int .i64 h1, .slice (some ⟨g2, 0, none⟩) N c2, .int .i64 k2, .bool d2, .int .i64 l2, .int .i64 h2] 57 := by rw [← hX]; exact bT
            replace bQ : Bk V0 (w.heap.size + 1) #[.int .i64 k1, .int .i64 ds] 51 := by rw [← hX]; exact bQ
            have hb : Below w4.heap.size w4 V0 := by rw [← hX]; exact (Below.refl _ _).drew
            clear hX
            replace HW := Lib.hid (bel_end HW.out hb)
            clear hb
            have hS := HSp.out _ bT bQ
            refine wpAnyH_take (i := 0) (oi := { dst := some 35, op := Go.Op.fieldAddr 57 (Go.Operand.tmp 2) 0, type := 0, pos := "l08_sectors.go:332", after := #[], guard := none }) (v := ?_) rfl (by kernel_rfl) (by kernel_rfl) (by kernel_rfl) (fun _ _ _ h => h) (Or.inl ⟨by rfl, ?_⟩) hS ?_
            rotate_left
            · (intro w hSw; have hSw := (HSd.out w).1 hSw; go_split_ands; go_simp) <;> with_reducible rfl
            clear hS
            try simp only [Act.put, List.setIfInBounds_toArray, List.set_cons_zero, List.set_cons_succ]
            have hS := HSp.out _ bT bQ
            refine wpAnyH_take (i := 1) (oi := { dst := some 36, op := Go.Op.fieldAddr 55 (Go.Operand.tmp 35) 1, type := 0, pos := "l08_sectors.go:332", after := #[{ on := 0, ground := Go.Ground.data }], guard := none }) (v := ?_) rfl (by kernel_rfl) (by kernel_rfl) (by kernel_rfl) (fun _ _ _ h => h) (Or.inl ⟨by rfl, ?_⟩) hS ?_
            rotate_left
            · (intro w hSw; have hSw := (HSd.out w).1 hSw; go_split_ands; go_simp) <;> with_reducible rfl
            clear hS
            try simp only [Act.put, List.setIfInBounds_toArray, List.set_cons_zero, List.set_cons_succ]
            have hS := HSp.out _ bT bQ
            refine wpAnyH_take (i := 2) (oi := { dst := some 37, op := Go.Op.fieldAddr 38 (Go.Operand.tmp 36) 2, type := 0, pos := "l08_sectors.go:332", after := #[{ on := 1, ground := Go.Ground.data }], guard := none }) (v := ?_) rfl (by kernel_rfl) (by kernel_rfl) (by kernel_rfl) (fun _ _ _ h => h) (Or.inl ⟨by rfl, ?_⟩) hS ?_
            rotate_left
            · (intro w hSw; have hSw := (HSd.out w).1 hSw; go_split_ands; go_simp) <;> with_reducible rfl
            clear hS
            try simp only [Act.put, List.setIfInBounds_toArray, List.set_cons_zero, List.set_cons_succ]
            have hS := HSp.out _ bT bQ
            refine wpAnyH_take (i := 3) (oi := { dst := some 38, op := Go.Op.load 34 (Go.Operand.tmp 37), type := 34, pos := "l08_sectors.go:332", after := #[{ on := 2, ground := Go.Ground.data }], guard := none }) (v := ?_) rfl (by kernel_rfl) (by kernel_rfl) (by kernel_rfl) (fun _ _ _ h => h) (Or.inl ⟨by rfl, ?_⟩) hS ?_
            rotate_left
            · (intro w hSw; have hSw := (HSd.out w).1 hSw; go_split_ands; go_simp) <;> with_reducible rfl
            clear hS
            try simp only [Act.put, List.setIfInBounds_toArray, List.set_cons_zero, List.set_cons_succ]
            have hS := HSp.out _ bT bQ
            refine wpAnyH_take (i := 4) (oi := { dst := some 39, op := Go.Op.fieldAddr 57 (Go.Operand.tmp 2) 1, type := 0, pos := "l08_sectors.go:332", after := #[{ on := 14, ground := Go.Ground.gcOnly Go.Departure.lateStores }], guard := none }) (v := ?_) rfl (by kernel_rfl) (by kernel_rfl) (by kernel_rfl) (fun _ _ _ h => h) (Or.inl ⟨by rfl, ?_⟩) hS ?_
            rotate_left
            · (intro w hSw; have hSw := (HSd.out w).1 hSw; go_split_ands; go_simp) <;> with_reducible rfl
            clear hS
            try simp only [Act.put, List.setIfInBounds_toArray, List.set_cons_zero, List.set_cons_succ]
            have hS := HSp.out _ bT bQ
            refine wpAnyH_take (i := 5) (oi := { dst := some 40, op := Go.Op.fieldAddr 55 (Go.Operand.tmp 39) 1, type := 0, pos := "l08_sectors.go:332", after := #[{ on := 4, ground := Go.Ground.data }, { on := 14, ground := Go.Ground.gcOnly Go.Departure.lateStores }], guard := none }) (v := ?_) rfl (by kernel_rfl) (by kernel_rfl) (by kernel_rfl) (fun _ _ _ h => h) (Or.inl ⟨by rfl, ?_⟩) hS ?_
            rotate_left
            · (intro w hSw; have hSw := (HSd.out w).1 hSw; go_split_ands; go_simp) <;> with_reducible rfl
            clear hS
            try simp only [Act.put, List.setIfInBounds_toArray, List.set_cons_zero, List.set_cons_succ]
            have hS := HSp.out _ bT bQ
            refine wpAnyH_take (i := 6) (oi := { dst := some 41, op := Go.Op.fieldAddr 38 (Go.Operand.tmp 40) 2, type := 0, pos := "l08_sectors.go:332", after := #[{ on := 5, ground := Go.Ground.data }, { on := 14, ground := Go.Ground.gcOnly Go.Departure.lateStores }], guard := none }) (v := ?_) rfl (by kernel_rfl) (by kernel_rfl) (by kernel_rfl) (fun _ _ _ h => h) (Or.inl ⟨by rfl, ?_⟩) hS ?_
            rotate_left
            · (intro w hSw; have hSw := (HSd.out w).1 hSw; go_split_ands; go_simp) <;> with_reducible rfl
            clear hS
            try simp only [Act.put, List.setIfInBounds_toArray, List.set_cons_zero, List.set_cons_succ]
            have hS := HSp.out _ bT bQ
            refine wpAnyH_take (i := 7) (oi := { dst := some 42, op := Go.Op.load 34 (Go.Operand.tmp 41), type := 34, pos := "l08_sectors.go:332", after := #[{ on := 6, ground := Go.Ground.data }, { on := 14, ground := Go.Ground.gcOnly Go.Departure.lateStores }], guard := none }) (v := ?_) rfl (by kernel_rfl) (by kernel_rfl) (by kernel_rfl) (fun _ _ _ h => h) (Or.inl ⟨by rfl, ?_⟩) hS ?_
            rotate_left
            · (intro w hSw; have hSw := (HSd.out w).1 hSw; go_split_ands; go_simp) <;> with_reducible rfl
            clear hS
            try simp only [Act.put, List.setIfInBounds_toArray, List.set_cons_zero, List.set_cons_succ]
            have hS := HSp.out _ bT bQ
            refine wpAnyH_take (i := 8) (oi := { dst := some 43, op := Go.Op.fieldAddr 51 (Go.Operand.tmp 3) 1, type := 0, pos := "l08_sectors.go:332", after := #[], guard := none }) (v := ?_) rfl (by kernel_rfl) (by kernel_rfl) (by kernel_rfl) (fun _ _ _ h => h) (Or.inl ⟨by rfl, ?_⟩) hS ?_
            rotate_left
            · (intro w hSw; have hSw := (HSd.out w).1 hSw; go_split_ands; go_simp) <;> with_reducible rfl
            clear hS
            try simp only [Act.put, List.setIfInBounds_toArray, List.set_cons_zero, List.set_cons_succ]
            have hS := HSp.out _ bT bQ
            refine wpAnyH_take (i := 9) (oi := { dst := some 44, op := Go.Op.load 2 (Go.Operand.tmp 43), type := 2, pos := "l08_sectors.go:332", after := #[{ on := 8, ground := Go.Ground.data }], guard := none }) (v := ?_) rfl (by kernel_rfl) (by kernel_rfl) (by kernel_rfl) (fun _ _ _ h => h) (Or.inl ⟨by rfl, ?_⟩) hS ?_
            rotate_left
            · (intro w hSw; have hSw := (HSd.out w).1 hSw; go_split_ands; go_simp) <;> with_reducible rfl
            clear hS
            try simp only [Act.put, List.setIfInBounds_toArray, List.set_cons_zero, List.set_cons_succ]
            refine wpAnyH_ready (rs := [10, 11, 12, 13]) (by kernel_rfl) (by simp) ?_
            refine AllReadyH.cons (o := { dst := some 45, op := Go.Op.call { callee := Go.Callee.value (Go.Operand.func 40), args := #[Go.Operand.tmp 44], argTypes := #[2] }, type := 34, pos := "l08_sectors.go:332", after := #[{ on := 9, ground := Go.Ground.data }], guard := none }) rfl (fun Kn hK => ?_) ?_
            first | go_at_call 40 | (go_simp; go_at_call 40)
            (with_reducible refine Calls.mono (KX.out _) ?_)
            rintro e V1 ⟨rfl, hb⟩
            try dsimp only
            try simp only [Act.put, List.setIfInBounds_toArray, List.set_cons_zero, List.set_cons_succ]
            replace bT := bT.on hb
            replace bQ := bQ.on hb
            replace HW := Lib.hid (bel_end HW.out hb)
            clear hb
            refine hK.out _ _ (HSp.out _ bT bQ) (fun _ => ?_)
            clear hK Kn
            refine wpAnyH_ready (rs := [11, 12, 13]) (by kernel_rfl) (by simp) ?_
            refine AllReadyH.cons (o := { dst := some 8, op := Go.Op.alloc 34, type := 0, pos := "l08_sectors.go:332", after := #[], guard := none }) rfl (fun Kn hK => ?_) ?_
            go_simp
            generalize hX : World.alloc V1 _ = V2
            obtain ⟨g11, hg⟩ : ∃ g, g = V1.heap.size := ⟨_, rfl⟩
            have bn11 : Bk V2 g11 #[.int .i64 0, .int .i64 0] 34 := by rw [← hX]; exact Bk.new' hg
            have le11 : w4.heap.size ≤ g11 := by rw [hg]; exact HW.out.size
            have nebT_11 : w.heap.size ≠ g11 := by have := bT.lt; omega
            have nebQ_11 : w.heap.size + 1 ≠ g11 := by have := bQ.lt; omega
            try rw [← hg]
            have hb : Below V1.heap.size V1 V2 := by rw [← hX]; exact (Below.refl _ _).alloc (Nat.le_refl _) _
            clear hX hg
            replace bT := bT.on hb
            replace bQ := bQ.on hb
            replace HW := Lib.hid (bel_end HW.out hb)
            clear hb
            refine hK.out _ _ (HSp.out _ bT bQ) (fun _ => ?_)
            clear hK Kn
            rotate_left
            refine AllReadyH.cons (o := { dst := some 9, op := Go.Op.alloc 34, type := 0, pos := "l08_sectors.go:332", after := #[], guard := none }) rfl (fun Kn hK => ?_) ?_
            go_simp
            generalize hX : World.alloc V1 _ = V2
            obtain ⟨g12, hg⟩ : ∃ g, g = V1.heap.size := ⟨_, rfl⟩
            have bn12 : Bk V2 g12 #[.int .i64 0, .int .i64 0] 34 := by rw [← hX]; exact Bk.new' hg
            have le12 : w4.heap.size ≤ g12 := by rw [hg]; exact HW.out.size
            have nebT_12 : w.heap.size ≠ g12 := by have := bT.lt; omega
            have nebQ_12 : w.heap.size + 1 ≠ g12 := by have := bQ.lt; omega
            try rw [← hg]
            have hb : Below V1.heap.size V1 V2 := by rw [← hX]; exact (Below.refl _ _).alloc (Nat.le_refl _) _
            clear hX hg
            replace bT := bT.on hb
            replace bQ := bQ.on hb
            replace HW := Lib.hid (bel_end HW.out hb)
            clear hb
            refine hK.out _ _ (HSp.out _ bT bQ) (fun _ => ?_)
            clear hK Kn
            rotate_left
            refine AllReadyH.cons (o := { dst := some 10, op := Go.Op.alloc 34, type := 0, pos := "l08_sectors.go:332", after := #[], guard := none }) rfl (fun Kn hK => ?_) AllReadyH.nil
            go_simp
            generalize hX : World.alloc V1 _ = V2
            obtain ⟨g13, hg⟩ : ∃ g, g = V1.heap.size := ⟨_, rfl⟩
            have bn13 : Bk V2 g13 #[.int .i64 0, .int .i64 0] 34 := by rw [← hX]; exact Bk.new' hg
            have le13 : w4.heap.size ≤ g13 := by rw [hg]; exact HW.out.size
            have nebT_13 : w.heap.size ≠ g13 := by have := bT.lt; omega
            have nebQ_13 : w.heap.size + 1 ≠ g13 := by have := bQ.lt; omega
            try rw [← hg]
            have hb : Below V1.heap.size V1 V2 := by rw [← hX]; exact (Below.refl _ _).alloc (Nat.le_refl _) _
            clear hX hg
            replace bT := bT.on hb
            replace bQ := bQ.on hb
            replace HW := Lib.hid (bel_end HW.out hb)
            clear hb
            refine hK.out _ _ (HSp.out _ bT bQ) (fun _ => ?_)
            clear hK Kn
            rotate_left
            refine AllReadyH.cons (o := { dst := some 8, op := Go.Op.alloc 34, type := 0, pos := "l08_sectors.go:332", after := #[], guard := none }) rfl (fun Kn hK => ?_) ?_
            go_simp
            generalize hX : World.alloc V0 _ = V1
            obtain ⟨g11, hg⟩ : ∃ g, g = V0.heap.size := ⟨_, rfl⟩
            have bn11 : Bk V1 g11 #[.int .i64 0, .int .i64 0] 34 := by rw [← hX]; exact Bk.new' hg
            have le11 : w4.heap.size ≤ g11 := by rw [hg]; exact HW.out.size
            have nebT_11 : w.heap.size ≠ g11 := by have := bT.lt; omega
            have nebQ_11 : w.heap.size + 1 ≠ g11 := by have := bQ.lt; omega
            try rw [← hg]
            have hb : Below V0.heap.size V0 V1 := by rw [← hX]; exact (Below.refl _ _).alloc (Nat.le_refl _) _
            clear hX hg
            replace bT := bT.on hb
            replace bQ := bQ.on hb
            replace HW := Lib.hid (bel_end HW.out hb)
            clear hb
            refine hK.out _ _ (HSp.out _ bT bQ) (fun _ => ?_)
            clear hK Kn
            refine wpAnyH_ready (rs := [10, 12, 13]) (by kernel_rfl) (by simp) ?_
            refine AllReadyH.cons (o := { dst := some 45, op := Go.Op.call { callee := Go.Callee.value (Go.Operand.func 40), args := #[Go.Operand.tmp 44], argTypes := #[2] }, type := 34, pos := "l08_sectors.go:332", after := #[{ on := 9, ground := Go.Ground.data }], guard := none }) rfl (fun Kn hK => ?_) ?_
            first | go_at_call 40 | (go_simp; go_at_call 40)
            (with_reducible refine Calls.mono (KX.out _) ?_)
            rintro e V2 ⟨rfl, hb⟩
            try dsimp only
            try simp only [Act.put, List.setIfInBounds_toArray, List.set_cons_zero, List.set_cons_succ]
            replace bT := bT.on hb
            replace bQ := bQ.on hb
            replace bn11 := bn11.on hb
            replace HW := Lib.hid (bel_end HW.out hb)
            clear hb
            refine hK.out _ _ (HSp.out _ bT bQ) (fun _ => ?_)
            clear hK Kn
            rotate_left
            refine AllReadyH.cons (o := { dst := some 9, op := Go.Op.alloc 34, type := 0, pos := "l08_sectors.go:332", after := #[], guard := none }) rfl (fun Kn hK => ?_) ?_
            go_simp
            generalize hX : World.alloc V1 _ = V2
            obtain ⟨g12, hg⟩ : ∃ g, g = V1.heap.size := ⟨_, rfl⟩
            have bn12 : Bk V2 g12 #[.int .i64 0, .int .i64 0] 34 := by rw [← hX]; exact Bk.new' hg
            have le12 : w4.heap.size ≤ g12 := by rw [hg]; exact HW.out.size
            have nebT_12 : w.heap.size ≠ g12 := by have := bT.lt; omega
            have nebQ_12 : w.heap.size + 1 ≠ g12 := by have := bQ.lt; omega
            have ne11_12 : g11 ≠ g12 := by have := bn11.lt; omega
            try rw [← hg]
            have hb : Below V1.heap.size V1 V2 := by rw [← hX]; exact (Below.refl _ _).alloc (Nat.le_refl _) _
            clear hX hg
            replace bT := bT.on hb
            replace bQ := bQ.on hb
            replace bn11 := bn11.on hb
            replace HW := Lib.hid (bel_end HW.out hb)
            clear hb
            refine hK.out _ _ (HSp.out _ bT bQ) (fun _ => ?_)
            clear hK Kn
            rotate_left
            refine AllReadyH.cons (o := { dst := some 10, op := Go.Op.alloc 34, type := 0, pos := "l08_sectors.go:332", after := #[], guard := none }) rfl (fun Kn hK => ?_) AllReadyH.nil
            go_simp
            generalize hX : World.alloc V1 _ = V2
            obtain ⟨g13, hg⟩ : ∃ g, g = V1.heap.size := ⟨_, rfl⟩
            have bn13 : Bk V2 g13 #[.int .i64 0, .int .i64 0] 34 := by rw [← hX]; exact Bk.new' hg
            have le13 : w4.heap.size ≤ g13 := by rw [hg]; exact HW.out.size
            have nebT_13 : w.heap.size ≠ g13 := by have := bT.lt; omega
            have nebQ_13 : w.heap.size + 1 ≠ g13 := by have := bQ.lt; omega
            have ne11_13 : g11 ≠ g13 := by have := bn11.lt; omega
            try rw [← hg]
            have hb : Below V1.heap.size V1 V2 := by rw [← hX]; exact (Below.refl _ _).alloc (Nat.le_refl _) _
            clear hX hg
            replace bT := bT.on hb
            replace bQ := bQ.on hb
            replace bn11 := bn11.on hb
            replace HW := Lib.hid (bel_end HW.out hb)
            clear hb
            refine hK.out _ _ (HSp.out _ bT bQ) (fun _ => ?_)
            clear hK Kn
            rotate_left
            refine AllReadyH.cons (o := { dst := some 9, op := Go.Op.alloc 34, type := 0, pos := "l08_sectors.go:332", after := #[], guard := none }) rfl (fun Kn hK => ?_) ?_
            go_simp
            generalize hX : World.alloc V0 _ = V1
            obtain ⟨g12, hg⟩ : ∃ g, g = V0.heap.size := ⟨_, rfl⟩
            have bn12 : Bk V1 g12 #[.int .i64 0, .int .i64 0] 34 := by rw [← hX]; exact Bk.new' hg
            have le12 : w4.heap.size ≤ g12 := by rw [hg]; exact HW.out.size
            have nebT_12 : w.heap.size ≠ g12 := by have := bT.lt; omega
            have nebQ_12 : w.heap.size + 1 ≠ g12 := by have := bQ.lt; omega
            try rw [← hg]
            have hb : Below V0.heap.size V0 V1 := by rw [← hX]; exact (Below.refl _ _).alloc (Nat.le_refl _) _
            clear hX hg
            replace bT := bT.on hb
            replace bQ := bQ.on hb
            replace HW := Lib.hid (bel_end HW.out hb)
            clear hb
            refine hK.out _ _ (HSp.out _ bT bQ) (fun _ => ?_)
            clear hK Kn
            refine wpAnyH_ready (rs := [10, 11, 13]) (by kernel_rfl) (by simp) ?_
            refine AllReadyH.cons (o := { dst := some 45, op := Go.Op.call { callee := Go.Callee.value (Go.Operand.func 40), args := #[Go.Operand.tmp 44], argTypes := #[2] }, type := 34, pos := "l08_sectors.go:332", after := #[{ on := 9, ground := Go.Ground.data }], guard := none }) rfl (fun Kn hK => ?_) ?_
            first | go_at_call 40 | (go_simp; go_at_call 40)
            (with_reducible refine Calls.mono (KX.out _) ?_)
            rintro e V2 ⟨rfl, hb⟩
            try dsimp only
            try simp only [Act.put, List.setIfInBounds_toArray, List.set_cons_zero, List.set_cons_succ]
            replace bT := bT.on hb
            replace bQ := bQ.on hb
            replace bn12 := bn12.on hb
            replace HW := Lib.hid (bel_end HW.out hb)
            clear hb
            refine hK.out _ _ (HSp.out _ bT bQ) (fun _ => ?_)
            clear hK Kn
            rotate_left
            refine AllReadyH.cons (o := { dst := some 8, op := Go.Op.alloc 34, type := 0, pos := "l08_sectors.go:332", after := #[], guard := none }) rfl (fun Kn hK => ?_) ?_
            go_simp
            generalize hX : World.alloc V1 _ = V2
            obtain ⟨g11, hg⟩ : ∃ g, g = V1.heap.size := ⟨_, rfl⟩
            have bn11 : Bk V2 g11 #[.int .i64 0, .int .i64 0] 34 := by rw [← hX]; exact Bk.new' hg
            have le11 : w4.heap.size ≤ g11 := by rw [hg]; exact HW.out.size
            have nebT_11 : w.heap.size ≠ g11 := by have := bT.lt; omega
            have nebQ_11 : w.heap.size + 1 ≠ g11 := by have := bQ.lt; omega
            have ne12_11 : g12 ≠ g11 := by have := bn12.lt; omega
            try rw [← hg]
            have hb : Below V1.heap.size V1 V2 := by rw [← hX]; exact (Below.refl _ _).alloc (Nat.le_refl _) _
            clear hX hg
            replace bT := bT.on hb
            replace bQ := bQ.on hb
            replace bn12 := bn12.on hb
            replace HW := Lib.hid (bel_end HW.out hb)
            clear hb
            refine hK.out _ _ (HSp.out _ bT bQ) (fun _ => ?_)
            clear hK Kn
            rotate_left
            refine AllReadyH.cons (o := { dst := some 10, op := Go.Op.alloc 34, type := 0, pos := "l08_sectors.go:332", after := #[], guard := none }) rfl (fun Kn hK => ?_) AllReadyH.nil
            go_simp
            generalize hX : World.alloc V1 _ = V2
            obtain ⟨g13, hg⟩ : ∃ g, g = V1.heap.size := ⟨_, rfl⟩
            have bn13 : Bk V2 g13 #[.int .i64 0, .int .i64 0] 34 := by rw [← hX]; exact Bk.new' hg
            have le13 : w4.heap.size ≤ g13 := by rw [hg]; exact HW.out.size
            have nebT_13 : w.heap.size ≠ g13 := by have := bT.lt; omega
            have nebQ_13 : w.heap.size + 1 ≠ g13 := by have := bQ.lt; omega
            have ne12_13 : g12 ≠ g13 := by have := bn12.lt; omega
            try rw [← hg]
            have hb : Below V1.heap.size V1 V2 := by rw [← hX]; exact (Below.refl _ _).alloc (Nat.le_refl _) _
            clear hX hg
            replace bT := bT.on hb
            replace bQ := bQ.on hb
            replace bn12 := bn12.on hb
            replace HW := Lib.hid (bel_end HW.out hb)
            clear hb
            refine hK.out _ _ (HSp.out _ bT bQ) (fun _ => ?_)
            clear hK Kn
            rotate_left
            refine AllReadyH.cons (o := { dst := some 10, op := Go.Op.alloc 34, type := 0, pos := "l08_sectors.go:332", after := #[], guard := none }) rfl (fun Kn hK => ?_) AllReadyH.nil
            go_simp
            generalize hX : World.alloc V0 _ = V1
            obtain ⟨g13, hg⟩ : ∃ g, g = V0.heap.size := ⟨_, rfl⟩
            have bn13 : Bk V1 g13 #[.int .i64 0, .int .i64 0] 34 := by rw [← hX]; exact Bk.new' hg
            have le13 : w4.heap.size ≤ g13 := by rw [hg]; exact HW.out.size
            have nebT_13 : w.heap.size ≠ g13 := by have := bT.lt; omega
            have nebQ_13 : w.heap.size + 1 ≠ g13 := by have := bQ.lt; omega
            try rw [← hg]
            have hb : Below V0.heap.size V0 V1 := by rw [← hX]; exact (Below.refl _ _).alloc (Nat.le_refl _) _
            clear hX hg
            replace bT := bT.on hb
            replace bQ := bQ.on hb
            replace HW := Lib.hid (bel_end HW.out hb)
            clear hb
            refine hK.out _ _ (HSp.out _ bT bQ) (fun _ => ?_)
            clear hK Kn
            refine wpAnyH_ready (rs := [10, 11, 12]) (by kernel_rfl) (by simp) ?_
            refine AllReadyH.cons (o := { dst := some 45, op := Go.Op.call { callee := Go.Callee.value (Go.Operand.func 40), args := #[Go.Operand.tmp 44], argTypes := #[2] }, type := 34, pos := "l08_sectors.go:332", after := #[{ on := 9, ground := Go.Ground.data }], guard := none }) rfl (fun Kn hK => ?_) ?_
            first | go_at_call 40 | (go_simp; go_at_call 40)
            (with_reducible refine Calls.mono (KX.out _) ?_)
            rintro e V2 ⟨rfl, hb⟩
            try dsimp only
            try simp only [Act.put, List.setIfInBounds_toArray, List.set_cons_zero, List.set_cons_succ]
            replace bT := bT.on hb
            replace bQ := bQ.on hb
            replace bn13 := bn13.on hb
            replace HW := Lib.hid (bel_end HW.out hb)
            clear hb
            refine hK.out _ _ (HSp.out _ bT bQ) (fun _ => ?_)
            clear hK Kn
            rotate_left
            refine AllReadyH.cons (o := { dst := some 8, op := Go.Op.alloc 34, type := 0, pos := "l08_sectors.go:332", after := #[], guard := none }) rfl (fun Kn hK => ?_) ?_
            go_simp
            generalize hX : World.alloc V1 _ = V2
            obtain ⟨g11, hg⟩ : ∃ g, g = V1.heap.size := ⟨_, rfl⟩
            have bn11 : Bk V2 g11 #[.int .i64 0, .int .i64 0] 34 := by rw [← hX]; exact Bk.new' hg
            have le11 : w4.heap.size ≤ g11 := by rw [hg]; exact HW.out.size
            have nebT_11 : w.heap.size ≠ g11 := by have := bT.lt; omega
            have nebQ_11 : w.heap.size + 1 ≠ g11 := by have := bQ.lt; omega
            have ne13_11 : g13 ≠ g11 := by have := bn13.lt; omega
            try rw [← hg]
            have hb : Below V1.heap.size V1 V2 := by rw [← hX]; exact (Below.refl _ _).alloc (Nat.le_refl _) _
            clear hX hg
            replace bT := bT.on hb
            replace bQ := bQ.on hb
            replace bn13 := bn13.on hb
            replace HW := Lib.hid (bel_end HW.out hb)
            clear hb
            refine hK.out _ _ (HSp.out _ bT bQ) (fun _ => ?_)
            clear hK Kn
            rotate_left
            refine AllReadyH.cons (o := { dst := some 9, op := Go.Op.alloc 34, type := 0, pos := "l08_sectors.go:332", after := #[], guard := none }) rfl (fun Kn hK => ?_) AllReadyH.nil
            go_simp
            generalize hX : World.alloc V1 _ = V2
            obtain ⟨g12, hg⟩ : ∃ g, g = V1.heap.size := ⟨_, rfl⟩
            have bn12 : Bk V2 g12 #[.int .i64 0, .int .i64 0] 34 := by rw [← hX]; exact Bk.new' hg
            have le12 : w4.heap.size ≤ g12 := by rw [hg]; exact HW.out.size
            have nebT_12 : w.heap.size ≠ g12 := by have := bT.lt; omega
            have nebQ_12 : w.heap.size + 1 ≠ g12 := by have := bQ.lt; omega
            have ne13_12 : g13 ≠ g12 := by have := bn13.lt; omega
            try rw [← hg]
            have hb : Below V1.heap.size V1 V2 := by rw [← hX]; exact (Below.refl _ _).alloc (Nat.le_refl _) _
            clear hX hg
            replace bT := bT.on hb
            replace bQ := bQ.on hb
            replace bn13 := bn13.on hb
            replace HW := Lib.hid (bel_end HW.out hb)
            clear hb
            refine hK.out _ _ (HSp.out _ bT bQ) (fun _ => ?_)
            clear hK Kn
            rotate_left
            all_goals
              first
              | (refine wpAnyH_ready (rs := [10, 11]) (by kernel_rfl) (by simp) ?_
                 refine AllReadyH.cons (o := { dst := some 45, op := Go.Op.call { callee := Go.Callee.value (Go.Operand.func 40), args := #[Go.Operand.tmp 44], argTypes := #[2] }, type := 34, pos := "l08_sectors.go:332", after := #[{ on := 9, ground := Go.Ground.data }], guard := none }) rfl (fun Kn hK => ?_) ?_
                 first | go_at_call 40 | (go_simp; go_at_call 40)
                 (with_reducible refine Calls.mono (KX.out _) ?_)
                 rintro e V3 ⟨rfl, hb⟩
                 try dsimp only
                 try simp only [Act.put, List.setIfInBounds_toArray, List.set_cons_zero, List.set_cons_succ]
                 replace bT := bT.on hb
                 replace bQ := bQ.on hb
                 replace bn12 := bn12.on hb
                 replace bn13 := bn13.on hb
                 replace HW := Lib.hid (bel_end HW.out hb)
                 clear hb
                 refine hK.out _ _ (HSp.out _ bT bQ) (fun _ => ?_)
                 clear hK Kn
                 rotate_left
                 refine AllReadyH.cons (o := { dst := some 8, op := Go.Op.alloc 34, type := 0, pos := "l08_sectors.go:332", after := #[], guard := none }) rfl (fun Kn hK => ?_) AllReadyH.nil
                 go_simp
                 generalize hX : World.alloc V2 _ = V3
                 obtain ⟨g11, hg⟩ : ∃ g, g = V2.heap.size := ⟨_, rfl⟩
                 have bn11 : Bk V3 g11 #[.int .i64 0, .int .i64 0] 34 := by rw [← hX]; exact Bk.new' hg
                 have le11 : w4.heap.size ≤ g11 := by rw [hg]; exact HW.out.size
                 have nebT_11 : w.heap.size ≠ g11 := by have := bT.lt; omega
                 have nebQ_11 : w.heap.size + 1 ≠ g11 := by have := bQ.lt; omega
                 have ne12_11 : g12 ≠ g11 := by have := bn12.lt; omega
                 have ne13_11 : g13 ≠ g11 := by have := bn13.lt; omega
                 try rw [← hg]
                 have hb : Below V2.heap.size V2 V3 := by rw [← hX]; exact (Below.refl _ _).alloc (Nat.le_refl _) _
                 clear hX hg
                 replace bT := bT.on hb
                 replace bQ := bQ.on hb
                 replace bn12 := bn12.on hb
                 replace bn13 := bn13.on hb
                 replace HW := Lib.hid (bel_end HW.out hb)
                 clear hb
                 refine hK.out _ _ (HSp.out _ bT bQ) (fun _ => ?_)
                 clear hK Kn)
              | (refine wpAnyH_ready (rs := [10, 12]) (by kernel_rfl) (by simp) ?_
                 refine AllReadyH.cons (o := { dst := some 45, op := Go.Op.call { callee := Go.Callee.value (Go.Operand.func 40), args := #[Go.Operand.tmp 44], argTypes := #[2] }, type := 34, pos := "l08_sectors.go:332", after := #[{ on := 9, ground := Go.Ground.data }], guard := none }) rfl (fun Kn hK => ?_) ?_
                 first | go_at_call 40 | (go_simp; go_at_call 40)
                 (with_reducible refine Calls.mono (KX.out _) ?_)
                 rintro e V3 ⟨rfl, hb⟩
                 try dsimp only
                 try simp only [Act.put, List.setIfInBounds_toArray, List.set_cons_zero, List.set_cons_succ]
                 replace bT := bT.on hb
                 replace bQ := bQ.on hb
                 replace bn11 := bn11.on hb
                 replace bn13 := bn13.on hb
                 replace HW := Lib.hid (bel_end HW.out hb)
                 clear hb
                 refine hK.out _ _ (HSp.out _ bT bQ) (fun _ => ?_)
                 clear hK Kn
                 rotate_left
                 refine AllReadyH.cons (o := { dst := some 9, op := Go.Op.alloc 34, type := 0, pos := "l08_sectors.go:332", after := #[], guard := none }) rfl (fun Kn hK => ?_) AllReadyH.nil
                 go_simp
                 generalize hX : World.alloc V2 _ = V3
                 obtain ⟨g12, hg⟩ : ∃ g, g = V2.heap.size := ⟨_, rfl⟩
                 have bn12 : Bk V3 g12 #[.int .i64 0, .int .i64 0] 34 := by rw [← hX]; exact Bk.new' hg
                 have le12 : w4.heap.size ≤ g12 := by rw [hg]; exact HW.out.size
                 have nebT_12 : w.heap.size ≠ g12 := by have := bT.lt; omega
                 have nebQ_12 : w.heap.size + 1 ≠ g12 := by have := bQ.lt; omega
                 have ne11_12 : g11 ≠ g12 := by have := bn11.lt; omega
                 have ne13_12 : g13 ≠ g12 := by have := bn13.lt; omega
                 try rw [← hg]
                 have hb : Below V2.heap.size V2 V3 := by rw [← hX]; exact (Below.refl _ _).alloc (Nat.le_refl _) _
                 clear hX hg
                 replace bT := bT.on hb
                 replace bQ := bQ.on hb
                 replace bn11 := bn11.on hb
                 replace bn13 := bn13.on hb
                 replace HW := Lib.hid (bel_end HW.out hb)
                 clear hb
                 refine hK.out _ _ (HSp.out _ bT bQ) (fun _ => ?_)
                 clear hK Kn)
              | (refine wpAnyH_ready (rs := [10, 13]) (by kernel_rfl) (by simp) ?_
                 refine AllReadyH.cons (o := { dst := some 45, op := Go.Op.call { callee := Go.Callee.value (Go.Operand.func 40), args := #[Go.Operand.tmp 44], argTypes := #[2] }, type := 34, pos := "l08_sectors.go:332", after := #[{ on := 9, ground := Go.Ground.data }], guard := none }) rfl (fun Kn hK => ?_) ?_
                 first | go_at_call 40 | (go_simp; go_at_call 40)
                 (with_reducible refine Calls.mono (KX.out _) ?_)
                 rintro e V3 ⟨rfl, hb⟩
                 try dsimp only
                 try simp only [Act.put, List.setIfInBounds_toArray, List.set_cons_zero, List.set_cons_succ]
                 replace bT := bT.on hb
                 replace bQ := bQ.on hb
                 replace bn11 := bn11.on hb
                 replace bn12 := bn12.on hb
                 replace HW := Lib.hid (bel_end HW.out hb)
                 clear hb
                 refine hK.out _ _ (HSp.out _ bT bQ) (fun _ => ?_)
                 clear hK Kn
                 rotate_left
                 refine AllReadyH.cons (o := { dst := some 10, op := Go.Op.alloc 34, type := 0, pos := "l08_sectors.go:332", after := #[], guard := none }) rfl (fun Kn hK => ?_) AllReadyH.nil
                 go_simp
                 generalize hX : World.alloc V2 _ = V3
                 obtain ⟨g13, hg⟩ : ∃ g, g = V2.heap.size := ⟨_, rfl⟩
                 have bn13 : Bk V3 g13 #[.int .i64 0, .int .i64 0] 34 := by rw [← hX]; exact Bk.new' hg
                 have le13 : w4.heap.size ≤ g13 := by rw [hg]; exact HW.out.size
                 have nebT_13 : w.heap.size ≠ g13 := by have := bT.lt; omega
                 have nebQ_13 : w.heap.size + 1 ≠ g13 := by have := bQ.lt; omega
                 have ne11_13 : g11 ≠ g13 := by have := bn11.lt; omega
                 have ne12_13 : g12 ≠ g13 := by have := bn12.lt; omega
                 try rw [← hg]
                 have hb : Below V2.heap.size V2 V3 := by rw [← hX]; exact (Below.refl _ _).alloc (Nat.le_refl _) _
                 clear hX hg
                 replace bT := bT.on hb
                 replace bQ := bQ.on hb
                 replace bn11 := bn11.on hb
                 replace bn12 := bn12.on hb
                 replace HW := Lib.hid (bel_end HW.out hb)
                 clear hb
                 refine hK.out _ _ (HSp.out _ bT bQ) (fun _ => ?_)
                 clear hK Kn)
              | (refine wpAnyH_ready (rs := [11, 12]) (by kernel_rfl) (by simp) ?_
                 refine AllReadyH.cons (o := { dst := some 8, op := Go.Op.alloc 34, type := 0, pos := "l08_sectors.go:332", after := #[], guard := none }) rfl (fun Kn hK => ?_) ?_
                 go_simp
                 generalize hX : World.alloc V2 _ = V3
                 obtain ⟨g11, hg⟩ : ∃ g, g = V2.heap.size := ⟨_, rfl⟩
                 have bn11 : Bk V3 g11 #[.int .i64 0, .int .i64 0] 34 := by rw [← hX]; exact Bk.new' hg
                 have le11 : w4.heap.size ≤ g11 := by rw [hg]; exact HW.out.size
                 have nebT_11 : w.heap.size ≠ g11 := by have := bT.lt; omega
                 have nebQ_11 : w.heap.size + 1 ≠ g11 := by have := bQ.lt; omega
                 have ne13_11 : g13 ≠ g11 := by have := bn13.lt; omega
                 try rw [← hg]
                 have hb : Below V2.heap.size V2 V3 := by rw [← hX]; exact (Below.refl _ _).alloc (Nat.le_refl _) _
                 clear hX hg
                 replace bT := bT.on hb
                 replace bQ := bQ.on hb
                 replace bn13 := bn13.on hb
                 replace HW := Lib.hid (bel_end HW.out hb)
                 clear hb
                 refine hK.out _ _ (HSp.out _ bT bQ) (fun _ => ?_)
                 clear hK Kn
                 rotate_left
                 refine AllReadyH.cons (o := { dst := some 9, op := Go.Op.alloc 34, type := 0, pos := "l08_sectors.go:332", after := #[], guard := none }) rfl (fun Kn hK => ?_) AllReadyH.nil
                 go_simp
                 generalize hX : World.alloc V2 _ = V3
                 obtain ⟨g12, hg⟩ : ∃ g, g = V2.heap.size := ⟨_, rfl⟩
                 have bn12 : Bk V3 g12 #[.int .i64 0, .int .i64 0] 34 := by rw [← hX]; exact Bk.new' hg
                 have le12 : w4.heap.size ≤ g12 := by rw [hg]; exact HW.out.size
                 have nebT_12 : w.heap.size ≠ g12 := by have := bT.lt; omega
                 have nebQ_12 : w.heap.size + 1 ≠ g12 := by have := bQ.lt; omega
                 have ne13_12 : g13 ≠ g12 := by have := bn13.lt; omega
                 try rw [← hg]
                 have hb : Below V2.heap.size V2 V3 := by rw [← hX]; exact (Below.refl _ _).alloc (Nat.le_refl _) _
                 clear hX hg
                 replace bT := bT.on hb
                 replace bQ := bQ.on hb
                 replace bn13 := bn13.on hb
                 replace HW := Lib.hid (bel_end HW.out hb)
                 clear hb
                 refine hK.out _ _ (HSp.out _ bT bQ) (fun _ => ?_)
                 clear hK Kn)
              | (refine wpAnyH_ready (rs := [11, 13]) (by kernel_rfl) (by simp) ?_
                 refine AllReadyH.cons (o := { dst := some 8, op := Go.Op.alloc 34, type := 0, pos := "l08_sectors.go:332", after := #[], guard := none }) rfl (fun Kn hK => ?_) ?_
                 go_simp
                 generalize hX : World.alloc V2 _ = V3
                 obtain ⟨g11, hg⟩ : ∃ g, g = V2.heap.size := ⟨_, rfl⟩
                 have bn11 : Bk V3 g11 #[.int .i64 0, .int .i64 0] 34 := by rw [← hX]; exact Bk.new' hg
                 have le11 : w4.heap.size ≤ g11 := by rw [hg]; exact HW.out.size
                 have nebT_11 : w.heap.size ≠ g11 := by have := bT.lt; omega
                 have nebQ_11 : w.heap.size + 1 ≠ g11 := by have := bQ.lt; omega
                 have ne12_11 : g12 ≠ g11 := by have := bn12.lt; omega
                 try rw [← hg]
                 have hb : Below V2.heap.size V2 V3 := by rw [← hX]; exact (Below.refl _ _).alloc (Nat.le_refl _) _
                 clear hX hg
                 replace bT := bT.on hb
                 replace bQ := bQ.on hb
                 replace bn12 := bn12.on hb
                 replace HW := Lib.hid (bel_end HW.out hb)
                 clear hb
                 refine hK.out _ _ (HSp.out _ bT bQ) (fun _ => ?_)
                 clear hK Kn
                 rotate_left
                 refine AllReadyH.cons (o := { dst := some 10, op := Go.Op.alloc 34, type := 0, pos := "l08_sectors.go:332", after := #[], guard := none }) rfl (fun Kn hK => ?_) AllReadyH.nil
                 go_simp
                 generalize hX : World.alloc V2 _ = V3
                 obtain ⟨g13, hg⟩ : ∃ g, g = V2.heap.size := ⟨_, rfl⟩
                 have bn13 : Bk V3 g13 #[.int .i64 0, .int .i64 0] 34 := by rw [← hX]; exact Bk.new' hg
                 have le13 : w4.heap.size ≤ g13 := by rw [hg]; exact HW.out.size
                 have nebT_13 : w.heap.size ≠ g13 := by have := bT.lt; omega
                 have nebQ_13 : w.heap.size + 1 ≠ g13 := by have := bQ.lt; omega
                 have ne12_13 : g12 ≠ g13 := by have := bn12.lt; omega
                 try rw [← hg]
                 have hb : Below V2.heap.size V2 V3 := by rw [← hX]; exact (Below.refl _ _).alloc (Nat.le_refl _) _
                 clear hX hg
                 replace bT := bT.on hb
                 replace bQ := bQ.on hb
                 replace bn12 := bn12.on hb
                 replace HW := Lib.hid (bel_end HW.out hb)
                 clear hb
                 refine hK.out _ _ (HSp.out _ bT bQ) (fun _ => ?_)
                 clear hK Kn)
              | (refine wpAnyH_ready (rs := [12, 13]) (by kernel_rfl) (by simp) ?_
                 refine AllReadyH.cons (o := { dst := some 9, op := Go.Op.alloc 34, type := 0, pos := "l08_sectors.go:332", after := #[], guard := none }) rfl (fun Kn hK => ?_) ?_
                 go_simp
                 generalize hX : World.alloc V2 _ = V3
                 obtain ⟨g12, hg⟩ : ∃ g, g = V2.heap.size := ⟨_, rfl⟩
                 have bn12 : Bk V3 g12 #[.int .i64 0, .int .i64 0] 34 := by rw [← hX]; exact Bk.new' hg
                 have le12 : w4.heap.size ≤ g12 := by rw [hg]; exact HW.out.size
                 have nebT_12 : w.heap.size ≠ g12 := by have := bT.lt; omega
                 have nebQ_12 : w.heap.size + 1 ≠ g12 := by have := bQ.lt; omega
                 have ne11_12 : g11 ≠ g12 := by have := bn11.lt; omega
                 try rw [← hg]
                 have hb : Below V2.heap.size V2 V3 := by rw [← hX]; exact (Below.refl _ _).alloc (Nat.le_refl _) _
                 clear hX hg
                 replace bT := bT.on hb
                 replace bQ := bQ.on hb
                 replace bn11 := bn11.on hb
                 replace HW := Lib.hid (bel_end HW.out hb)
                 clear hb
                 refine hK.out _ _ (HSp.out _ bT bQ) (fun _ => ?_)
                 clear hK Kn
                 rotate_left
                 refine AllReadyH.cons (o := { dst := some 10, op := Go.Op.alloc 34, type := 0, pos := "l08_sectors.go:332", after := #[], guard := none }) rfl (fun Kn hK => ?_) AllReadyH.nil
                 go_simp
                 generalize hX : World.alloc V2 _ = V3
                 obtain ⟨g13, hg⟩ : ∃ g, g = V2.heap.size := ⟨_, rfl⟩
                 have bn13 : Bk V3 g13 #[.int .i64 0, .int .i64 0] 34 := by rw [← hX]; exact Bk.new' hg
                 have le13 : w4.heap.size ≤ g13 := by rw [hg]; exact HW.out.size
                 have nebT_13 : w.heap.size ≠ g13 := by have := bT.lt; omega
                 have nebQ_13 : w.heap.size + 1 ≠ g13 := by have := bQ.lt; omega
                 have ne11_13 : g11 ≠ g13 := by have := bn11.lt; omega
                 try rw [← hg]
                 have hb : Below V2.heap.size V2 V3 := by rw [← hX]; exact (Below.refl _ _).alloc (Nat.le_refl _) _
                 clear hX hg
                 replace bT := bT.on hb
                 replace bQ := bQ.on hb
                 replace bn11 := bn11.on hb
                 replace HW := Lib.hid (bel_end HW.out hb)
                 clear hb
                 refine hK.out _ _ (HSp.out _ bT bQ) (fun _ => ?_)
                 clear hK Kn)
            all_goals
              first
              | (refine wpAnyH_ready (rs := [10]) (by kernel_rfl) (by simp) ?_
                 refine AllReadyH.cons (o := { dst := some 45, op := Go.Op.call { callee := Go.Callee.value (Go.Operand.func 40), args := #[Go.Operand.tmp 44], argTypes := #[2] }, type := 34, pos := "l08_sectors.go:332", after := #[{ on := 9, ground := Go.Ground.data }], guard := none }) rfl (fun Kn hK => ?_) AllReadyH.nil
                 first | go_at_call 40 | (go_simp; go_at_call 40)
                 (with_reducible refine Calls.mono (KX.out _) ?_)
                 rintro e V4 ⟨rfl, hb⟩
                 try dsimp only
                 try simp only [Act.put, List.setIfInBounds_toArray, List.set_cons_zero, List.set_cons_succ]
                 replace bT := bT.on hb
                 replace bQ := bQ.on hb
                 replace bn11 := bn11.on hb
                 replace bn12 := bn12.on hb
                 replace bn13 := bn13.on hb
                 replace HW := Lib.hid (bel_end HW.out hb)
                 clear hb
                 refine hK.out _ _ (HSp.out _ bT bQ) (fun _ => ?_)
                 clear hK Kn)
              | (refine wpAnyH_ready (rs := [11]) (by kernel_rfl) (by simp) ?_
                 refine AllReadyH.cons (o := { dst := some 8, op := Go.Op.alloc 34, type := 0, pos := "l08_sectors.go:332", after := #[], guard := none }) rfl (fun Kn hK => ?_) AllReadyH.nil
                 go_simp
                 generalize hX : World.alloc V3 _ = V4
                 obtain ⟨g11, hg⟩ : ∃ g, g = V3.heap.size := ⟨_, rfl⟩
                 have bn11 : Bk V4 g11 #[.int .i64 0, .int .i64 0] 34 := by rw [← hX]; exact Bk.new' hg
                 have le11 : w4.heap.size ≤ g11 := by rw [hg]; exact HW.out.size
                 have nebT_11 : w.heap.size ≠ g11 := by have := bT.lt; omega
                 have nebQ_11 : w.heap.size + 1 ≠ g11 := by have := bQ.lt; omega
                 have ne12_11 : g12 ≠ g11 := by have := bn12.lt; omega
                 have ne13_11 : g13 ≠ g11 := by have := bn13.lt; omega
                 try rw [← hg]
                 have hb : Below V3.heap.size V3 V4 := by rw [← hX]; exact (Below.refl _ _).alloc (Nat.le_refl _) _
                 clear hX hg
                 replace bT := bT.on hb
                 replace bQ := bQ.on hb
                 replace bn12 := bn12.on hb
                 replace bn13 := bn13.on hb
                 replace HW := Lib.hid (bel_end HW.out hb)
                 clear hb
                 refine hK.out _ _ (HSp.out _ bT bQ) (fun _ => ?_)
                 clear hK Kn)
              | (refine wpAnyH_ready (rs := [12]) (by kernel_rfl) (by simp) ?_
                 refine AllReadyH.cons (o := { dst := some 9, op := Go.Op.alloc 34, type := 0, pos := "l08_sectors.go:332", after := #[], guard := none }) rfl (fun Kn hK => ?_) AllReadyH.nil
                 go_simp
                 generalize hX : World.alloc V3 _ = V4
                 obtain ⟨g12, hg⟩ : ∃ g, g = V3.heap.size := ⟨_, rfl⟩
                 have bn12 : Bk V4 g12 #[.int .i64 0, .int .i64 0] 34 := by rw [← hX]; exact Bk.new' hg
                 have le12 : w4.heap.size ≤ g12 := by rw [hg]; exact HW.out.size
                 have nebT_12 : w.heap.size ≠ g12 := by have := bT.lt; omega
                 have nebQ_12 : w.heap.size + 1 ≠ g12 := by have := bQ.lt; omega
                 have ne11_12 : g11 ≠ g12 := by have := bn11.lt; omega
                 have ne13_12 : g13 ≠ g12 := by have := bn13.lt; omega
                 try rw [← hg]
                 have hb : Below V3.heap.size V3 V4 := by rw [← hX]; exact (Below.refl _ _).alloc (Nat.le_refl _) _
                 clear hX hg
                 replace bT := bT.on hb
                 replace bQ := bQ.on hb
                 replace bn11 := bn11.on hb
                 replace bn13 := bn13.on hb
                 replace HW := Lib.hid (bel_end HW.out hb)
                 clear hb
                 refine hK.out _ _ (HSp.out _ bT bQ) (fun _ => ?_)
                 clear hK Kn)
              | (refine wpAnyH_ready (rs := [13]) (by kernel_rfl) (by simp) ?_
                 refine AllReadyH.cons (o := { dst := some 10, op := Go.Op.alloc 34, type := 0, pos := "l08_sectors.go:332", after := #[], guard := none }) rfl (fun Kn hK => ?_) AllReadyH.nil
                 go_simp
                 generalize hX : World.alloc V3 _ = V4
                 obtain ⟨g13, hg⟩ : ∃ g, g = V3.heap.size := ⟨_, rfl⟩
                 have bn13 : Bk V4 g13 #[.int .i64 0, .int .i64 0] 34 := by rw [← hX]; exact Bk.new' hg
                 have le13 : w4.heap.size ≤ g13 := by rw [hg]; exact HW.out.size
                 have nebT_13 : w.heap.size ≠ g13 := by have := bT.lt; omega
                 have nebQ_13 : w.heap.size + 1 ≠ g13 := by have := bQ.lt; omega
                 have ne11_13 : g11 ≠ g13 := by have := bn11.lt; omega
                 have ne12_13 : g12 ≠ g13 := by have := bn12.lt; omega
                 try rw [← hg]
                 have hb : Below V3.heap.size V3 V4 := by rw [← hX]; exact (Below.refl _ _).alloc (Nat.le_refl _) _
                 clear hX hg
                 replace bT := bT.on hb
                 replace bQ := bQ.on hb
                 replace bn11 := bn11.on hb
                 replace bn12 := bn12.on hb
                 replace HW := Lib.hid (bel_end HW.out hb)
                 clear hb
                 refine hK.out _ _ (HSp.out _ bT bQ) (fun _ => ?_)
                 clear hK Kn)
            all_goals
              have nf11_12 : g11 ≠ g12 := by omega
              have nf11_13 : g11 ≠ g13 := by omega
              have nf12_11 : g12 ≠ g11 := by omega
              have nf12_13 : g12 ≠ g13 := by omega
              have nf13_11 : g13 ≠ g11 := by omega
              have nf13_12 : g13 ≠ g12 := by omega
              refine wpAnyH_ready (rs := [14]) (by kernel_rfl) (by simp) ?_
              refine AllReadyH.cons (o := { dst := none, op := Go.Op.store 34 (Go.Operand.tmp 8) (Go.Operand.tmp 38), type := 0, pos := "l08_sectors.go:332", after := #[{ on := 11, ground := Go.Ground.data }, { on := 3, ground := Go.Ground.data }, { on := 10, ground := Go.Ground.chain }, { on := 0, ground := Go.Ground.phase }, { on := 1, ground := Go.Ground.phase }, { on := 2, ground := Go.Ground.phase }, { on := 3, ground := Go.Ground.phase }, { on := 4, ground := Go.Ground.textOnly Go.Departure.lateStores }, { on := 5, ground := Go.Ground.textOnly Go.Departure.lateStores }, { on := 6, ground := Go.Ground.textOnly Go.Departure.lateStores }, { on := 7, ground := Go.Ground.textOnly Go.Departure.lateStores }, { on := 8, ground := Go.Ground.textOnly Go.Departure.lateStores }, { on := 9, ground := Go.Ground.textOnly Go.Departure.lateStores }, { on := 10, ground := Go.Ground.textOnly Go.Departure.lateStoresUnsure }, { on := 11, ground := Go.Ground.phase }, { on := 12, ground := Go.Ground.phase }, { on := 13, ground := Go.Ground.phase }], guard := none }) rfl (fun Kn hK => ?_) AllReadyH.nil
              have bn11_0 := bn11.cell 0 rfl
              have bn11_1 := bn11.cell 1 rfl
              have bn11_f0 := bn11.frozen 0
              have bn11_f1 := bn11.frozen 1
              have bn11_l := bn11.lt
              go_simp
              clear bn11_0 bn11_f0 bn11_1 bn11_f1 bn11_l
              generalize hX : World.setCell _ _ _ = V5
              have hb : Below w4.heap.size w4 V5 := by rw [← hX]; exact ((HW.out.setCell (p := ⟨g11, 0, none⟩) le11 _).setCell (p := ⟨g11, 1, none⟩) le11 _)
              replace bT : Bk V5 (w.heap.size) #[.slice (some ⟨g1, 0, none⟩) N c1, .int .i64 k1, .bool d1, .int .i64 l1, .int .i64 h1, .slice (some ⟨g2, 0, none⟩) N c2, .int .i64 k2, .bool d2, .int .i64 l2, .int .i64 h2] 57 := by rw [← hX]; exact (Bk.other (Bk.other bT nebT_11 0 _) nebT_11 1 _)
              replace bQ : Bk V5 (w.heap.size + 1) #[.int .i64 k1, .int .i64 ds] 51 := by rw [← hX]; exact (Bk.other (Bk.other bQ nebQ_11 0 _) nebQ_11 1 _)
              replace bn12 : Bk V5 (g12) #[.int .i64 0, .int .i64 0] 34 := by rw [← hX]; exact (Bk.other (Bk.other bn12 nf12_11 0 _) nf12_11 1 _)
              replace bn13 : Bk V5 (g13) #[.int .i64 0, .int .i64 0] 34 := by rw [← hX]; exact (Bk.other (Bk.other bn13 nf13_11 0 _) nf13_11 1 _)
              replace bn11 : Bk V5 (g11) #[.int .i64 l1, .int .i64 h1] 34 := by rw [← hX]; exact (Bk.set (Bk.set bn11 0 _ rfl) 1 _ rfl)
              clear hX
              replace HW := Lib.hid hb
              clear hb
              refine hK.out _ _ (HSp.out _ bT bQ) (fun _ => ?_)
              clear hK Kn
              refine wpAnyH_ready (rs := [15]) (by kernel_rfl) (by simp) ?_
              refine AllReadyH.cons (o := { dst := none, op := Go.Op.store 34 (Go.Operand.tmp 9) (Go.Operand.tmp 42), type := 0, pos := "l08_sectors.go:332", after := #[{ on := 12, ground := Go.Ground.data }, { on := 7, ground := Go.Ground.data }, { on := 14, ground := Go.Ground.chain }, { on := 0, ground := Go.Ground.phase }, { on := 1, ground := Go.Ground.phase }, { on := 2, ground := Go.Ground.phase }, { on := 3, ground := Go.Ground.phase }, { on := 4, ground := Go.Ground.phase }, { on := 5, ground := Go.Ground.phase }, { on := 6, ground := Go.Ground.phase }, { on := 7, ground := Go.Ground.phase }, { on := 8, ground := Go.Ground.textOnly Go.Departure.lateStores }, { on := 9, ground := Go.Ground.textOnly Go.Departure.lateStores }, { on := 10, ground := Go.Ground.textOnly Go.Departure.lateStoresUnsure }, { on := 11, ground := Go.Ground.phase }, { on := 12, ground := Go.Ground.phase }, { on := 13, ground := Go.Ground.phase }, { on := 14, ground := Go.Ground.phase }], guard := none }) rfl (fun Kn hK => ?_) AllReadyH.nil
              have bn12_0 := bn12.cell 0 rfl
              have bn12_1 := bn12.cell 1 rfl
              have bn12_f0 := bn12.frozen 0
              have bn12_f1 := bn12.frozen 1
              have bn12_l := bn12.lt
              go_simp
              clear bn12_0 bn12_f0 bn12_1 bn12_f1 bn12_l
              generalize hX : World.setCell _ _ _ = V6
              have hb : Below w4.heap.size w4 V6 := by rw [← hX]; exact ((HW.out.setCell (p := ⟨g12, 0, none⟩) le12 _).setCell (p := ⟨g12, 1, none⟩) le12 _)
              replace bT : Bk V6 (w.heap.size) #[.slice (some ⟨g1, 0, none⟩) N c1, .int .i64 k1, .bool d1, .int .i64 l1, .int .i64 h1, .slice (some ⟨g2, 0, none⟩) N c2, .int .i64 k2, .bool d2, .int .i64 l2, .int .i64 h2] 57 := by rw [← hX]; exact (Bk.other (Bk.other bT nebT_12 0 _) nebT_12 1 _)
              replace bQ : Bk V6 (w.heap.size + 1) #[.int .i64 k1, .int .i64 ds] 51 := by rw [← hX]; exact (Bk.other (Bk.other bQ nebQ_12 0 _) nebQ_12 1 _)
              replace bn11 : Bk V6 (g11) #[.int .i64 l1, .int .i64 h1] 34 := by rw [← hX]; exact (Bk.other (Bk.other bn11 nf11_12 0 _) nf11_12 1 _)
              replace bn13 : Bk V6 (g13) #[.int .i64 0, .int .i64 0] 34 := by rw [← hX]; exact (Bk.other (Bk.other bn13 nf13_12 0 _) nf13_12 1 _)
              replace bn12 : Bk V6 (g12) #[.int .i64 l2, .int .i64 h2] 34 := by rw [← hX]; exact (Bk.set (Bk.set bn12 0 _ rfl) 1 _ rfl)
              clear hX
              replace HW := Lib.hid hb
              clear hb
              refine hK.out _ _ (HSp.out _ bT bQ) (fun _ => ?_)
              clear hK Kn
              refine wpAnyH_ready (rs := [16]) (by kernel_rfl) (by simp) ?_
              refine AllReadyH.cons (o := { dst := none, op := Go.Op.store 34 (Go.Operand.tmp 10) (Go.Operand.tmp 45), type := 0, pos := "l08_sectors.go:332", after := #[{ on := 13, ground := Go.Ground.data }, { on := 10, ground := Go.Ground.data }, { on := 15, ground := Go.Ground.chain }, { on := 0, ground := Go.Ground.phase }, { on := 1, ground := Go.Ground.phase }, { on := 2, ground := Go.Ground.phase }, { on := 3, ground := Go.Ground.phase }, { on := 4, ground := Go.Ground.phase }, { on := 5, ground := Go.Ground.phase }, { on := 6, ground := Go.Ground.phase }, { on := 7, ground := Go.Ground.phase }, { on := 8, ground := Go.Ground.phase }, { on := 9, ground := Go.Ground.phase }, { on := 10, ground := Go.Ground.phase }, { on := 11, ground := Go.Ground.phase }, { on := 12, ground := Go.Ground.phase }, { on := 13, ground := Go.Ground.phase }, { on := 14, ground := Go.Ground.phase }, { on := 15, ground := Go.Ground.phase }], guard := none }) rfl (fun Kn hK => ?_) AllReadyH.nil
              have bn13_0 := bn13.cell 0 rfl
              have bn13_1 := bn13.cell 1 rfl
              have bn13_f0 := bn13.frozen 0
              have bn13_f1 := bn13.frozen 1
              have bn13_l := bn13.lt
              go_simp
              clear bn13_0 bn13_f0 bn13_1 bn13_f1 bn13_l
              generalize hX : World.setCell _ _ _ = V7
              have hb : Below w4.heap.size w4 V7 := by rw [← hX]; exact ((HW.out.setCell (p := ⟨g13, 0, none⟩) le13 _).setCell (p := ⟨g13, 1, none⟩) le13 _)
              replace bT : Bk V7 (w.heap.size) #[.slice (some ⟨g1, 0, none⟩) N c1, .int .i64 k1, .bool d1, .int .i64 l1, .int .i64 h1, .slice (some ⟨g2, 0, none⟩) N c2, .int .i64 k2, .bool d2, .int .i64 l2, .int .i64 h2] 57 := by rw [← hX]; exact (Bk.other (Bk.other bT nebT_13 0 _) nebT_13 1 _)
              replace bQ : Bk V7 (w.heap.size + 1) #[.int .i64 k1, .int .i64 ds] 51 := by rw [← hX]; exact (Bk.other (Bk.other bQ nebQ_13 0 _) nebQ_13 1 _)
              replace bn11 : Bk V7 (g11) #[.int .i64 l1, .int .i64 h1] 34 := by rw [← hX]; exact (Bk.other (Bk.other bn11 nf11_13 0 _) nf11_13 1 _)
              replace bn12 : Bk V7 (g12) #[.int .i64 l2, .int .i64 h2] 34 := by rw [← hX]; exact (Bk.other (Bk.other bn12 nf12_13 0 _) nf12_13 1 _)
              replace bn13 : Bk V7 (g13) #[.int .i64 ds, .int .i64 ds] 34 := by rw [← hX]; exact (Bk.set (Bk.set bn13 0 _ rfl) 1 _ rfl)
              clear hX
              replace HW := Lib.hid hb
              clear hb
              refine hK.out _ _ (HSp.out _ bT bQ) (fun _ => ?_)
              clear hK Kn
              refine wpAnyH_done (by kernel_rfl) ?_ _
              go_wp2_with fail
              go_meet
              exact ⟨_, _, _, rfl, rfl, rfl, bn11, bn12, bn13, HW.out⟩
          case rest =>
            obtain ⟨x8, x9, x10, rfl, rfl, rfl, b8, b9, b10, hb⟩ := hcut
            replace HB := Lib.hid (bel_end HB.out hb)
            clear hb bT bQ
            have KB : Hid (∀ (a b c d : Int) (W : World), Calls Tryz.prog 41 #[.agg #[.int .i64 a, .int .i64 b], .agg #[.int .i64 c, .int .i64 d]] W fun e w' => e = .returned (.bool (decide (b < c))) ∧ Below W.heap.size W w') := Lib.hid (fun a b c d W => isb_low W a b c d)
            by_cases p1 : h1 < ds
            case pos =>
              have b8_0 := b8.cell 0 rfl
              have b8_1 := b8.cell 1 rfl
              have b8_l := b8.lt
              have b9_0 := b9.cell 0 rfl
              have b9_1 := b9.cell 1 rfl
              have b9_l := b9.lt
              have b10_0 := b10.cell 0 rfl
              have b10_1 := b10.cell 1 rfl
              have b10_l := b10.lt
              go_wp2_with fail
              (with_reducible refine Calls.mono (KB.out l1 h1 ds ds _) ?_)
              rintro e v5 ⟨rfl, hb⟩
              clear b8_0 b8_1 b8_l
              clear b9_0 b9_1 b9_l
              clear b10_0 b10_1 b10_l
              replace b8 := b8.on hb
              replace b9 := b9.on hb
              replace b10 := b10.on hb
              replace HB := Lib.hid (bel_end HB.out hb)
              clear hb
              have b8_0 := b8.cell 0 rfl
              have b8_1 := b8.cell 1 rfl
              have b8_l := b8.lt
              have b9_0 := b9.cell 0 rfl
              have b9_1 := b9.cell 1 rfl
              have b9_l := b9.lt
              have b10_0 := b10.cell 0 rfl
              have b10_1 := b10.cell 1 rfl
              have b10_l := b10.lt
              go_wp2_with fail
              (with_reducible refine Calls.mono (KB.out ds ds l2 h2 _) ?_)
              rintro e v6 ⟨rfl, hb⟩
              clear b8_0 b8_1 b8_l
              clear b9_0 b9_1 b9_l
              clear b10_0 b10_1 b10_l
              replace b8 := b8.on hb
              replace b9 := b9.on hb
              replace b10 := b10.on hb
              replace HB := Lib.hid (bel_end HB.out hb)
              clear hb
              by_cases p2 : ds < l2
              case pos =>
                have HC : Hid ((2, 0) = V) := Lib.hid (by rw [← HV2, if_pos (Or.inl ⟨p1, p2⟩)])
                clear HV2
                go_wp2
                go_ret2
                exact ⟨by rw [← HC.out]; rfl, HB.out⟩
              case neg =>
                have b8_0 := b8.cell 0 rfl
                have b8_1 := b8.cell 1 rfl
                have b8_l := b8.lt
                have b9_0 := b9.cell 0 rfl
                have b9_1 := b9.cell 1 rfl
                have b9_l := b9.lt
                have b10_0 := b10.cell 0 rfl
                have b10_1 := b10.cell 1 rfl
                have b10_l := b10.lt
                go_wp2_with fail
                (with_reducible refine Calls.mono (KB.out l2 h2 ds ds _) ?_)
                rintro e v7 ⟨rfl, hb⟩
                clear b8_0 b8_1 b8_l
                clear b9_0 b9_1 b9_l
                clear b10_0 b10_1 b10_l
                replace b8 := b8.on hb
                replace b9 := b9.on hb
                replace b10 := b10.on hb
                replace HB := Lib.hid (bel_end HB.out hb)
                clear hb
                by_cases p3 : h2 < ds
                case pos =>
                  have b8_0 := b8.cell 0 rfl
                  have b8_1 := b8.cell 1 rfl
                  have b8_l := b8.lt
                  have b9_0 := b9.cell 0 rfl
                  have b9_1 := b9.cell 1 rfl
                  have b9_l := b9.lt
                  have b10_0 := b10.cell 0 rfl
                  have b10_1 := b10.cell 1 rfl
                  have b10_l := b10.lt
                  go_wp2_with fail
                  (with_reducible refine Calls.mono (KB.out ds ds l1 h1 _) ?_)
                  rintro e v8 ⟨rfl, hb⟩
                  clear b8_0 b8_1 b8_l
                  clear b9_0 b9_1 b9_l
                  clear b10_0 b10_1 b10_l
                  replace b8 := b8.on hb
                  replace b9 := b9.on hb
                  replace b10 := b10.on hb
                  replace HB := Lib.hid (bel_end HB.out hb)
                  clear hb
                  by_cases p4 : ds < l1
                  case pos =>
                    have HC : Hid ((2, 0) = V) := Lib.hid (by rw [← HV2, if_pos (Or.inr ⟨p3, p4⟩)])
                    clear HV2
                    go_wp2
                    go_ret2
                    exact ⟨by rw [← HC.out]; rfl, HB.out⟩
                  case neg =>
                    have HC : Hid ((1, 0) = V) := Lib.hid (by rw [← HV2, if_neg (by omega)])
                    clear HV2
                    go_wp2
                    go_ret2
                    exact ⟨by rw [← HC.out]; rfl, HB.out⟩
                case neg =>
                  have HC : Hid ((1, 0) = V) := Lib.hid (by rw [← HV2, if_neg (by omega)])
                  clear HV2
                  go_wp2
                  go_ret2
                  exact ⟨by rw [← HC.out]; rfl, HB.out⟩
            case neg =>
              have b8_0 := b8.cell 0 rfl
              have b8_1 := b8.cell 1 rfl
              have b8_l := b8.lt
              have b9_0 := b9.cell 0 rfl
              have b9_1 := b9.cell 1 rfl
              have b9_l := b9.lt
              have b10_0 := b10.cell 0 rfl
              have b10_1 := b10.cell 1 rfl
              have b10_l := b10.lt
              go_wp2_with fail
              (with_reducible refine Calls.mono (KB.out l1 h1 ds ds _) ?_)
              rintro e v5 ⟨rfl, hb⟩
              clear b8_0 b8_1 b8_l
              clear b9_0 b9_1 b9_l
              clear b10_0 b10_1 b10_l
              replace b8 := b8.on hb
              replace b9 := b9.on hb
              replace b10 := b10.on hb
              replace HB := Lib.hid (bel_end HB.out hb)
              clear hb
              have b8_0 := b8.cell 0 rfl
              have b8_1 := b8.cell 1 rfl
              have b8_l := b8.lt
              have b9_0 := b9.cell 0 rfl
              have b9_1 := b9.cell 1 rfl
              have b9_l := b9.lt
              have b10_0 := b10.cell 0 rfl
              have b10_1 := b10.cell 1 rfl
              have b10_l := b10.lt
              go_wp2_with fail
              (with_reducible refine Calls.mono (KB.out l2 h2 ds ds _) ?_)
              rintro e v7 ⟨rfl, hb⟩
              clear b8_0 b8_1 b8_l
              clear b9_0 b9_1 b9_l
              clear b10_0 b10_1 b10_l
              replace b8 := b8.on hb
              replace b9 := b9.on hb
              replace b10 := b10.on hb
              replace HB := Lib.hid (bel_end HB.out hb)
              clear hb
              by_cases p3 : h2 < ds
              case pos =>
                have b8_0 := b8.cell 0 rfl
                have b8_1 := b8.cell 1 rfl
                have b8_l := b8.lt
                have b9_0 := b9.cell 0 rfl
                have b9_1 := b9.cell 1 rfl
                have b9_l := b9.lt
                have b10_0 := b10.cell 0 rfl
                have b10_1 := b10.cell 1 rfl
                have b10_l := b10.lt
                go_wp2_with fail
                (with_reducible refine Calls.mono (KB.out ds ds l1 h1 _) ?_)
                rintro e v8 ⟨rfl, hb⟩
                clear b8_0 b8_1 b8_l
                clear b9_0 b9_1 b9_l
                clear b10_0 b10_1 b10_l
                replace b8 := b8.on hb
                replace b9 := b9.on hb
                replace b10 := b10.on hb
                replace HB := Lib.hid (bel_end HB.out hb)
                clear hb
                by_cases p4 : ds < l1
                case pos =>
                  have HC : Hid ((2, 0) = V) := Lib.hid (by rw [← HV2, if_pos (Or.inr ⟨p3, p4⟩)])
                  clear HV2
                  go_wp2
                  go_ret2
                  exact ⟨by rw [← HC.out]; rfl, HB.out⟩
                case neg =>
                  have HC : Hid ((1, 0) = V) := Lib.hid (by rw [← HV2, if_neg (by omega)])
                  clear HV2
                  go_wp2
                  go_ret2
                  exact ⟨by rw [← HC.out]; rfl, HB.out⟩
              case neg =>
                have HC : Hid ((1, 0) = V) := Lib.hid (by rw [← HV2, if_neg (by omega)])
                clear HV2
                go_wp2
                go_ret2
                exact ⟨by rw [← HC.out]; rfl, HB.out⟩
end Go.Proofs.YtgecbfbmmbfnmaaGreat
