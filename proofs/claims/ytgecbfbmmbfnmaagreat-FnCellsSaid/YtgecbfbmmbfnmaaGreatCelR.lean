import Derived.Test.YtgecbfbmmbfnmaaGreatCelQ
import Derived.Test.YtgecbfbmmbfnmaaGreatCelG
import Derived.Test.YtgecbfbmmbfnmaaGreatCelH
import Derived.Handy
import Derived.Outline
import Derived.LoopTactic
import Derived.Deep.RegionHeld3
import Derived.Deep.DeepCutAuto
import Derived.Deep.RegionWith
namespace Go.Proofs.YtgecbfbmmbfnmaaGreat
/- Contracts of the model's CellVerdict; both sides compute the same. -/
open Go.ChangeShapes Go.WideShapes Go.ChangeAt Go.RowKit Go.Shelf Num
set_option linter.unusedVariables false
set_option linter.unusedSimpArgs false

theorem mcT_00 {zs ys : List Int} {src c s h x y z n : Int} (e : mcT zs ys src c s h x y z n = 0) : ∃ i N : Nat, src = (i : Int) ∧ n = (N : Int) ∧ N ≤ 100 ∧ RyOk zs ys i c s h ∧ RyOk zs ys i x y z := by
  unfold mcT at e
  cases hP : prfB zs ys <;> cases h1 : dirB c s h <;> cases h2 : dirB x y z <;> cases hK : hkB zs src <;> cases hI : inB n 0 100 <;> rw [hP, h1, h2, hK, hI] at e <;> simp at e
  have g := hkB_t hK
  have g2 := inB_t hI
  exact ⟨src.toNat, n.toNat, by omega, by omega, by omega, ⟨Okp.of hP, dirB_t h1, by omega⟩, ⟨Okp.of hP, dirB_t h2, by omega⟩⟩
/-- a knot and a distance in their ranges -/
def tgB (zs : List Int) (kn ds : Int) : Bool := hkB zs kn && hasB 0 1000000000000 ds
theorem hasB_inBc (x lo hi : Int) : hasB lo hi x = inB x lo hi := by unfold hasB inB; rw [Bool.eq_iff_iff]; simp
/-- the model's verdict and its error -/
def mvT (zs ys : List Int) (src c s h x y z n kn ds : Int) : Int × Int :=
  if mcT zs ys src c s h x y z n = 1 then (0, 1) else (if tgB zs kn ds then (if mcT zs ys src c s h x y z n = 0 then (if tlB zs ys src.toNat c s h x y z n.toNat then (if hsB zs ys src.toNat c s h x y z n.toNat then vrC ((runS zs ys src.toNat c h (fst0 src.toNat s) n.toNat).k : Int) (runS zs ys src.toNat c h (fst0 src.toNat s) n.toNat).lo (runS zs ys src.toNat c h (fst0 src.toNat s) n.toNat).hi (runS zs ys src.toNat x z (fst0 src.toNat y) n.toNat).lo (runS zs ys src.toNat x z (fst0 src.toNat y) n.toNat).hi (enS zs ys src.toNat c s h x y z n.toNat).1 (enS zs ys src.toNat c s h x y z n.toNat).2 kn ds else 1, 0) else (0, 3)) else (0, mcT zs ys src c s h x y z n)) else (0, 2))
theorem cv_eq (zs ys : List Int) (src c s h x y z n kn ds : Int) : cvT zs ys src c s h x y z n kn ds = mvT zs ys src c s h x y z n kn ds := by
  unfold cvT mvT mcT eofT eoT tgB
  cases hD1 : dirB c s h
  · cases prfB zs ys <;> rfl
  cases hD2 : dirB x y z
  · cases prfB zs ys <;> rfl
  cases hP : prfB zs ys
  · rfl
  cases hK : hkB zs src
  · cases hkB zs kn <;> cases hasB 0 1000000000000 ds <;> rfl
  cases hI : inB n 0 100
  · cases hkB zs kn <;> cases hasB 0 1000000000000 ds <;> rfl
  cases hKN : hkB zs kn
  · cases hasB 0 1000000000000 ds <;> cases (decide (0 < s) == decide (0 < y)) <;> rfl
  cases hDS : hasB 0 1000000000000 ds
  · cases (decide (0 < s) == decide (0 < y)) <;> rfl
  have hI2 : 0 ≤ n ∧ n ≤ 100 := inB_t hI
  have f1 : fcod zs ys src c s h = 0 := by unfold fcod rcod rcT; rw [hP, hD1, hK]; rfl
  have f2 : fcod zs ys src x y z = 0 := by unfold fcod rcod rcT; rw [hP, hD2, hK]; rfl
  obtain ⟨i, hi, r⟩ := fcod_0 f1
  obtain ⟨i2, hi2, q⟩ := fcod_0 f2
  obtain rfl : i = i2 := by omega
  subst hi
  obtain ⟨N, rfl⟩ : ∃ N : Nat, n = (N : Int) := ⟨n.toNat, by omega⟩
  have T1 : tcod zs ys (i : Int) c s h (N : Int) = if okN zs ys i c h (fst0 i s) N then 0 else 3 := by unfold tcod; rw [if_pos f1, hI, if_pos rfl]; rfl
  have T2 : tcod zs ys (i : Int) x y z (N : Int) = if okN zs ys i x z (fst0 i y) N then 0 else 3 := by unfold tcod; rw [if_pos f2, hI, if_pos rfl]; rfl
  rw [T1, T2, Int.toNat_natCast, Int.toNat_natCast]
  have hc0 : cdT true true = 0 := rfl
  cases hd : (decide (0 < s) == decide (0 < y))
  · have hr : ∀ a b : Int, rsC (decide (0 < s)) (decide (0 < y)) a b = 5 := by intro a b; unfold rsC; rw [hd]; rfl
    simp [hr, hc0]
  · have hr : ∀ a b : Int, rsC (decide (0 < s)) (decide (0 < y)) a b = if a = 0 then b else a := by intro a b; unfold rsC; rw [hd]; rfl
    simp only [hr, hc0, if_true, Bool.and_self]
    cases e1 : okN zs ys i c h (fst0 i s) N
    · have ht : tlB zs ys i c s h x y z N = false := by cases t : tlB zs ys i c s h x y z N with | false => rfl | true => exact absurd (tlB_ok t).1 (by rw [e1]; decide)
      simp [ht]
    · cases e2 : okN zs ys i x z (fst0 i y) N
      · have ht : tlB zs ys i c s h x y z N = false := by cases t : tlB zs ys i c s h x y z N with | false => rfl | true => exact absurd (tlB_ok t).2.1 (by rw [e2]; decide)
        simp [ht]
      · cases hs : hsB zs ys i c s h x y z N
        · have ht := tlB_no r q hd (show N ≤ 100 by omega) e1 e2 hs
          simp [ht, vdR]
        · unfold enT lim vdR
          cases v1 : valB (enS zs ys i c s h x y z N).1
          · have ht : tlB zs ys i c s h x y z N = false := by cases t : tlB zs ys i c s h x y z N with | false => rfl | true => exact absurd (tlB_ok t).2.2.1 (by rw [v1]; decide)
            simp [ht]
          · cases v2 : valB (enS zs ys i c s h x y z N).2
            · have ht : tlB zs ys i c s h x y z N = false := by cases t : tlB zs ys i c s h x y z N with | false => rfl | true => exact absurd (tlB_ok t).2.2.2 (by rw [v2]; decide)
              simp [ht]
            · have ht := tlB_of r q e1 e2 v1 v2
              simp [ht]

set_option maxRecDepth 100000 in
set_option maxHeartbeats 2000000 in
theorem l8t_any (w : World) (a b : Option Addr) (ca cb : Nat) (zs ys : List Int) (kn ds : Int) (lz : zs.length ≤ 1048576) :
    Calls Tryz.prog 20 #[.agg #[.slice a zs.length ca, .slice b ys.length cb], .int .i64 kn, .int .i64 ds] w fun e w' => e = .returned (.bool (tgB zs kn ds)) ∧ Below w.heap.size w w' := by
  have HK : Hid (hkB zs kn = inB kn 0 ((zs.length : Int) - 1)) := Lib.hid (by unfold hkB inB; rw [Bool.eq_iff_iff]; simp; omega)
  have HD : Hid (hasB 0 1000000000000 ds = inB ds 0 1000000000000) := Lib.hid (hasB_inBc _ _ _)
  obtain ⟨k0, hk0⟩ : ∃ u, inB kn 0 ((zs.length : Int) - 1) = u := ⟨_, rfl⟩
  obtain ⟨r0, hr0⟩ : ∃ u, inB ds 0 1000000000000 = u := ⟨_, rfl⟩
  have HR : Hid (tgB zs kn ds = (k0 && r0)) := Lib.hid (by unfold tgB; rw [HK.out, HD.out, hk0, hr0])
  have K1 : Hid (∀ W : World, Calls Tryz.prog 44 #[.int .i64 kn, .int .i64 0, .int .i64 ((zs.length : Int) - 1)] W fun e w' => e = .returned (.bool k0) ∧ W = w') := Lib.hid (fun W => by have := lin_any kn 0 ((zs.length : Int) - 1) W; rwa [hk0] at this)
  have K2 : Hid (∀ W : World, Calls Tryz.prog 44 #[.int .i64 ds, .int .i64 0, .int .i64 1000000000000] W fun e w' => e = .returned (.bool r0) ∧ W = w') := Lib.hid (fun W => by have := lin_any ds 0 1000000000000 W; rwa [hr0] at this)
  clear hk0 hr0 HK HD
  go_enter Tryz.func20, Tryz.ntmps20
  go_upto_region 1 with fail
  generalize hW : World.alloc _ _ = W
  have bX : Bk W (w.heap.size) #[.slice a zs.length ca, .slice b ys.length cb] 26 := by rw [← hW]; repeat (first | (refine Bk.new' ?_; (simp; done)) | refine Bk.alloc ?_ _)
  have HB : Hid (Below w.heap.size w W) := Lib.hid (by rw [← hW]; exact (by repeat (first | exact Below.refl _ _ | (refine Below.alloc ?_ (by simp <;> omega) _) | (refine Below.setCell ?_ (by simp <;> omega) _) | (refine Below.drew ?_) | (refine bel_drewN ?_ _))))
  clear hW
  have bX_0 := bX.cell 0 rfl
  have bX_1 := bX.cell 1 rfl
  have bX_l := bX.lt
  go_wp2_with fail
  (with_reducible refine Calls.mono (K1.out _) ?_)
  rintro e w' ⟨rfl, rfl⟩
  cases k0
  case false =>
    go_wp2
    go_ret
    exact ⟨by rw [HR.out]; rfl, HB.out⟩
  case true =>
    go_wp2_with fail
    (with_reducible refine Calls.mono (K2.out _) ?_)
    rintro e w' ⟨rfl, rfl⟩
    cases r0
    all_goals
      go_wp2
      go_ret
      exact ⟨by rw [HR.out]; rfl, HB.out⟩

set_option maxRecDepth 100000 in
set_option maxHeartbeats 8000000 in
theorem l8v_any (w : World) (u0 u2 u3 u4 u6 u7 A E kn ds : Int) (u1 u5 sm : Bool) :
    Calls Tryz.prog 22 #[.agg #[.int .i64 u0, .bool u1, .int .i64 u2, .int .i64 u3, .int .i64 u4, .bool u5, .int .i64 u6, .int .i64 u7, .bool sm, .int .i64 A, .int .i64 E], .int .i64 kn, .int .i64 ds] w fun e w' => e = .returned (.int .i64 (if sm then vrC u0 u2 u3 u6 u7 A E kn ds else 1)) ∧ Below w.heap.size w w' := by
  obtain ⟨V, hV⟩ : ∃ u, (if sm then vrC u0 u2 u3 u6 u7 A E kn ds else 1) = u := ⟨_, rfl⟩
  rw [hV]
  have HV := hV
  unfold vrC at HV
  rw [hasB_inBc] at HV
  obtain ⟨r0, hr0⟩ : ∃ u, inB ds A E = u := ⟨_, rfl⟩
  rw [hr0] at HV
  have K1 : Hid (∀ W : World, Calls Tryz.prog 44 #[.int .i64 ds, .int .i64 A, .int .i64 E] W fun e w' => e = .returned (.bool r0) ∧ W = w') := Lib.hid (fun W => by have := lin_any ds A E W; rwa [hr0] at this)
  clear hV hr0
  go_enter Tryz.func22, Tryz.ntmps22
  go_upto_region 1 with fail
  generalize hW : World.alloc _ _ = W
  have bC : Bk W (w.heap.size) #[.int .i64 u0, .bool u1, .int .i64 u2, .int .i64 u3, .int .i64 u4, .bool u5, .int .i64 u6, .int .i64 u7, .bool sm, .int .i64 A, .int .i64 E] 66 := by rw [← hW]; repeat (first | (refine Bk.new' ?_; (simp; done)) | refine Bk.alloc ?_ _)
  have HB : Hid (Below w.heap.size w W) := Lib.hid (by rw [← hW]; exact (by repeat (first | exact Below.refl _ _ | (refine Below.alloc ?_ (by simp <;> omega) _) | (refine Below.setCell ?_ (by simp <;> omega) _) | (refine Below.drew ?_) | (refine bel_drewN ?_ _))))
  clear hW
  go_cut [7, 8] (fun s7 s8 wx => ∃ x7 x8, s7 = .pointer (some ⟨x7, 0, none⟩) ∧ s8 = .pointer (some ⟨x8, 0, none⟩) ∧ Bk wx x7 #[.int .i64 u2, .int .i64 u3] 34 ∧ Bk wx x8 #[.int .i64 u6, .int .i64 u7] 34 ∧ Below W.heap.size W wx)
  case first =>
    have HW : Hid (Below W.heap.size W W) := Lib.hid (Below.refl _ _)
    obtain ⟨S, hSd⟩ : ∃ S : World → Prop, ∀ w', S w' ↔ (w'.cell? ⟨w.heap.size, 2, none⟩ = some (.int .i64 u2) ∧ w'.cell? ⟨w.heap.size, 3, none⟩ = some (.int .i64 u3) ∧ w'.cell? ⟨w.heap.size, 6, none⟩ = some (.int .i64 u6) ∧ w'.cell? ⟨w.heap.size, 7, none⟩ = some (.int .i64 u7)) := ⟨_, fun _ => Iff.rfl⟩
    have HSp : Hid (∀ w' : World, Bk w' (w.heap.size) #[.int .i64 u0, .bool u1, .int .i64 u2, .int .i64 u3, .int .i64 u4, .bool u5, .int .i64 u6, .int .i64 u7, .bool sm, .int .i64 A, .int .i64 E] 66 → S w') := Lib.hid (fun w' bC => (hSd w').2 ⟨bC.cell 2 rfl, bC.cell 3 rfl, bC.cell 6 rfl, bC.cell 7 rfl⟩)
    have HSd := Lib.hid hSd
    clear hSd
    refine wp_region_held_drew (S := S) (by kernel_rfl) ?_ (fun hH => ?_)
    · exact (HSp.out _ bC : S (World.drew W))
    clear hH
    generalize hX : World.drew W = V0
    replace bC : Bk V0 (w.heap.size) #[.int .i64 u0, .bool u1, .int .i64 u2, .int .i64 u3, .int .i64 u4, .bool u5, .int .i64 u6, .int .i64 u7, .bool sm, .int .i64 A, .int .i64 E] 66 := by rw [← hX]; exact bC
    have hb : Below W.heap.size W V0 := by rw [← hX]; exact (Below.refl _ _).drew
    clear hX
    replace HW := Lib.hid (bel_end HW.out hb)
    clear hb
    have hS := HSp.out _ bC
    refine wpAnyH_take (i := 0) (oi := { dst := some 9, op := Go.Op.fieldAddr 66 (Go.Operand.tmp 3) 0, type := 0, pos := "l08_sectors.go:97", after := #[], guard := none }) (v := ?_) rfl (by kernel_rfl) (by kernel_rfl) (by kernel_rfl) (fun _ _ _ h => h) (Or.inl ⟨by rfl, ?_⟩) hS ?_
    rotate_left
    · (intro w hSw; have hSw := (HSd.out w).1 hSw; go_split_ands; go_simp) <;> with_reducible rfl
    clear hS
    try simp only [Act.put, List.setIfInBounds_toArray, List.set_cons_zero, List.set_cons_succ]
    have hS := HSp.out _ bC
    refine wpAnyH_take (i := 1) (oi := { dst := some 10, op := Go.Op.fieldAddr 38 (Go.Operand.tmp 9) 2, type := 0, pos := "l08_sectors.go:97", after := #[{ on := 0, ground := Go.Ground.data }], guard := none }) (v := ?_) rfl (by kernel_rfl) (by kernel_rfl) (by kernel_rfl) (fun _ _ _ h => h) (Or.inl ⟨by rfl, ?_⟩) hS ?_
    rotate_left
    · (intro w hSw; have hSw := (HSd.out w).1 hSw; go_split_ands; go_simp) <;> with_reducible rfl
    clear hS
    try simp only [Act.put, List.setIfInBounds_toArray, List.set_cons_zero, List.set_cons_succ]
    have hS := HSp.out _ bC
    refine wpAnyH_take (i := 2) (oi := { dst := some 11, op := Go.Op.load 34 (Go.Operand.tmp 10), type := 34, pos := "l08_sectors.go:97", after := #[{ on := 1, ground := Go.Ground.data }], guard := none }) (v := ?_) rfl (by kernel_rfl) (by kernel_rfl) (by kernel_rfl) (fun _ _ _ h => h) (Or.inl ⟨by rfl, ?_⟩) hS ?_
    rotate_left
    · (intro w hSw; have hSw := (HSd.out w).1 hSw; go_split_ands; go_simp) <;> with_reducible rfl
    clear hS
    try simp only [Act.put, List.setIfInBounds_toArray, List.set_cons_zero, List.set_cons_succ]
    have hS := HSp.out _ bC
    refine wpAnyH_take (i := 3) (oi := { dst := some 12, op := Go.Op.fieldAddr 66 (Go.Operand.tmp 3) 1, type := 0, pos := "l08_sectors.go:97", after := #[{ on := 8, ground := Go.Ground.gcOnly Go.Departure.lateStores }], guard := none }) (v := ?_) rfl (by kernel_rfl) (by kernel_rfl) (by kernel_rfl) (fun _ _ _ h => h) (Or.inl ⟨by rfl, ?_⟩) hS ?_
    rotate_left
    · (intro w hSw; have hSw := (HSd.out w).1 hSw; go_split_ands; go_simp) <;> with_reducible rfl
    clear hS
    try simp only [Act.put, List.setIfInBounds_toArray, List.set_cons_zero, List.set_cons_succ]
    have hS := HSp.out _ bC
    refine wpAnyH_take (i := 4) (oi := { dst := some 13, op := Go.Op.fieldAddr 38 (Go.Operand.tmp 12) 2, type := 0, pos := "l08_sectors.go:97", after := #[{ on := 3, ground := Go.Ground.data }, { on := 8, ground := Go.Ground.gcOnly Go.Departure.lateStores }], guard := none }) (v := ?_) rfl (by kernel_rfl) (by kernel_rfl) (by kernel_rfl) (fun _ _ _ h => h) (Or.inl ⟨by rfl, ?_⟩) hS ?_
    rotate_left
    · (intro w hSw; have hSw := (HSd.out w).1 hSw; go_split_ands; go_simp) <;> with_reducible rfl
    clear hS
    try simp only [Act.put, List.setIfInBounds_toArray, List.set_cons_zero, List.set_cons_succ]
    have hS := HSp.out _ bC
    refine wpAnyH_take (i := 5) (oi := { dst := some 14, op := Go.Op.load 34 (Go.Operand.tmp 13), type := 34, pos := "l08_sectors.go:97", after := #[{ on := 4, ground := Go.Ground.data }, { on := 8, ground := Go.Ground.gcOnly Go.Departure.lateStores }], guard := none }) (v := ?_) rfl (by kernel_rfl) (by kernel_rfl) (by kernel_rfl) (fun _ _ _ h => h) (Or.inl ⟨by rfl, ?_⟩) hS ?_
    rotate_left
    · (intro w hSw; have hSw := (HSd.out w).1 hSw; go_split_ands; go_simp) <;> with_reducible rfl
    clear hS
    try simp only [Act.put, List.setIfInBounds_toArray, List.set_cons_zero, List.set_cons_succ]
    refine wpAnyH_ready (rs := [6, 7]) (by decide +kernel) (by simp) ?_
    refine AllReadyH.cons (o := { dst := some 7, op := Go.Op.alloc 34, type := 0, pos := "l08_sectors.go:97", after := #[], guard := none }) rfl (fun Kn hK => ?_) ?_
    go_simp
    generalize hX : World.alloc V0 _ = V1
    obtain ⟨g6, hg⟩ : ∃ g, g = V0.heap.size := ⟨_, rfl⟩
    have bn6 : Bk V1 g6 #[.int .i64 0, .int .i64 0] 34 := by rw [← hX]; exact Bk.new' hg
    have le6 : W.heap.size ≤ g6 := by rw [hg]; exact HW.out.size
    have nebC_6 : w.heap.size ≠ g6 := by have := bC.lt; omega
    try rw [← hg]
    have hb : Below V0.heap.size V0 V1 := by rw [← hX]; exact (Below.refl _ _).alloc (Nat.le_refl _) _
    clear hX hg
    replace bC := bC.on hb
    replace HW := Lib.hid (bel_end HW.out hb)
    clear hb
    refine hK.out _ _ (HSp.out _ bC) (fun _ => ?_)
    clear hK Kn
    rotate_left
    refine AllReadyH.cons (o := { dst := some 8, op := Go.Op.alloc 34, type := 0, pos := "l08_sectors.go:97", after := #[], guard := none }) rfl (fun Kn hK => ?_) AllReadyH.nil
    go_simp
    generalize hX : World.alloc V0 _ = V1
    obtain ⟨g7, hg⟩ : ∃ g, g = V0.heap.size := ⟨_, rfl⟩
    have bn7 : Bk V1 g7 #[.int .i64 0, .int .i64 0] 34 := by rw [← hX]; exact Bk.new' hg
    have le7 : W.heap.size ≤ g7 := by rw [hg]; exact HW.out.size
    have nebC_7 : w.heap.size ≠ g7 := by have := bC.lt; omega
    try rw [← hg]
    have hb : Below V0.heap.size V0 V1 := by rw [← hX]; exact (Below.refl _ _).alloc (Nat.le_refl _) _
    clear hX hg
    replace bC := bC.on hb
    replace HW := Lib.hid (bel_end HW.out hb)
    clear hb
    refine hK.out _ _ (HSp.out _ bC) (fun _ => ?_)
    clear hK Kn
    all_goals
      first
      | (refine wpAnyH_ready (rs := [7]) (by decide +kernel) (by simp) ?_
         refine AllReadyH.cons (o := { dst := some 8, op := Go.Op.alloc 34, type := 0, pos := "l08_sectors.go:97", after := #[], guard := none }) rfl (fun Kn hK => ?_) AllReadyH.nil
         go_simp
         generalize hX : World.alloc V1 _ = V2
         obtain ⟨g7, hg⟩ : ∃ g, g = V1.heap.size := ⟨_, rfl⟩
         have bn7 : Bk V2 g7 #[.int .i64 0, .int .i64 0] 34 := by rw [← hX]; exact Bk.new' hg
         have le7 : W.heap.size ≤ g7 := by rw [hg]; exact HW.out.size
         have nebC_7 : w.heap.size ≠ g7 := by have := bC.lt; omega
         have ne6_7 : g6 ≠ g7 := by have := bn6.lt; omega
         try rw [← hg]
         have hb : Below V1.heap.size V1 V2 := by rw [← hX]; exact (Below.refl _ _).alloc (Nat.le_refl _) _
         clear hX hg
         replace bC := bC.on hb
         replace bn6 := bn6.on hb
         replace HW := Lib.hid (bel_end HW.out hb)
         clear hb
         refine hK.out _ _ (HSp.out _ bC) (fun _ => ?_)
         clear hK Kn)
      | (refine wpAnyH_ready (rs := [6]) (by decide +kernel) (by simp) ?_
         refine AllReadyH.cons (o := { dst := some 7, op := Go.Op.alloc 34, type := 0, pos := "l08_sectors.go:97", after := #[], guard := none }) rfl (fun Kn hK => ?_) AllReadyH.nil
         go_simp
         generalize hX : World.alloc V1 _ = V2
         obtain ⟨g6, hg⟩ : ∃ g, g = V1.heap.size := ⟨_, rfl⟩
         have bn6 : Bk V2 g6 #[.int .i64 0, .int .i64 0] 34 := by rw [← hX]; exact Bk.new' hg
         have le6 : W.heap.size ≤ g6 := by rw [hg]; exact HW.out.size
         have nebC_6 : w.heap.size ≠ g6 := by have := bC.lt; omega
         have ne6_7 : g6 ≠ g7 := by have := bn7.lt; omega
         try rw [← hg]
         have hb : Below V1.heap.size V1 V2 := by rw [← hX]; exact (Below.refl _ _).alloc (Nat.le_refl _) _
         clear hX hg
         replace bC := bC.on hb
         replace bn7 := bn7.on hb
         replace HW := Lib.hid (bel_end HW.out hb)
         clear hb
         refine hK.out _ _ (HSp.out _ bC) (fun _ => ?_)
         clear hK Kn)
    all_goals
      refine wpAnyH_ready (rs := [8]) (by decide +kernel) (by simp) ?_
      refine AllReadyH.cons (o := { dst := none, op := Go.Op.store 34 (Go.Operand.tmp 7) (Go.Operand.tmp 11), type := 0, pos := "l08_sectors.go:97", after := #[{ on := 6, ground := Go.Ground.data }, { on := 2, ground := Go.Ground.data }, { on := 0, ground := Go.Ground.phase }, { on := 1, ground := Go.Ground.phase }, { on := 2, ground := Go.Ground.phase }, { on := 3, ground := Go.Ground.textOnly Go.Departure.lateStores }, { on := 4, ground := Go.Ground.textOnly Go.Departure.lateStores }, { on := 5, ground := Go.Ground.textOnly Go.Departure.lateStores }, { on := 6, ground := Go.Ground.phase }, { on := 7, ground := Go.Ground.phase }], guard := none }) rfl (fun Kn hK => ?_) AllReadyH.nil
      have bn6_0 := bn6.cell 0 rfl
      have bn6_1 := bn6.cell 1 rfl
      have bn6_f0 := bn6.frozen 0
      have bn6_f1 := bn6.frozen 1
      have bn6_l := bn6.lt
      go_simp
      clear bn6_0 bn6_f0 bn6_1 bn6_f1 bn6_l
      generalize hX : World.setCell _ _ _ = V3
      have hb : Below W.heap.size W V3 := by rw [← hX]; exact ((HW.out.setCell (p := ⟨g6, 0, none⟩) le6 _).setCell (p := ⟨g6, 1, none⟩) le6 _)
      replace bC : Bk V3 (w.heap.size) #[.int .i64 u0, .bool u1, .int .i64 u2, .int .i64 u3, .int .i64 u4, .bool u5, .int .i64 u6, .int .i64 u7, .bool sm, .int .i64 A, .int .i64 E] 66 := by rw [← hX]; exact (Bk.other (Bk.other bC nebC_6 0 _) nebC_6 1 _)
      replace bn7 : Bk V3 (g7) #[.int .i64 0, .int .i64 0] 34 := by rw [← hX]; exact (Bk.other (Bk.other bn7 (Ne.symm ne6_7) 0 _) (Ne.symm ne6_7) 1 _)
      replace bn6 : Bk V3 (g6) #[.int .i64 u2, .int .i64 u3] 34 := by rw [← hX]; exact (Bk.set (Bk.set bn6 0 _ rfl) 1 _ rfl)
      clear hX
      replace HW := Lib.hid hb
      clear hb
      refine hK.out _ _ (HSp.out _ bC) (fun _ => ?_)
      clear hK Kn
    all_goals
      refine wpAnyH_ready (rs := [9]) (by decide +kernel) (by simp) ?_
      refine AllReadyH.cons (o := { dst := none, op := Go.Op.store 34 (Go.Operand.tmp 8) (Go.Operand.tmp 14), type := 0, pos := "l08_sectors.go:97", after := #[{ on := 7, ground := Go.Ground.data }, { on := 5, ground := Go.Ground.data }, { on := 8, ground := Go.Ground.chain }, { on := 0, ground := Go.Ground.phase }, { on := 1, ground := Go.Ground.phase }, { on := 2, ground := Go.Ground.phase }, { on := 3, ground := Go.Ground.phase }, { on := 4, ground := Go.Ground.phase }, { on := 5, ground := Go.Ground.phase }, { on := 6, ground := Go.Ground.phase }, { on := 7, ground := Go.Ground.phase }, { on := 8, ground := Go.Ground.phase }], guard := none }) rfl (fun Kn hK => ?_) AllReadyH.nil
      have bn7_0 := bn7.cell 0 rfl
      have bn7_1 := bn7.cell 1 rfl
      have bn7_f0 := bn7.frozen 0
      have bn7_f1 := bn7.frozen 1
      have bn7_l := bn7.lt
      go_simp
      clear bn7_0 bn7_f0 bn7_1 bn7_f1 bn7_l
      generalize hX : World.setCell _ _ _ = V4
      have hb : Below W.heap.size W V4 := by rw [← hX]; exact ((HW.out.setCell (p := ⟨g7, 0, none⟩) le7 _).setCell (p := ⟨g7, 1, none⟩) le7 _)
      replace bC : Bk V4 (w.heap.size) #[.int .i64 u0, .bool u1, .int .i64 u2, .int .i64 u3, .int .i64 u4, .bool u5, .int .i64 u6, .int .i64 u7, .bool sm, .int .i64 A, .int .i64 E] 66 := by rw [← hX]; exact (Bk.other (Bk.other bC nebC_7 0 _) nebC_7 1 _)
      replace bn6 : Bk V4 (g6) #[.int .i64 u2, .int .i64 u3] 34 := by rw [← hX]; exact (Bk.other (Bk.other bn6 ne6_7 0 _) ne6_7 1 _)
      replace bn7 : Bk V4 (g7) #[.int .i64 u6, .int .i64 u7] 34 := by rw [← hX]; exact (Bk.set (Bk.set bn7 0 _ rfl) 1 _ rfl)
      clear hX
      replace HW := Lib.hid hb
      clear hb
      refine hK.out _ _ (HSp.out _ bC) (fun _ => ?_)
      clear hK Kn
    all_goals
      refine wpAnyH_done (by kernel_rfl) ?_ _
      go_wp2_with fail
      go_meet
      exact ⟨_, _, rfl, rfl, bn6, bn7, HW.out⟩
  case rest =>
    obtain ⟨x7, x8, rfl, rfl, b7, b8, hb⟩ := hcut
    replace bC := bC.on hb
    replace HB := Lib.hid (bel_end HB.out hb)
    clear hb
    have bC_0 := bC.cell 0 rfl
    have bC_1 := bC.cell 1 rfl
    have bC_2 := bC.cell 2 rfl
    have bC_3 := bC.cell 3 rfl
    have bC_4 := bC.cell 4 rfl
    have bC_5 := bC.cell 5 rfl
    have bC_6 := bC.cell 6 rfl
    have bC_7 := bC.cell 7 rfl
    have bC_8 := bC.cell 8 rfl
    have bC_9 := bC.cell 9 rfl
    have bC_10 := bC.cell 10 rfl
    have bC_l := bC.lt
    have b7_0 := b7.cell 0 rfl
    have b7_1 := b7.cell 1 rfl
    have b7_l := b7.lt
    have b8_0 := b8.cell 0 rfl
    have b8_1 := b8.cell 1 rfl
    have b8_l := b8.lt
    cases sm
    case false =>
      have HC : Hid (V = 1) := Lib.hid (by rw [← HV]; rfl)
      clear HV
      go_wp2
      go_ret
      exact ⟨by rw [HC.out]; rfl, HB.out⟩
    case true =>
      rw [if_pos rfl] at HV
      by_cases hk : u0 = kn
      case neg =>
        have hkn : (u0 != kn) = true := by simpa using hk
        have HC : Hid (V = 0) := Lib.hid (by rw [← HV]; rw [if_neg (fun h => hk h.1)])
        clear HV
        go_wp2
        go_ret
        exact ⟨by rw [HC.out]; rfl, HB.out⟩
      case pos =>
        subst hk
        go_wp2_with fail
        (with_reducible refine Calls.mono (K1.out _) ?_)
        rintro e w' ⟨rfl, rfl⟩
        cases r0
        case false =>
          have HC : Hid (V = 0) := Lib.hid (by rw [← HV]; simp)
          clear HV
          go_wp2
          go_ret
          exact ⟨by rw [HC.out]; rfl, HB.out⟩
        case true =>
          have HV2 : (if (u3 < ds ∧ ds < u6) ∨ (u7 < ds ∧ ds < u2) then 2 else 1 : Int) = V := by rw [← HV]; simp
          clear HV
          by_cases p1 : u3 < ds <;> by_cases p2 : ds < u6 <;> by_cases p3 : u7 < ds <;> by_cases p4 : ds < u2
          all_goals
            first
            | (have HC : Hid (V = 2) := Lib.hid (by rw [← HV2, if_pos (by omega)]); clear HV2; go_wp2; go_ret; exact ⟨by rw [HC.out]; rfl, HB.out⟩)
            | (have HC : Hid (V = 1) := Lib.hid (by rw [← HV2, if_neg (by omega)]); clear HV2; go_wp2; go_ret; exact ⟨by rw [HC.out]; rfl, HB.out⟩)

set_option maxRecDepth 100000 in
set_option maxHeartbeats 8000000 in
theorem scv_any (w : World) (a b : Option Addr) (ca cb : Nat) (zs ys : List Int) (src c s h x y z n kn ds : Int) (hp : Prof w w.heap.size a b zs ys) :
    Calls Tryz.prog 7 #[.agg #[.slice a zs.length ca, .slice b ys.length cb], .int .i64 src, .agg #[.int .i64 c, .int .i64 s, .int .i64 h], .agg #[.int .i64 x, .int .i64 y, .int .i64 z], .int .i64 n, .int .i64 kn, .int .i64 ds] w fun e w' => e = .returned (.tuple #[.int .i64 (mvT zs ys src c s h x y z n kn ds).1, .int .i64 (mvT zs ys src c s h x y z n kn ds).2]) ∧ Below w.heap.size w w' := by
  have HP := Lib.hid hp
  have lz := hp.lz
  have KC : Hid (∀ W : World, Below w.heap.size w W → Calls Tryz.prog 19 #[.agg #[.slice a zs.length ca, .slice b ys.length cb], .int .i64 src, .agg #[.int .i64 c, .int .i64 s, .int .i64 h], .agg #[.int .i64 x, .int .i64 y, .int .i64 z], .int .i64 n] W fun e w' => e = .returned (.int .i64 (mcT zs ys src c s h x y z n)) ∧ Below W.heap.size W w') := Lib.hid (fun W hb => lc8_any W a b ca cb zs ys src c s h x y z n (HP.out.on hb))
  obtain ⟨g0, hg0⟩ : ∃ u, tgB zs kn ds = u := ⟨_, rfl⟩
  have KG : Hid (∀ W : World, Calls Tryz.prog 20 #[.agg #[.slice a zs.length ca, .slice b ys.length cb], .int .i64 kn, .int .i64 ds] W fun e w' => e = .returned (.bool g0) ∧ Below W.heap.size W w') := Lib.hid (fun W => by have := l8t_any W a b ca cb zs ys kn ds lz; rwa [hg0] at this)
  obtain ⟨T, hT⟩ : ∃ u, mvT zs ys src c s h x y z n kn ds = u := ⟨_, rfl⟩
  have HT := hT
  unfold mvT at HT
  rw [hg0] at HT
  rw [hT]
  clear hT hp hg0
  by_cases hq1 : mcT zs ys src c s h x y z n = 1
  case pos =>
    rw [if_pos hq1] at HT
    rw [hq1] at KC
    have HC := Lib.hid HT.symm
    clear HT hq1
    go_enter Tryz.func7, Tryz.ntmps7
    go_upto_region 1 with fail
    generalize hW : World.alloc _ _ = W
    have bX : Bk W (w.heap.size) #[.slice a zs.length ca, .slice b ys.length cb] 26 := by rw [← hW]; repeat (first | (refine Bk.new' ?_; (simp; done)) | refine Bk.alloc ?_ _)
    have bD : Bk W (w.heap.size + 1) #[.int .i64 c, .int .i64 s, .int .i64 h] 28 := by rw [← hW]; repeat (first | (refine Bk.new' ?_; (simp; done)) | refine Bk.alloc ?_ _)
    have bE : Bk W (w.heap.size + 1 + 1) #[.int .i64 x, .int .i64 y, .int .i64 z] 28 := by rw [← hW]; repeat (first | (refine Bk.new' ?_; (simp; done)) | refine Bk.alloc ?_ _)
    have HB : Hid (Below w.heap.size w W) := Lib.hid (by rw [← hW]; exact (by repeat (first | exact Below.refl _ _ | (refine Below.alloc ?_ (by simp <;> omega) _) | (refine Below.setCell ?_ (by simp <;> omega) _) | (refine Below.drew ?_) | (refine bel_drewN ?_ _))))
    clear hW
    have bX_0 := bX.cell 0 rfl
    have bX_1 := bX.cell 1 rfl
    have bX_l := bX.lt
    have bD_0 := bD.cell 0 rfl
    have bD_1 := bD.cell 1 rfl
    have bD_2 := bD.cell 2 rfl
    have bD_l := bD.lt
    have bE_0 := bE.cell 0 rfl
    have bE_1 := bE.cell 1 rfl
    have bE_2 := bE.cell 2 rfl
    have bE_l := bE.lt
    go_wp2_with fail
    (with_reducible refine Calls.mono (KC.out _ HB.out) ?_)
    rintro e w1 ⟨rfl, hb⟩
    clear bX_0 bX_1 bX_l
    clear bD_0 bD_1 bD_2 bD_l
    clear bE_0 bE_1 bE_2 bE_l
    replace bX := bX.on hb
    replace bD := bD.on hb
    replace bE := bE.on hb
    replace HB := Lib.hid (bel_end HB.out hb)
    clear hb
    clear KC
    go_wp2
    go_ret2
    exact ⟨by rw [HC.out]; rfl, HB.out⟩
  case neg =>
    rw [if_neg hq1] at HT
    cases g0
    case false =>
      simp only [Bool.false_eq_true, if_false] at HT
      have HC := Lib.hid HT.symm
      obtain ⟨q, hqq⟩ : ∃ u, mcT zs ys src c s h x y z n = u := ⟨_, rfl⟩
      rw [hqq] at KC hq1
      have y1 : (q != 1) = true := by simpa using hq1
      clear hqq hq1 HT
      go_enter Tryz.func7, Tryz.ntmps7
      go_upto_region 1 with fail
      generalize hW : World.alloc _ _ = W
      have bX : Bk W (w.heap.size) #[.slice a zs.length ca, .slice b ys.length cb] 26 := by rw [← hW]; repeat (first | (refine Bk.new' ?_; (simp; done)) | refine Bk.alloc ?_ _)
      have bD : Bk W (w.heap.size + 1) #[.int .i64 c, .int .i64 s, .int .i64 h] 28 := by rw [← hW]; repeat (first | (refine Bk.new' ?_; (simp; done)) | refine Bk.alloc ?_ _)
      have bE : Bk W (w.heap.size + 1 + 1) #[.int .i64 x, .int .i64 y, .int .i64 z] 28 := by rw [← hW]; repeat (first | (refine Bk.new' ?_; (simp; done)) | refine Bk.alloc ?_ _)
      have HB : Hid (Below w.heap.size w W) := Lib.hid (by rw [← hW]; exact (by repeat (first | exact Below.refl _ _ | (refine Below.alloc ?_ (by simp <;> omega) _) | (refine Below.setCell ?_ (by simp <;> omega) _) | (refine Below.drew ?_) | (refine bel_drewN ?_ _))))
      clear hW
      have bX_0 := bX.cell 0 rfl
      have bX_1 := bX.cell 1 rfl
      have bX_l := bX.lt
      have bD_0 := bD.cell 0 rfl
      have bD_1 := bD.cell 1 rfl
      have bD_2 := bD.cell 2 rfl
      have bD_l := bD.lt
      have bE_0 := bE.cell 0 rfl
      have bE_1 := bE.cell 1 rfl
      have bE_2 := bE.cell 2 rfl
      have bE_l := bE.lt
      go_wp2_with fail
      (with_reducible refine Calls.mono (KC.out _ HB.out) ?_)
      rintro e w1 ⟨rfl, hb⟩
      clear bX_0 bX_1 bX_l
      clear bD_0 bD_1 bD_2 bD_l
      clear bE_0 bE_1 bE_2 bE_l
      replace bX := bX.on hb
      replace bD := bD.on hb
      replace bE := bE.on hb
      replace HB := Lib.hid (bel_end HB.out hb)
      clear hb
      clear KC
      have bX_0 := bX.cell 0 rfl
      have bX_1 := bX.cell 1 rfl
      have bX_l := bX.lt
      go_wp2_with fail
      (with_reducible refine Calls.mono (KG.out _) ?_)
      rintro e w2 ⟨rfl, hb⟩
      clear bX_0 bX_1 bX_l
      replace bX := bX.on hb
      replace bD := bD.on hb
      replace bE := bE.on hb
      replace HB := Lib.hid (bel_end HB.out hb)
      clear hb
      clear KG
      go_wp2
      go_ret2
      exact ⟨by rw [HC.out]; rfl, HB.out⟩
    case true =>
      rw [if_pos rfl] at HT
      by_cases hq : mcT zs ys src c s h x y z n = 0
      case neg =>
        rw [if_neg hq] at HT
        have HC := Lib.hid HT.symm
        obtain ⟨q, hqq⟩ : ∃ u, mcT zs ys src c s h x y z n = u := ⟨_, rfl⟩
        rw [hqq] at KC hq hq1 HC
        have y1 : (q != 1) = true := by simpa using hq1
        have y0 : (q != 0) = true := by simpa using hq
        clear hqq hq hq1 HT
        go_enter Tryz.func7, Tryz.ntmps7
        go_upto_region 1 with fail
        generalize hW : World.alloc _ _ = W
        have bX : Bk W (w.heap.size) #[.slice a zs.length ca, .slice b ys.length cb] 26 := by rw [← hW]; repeat (first | (refine Bk.new' ?_; (simp; done)) | refine Bk.alloc ?_ _)
        have bD : Bk W (w.heap.size + 1) #[.int .i64 c, .int .i64 s, .int .i64 h] 28 := by rw [← hW]; repeat (first | (refine Bk.new' ?_; (simp; done)) | refine Bk.alloc ?_ _)
        have bE : Bk W (w.heap.size + 1 + 1) #[.int .i64 x, .int .i64 y, .int .i64 z] 28 := by rw [← hW]; repeat (first | (refine Bk.new' ?_; (simp; done)) | refine Bk.alloc ?_ _)
        have HB : Hid (Below w.heap.size w W) := Lib.hid (by rw [← hW]; exact (by repeat (first | exact Below.refl _ _ | (refine Below.alloc ?_ (by simp <;> omega) _) | (refine Below.setCell ?_ (by simp <;> omega) _) | (refine Below.drew ?_) | (refine bel_drewN ?_ _))))
        clear hW
        have bX_0 := bX.cell 0 rfl
        have bX_1 := bX.cell 1 rfl
        have bX_l := bX.lt
        have bD_0 := bD.cell 0 rfl
        have bD_1 := bD.cell 1 rfl
        have bD_2 := bD.cell 2 rfl
        have bD_l := bD.lt
        have bE_0 := bE.cell 0 rfl
        have bE_1 := bE.cell 1 rfl
        have bE_2 := bE.cell 2 rfl
        have bE_l := bE.lt
        go_wp2_with fail
        (with_reducible refine Calls.mono (KC.out _ HB.out) ?_)
        rintro e w1 ⟨rfl, hb⟩
        clear bX_0 bX_1 bX_l
        clear bD_0 bD_1 bD_2 bD_l
        clear bE_0 bE_1 bE_2 bE_l
        replace bX := bX.on hb
        replace bD := bD.on hb
        replace bE := bE.on hb
        replace HB := Lib.hid (bel_end HB.out hb)
        clear hb
        clear KC
        have bX_0 := bX.cell 0 rfl
        have bX_1 := bX.cell 1 rfl
        have bX_l := bX.lt
        go_wp2_with fail
        (with_reducible refine Calls.mono (KG.out _) ?_)
        rintro e w2 ⟨rfl, hb⟩
        clear bX_0 bX_1 bX_l
        replace bX := bX.on hb
        replace bD := bD.on hb
        replace bE := bE.on hb
        replace HB := Lib.hid (bel_end HB.out hb)
        clear hb
        clear KG
        go_wp2
        go_ret2
        exact ⟨by rw [HC.out]; rfl, HB.out⟩
      case pos =>
        rw [if_pos hq] at HT
        obtain ⟨i, N, rfl, rfl, hN, r, q⟩ := mcT_00 hq
        rw [hq] at KC
        rw [Int.toNat_natCast, Int.toNat_natCast] at HT
        have KT : Hid (∀ W : World, Below w.heap.size w W → Calls Tryz.prog 21 #[.agg #[.slice a zs.length ca, .slice b ys.length cb], .int .i64 (i : Int), .agg #[.int .i64 c, .int .i64 s, .int .i64 h], .agg #[.int .i64 x, .int .i64 y, .int .i64 z], .int .i64 (N : Int)] W (T8P W zs ys i c s h x y z N)) := Lib.hid (fun W hb => tr8_any W a b ca cb zs ys i N c s h x y z hN (HP.out.on hb) r q)
        clear hq hq1 hN r q
        go_enter Tryz.func7, Tryz.ntmps7
        go_upto_region 1 with fail
        generalize hW : World.alloc _ _ = W
        have bX : Bk W (w.heap.size) #[.slice a zs.length ca, .slice b ys.length cb] 26 := by rw [← hW]; repeat (first | (refine Bk.new' ?_; (simp; done)) | refine Bk.alloc ?_ _)
        have bD : Bk W (w.heap.size + 1) #[.int .i64 c, .int .i64 s, .int .i64 h] 28 := by rw [← hW]; repeat (first | (refine Bk.new' ?_; (simp; done)) | refine Bk.alloc ?_ _)
        have bE : Bk W (w.heap.size + 1 + 1) #[.int .i64 x, .int .i64 y, .int .i64 z] 28 := by rw [← hW]; repeat (first | (refine Bk.new' ?_; (simp; done)) | refine Bk.alloc ?_ _)
        have HB : Hid (Below w.heap.size w W) := Lib.hid (by rw [← hW]; exact (by repeat (first | exact Below.refl _ _ | (refine Below.alloc ?_ (by simp <;> omega) _) | (refine Below.setCell ?_ (by simp <;> omega) _) | (refine Below.drew ?_) | (refine bel_drewN ?_ _))))
        clear hW
        have bX_0 := bX.cell 0 rfl
        have bX_1 := bX.cell 1 rfl
        have bX_l := bX.lt
        have bD_0 := bD.cell 0 rfl
        have bD_1 := bD.cell 1 rfl
        have bD_2 := bD.cell 2 rfl
        have bD_l := bD.lt
        have bE_0 := bE.cell 0 rfl
        have bE_1 := bE.cell 1 rfl
        have bE_2 := bE.cell 2 rfl
        have bE_l := bE.lt
        go_wp2_with fail
        (with_reducible refine Calls.mono (KC.out _ HB.out) ?_)
        rintro e w1 ⟨rfl, hb⟩
        clear bX_0 bX_1 bX_l
        clear bD_0 bD_1 bD_2 bD_l
        clear bE_0 bE_1 bE_2 bE_l
        replace bX := bX.on hb
        replace bD := bD.on hb
        replace bE := bE.on hb
        replace HB := Lib.hid (bel_end HB.out hb)
        clear hb
        clear KC
        have bX_0 := bX.cell 0 rfl
        have bX_1 := bX.cell 1 rfl
        have bX_l := bX.lt
        go_wp2_with fail
        (with_reducible refine Calls.mono (KG.out _) ?_)
        rintro e w2 ⟨rfl, hb⟩
        clear bX_0 bX_1 bX_l
        replace bX := bX.on hb
        replace bD := bD.on hb
        replace bE := bE.on hb
        replace HB := Lib.hid (bel_end HB.out hb)
        clear hb
        clear KG
        have bX_0 := bX.cell 0 rfl
        have bX_1 := bX.cell 1 rfl
        have bX_l := bX.lt
        have bD_0 := bD.cell 0 rfl
        have bD_1 := bD.cell 1 rfl
        have bD_2 := bD.cell 2 rfl
        have bD_l := bD.lt
        have bE_0 := bE.cell 0 rfl
        have bE_1 := bE.cell 1 rfl
        have bE_2 := bE.cell 2 rfl
        have bE_l := bE.lt
        go_wp2_with fail
        (with_reducible refine Calls.mono (KT.out _ HB.out) ?_)
        rintro e w3 hF
        clear bX_0 bX_1 bX_l
        clear bD_0 bD_1 bD_2 bD_l
        clear bE_0 bE_1 bE_2 bE_l
        clear KT
        cases ht : tlB zs ys i c s h x y z N
        case false =>
          rw [ht] at HT
          have HC := Lib.hid HT.symm
          simp only [Bool.false_eq_true, if_false] at HC
          clear HT
          obtain ⟨rfl, hb⟩ : e = .returned (.tuple #[.agg #[.int .i64 0, .bool false, .int .i64 0, .int .i64 0, .int .i64 0, .bool false, .int .i64 0, .int .i64 0, .bool false, .int .i64 0, .int .i64 0], .int .i64 3]) ∧ Below w2.heap.size w2 w3 := (by rcases hF with ⟨h0, -⟩ | ⟨-, g1, g2⟩; exact absurd h0 (by rw [ht]; decide); exact ⟨g1, g2⟩)
          clear hF ht bX bD bE
          replace HB := Lib.hid (bel_end HB.out hb)
          clear hb
          go_upto_region 7 with fail
          obtain ⟨W3, hW⟩ : ∃ X, X = w3.alloc (.cells #[.int .i64 0, .bool false, .int .i64 0, .int .i64 0, .int .i64 0, .bool false, .int .i64 0, .int .i64 0, .bool false, .int .i64 0, .int .i64 0] 66) := ⟨_, rfl⟩
          rw [← hW]
          have hb : Below w3.heap.size w3 W3 := by rw [hW]; exact (Below.refl _ _).alloc (Nat.le_refl _) _
          clear hW
          replace HB := Lib.hid (bel_end HB.out hb)
          clear hb
          go_wp2
          go_ret2
          exact ⟨by rw [HC.out]; rfl, HB.out⟩
        case true =>
          rw [ht] at HT
          rw [if_pos rfl] at HT
          obtain ⟨rfl, hb⟩ : e = .returned (.tuple #[.agg #[.int .i64 ((runS zs ys i c h (fst0 i s) N).k : Int), .bool (runS zs ys i c h (fst0 i s) N).dn, .int .i64 (runS zs ys i c h (fst0 i s) N).lo, .int .i64 (runS zs ys i c h (fst0 i s) N).hi, .int .i64 ((runS zs ys i x z (fst0 i y) N).k : Int), .bool (runS zs ys i x z (fst0 i y) N).dn, .int .i64 (runS zs ys i x z (fst0 i y) N).lo, .int .i64 (runS zs ys i x z (fst0 i y) N).hi, .bool (hsB zs ys i c s h x y z N), .int .i64 (enS zs ys i c s h x y z N).1, .int .i64 (enS zs ys i c s h x y z N).2], .int .i64 0]) ∧ Below w2.heap.size w2 w3 := (by rcases hF with ⟨-, g0⟩ | ⟨g0, -⟩; exact g0; exact absurd ht (by rw [g0]; decide))
          obtain ⟨⟨u0, u1, u2, u3⟩, hx1⟩ : ∃ u, runS zs ys i c h (fst0 i s) N = u := ⟨_, rfl⟩
          obtain ⟨⟨u4, u5, u6, u7⟩, hx2⟩ : ∃ u, runS zs ys i x z (fst0 i y) N = u := ⟨_, rfl⟩
          rw [hx1, hx2] at HT ⊢
          dsimp only at HT ⊢
          clear hx1 hx2
          obtain ⟨sm, hm⟩ : ∃ u, hsB zs ys i c s h x y z N = u := ⟨_, rfl⟩
          obtain ⟨⟨A, E⟩, hS⟩ : ∃ u, enS zs ys i c s h x y z N = u := ⟨_, rfl⟩
          rw [hm, hS] at HT ⊢
          dsimp only at HT ⊢
          clear hm hS ht hF bX bD bE
          replace HB := Lib.hid (bel_end HB.out hb)
          clear hb
          go_upto_region 7 with fail
          obtain ⟨W4, hW⟩ : ∃ X, X = w3.alloc (.cells #[.int .i64 (u0 : Int), .bool u1, .int .i64 u2, .int .i64 u3, .int .i64 (u4 : Int), .bool u5, .int .i64 u6, .int .i64 u7, .bool sm, .int .i64 A, .int .i64 E] 66) := ⟨_, rfl⟩
          rw [← hW]
          obtain ⟨gT, hg⟩ : ∃ u, u = w3.heap.size := ⟨_, rfl⟩
          have bT : Bk W4 gT #[.int .i64 (u0 : Int), .bool u1, .int .i64 u2, .int .i64 u3, .int .i64 (u4 : Int), .bool u5, .int .i64 u6, .int .i64 u7, .bool sm, .int .i64 A, .int .i64 E] 66 := by rw [hW]; exact Bk.new' hg
          have hb : Below w3.heap.size w3 W4 := by rw [hW]; exact (Below.refl _ _).alloc (Nat.le_refl _) _
          try rw [← hg]
          clear hW hg
          replace HB := Lib.hid (bel_end HB.out hb)
          clear hb
          have KV : Hid (∀ W : World, Calls Tryz.prog 22 #[.agg #[.int .i64 (u0 : Int), .bool u1, .int .i64 u2, .int .i64 u3, .int .i64 (u4 : Int), .bool u5, .int .i64 u6, .int .i64 u7, .bool sm, .int .i64 A, .int .i64 E], .int .i64 kn, .int .i64 ds] W fun e w' => e = .returned (.int .i64 (if sm then vrC (u0 : Int) u2 u3 u6 u7 A E kn ds else 1)) ∧ Below W.heap.size W w') := Lib.hid (fun W => l8v_any W (u0 : Int) u2 u3 (u4 : Int) u6 u7 A E kn ds u1 u5 sm)
          obtain ⟨V, hV⟩ : ∃ v, (if sm then vrC (u0 : Int) u2 u3 u6 u7 A E kn ds else 1) = v := ⟨_, rfl⟩
          rw [hV] at HT KV
          have HC := Lib.hid HT.symm
          clear HT hV
          have bT_0 := bT.cell 0 rfl
          have bT_1 := bT.cell 1 rfl
          have bT_2 := bT.cell 2 rfl
          have bT_3 := bT.cell 3 rfl
          have bT_4 := bT.cell 4 rfl
          have bT_5 := bT.cell 5 rfl
          have bT_6 := bT.cell 6 rfl
          have bT_7 := bT.cell 7 rfl
          have bT_8 := bT.cell 8 rfl
          have bT_9 := bT.cell 9 rfl
          have bT_10 := bT.cell 10 rfl
          have bT_l := bT.lt
          go_wp2_with fail
          (with_reducible refine Calls.mono (KV.out _) ?_)
          rintro e w5 ⟨rfl, hb⟩
          clear bT_0 bT_1 bT_2 bT_3 bT_4 bT_5 bT_6 bT_7 bT_8 bT_9 bT_10 bT_l
          clear bT KV
          replace HB := Lib.hid (bel_end HB.out hb)
          clear hb
          go_wp2
          go_ret2
          exact ⟨by rw [HC.out]; rfl, HB.out⟩

set_option maxRecDepth 100000 in
set_option maxHeartbeats 2000000 in
theorem icw_any (w : World) (a b : Option Addr) (ca cb : Nat) (zs ys : List Int) (src c s h x y z n kn ds : Int) (hp : Prof w w.heap.size a b zs ys) :
    Calls Tryz.prog 6 #[.agg #[.slice a zs.length ca, .slice b ys.length cb], .int .i64 src, .agg #[.int .i64 c, .int .i64 s, .int .i64 h], .agg #[.int .i64 x, .int .i64 y, .int .i64 z], .int .i64 n, .int .i64 kn, .int .i64 ds] w fun e w' => e = .returned (.tuple #[.int .i64 (mvT zs ys src c s h x y z n kn ds).1, .int .i64 (mvT zs ys src c s h x y z n kn ds).2]) ∧ Below w.heap.size w w' := by
  have := icv_any w a b ca cb zs ys src c s h x y z n kn ds hp
  rwa [cv_eq] at this
end Go.Proofs.YtgecbfbmmbfnmaaGreat
