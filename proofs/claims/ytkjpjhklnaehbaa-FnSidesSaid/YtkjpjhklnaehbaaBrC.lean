/- Contracts of the side of a point and of the order of bearings, the program's and the model's. -/
import Derived.Test.YtkjpjhklnaehbaaBrB
import Derived.Deep.RegionHeld3
import Derived.Deep.DeepCutAuto
import Derived.Deep.DrawnRows
import Derived.Deep.RegionWith
namespace Go.Proofs.Ytkjpjhklnaehbaa
open Go.ChangeShapes Go.WideShapes Go.ChangeAt Go.RowKit Go.Shelf Num
set_option linter.unusedVariables false
set_option linter.unusedSimpArgs false

theorem ret2e {a b a' b' : Int} (h : a' = a) (g : b' = b) : Ending.returned (.tuple #[.int .i64 a, .int .i64 b]) = .returned (.tuple #[.int .i64 a', .int .i64 b']) := by rw [h, g]
/-- products of coordinates -/
theorem prd {a b A B : Int} (a1 : -A ≤ a) (a2 : a ≤ A) (b1 : -B ≤ b) (b2 : b ≤ B) (h : A * B ≤ 4000000000000000000) : -4000000000000000000 ≤ a * b ∧ a * b ≤ 4000000000000000000 := by
  have := mul_abs (a := a) (n := b) (A := A.toNat) (N := B.toNat) (by omega) (by omega)
  have e1 : (A.toNat : Int) = A := Int.toNat_of_nonneg (by omega)
  have e2 : (B.toNat : Int) = B := Int.toNat_of_nonneg (by omega)
  have e3 : ((A.toNat * B.toNat : Nat) : Int) = A * B := by rw [Int.natCast_mul, e1, e2]
  omega

set_option maxRecDepth 100000 in
set_option maxHeartbeats 8000000 in
theorem isd_any (w : World) (px py ux uy qx qy : Int) :
    Calls Try.prog 20 #[.agg #[.int .i64 px, .int .i64 py], .agg #[.int .i64 ux, .int .i64 uy], .agg #[.int .i64 qx, .int .i64 qy]] w fun e w' => e = .returned (.tuple #[.int .i64 (sdV px py ux uy qx qy), .int .i64 (sdC px py ux uy qx qy)]) ∧ Below w.heap.size w w' := by
  obtain ⟨P, hP⟩ : ∃ q, ptB 100000 px py = q := ⟨_, rfl⟩
  obtain ⟨U, hU⟩ : ∃ q, brB ux uy = q := ⟨_, rfl⟩
  obtain ⟨R, hR⟩ : ∃ q, ptB 100000 qx qy = q := ⟨_, rfl⟩
  have HV : Hid (sdV px py ux uy qx qy = if P && U && R then -sg1 (crs ux uy (qx - px) (qy - py)) else 0) := Lib.hid (by unfold sdV; rw [hP, hU, hR])
  have HC : Hid (sdC px py ux uy qx qy = if P && U && R then 0 else 1) := Lib.hid (by unfold sdC; rw [hP, hU, hR])
  have KP : Hid (∀ W : World, Calls Try.prog 52 #[.agg #[.int .i64 px, .int .i64 py]] W fun e w' => e = .returned (.bool P) ∧ Below W.heap.size W w') := Lib.hid (fun W => by have := ipt_any W px py; rwa [hP] at this)
  have KU : Hid (∀ W : World, Calls Try.prog 18 #[.agg #[.int .i64 ux, .int .i64 uy]] W fun e w' => e = .returned (.bool U) ∧ Below W.heap.size W w') := Lib.hid (fun W => by have := ibg_any W ux uy; rwa [hU] at this)
  have KR : Hid (∀ W : World, Calls Try.prog 52 #[.agg #[.int .i64 qx, .int .i64 qy]] W fun e w' => e = .returned (.bool R) ∧ Below W.heap.size W w') := Lib.hid (fun W => by have := ipt_any W qx qy; rwa [hR] at this)
  have KM : Hid (P = true → R = true → ∀ W : World, Calls Try.prog 54 #[.agg #[.int .i64 qx, .int .i64 qy], .agg #[.int .i64 px, .int .i64 py]] W fun e w' => e = .returned (.agg #[.int .i64 (qx - px), .int .i64 (qy - py)]) ∧ Below W.heap.size W w') := Lib.hid (fun e1 e3 W => by have p := ptB_t (hP.trans e1); have r := ptB_t (hR.trans e3); exact imn_any W qx qy px py (by omega) (by omega) (by omega) (by omega) (by omega) (by omega) (by omega) (by omega))
  have KT : Hid (P = true → U = true → R = true → ∀ W : World, Calls Try.prog 53 #[.agg #[.int .i64 ux, .int .i64 uy], .agg #[.int .i64 (qx - px), .int .i64 (qy - py)]] W fun e w' => e = .returned (.int .i64 (-sg1 (crs ux uy (qx - px) (qy - py)))) ∧ Below W.heap.size W w') := Lib.hid (fun e1 e2 e3 W => by have p := ptB_t (hP.trans e1); have r := ptB_t (hR.trans e3); have u := (brB_t (hU.trans e2)).1; have x1 := prd (A := 1000) (B := 200000) (a := ux) (b := qy - py) (by omega) (by omega) (by omega) (by omega) (by omega); have x2 := prd (A := 1000) (B := 200000) (a := uy) (b := qx - px) (by omega) (by omega) (by omega) (by omega) (by omega); exact itt_any W ux uy (qx - px) (qy - py) x1.1 x1.2 x2.1 x2.2)
  obtain ⟨X, hX⟩ : ∃ u, qx - px = u := ⟨_, rfl⟩
  obtain ⟨Y, hY⟩ : ∃ u, qy - py = u := ⟨_, rfl⟩
  rw [hX, hY] at KM KT HV
  obtain ⟨Z, hZ⟩ : ∃ u, -sg1 (crs ux uy X Y) = u := ⟨_, rfl⟩
  rw [hZ] at KT HV
  clear hP hU hR hX hY hZ
  go_enter Try.func20, Try.ntmps20
  go_wp2_with fail
  generalize hW : World.alloc _ _ = W
  have bP : Bk W (w.heap.size) #[.int .i64 px, .int .i64 py] 25 := by rw [← hW]; repeat (first | (refine Bk.new' ?_; (simp; done)) | refine Bk.alloc ?_ _)
  have bU : Bk W (w.heap.size + 1) #[.int .i64 ux, .int .i64 uy] 25 := by rw [← hW]; repeat (first | (refine Bk.new' ?_; (simp; done)) | refine Bk.alloc ?_ _)
  have bQ : Bk W (w.heap.size + 1 + 1) #[.int .i64 qx, .int .i64 qy] 25 := by rw [← hW]; repeat (first | (refine Bk.new' ?_; (simp; done)) | refine Bk.alloc ?_ _)
  have HB : Hid (Below w.heap.size w W) := Lib.hid (by rw [← hW]; exact (by repeat (first | exact Below.refl _ _ | (refine Below.alloc ?_ (by simp <;> omega) _) | (refine Below.setCell ?_ (by simp <;> omega) _) | (refine Below.drew ?_) | (refine bel_drewN ?_ _))))
  clear hW
  refine (KP.out _).mono ?_
  rintro e w1 ⟨rfl, hb⟩
  replace bP := bP.on hb
  replace bU := bU.on hb
  replace bQ := bQ.on hb
  replace HB := Lib.hid (bel_end HB.out hb)
  clear hb
  cases hP : P
  case false =>
    subst hP
    have bP_0 := bP.cell 0 rfl
    have bP_1 := bP.cell 1 rfl
    have bP_l := bP.lt
    have bU_0 := bU.cell 0 rfl
    have bU_1 := bU.cell 1 rfl
    have bU_l := bU.lt
    have bQ_0 := bQ.cell 0 rfl
    have bQ_1 := bQ.cell 1 rfl
    have bQ_l := bQ.lt
    go_wp2
    go_ret2
    exact ⟨ret2e (by rw [HV.out]; rfl) (by rw [HC.out]; rfl), HB.out⟩
  case true =>
    subst hP
    have bP_0 := bP.cell 0 rfl
    have bP_1 := bP.cell 1 rfl
    have bP_l := bP.lt
    have bU_0 := bU.cell 0 rfl
    have bU_1 := bU.cell 1 rfl
    have bU_l := bU.lt
    have bQ_0 := bQ.cell 0 rfl
    have bQ_1 := bQ.cell 1 rfl
    have bQ_l := bQ.lt
    go_wp2_with fail
    refine (KU.out _).mono ?_
    rintro e w2 ⟨rfl, hb⟩
    replace bP := bP.on hb
    replace bU := bU.on hb
    replace bQ := bQ.on hb
    replace HB := Lib.hid (bel_end HB.out hb)
    clear hb
    clear bP_0 bP_1 bP_l bU_0 bU_1 bU_l bQ_0 bQ_1 bQ_l
    cases hU : U
    case false =>
      subst hU
      have bP_0 := bP.cell 0 rfl
      have bP_1 := bP.cell 1 rfl
      have bP_l := bP.lt
      have bU_0 := bU.cell 0 rfl
      have bU_1 := bU.cell 1 rfl
      have bU_l := bU.lt
      have bQ_0 := bQ.cell 0 rfl
      have bQ_1 := bQ.cell 1 rfl
      have bQ_l := bQ.lt
      go_wp2
      go_ret2
      exact ⟨ret2e (by rw [HV.out]; rfl) (by rw [HC.out]; rfl), HB.out⟩
    case true =>
      subst hU
      have bP_0 := bP.cell 0 rfl
      have bP_1 := bP.cell 1 rfl
      have bP_l := bP.lt
      have bU_0 := bU.cell 0 rfl
      have bU_1 := bU.cell 1 rfl
      have bU_l := bU.lt
      have bQ_0 := bQ.cell 0 rfl
      have bQ_1 := bQ.cell 1 rfl
      have bQ_l := bQ.lt
      go_wp2_with fail
      refine (KR.out _).mono ?_
      rintro e w3 ⟨rfl, hb⟩
      replace bP := bP.on hb
      replace bU := bU.on hb
      replace bQ := bQ.on hb
      replace HB := Lib.hid (bel_end HB.out hb)
      clear hb
      clear bP_0 bP_1 bP_l bU_0 bU_1 bU_l bQ_0 bQ_1 bQ_l
      cases hR : R
      case false =>
        subst hR
        have bP_0 := bP.cell 0 rfl
        have bP_1 := bP.cell 1 rfl
        have bP_l := bP.lt
        have bU_0 := bU.cell 0 rfl
        have bU_1 := bU.cell 1 rfl
        have bU_l := bU.lt
        have bQ_0 := bQ.cell 0 rfl
        have bQ_1 := bQ.cell 1 rfl
        have bQ_l := bQ.lt
        go_wp2
        go_ret2
        exact ⟨ret2e (by rw [HV.out]; rfl) (by rw [HC.out]; rfl), HB.out⟩
      case true =>
        subst hR
        have bP_0 := bP.cell 0 rfl
        have bP_1 := bP.cell 1 rfl
        have bP_l := bP.lt
        have bU_0 := bU.cell 0 rfl
        have bU_1 := bU.cell 1 rfl
        have bU_l := bU.lt
        have bQ_0 := bQ.cell 0 rfl
        have bQ_1 := bQ.cell 1 rfl
        have bQ_l := bQ.lt
        go_upto_region 3 with fail
        clear bP_0 bP_1 bP_l bU_0 bU_1 bU_l bQ_0 bQ_1 bQ_l
        obtain ⟨S, hSd⟩ : ∃ S : World → Prop, ∀ w', S w' ↔ (w'.cell? ⟨w.heap.size, 0, none⟩ = some (.int .i64 px) ∧ w'.cell? ⟨w.heap.size, 1, none⟩ = some (.int .i64 py) ∧ w'.cell? ⟨w.heap.size + 1, 0, none⟩ = some (.int .i64 ux) ∧ w'.cell? ⟨w.heap.size + 1, 1, none⟩ = some (.int .i64 uy) ∧ w'.cell? ⟨w.heap.size + 1 + 1, 0, none⟩ = some (.int .i64 qx) ∧ w'.cell? ⟨w.heap.size + 1 + 1, 1, none⟩ = some (.int .i64 qy)) := ⟨_, fun _ => Iff.rfl⟩
        have HSp : Hid (∀ w' : World, Bk w' (w.heap.size) #[.int .i64 px, .int .i64 py] 25 → Bk w' (w.heap.size + 1) #[.int .i64 ux, .int .i64 uy] 25 → Bk w' (w.heap.size + 1 + 1) #[.int .i64 qx, .int .i64 qy] 25 → S w') := Lib.hid (fun w' bP bU bQ => (hSd w').2 ⟨bP.cell 0 rfl, bP.cell 1 rfl, bU.cell 0 rfl, bU.cell 1 rfl, bQ.cell 0 rfl, bQ.cell 1 rfl⟩)
        have HSd := Lib.hid hSd
        clear hSd
        refine wp_region_held_drew (S := S) (by kernel_rfl) ?_ (fun hH => ?_)
        · exact (HSp.out _ bP bU bQ : S (World.drew w3))
        clear hH
        generalize hX : World.drew w3 = V0
        replace bP : Bk V0 (w.heap.size) #[.int .i64 px, .int .i64 py] 25 := by rw [← hX]; exact bP
        replace bU : Bk V0 (w.heap.size + 1) #[.int .i64 ux, .int .i64 uy] 25 := by rw [← hX]; exact bU
        replace bQ : Bk V0 (w.heap.size + 1 + 1) #[.int .i64 qx, .int .i64 qy] 25 := by rw [← hX]; exact bQ
        have hb : Below w3.heap.size w3 V0 := by rw [← hX]; exact (Below.refl _ _).drew
        clear hX
        replace HB := Lib.hid (bel_end HB.out hb)
        clear hb
        have hS := HSp.out _ bP bU bQ
        refine wpAnyH_take (i := 0) (oi := { dst := some 21, op := Go.Op.load 25 (Go.Operand.tmp 4), type := 25, pos := "l12_bearings.go:40", after := #[], guard := none }) (v := ?_) rfl (by kernel_rfl) (by kernel_rfl) (by kernel_rfl) (fun _ _ _ h => h) (Or.inl ⟨by rfl, ?_⟩) hS ?_
        rotate_left
        · (intro w hSw; have hSw := (HSd.out w).1 hSw; go_split_ands; go_simp) <;> with_reducible rfl
        clear hS
        try simp only [Act.put, List.setIfInBounds_toArray, List.set_cons_zero, List.set_cons_succ]
        have hS := HSp.out _ bP bU bQ
        refine wpAnyH_take (i := 1) (oi := { dst := some 22, op := Go.Op.load 25 (Go.Operand.tmp 5), type := 25, pos := "l12_bearings.go:40", after := #[], guard := none }) (v := ?_) rfl (by kernel_rfl) (by kernel_rfl) (by kernel_rfl) (fun _ _ _ h => h) (Or.inl ⟨by rfl, ?_⟩) hS ?_
        rotate_left
        · (intro w hSw; have hSw := (HSd.out w).1 hSw; go_split_ands; go_simp) <;> with_reducible rfl
        clear hS
        try simp only [Act.put, List.setIfInBounds_toArray, List.set_cons_zero, List.set_cons_succ]
        have hS := HSp.out _ bP bU bQ
        refine wpAnyH_take (i := 2) (oi := { dst := some 23, op := Go.Op.load 25 (Go.Operand.tmp 3), type := 25, pos := "l12_bearings.go:40", after := #[], guard := none }) (v := ?_) rfl (by kernel_rfl) (by kernel_rfl) (by kernel_rfl) (fun _ _ _ h => h) (Or.inl ⟨by rfl, ?_⟩) hS ?_
        rotate_left
        · (intro w hSw; have hSw := (HSd.out w).1 hSw; go_split_ands; go_simp) <;> with_reducible rfl
        clear hS
        try simp only [Act.put, List.setIfInBounds_toArray, List.set_cons_zero, List.set_cons_succ]
        refine wpAnyH_ready (rs := [3]) (by kernel_rfl) (by simp) ?_
        refine AllReadyH.cons (o := { dst := some 24, op := Go.Op.call { callee := Go.Callee.value (Go.Operand.func 54), args := #[Go.Operand.tmp 22, Go.Operand.tmp 23], argTypes := #[25, 25] }, type := 25, pos := "l12_bearings.go:40", after := #[{ on := 1, ground := Go.Ground.data }, { on := 2, ground := Go.Ground.data }], guard := none }) rfl (fun Kn hK => ?_) AllReadyH.nil
        first | go_at_call 54 | (go_simp; go_at_call 54)
        (with_reducible refine Calls.mono (KM.out (by trivial) (by trivial) _) ?_)
        rintro e V1 ⟨rfl, hb⟩
        try dsimp only
        try simp only [Act.put, List.setIfInBounds_toArray, List.set_cons_zero, List.set_cons_succ]
        replace bP := bP.on hb
        replace bU := bU.on hb
        replace bQ := bQ.on hb
        replace HB := Lib.hid (bel_end HB.out hb)
        clear hb
        refine hK.out _ _ (HSp.out _ bP bU bQ) (fun _ => ?_)
        clear hK Kn
        refine wpAnyH_ready (rs := [4]) (by kernel_rfl) (by simp) ?_
        refine AllReadyH.cons (o := { dst := some 25, op := Go.Op.call { callee := Go.Callee.value (Go.Operand.func 53), args := #[Go.Operand.tmp 21, Go.Operand.tmp 24], argTypes := #[25, 25] }, type := 2, pos := "l12_bearings.go:40", after := #[{ on := 0, ground := Go.Ground.data }, { on := 3, ground := Go.Ground.data }, { on := 3, ground := Go.Ground.chain }], guard := none }) rfl (fun Kn hK => ?_) AllReadyH.nil
        first | go_at_call 53 | (go_simp; go_at_call 53)
        (with_reducible refine Calls.mono (KT.out (by trivial) (by trivial) (by trivial) _) ?_)
        rintro e V2 ⟨rfl, hb⟩
        try dsimp only
        try simp only [Act.put, List.setIfInBounds_toArray, List.set_cons_zero, List.set_cons_succ]
        replace bP := bP.on hb
        replace bU := bU.on hb
        replace bQ := bQ.on hb
        replace HB := Lib.hid (bel_end HB.out hb)
        clear hb
        refine hK.out _ _ (HSp.out _ bP bU bQ) (fun _ => ?_)
        clear hK Kn
        have hS := HSp.out _ bP bU bQ
        refine wpAnyH_take (i := 5) (oi := { dst := some 6, op := Go.Op.assign (Go.Operand.tmp 25), type := 2, pos := "l12_bearings.go:40", after := #[{ on := 4, ground := Go.Ground.data }, { on := 4, ground := Go.Ground.chain }, { on := 0, ground := Go.Ground.phase }, { on := 1, ground := Go.Ground.phase }, { on := 2, ground := Go.Ground.phase }, { on := 3, ground := Go.Ground.phase }, { on := 4, ground := Go.Ground.phase }], guard := none }) (v := ?_) rfl (by kernel_rfl) (by kernel_rfl) (by kernel_rfl) (fun _ _ _ h => h) (Or.inl ⟨by rfl, ?_⟩) hS ?_
        rotate_left
        · (intro w hSw; have hSw := (HSd.out w).1 hSw; go_split_ands; go_simp) <;> with_reducible rfl
        clear hS
        try simp only [Act.put, List.setIfInBounds_toArray, List.set_cons_zero, List.set_cons_succ]
        have hS := HSp.out _ bP bU bQ
        refine wpAnyH_take (i := 6) (oi := { dst := some 7, op := Go.Op.assign (Go.Operand.const (Go.Value.int Go.IntKind.i64 0)), type := 2, pos := "l12_bearings.go:40", after := #[{ on := 5, ground := Go.Ground.chain }, { on := 0, ground := Go.Ground.phase }, { on := 1, ground := Go.Ground.phase }, { on := 2, ground := Go.Ground.phase }, { on := 3, ground := Go.Ground.phase }, { on := 4, ground := Go.Ground.phase }, { on := 5, ground := Go.Ground.phase }], guard := none }) (v := ?_) rfl (by kernel_rfl) (by kernel_rfl) (by kernel_rfl) (fun _ _ _ h => h) (Or.inl ⟨by rfl, ?_⟩) hS ?_
        rotate_left
        · (intro w hSw; have hSw := (HSd.out w).1 hSw; go_split_ands; go_simp) <;> with_reducible rfl
        clear hS
        try simp only [Act.put, List.setIfInBounds_toArray, List.set_cons_zero, List.set_cons_succ]
        refine wpAnyH_done (by kernel_rfl) ?_ _
        go_wp2
        go_ret2
        exact ⟨ret2e (by rw [HV.out]; rfl) (by rw [HC.out]; rfl), HB.out⟩

set_option maxRecDepth 100000 in
set_option maxHeartbeats 8000000 in
theorem ssd_any (w : World) (px py ux uy qx qy : Int) :
    Calls Try.prog 19 #[.agg #[.int .i64 px, .int .i64 py], .agg #[.int .i64 ux, .int .i64 uy], .agg #[.int .i64 qx, .int .i64 qy]] w fun e w' => e = .returned (.tuple #[.int .i64 (sdV px py ux uy qx qy), .int .i64 (sdC px py ux uy qx qy)]) ∧ Below w.heap.size w w' := by
  obtain ⟨P, hP⟩ : ∃ q, ptB 100000 px py = q := ⟨_, rfl⟩
  obtain ⟨U, hU⟩ : ∃ q, brB ux uy = q := ⟨_, rfl⟩
  obtain ⟨R, hR⟩ : ∃ q, ptB 100000 qx qy = q := ⟨_, rfl⟩
  have HV : Hid (sdV px py ux uy qx qy = if P && U && R then -sg1 (crs ux uy (qx - px) (qy - py)) else 0) := Lib.hid (by unfold sdV; rw [hP, hU, hR])
  have HC : Hid (sdC px py ux uy qx qy = if P && U && R then 0 else 1) := Lib.hid (by unfold sdC; rw [hP, hU, hR])
  have KP : Hid (∀ W : World, Calls Try.prog 47 #[.agg #[.int .i64 px, .int .i64 py], .int .i64 100000] W fun e w' => e = .returned (.bool P) ∧ Below W.heap.size W w') := Lib.hid (fun W => by have := lpt_any W 100000 px py (by omega) (by omega); rwa [hP] at this)
  have KU : Hid (∀ W : World, Calls Try.prog 16 #[.agg #[.int .i64 ux, .int .i64 uy]] W fun e w' => e = .returned (.bool U) ∧ Below W.heap.size W w') := Lib.hid (fun W => by have := sbg_any W ux uy; rwa [hU] at this)
  have KR : Hid (∀ W : World, Calls Try.prog 47 #[.agg #[.int .i64 qx, .int .i64 qy], .int .i64 100000] W fun e w' => e = .returned (.bool R) ∧ Below W.heap.size W w') := Lib.hid (fun W => by have := lpt_any W 100000 qx qy (by omega) (by omega); rwa [hR] at this)
  have KM : Hid (P = true → R = true → ∀ W : World, Calls Try.prog 51 #[.agg #[.int .i64 qx, .int .i64 qy], .agg #[.int .i64 px, .int .i64 py]] W fun e w' => e = .returned (.agg #[.int .i64 (qx - px), .int .i64 (qy - py)]) ∧ Below W.heap.size W w') := Lib.hid (fun e1 e3 W => by have p := ptB_t (hP.trans e1); have r := ptB_t (hR.trans e3); exact lle_any W qx qy px py (by omega) (by omega) (by omega) (by omega) (by omega) (by omega) (by omega) (by omega))
  have KT : Hid (P = true → U = true → R = true → ∀ W : World, Calls Try.prog 50 #[.agg #[.int .i64 ux, .int .i64 uy], .agg #[.int .i64 (qx - px), .int .i64 (qy - py)]] W fun e w' => e = .returned (.int .i64 (crs ux uy (qx - px) (qy - py))) ∧ Below W.heap.size W w') := Lib.hid (fun e1 e2 e3 W => by have p := ptB_t (hP.trans e1); have r := ptB_t (hR.trans e3); have u := (brB_t (hU.trans e2)).1; have x1 := prd (A := 1000) (B := 200000) (a := ux) (b := qy - py) (by omega) (by omega) (by omega) (by omega) (by omega); have x2 := prd (A := 1000) (B := 200000) (a := uy) (b := qx - px) (by omega) (by omega) (by omega) (by omega) (by omega); exact lcr_any W ux uy (qx - px) (qy - py) x1.1 x1.2 x2.1 x2.2)
  obtain ⟨X, hX⟩ : ∃ u, qx - px = u := ⟨_, rfl⟩
  obtain ⟨Y, hY⟩ : ∃ u, qy - py = u := ⟨_, rfl⟩
  rw [hX, hY] at KM KT HV
  obtain ⟨C, hCr⟩ : ∃ u, crs ux uy X Y = u := ⟨_, rfl⟩
  rw [hCr] at KT HV
  have sb := sg1_bd C
  have eZ : IntKind.wrap .i64 (-sg1 C) = -sg1 C := IntWalk.i64_in _ (by omega)
  have KS : Hid (∀ W : World, Calls Try.prog 49 #[.int .i64 C] W fun e w' => e = .returned (.int .i64 (sg1 C)) ∧ Below W.heap.size W w') := Lib.hid (fun W => lsg_any W C)
  obtain ⟨Z, hZ⟩ : ∃ u, sg1 C = u := ⟨_, rfl⟩
  rw [hZ] at KS HV eZ
  clear hP hU hR hX hY hZ hCr sb
  go_enter Try.func19, Try.ntmps19
  go_wp2_with fail
  generalize hW : World.alloc _ _ = W
  have bP : Bk W (w.heap.size) #[.int .i64 px, .int .i64 py] 25 := by rw [← hW]; repeat (first | (refine Bk.new' ?_; (simp; done)) | refine Bk.alloc ?_ _)
  have bU : Bk W (w.heap.size + 1) #[.int .i64 ux, .int .i64 uy] 25 := by rw [← hW]; repeat (first | (refine Bk.new' ?_; (simp; done)) | refine Bk.alloc ?_ _)
  have bQ : Bk W (w.heap.size + 1 + 1) #[.int .i64 qx, .int .i64 qy] 25 := by rw [← hW]; repeat (first | (refine Bk.new' ?_; (simp; done)) | refine Bk.alloc ?_ _)
  have HB : Hid (Below w.heap.size w W) := Lib.hid (by rw [← hW]; exact (by repeat (first | exact Below.refl _ _ | (refine Below.alloc ?_ (by simp <;> omega) _) | (refine Below.setCell ?_ (by simp <;> omega) _) | (refine Below.drew ?_) | (refine bel_drewN ?_ _))))
  clear hW
  refine (KP.out _).mono ?_
  rintro e w1 ⟨rfl, hb⟩
  replace bP := bP.on hb
  replace bU := bU.on hb
  replace bQ := bQ.on hb
  replace HB := Lib.hid (bel_end HB.out hb)
  clear hb
  cases hP : P
  case false =>
    subst hP
    have bP_0 := bP.cell 0 rfl
    have bP_1 := bP.cell 1 rfl
    have bP_l := bP.lt
    have bU_0 := bU.cell 0 rfl
    have bU_1 := bU.cell 1 rfl
    have bU_l := bU.lt
    have bQ_0 := bQ.cell 0 rfl
    have bQ_1 := bQ.cell 1 rfl
    have bQ_l := bQ.lt
    go_wp2
    go_ret2
    exact ⟨ret2e (by rw [HV.out]; rfl) (by rw [HC.out]; rfl), HB.out⟩
  case true =>
    subst hP
    have bP_0 := bP.cell 0 rfl
    have bP_1 := bP.cell 1 rfl
    have bP_l := bP.lt
    have bU_0 := bU.cell 0 rfl
    have bU_1 := bU.cell 1 rfl
    have bU_l := bU.lt
    have bQ_0 := bQ.cell 0 rfl
    have bQ_1 := bQ.cell 1 rfl
    have bQ_l := bQ.lt
    go_wp2_with fail
    refine (KU.out _).mono ?_
    rintro e w2 ⟨rfl, hb⟩
    replace bP := bP.on hb
    replace bU := bU.on hb
    replace bQ := bQ.on hb
    replace HB := Lib.hid (bel_end HB.out hb)
    clear hb
    clear bP_0 bP_1 bP_l bU_0 bU_1 bU_l bQ_0 bQ_1 bQ_l
    cases hU : U
    case false =>
      subst hU
      have bP_0 := bP.cell 0 rfl
      have bP_1 := bP.cell 1 rfl
      have bP_l := bP.lt
      have bU_0 := bU.cell 0 rfl
      have bU_1 := bU.cell 1 rfl
      have bU_l := bU.lt
      have bQ_0 := bQ.cell 0 rfl
      have bQ_1 := bQ.cell 1 rfl
      have bQ_l := bQ.lt
      go_wp2
      go_ret2
      exact ⟨ret2e (by rw [HV.out]; rfl) (by rw [HC.out]; rfl), HB.out⟩
    case true =>
      subst hU
      have bP_0 := bP.cell 0 rfl
      have bP_1 := bP.cell 1 rfl
      have bP_l := bP.lt
      have bU_0 := bU.cell 0 rfl
      have bU_1 := bU.cell 1 rfl
      have bU_l := bU.lt
      have bQ_0 := bQ.cell 0 rfl
      have bQ_1 := bQ.cell 1 rfl
      have bQ_l := bQ.lt
      go_wp2_with fail
      refine (KR.out _).mono ?_
      rintro e w3 ⟨rfl, hb⟩
      replace bP := bP.on hb
      replace bU := bU.on hb
      replace bQ := bQ.on hb
      replace HB := Lib.hid (bel_end HB.out hb)
      clear hb
      clear bP_0 bP_1 bP_l bU_0 bU_1 bU_l bQ_0 bQ_1 bQ_l
      cases hR : R
      case false =>
        subst hR
        have bP_0 := bP.cell 0 rfl
        have bP_1 := bP.cell 1 rfl
        have bP_l := bP.lt
        have bU_0 := bU.cell 0 rfl
        have bU_1 := bU.cell 1 rfl
        have bU_l := bU.lt
        have bQ_0 := bQ.cell 0 rfl
        have bQ_1 := bQ.cell 1 rfl
        have bQ_l := bQ.lt
        go_wp2
        go_ret2
        exact ⟨ret2e (by rw [HV.out]; rfl) (by rw [HC.out]; rfl), HB.out⟩
      case true =>
        subst hR
        have bP_0 := bP.cell 0 rfl
        have bP_1 := bP.cell 1 rfl
        have bP_l := bP.lt
        have bU_0 := bU.cell 0 rfl
        have bU_1 := bU.cell 1 rfl
        have bU_l := bU.lt
        have bQ_0 := bQ.cell 0 rfl
        have bQ_1 := bQ.cell 1 rfl
        have bQ_l := bQ.lt
        go_upto_region 3 with fail
        clear bP_0 bP_1 bP_l bU_0 bU_1 bU_l bQ_0 bQ_1 bQ_l
        obtain ⟨S, hSd⟩ : ∃ S : World → Prop, ∀ w', S w' ↔ (w'.cell? ⟨w.heap.size, 0, none⟩ = some (.int .i64 px) ∧ w'.cell? ⟨w.heap.size, 1, none⟩ = some (.int .i64 py) ∧ w'.cell? ⟨w.heap.size + 1, 0, none⟩ = some (.int .i64 ux) ∧ w'.cell? ⟨w.heap.size + 1, 1, none⟩ = some (.int .i64 uy) ∧ w'.cell? ⟨w.heap.size + 1 + 1, 0, none⟩ = some (.int .i64 qx) ∧ w'.cell? ⟨w.heap.size + 1 + 1, 1, none⟩ = some (.int .i64 qy)) := ⟨_, fun _ => Iff.rfl⟩
        have HSp : Hid (∀ w' : World, Bk w' (w.heap.size) #[.int .i64 px, .int .i64 py] 25 → Bk w' (w.heap.size + 1) #[.int .i64 ux, .int .i64 uy] 25 → Bk w' (w.heap.size + 1 + 1) #[.int .i64 qx, .int .i64 qy] 25 → S w') := Lib.hid (fun w' bP bU bQ => (hSd w').2 ⟨bP.cell 0 rfl, bP.cell 1 rfl, bU.cell 0 rfl, bU.cell 1 rfl, bQ.cell 0 rfl, bQ.cell 1 rfl⟩)
        have HSd := Lib.hid hSd
        clear hSd
        refine wp_region_held_drew (S := S) (by kernel_rfl) ?_ (fun hH => ?_)
        · exact (HSp.out _ bP bU bQ : S (World.drew w3))
        clear hH
        generalize hX : World.drew w3 = V0
        replace bP : Bk V0 (w.heap.size) #[.int .i64 px, .int .i64 py] 25 := by rw [← hX]; exact bP
        replace bU : Bk V0 (w.heap.size + 1) #[.int .i64 ux, .int .i64 uy] 25 := by rw [← hX]; exact bU
        replace bQ : Bk V0 (w.heap.size + 1 + 1) #[.int .i64 qx, .int .i64 qy] 25 := by rw [← hX]; exact bQ
        have hb : Below w3.heap.size w3 V0 := by rw [← hX]; exact (Below.refl _ _).drew
        clear hX
        replace HB := Lib.hid (bel_end HB.out hb)
        clear hb
        have hS := HSp.out _ bP bU bQ
        refine wpAnyH_take (i := 0) (oi := { dst := some 21, op := Go.Op.load 25 (Go.Operand.tmp 4), type := 25, pos := "l12_bearings.go:36", after := #[], guard := none }) (v := ?_) rfl (by kernel_rfl) (by kernel_rfl) (by kernel_rfl) (fun _ _ _ h => h) (Or.inl ⟨by rfl, ?_⟩) hS ?_
        rotate_left
        · (intro w hSw; have hSw := (HSd.out w).1 hSw; go_split_ands; go_simp) <;> with_reducible rfl
        clear hS
        try simp only [Act.put, List.setIfInBounds_toArray, List.set_cons_zero, List.set_cons_succ]
        have hS := HSp.out _ bP bU bQ
        refine wpAnyH_take (i := 1) (oi := { dst := some 22, op := Go.Op.load 25 (Go.Operand.tmp 5), type := 25, pos := "l12_bearings.go:36", after := #[], guard := none }) (v := ?_) rfl (by kernel_rfl) (by kernel_rfl) (by kernel_rfl) (fun _ _ _ h => h) (Or.inl ⟨by rfl, ?_⟩) hS ?_
        rotate_left
        · (intro w hSw; have hSw := (HSd.out w).1 hSw; go_split_ands; go_simp) <;> with_reducible rfl
        clear hS
        try simp only [Act.put, List.setIfInBounds_toArray, List.set_cons_zero, List.set_cons_succ]
        have hS := HSp.out _ bP bU bQ
        refine wpAnyH_take (i := 2) (oi := { dst := some 23, op := Go.Op.load 25 (Go.Operand.tmp 3), type := 25, pos := "l12_bearings.go:36", after := #[], guard := none }) (v := ?_) rfl (by kernel_rfl) (by kernel_rfl) (by kernel_rfl) (fun _ _ _ h => h) (Or.inl ⟨by rfl, ?_⟩) hS ?_
        rotate_left
        · (intro w hSw; have hSw := (HSd.out w).1 hSw; go_split_ands; go_simp) <;> with_reducible rfl
        clear hS
        try simp only [Act.put, List.setIfInBounds_toArray, List.set_cons_zero, List.set_cons_succ]
        refine wpAnyH_ready (rs := [3]) (by kernel_rfl) (by simp) ?_
        refine AllReadyH.cons (o := { dst := some 24, op := Go.Op.call { callee := Go.Callee.value (Go.Operand.func 51), args := #[Go.Operand.tmp 22, Go.Operand.tmp 23], argTypes := #[25, 25] }, type := 25, pos := "l12_bearings.go:36", after := #[{ on := 1, ground := Go.Ground.data }, { on := 2, ground := Go.Ground.data }], guard := none }) rfl (fun Kn hK => ?_) AllReadyH.nil
        first | go_at_call 51 | (go_simp; go_at_call 51)
        (with_reducible refine Calls.mono (KM.out (by trivial) (by trivial) _) ?_)
        rintro e V1 ⟨rfl, hb⟩
        try dsimp only
        try simp only [Act.put, List.setIfInBounds_toArray, List.set_cons_zero, List.set_cons_succ]
        replace bP := bP.on hb
        replace bU := bU.on hb
        replace bQ := bQ.on hb
        replace HB := Lib.hid (bel_end HB.out hb)
        clear hb
        refine hK.out _ _ (HSp.out _ bP bU bQ) (fun _ => ?_)
        clear hK Kn
        refine wpAnyH_ready (rs := [4]) (by kernel_rfl) (by simp) ?_
        refine AllReadyH.cons (o := { dst := some 25, op := Go.Op.call { callee := Go.Callee.value (Go.Operand.func 50), args := #[Go.Operand.tmp 21, Go.Operand.tmp 24], argTypes := #[25, 25] }, type := 2, pos := "l12_bearings.go:36", after := #[{ on := 0, ground := Go.Ground.data }, { on := 3, ground := Go.Ground.data }, { on := 3, ground := Go.Ground.chain }], guard := none }) rfl (fun Kn hK => ?_) AllReadyH.nil
        first | go_at_call 50 | (go_simp; go_at_call 50)
        (with_reducible refine Calls.mono (KT.out (by trivial) (by trivial) (by trivial) _) ?_)
        rintro e V2 ⟨rfl, hb⟩
        try dsimp only
        try simp only [Act.put, List.setIfInBounds_toArray, List.set_cons_zero, List.set_cons_succ]
        replace bP := bP.on hb
        replace bU := bU.on hb
        replace bQ := bQ.on hb
        replace HB := Lib.hid (bel_end HB.out hb)
        clear hb
        refine hK.out _ _ (HSp.out _ bP bU bQ) (fun _ => ?_)
        clear hK Kn
        refine wpAnyH_ready (rs := [5]) (by kernel_rfl) (by simp) ?_
        refine AllReadyH.cons (o := { dst := some 26, op := Go.Op.call { callee := Go.Callee.value (Go.Operand.func 49), args := #[Go.Operand.tmp 25], argTypes := #[2] }, type := 2, pos := "l12_bearings.go:36", after := #[{ on := 4, ground := Go.Ground.data }, { on := 4, ground := Go.Ground.chain }], guard := none }) rfl (fun Kn hK => ?_) AllReadyH.nil
        first | go_at_call 49 | (go_simp; go_at_call 49)
        (with_reducible refine Calls.mono (KS.out  _) ?_)
        rintro e V3 ⟨rfl, hb⟩
        try dsimp only
        try simp only [Act.put, List.setIfInBounds_toArray, List.set_cons_zero, List.set_cons_succ]
        replace bP := bP.on hb
        replace bU := bU.on hb
        replace bQ := bQ.on hb
        replace HB := Lib.hid (bel_end HB.out hb)
        clear hb
        refine hK.out _ _ (HSp.out _ bP bU bQ) (fun _ => ?_)
        clear hK Kn
        have hS := HSp.out _ bP bU bQ
        refine wpAnyH_take (i := 6) (oi := { dst := some 27, op := Go.Op.unOp Go.UnOp.neg 2 (Go.Operand.tmp 26), type := 2, pos := "l12_bearings.go:36", after := #[{ on := 5, ground := Go.Ground.data }], guard := none }) (v := ?_) rfl (by kernel_rfl) (by kernel_rfl) (by kernel_rfl) (fun _ _ _ h => h) (Or.inl ⟨by rfl, ?_⟩) hS ?_
        rotate_left
        · (intro w hSw; have hSw := (HSd.out w).1 hSw; go_split_ands; go_simp) <;> with_reducible rfl
        clear hS
        try simp only [Act.put, List.setIfInBounds_toArray, List.set_cons_zero, List.set_cons_succ]
        have hS := HSp.out _ bP bU bQ
        refine wpAnyH_take (i := 7) (oi := { dst := some 6, op := Go.Op.assign (Go.Operand.tmp 27), type := 2, pos := "l12_bearings.go:36", after := #[{ on := 6, ground := Go.Ground.data }, { on := 5, ground := Go.Ground.chain }, { on := 0, ground := Go.Ground.phase }, { on := 1, ground := Go.Ground.phase }, { on := 2, ground := Go.Ground.phase }, { on := 3, ground := Go.Ground.phase }, { on := 4, ground := Go.Ground.phase }, { on := 5, ground := Go.Ground.phase }, { on := 6, ground := Go.Ground.phase }], guard := none }) (v := ?_) rfl (by kernel_rfl) (by kernel_rfl) (by kernel_rfl) (fun _ _ _ h => h) (Or.inl ⟨by rfl, ?_⟩) hS ?_
        rotate_left
        · (intro w hSw; have hSw := (HSd.out w).1 hSw; go_split_ands; go_simp) <;> with_reducible rfl
        clear hS
        try simp only [Act.put, List.setIfInBounds_toArray, List.set_cons_zero, List.set_cons_succ]
        have hS := HSp.out _ bP bU bQ
        refine wpAnyH_take (i := 8) (oi := { dst := some 7, op := Go.Op.assign (Go.Operand.const (Go.Value.int Go.IntKind.i64 0)), type := 2, pos := "l12_bearings.go:36", after := #[{ on := 7, ground := Go.Ground.chain }, { on := 0, ground := Go.Ground.phase }, { on := 1, ground := Go.Ground.phase }, { on := 2, ground := Go.Ground.phase }, { on := 3, ground := Go.Ground.phase }, { on := 4, ground := Go.Ground.phase }, { on := 5, ground := Go.Ground.phase }, { on := 6, ground := Go.Ground.phase }, { on := 7, ground := Go.Ground.phase }], guard := none }) (v := ?_) rfl (by kernel_rfl) (by kernel_rfl) (by kernel_rfl) (fun _ _ _ h => h) (Or.inl ⟨by rfl, ?_⟩) hS ?_
        rotate_left
        · (intro w hSw; have hSw := (HSd.out w).1 hSw; go_split_ands; go_simp) <;> with_reducible rfl
        clear hS
        try simp only [Act.put, List.setIfInBounds_toArray, List.set_cons_zero, List.set_cons_succ]
        refine wpAnyH_done (by kernel_rfl) ?_ _
        go_wp2
        go_ret2
        exact ⟨ret2e (by rw [HV.out]; rfl) (by rw [HC.out]; rfl), HB.out⟩

theorem hlf_01 (x y : Int) : hlf x y = 0 ∨ hlf x y = 1 := by unfold hlf; split <;> (try split) <;> simp
theorem cbV_or (a b c d : Int) : cbV a b c d = if brB a b && brB c d then (if sgn (hlf a b) (hlf c d) = 0 then -sg1 (crs c d a b) else sgn (hlf a b) (hlf c d)) else 0 := by
  unfold cbV
  rw [crs_swap a b c d, sg1_neg, Int.neg_neg]
  rcases hlf_01 a b with e | e <;> rcases hlf_01 c d with g | g <;> rw [e, g] <;> rfl

set_option maxRecDepth 100000 in
set_option maxHeartbeats 8000000 in
theorem icb_any (w : World) (a b c d : Int) :
    Calls Try.prog 22 #[.agg #[.int .i64 a, .int .i64 b], .agg #[.int .i64 c, .int .i64 d]] w fun e w' => e = .returned (.tuple #[.int .i64 (cbV a b c d), .int .i64 (cbC a b c d)]) ∧ Below w.heap.size w w' := by
  obtain ⟨U, hU⟩ : ∃ q, brB a b = q := ⟨_, rfl⟩
  obtain ⟨V, hV⟩ : ∃ q, brB c d = q := ⟨_, rfl⟩
  have HC : Hid (cbC a b c d = if U && V then 0 else 1) := Lib.hid (by unfold cbC; rw [hU, hV])
  have KU : Hid (∀ W : World, Calls Try.prog 18 #[.agg #[.int .i64 a, .int .i64 b]] W fun e w' => e = .returned (.bool U) ∧ Below W.heap.size W w') := Lib.hid (fun W => by have := ibg_any W a b; rwa [hU] at this)
  have KV : Hid (∀ W : World, Calls Try.prog 18 #[.agg #[.int .i64 c, .int .i64 d]] W fun e w' => e = .returned (.bool V) ∧ Below W.heap.size W w') := Lib.hid (fun W => by have := ibg_any W c d; rwa [hV] at this)
  have HV : Hid (cbV a b c d = if U && V then (if sgn (hlf a b) (hlf c d) = 0 then -sg1 (crs c d a b) else sgn (hlf a b) (hlf c d)) else 0) := Lib.hid (by rw [cbV_or, hU, hV])
  have KT : Hid (U = true → V = true → ∀ W : World, Calls Try.prog 53 #[.agg #[.int .i64 c, .int .i64 d], .agg #[.int .i64 a, .int .i64 b]] W fun e w' => e = .returned (.int .i64 (-sg1 (crs c d a b))) ∧ Below W.heap.size W w') := Lib.hid (fun e1 e2 W => by have u := (brB_t (hU.trans e1)).1; have v := (brB_t (hV.trans e2)).1; have x1 := prd (A := 1000) (B := 1000) (a := c) (b := b) (by omega) (by omega) (by omega) (by omega) (by omega); have x2 := prd (A := 1000) (B := 1000) (a := d) (b := a) (by omega) (by omega) (by omega) (by omega) (by omega); exact itt_any W c d a b x1.1 x1.2 x2.1 x2.2)
  obtain ⟨Z, hZ⟩ : ∃ u, -sg1 (crs c d a b) = u := ⟨_, rfl⟩
  rw [hZ] at KT HV
  have K1 : Hid (∀ W : World, Calls Try.prog 57 #[.agg #[.int .i64 a, .int .i64 b]] W fun e w' => e = .returned (.int .i64 (hlf a b)) ∧ Below W.heap.size W w') := Lib.hid (fun W => ihf_any W a b)
  have K2 : Hid (∀ W : World, Calls Try.prog 57 #[.agg #[.int .i64 c, .int .i64 d]] W fun e w' => e = .returned (.int .i64 (hlf c d)) ∧ Below W.heap.size W w') := Lib.hid (fun W => ihf_any W c d)
  obtain ⟨h1, e1⟩ : ∃ u, hlf a b = u := ⟨_, rfl⟩
  obtain ⟨h2, e2⟩ : ∃ u, hlf c d = u := ⟨_, rfl⟩
  rw [e1] at K1 HV
  rw [e2] at K2 HV
  have KC : Hid (∀ W : World, Calls Try.prog 56 #[.int .i64 h1, .int .i64 h2] W fun e w' => e = .returned (.int .i64 (sgn h1 h2)) ∧ W = w') := Lib.hid (fun W => cmp_any W h1 h2)
  obtain ⟨S, hS⟩ : ∃ u, sgn h1 h2 = u := ⟨_, rfl⟩
  rw [hS] at KC HV
  obtain ⟨Y, hY⟩ : ∃ u, (if S = 0 then Z else S) = u := ⟨_, rfl⟩
  rw [hY] at HV
  have HY := Lib.hid hY
  clear hZ e1 e2 hS hU hV hY
  go_enter Try.func22, Try.ntmps22
  go_wp2_with fail
  generalize hW : World.alloc _ _ = W
  have bU : Bk W (w.heap.size) #[.int .i64 a, .int .i64 b] 25 := by rw [← hW]; repeat (first | (refine Bk.new' ?_; (simp; done)) | refine Bk.alloc ?_ _)
  have bV : Bk W (w.heap.size + 1) #[.int .i64 c, .int .i64 d] 25 := by rw [← hW]; repeat (first | (refine Bk.new' ?_; (simp; done)) | refine Bk.alloc ?_ _)
  have HB : Hid (Below w.heap.size w W) := Lib.hid (by rw [← hW]; exact (by repeat (first | exact Below.refl _ _ | (refine Below.alloc ?_ (by simp <;> omega) _) | (refine Below.setCell ?_ (by simp <;> omega) _) | (refine Below.drew ?_) | (refine bel_drewN ?_ _))))
  clear hW
  refine (KU.out _).mono ?_
  rintro e w1 ⟨rfl, hb⟩
  replace bU := bU.on hb
  replace bV := bV.on hb
  replace HB := Lib.hid (bel_end HB.out hb)
  clear hb
  cases hU : U
  case false =>
    subst hU
    have bU_0 := bU.cell 0 rfl
    have bU_1 := bU.cell 1 rfl
    have bU_l := bU.lt
    have bV_0 := bV.cell 0 rfl
    have bV_1 := bV.cell 1 rfl
    have bV_l := bV.lt
    go_wp2
    go_ret2
    exact ⟨ret2e (by rw [HV.out]; rfl) (by rw [HC.out]; rfl), HB.out⟩
  case true =>
    subst hU
    have bU_0 := bU.cell 0 rfl
    have bU_1 := bU.cell 1 rfl
    have bU_l := bU.lt
    have bV_0 := bV.cell 0 rfl
    have bV_1 := bV.cell 1 rfl
    have bV_l := bV.lt
    go_wp2_with fail
    refine (KV.out _).mono ?_
    rintro e w2 ⟨rfl, hb⟩
    replace bU := bU.on hb
    replace bV := bV.on hb
    replace HB := Lib.hid (bel_end HB.out hb)
    clear hb
    clear bU_0 bU_1 bU_l bV_0 bV_1 bV_l
    cases hV : V
    case false =>
      subst hV
      have bU_0 := bU.cell 0 rfl
      have bU_1 := bU.cell 1 rfl
      have bU_l := bU.lt
      have bV_0 := bV.cell 0 rfl
      have bV_1 := bV.cell 1 rfl
      have bV_l := bV.lt
      go_wp2
      go_ret2
      exact ⟨ret2e (by rw [HV.out]; rfl) (by rw [HC.out]; rfl), HB.out⟩
    case true =>
      subst hV
      have bU_0 := bU.cell 0 rfl
      have bU_1 := bU.cell 1 rfl
      have bU_l := bU.lt
      have bV_0 := bV.cell 0 rfl
      have bV_1 := bV.cell 1 rfl
      have bV_l := bV.lt
      go_upto_region 3 with fail
      clear bU_0 bU_1 bU_l bV_0 bV_1 bV_l
      go_cut [6] (fun q wx => q = .int .i64 S ∧ Below w2.heap.size w2 wx)
      case first =>
        have HW : Hid (Below w2.heap.size w2 w2) := Lib.hid (Below.refl _ _)
        obtain ⟨S, hSd⟩ : ∃ S : World → Prop, ∀ w', S w' ↔ (w'.cell? ⟨w.heap.size, 0, none⟩ = some (.int .i64 a) ∧ w'.cell? ⟨w.heap.size, 1, none⟩ = some (.int .i64 b) ∧ w'.cell? ⟨w.heap.size + 1, 0, none⟩ = some (.int .i64 c) ∧ w'.cell? ⟨w.heap.size + 1, 1, none⟩ = some (.int .i64 d)) := ⟨_, fun _ => Iff.rfl⟩
        have HSp : Hid (∀ w' : World, Bk w' (w.heap.size) #[.int .i64 a, .int .i64 b] 25 → Bk w' (w.heap.size + 1) #[.int .i64 c, .int .i64 d] 25 → S w') := Lib.hid (fun w' bU bV => (hSd w').2 ⟨bU.cell 0 rfl, bU.cell 1 rfl, bV.cell 0 rfl, bV.cell 1 rfl⟩)
        have HSd := Lib.hid hSd
        clear hSd
        refine wp_region_held_drew (S := S) (by kernel_rfl) ?_ (fun hH => ?_)
        · exact (HSp.out _ bU bV : S (World.drew w2))
        clear hH
        generalize hX : World.drew w2 = V0
        replace bU : Bk V0 (w.heap.size) #[.int .i64 a, .int .i64 b] 25 := by rw [← hX]; exact bU
        replace bV : Bk V0 (w.heap.size + 1) #[.int .i64 c, .int .i64 d] 25 := by rw [← hX]; exact bV
        have hb : Below w2.heap.size w2 V0 := by rw [← hX]; exact (Below.refl _ _).drew
        clear hX
        replace HW := Lib.hid (bel_end HW.out hb)
        clear hb
        have hS := HSp.out _ bU bV
        refine wpAnyH_take (i := 0) (oi := { dst := some 15, op := Go.Op.load 25 (Go.Operand.tmp 2), type := 25, pos := "l12_bearings.go:51", after := #[], guard := none }) (v := ?_) rfl (by kernel_rfl) (by kernel_rfl) (by kernel_rfl) (fun _ _ _ h => h) (Or.inl ⟨by rfl, ?_⟩) hS ?_
        rotate_left
        · (intro w hSw; have hSw := (HSd.out w).1 hSw; go_split_ands; go_simp) <;> with_reducible rfl
        clear hS
        try simp only [Act.put, List.setIfInBounds_toArray, List.set_cons_zero, List.set_cons_succ]
        have hS := HSp.out _ bU bV
        refine wpAnyH_take (i := 2) (oi := { dst := some 17, op := Go.Op.load 25 (Go.Operand.tmp 3), type := 25, pos := "l12_bearings.go:51", after := #[], guard := none }) (v := ?_) rfl (by kernel_rfl) (by kernel_rfl) (by kernel_rfl) (fun _ _ _ h => h) (Or.inl ⟨by rfl, ?_⟩) hS ?_
        rotate_left
        · (intro w hSw; have hSw := (HSd.out w).1 hSw; go_split_ands; go_simp) <;> with_reducible rfl
        clear hS
        try simp only [Act.put, List.setIfInBounds_toArray, List.set_cons_zero, List.set_cons_succ]
        refine wpAnyH_ready (rs := [1]) (by kernel_rfl) (by simp) ?_
        refine AllReadyH.cons (o := { dst := some 16, op := Go.Op.call { callee := Go.Callee.value (Go.Operand.func 57), args := #[Go.Operand.tmp 15], argTypes := #[25] }, type := 2, pos := "l12_bearings.go:51", after := #[{ on := 0, ground := Go.Ground.data }], guard := none }) rfl (fun Kn hK => ?_) AllReadyH.nil
        first | go_at_call 57 | (go_simp; go_at_call 57)
        (with_reducible refine Calls.mono (K1.out  _) ?_)
        rintro e V1 ⟨rfl, hb⟩
        try dsimp only
        try simp only [Act.put, List.setIfInBounds_toArray, List.set_cons_zero, List.set_cons_succ]
        replace bU := bU.on hb
        replace bV := bV.on hb
        replace HW := Lib.hid (bel_end HW.out hb)
        clear hb
        refine hK.out _ _ (HSp.out _ bU bV) (fun _ => ?_)
        clear hK Kn
        refine wpAnyH_ready (rs := [3]) (by kernel_rfl) (by simp) ?_
        refine AllReadyH.cons (o := { dst := some 18, op := Go.Op.call { callee := Go.Callee.value (Go.Operand.func 57), args := #[Go.Operand.tmp 17], argTypes := #[25] }, type := 2, pos := "l12_bearings.go:51", after := #[{ on := 2, ground := Go.Ground.data }, { on := 1, ground := Go.Ground.chain }], guard := none }) rfl (fun Kn hK => ?_) AllReadyH.nil
        first | go_at_call 57 | (go_simp; go_at_call 57)
        (with_reducible refine Calls.mono (K2.out  _) ?_)
        rintro e V2 ⟨rfl, hb⟩
        try dsimp only
        try simp only [Act.put, List.setIfInBounds_toArray, List.set_cons_zero, List.set_cons_succ]
        replace bU := bU.on hb
        replace bV := bV.on hb
        replace HW := Lib.hid (bel_end HW.out hb)
        clear hb
        refine hK.out _ _ (HSp.out _ bU bV) (fun _ => ?_)
        clear hK Kn
        refine wpAnyH_ready (rs := [4]) (by kernel_rfl) (by simp) ?_
        refine AllReadyH.cons (o := { dst := some 19, op := Go.Op.call { callee := Go.Callee.value (Go.Operand.func 56), args := #[Go.Operand.tmp 16, Go.Operand.tmp 18], argTypes := #[2, 2] }, type := 3, pos := "l12_bearings.go:51", after := #[{ on := 1, ground := Go.Ground.data }, { on := 3, ground := Go.Ground.data }, { on := 3, ground := Go.Ground.chain }], guard := none }) rfl (fun Kn hK => ?_) AllReadyH.nil
        first | go_at_call 56 | (go_simp; go_at_call 56)
        (with_reducible refine Calls.mono (KC.out _) ?_)
        rintro e V3 ⟨rfl, hw⟩
        have hb : Below V2.heap.size V2 V3 := hw ▸ Below.refl _ _
        clear hw
        try dsimp only
        try simp only [Act.put, List.setIfInBounds_toArray, List.set_cons_zero, List.set_cons_succ]
        replace bU := bU.on hb
        replace bV := bV.on hb
        replace HW := Lib.hid (bel_end HW.out hb)
        clear hb
        refine hK.out _ _ (HSp.out _ bU bV) (fun _ => ?_)
        clear hK Kn
        have hS := HSp.out _ bU bV
        refine wpAnyH_take (i := 5) (oi := { dst := some 6, op := Go.Op.assign (Go.Operand.tmp 19), type := 3, pos := "l12_bearings.go:51", after := #[{ on := 4, ground := Go.Ground.data }, { on := 4, ground := Go.Ground.chain }, { on := 0, ground := Go.Ground.phase }, { on := 1, ground := Go.Ground.phase }, { on := 2, ground := Go.Ground.phase }, { on := 3, ground := Go.Ground.phase }, { on := 4, ground := Go.Ground.phase }], guard := none }) (v := ?_) rfl (by kernel_rfl) (by kernel_rfl) (by kernel_rfl) (fun _ _ _ h => h) (Or.inl ⟨by rfl, ?_⟩) hS ?_
        rotate_left
        · (intro w hSw; have hSw := (HSd.out w).1 hSw; go_split_ands; go_simp) <;> with_reducible rfl
        clear hS
        try simp only [Act.put, List.setIfInBounds_toArray, List.set_cons_zero, List.set_cons_succ]
        refine wpAnyH_done (by kernel_rfl) ?_ _
        go_wp2_with fail
        go_meet
        exact ⟨rfl, HW.out⟩
      case rest =>
        obtain ⟨rfl, hb⟩ := hcut
        replace bU := bU.on hb
        replace bV := bV.on hb
        replace HB := Lib.hid (bel_end HB.out hb)
        clear hb
        have bU_0 := bU.cell 0 rfl
        have bU_1 := bU.cell 1 rfl
        have bU_l := bU.lt
        have bV_0 := bV.cell 0 rfl
        have bV_1 := bV.cell 1 rfl
        have bV_l := bV.lt
        go_wp2_with fail
        refine (KT.out (by trivial) (by trivial) _).mono ?_
        rintro e w3 ⟨rfl, hb⟩
        replace bU := bU.on hb
        replace bV := bV.on hb
        replace HB := Lib.hid (bel_end HB.out hb)
        clear hb
        clear bU_0 bU_1 bU_l bV_0 bV_1 bV_l
        go_wp2_with fail
        generalize hW : World.alloc _ _ = W2
        obtain ⟨gS, hg⟩ : ∃ g, g = w3.heap.size := ⟨_, rfl⟩
        have bS : Bk W2 gS #[.int .i64 S, .int .i64 Z] 2 := by rw [← hW]; exact Bk.new' hg
        have hb : Below w3.heap.size w3 W2 := by rw [← hW]; exact (Below.refl _ _).alloc (Nat.le_refl _) _
        try rw [← hg]
        clear hW hg
        replace HB := Lib.hid (bel_end HB.out hb)
        clear hb
        refine (cor_any2 W2 gS S Z bS).mono ?_
        rw [HY.out]
        rintro e w5 ⟨rfl, hw⟩
        subst hw
        go_wp2
        go_ret2
        exact ⟨ret2e (by rw [HV.out]; rfl) (by rw [HC.out]; rfl), HB.out⟩

set_option maxRecDepth 100000 in
set_option maxHeartbeats 8000000 in
theorem scb_any (w : World) (a b c d : Int) :
    Calls Try.prog 21 #[.agg #[.int .i64 a, .int .i64 b], .agg #[.int .i64 c, .int .i64 d]] w fun e w' => e = .returned (.tuple #[.int .i64 (cbV a b c d), .int .i64 (cbC a b c d)]) ∧ Below w.heap.size w w' := by
  obtain ⟨U, hU⟩ : ∃ q, brB a b = q := ⟨_, rfl⟩
  obtain ⟨V, hV⟩ : ∃ q, brB c d = q := ⟨_, rfl⟩
  have HC : Hid (cbC a b c d = if U && V then 0 else 1) := Lib.hid (by unfold cbC; rw [hU, hV])
  have KU : Hid (∀ W : World, Calls Try.prog 16 #[.agg #[.int .i64 a, .int .i64 b]] W fun e w' => e = .returned (.bool U) ∧ Below W.heap.size W w') := Lib.hid (fun W => by have := sbg_any W a b; rwa [hU] at this)
  have KV : Hid (∀ W : World, Calls Try.prog 16 #[.agg #[.int .i64 c, .int .i64 d]] W fun e w' => e = .returned (.bool V) ∧ Below W.heap.size W w') := Lib.hid (fun W => by have := sbg_any W c d; rwa [hV] at this)
  have HV : Hid (cbV a b c d = if U && V then (if hlf a b = hlf c d then sg1 (crs a b c d) else hlf a b - hlf c d) else 0) := Lib.hid (by unfold cbV; rw [hU, hV])
  have KT : Hid (U = true → V = true → ∀ W : World, Calls Try.prog 50 #[.agg #[.int .i64 a, .int .i64 b], .agg #[.int .i64 c, .int .i64 d]] W fun e w' => e = .returned (.int .i64 (crs a b c d)) ∧ Below W.heap.size W w') := Lib.hid (fun e1 e2 W => by have u := (brB_t (hU.trans e1)).1; have v := (brB_t (hV.trans e2)).1; have x1 := prd (A := 1000) (B := 1000) (a := a) (b := d) (by omega) (by omega) (by omega) (by omega) (by omega); have x2 := prd (A := 1000) (B := 1000) (a := b) (b := c) (by omega) (by omega) (by omega) (by omega) (by omega); exact lcr_any W a b c d x1.1 x1.2 x2.1 x2.2)
  have K1 : Hid (U = true → ∀ W : World, Calls Try.prog 55 #[.agg #[.int .i64 a, .int .i64 b]] W fun e w' => e = .returned (.int .i64 (hlf a b)) ∧ Below W.heap.size W w') := Lib.hid (fun e1 W => lhf_any W a b (brB_t (hU.trans e1)).2)
  have K2 : Hid (V = true → ∀ W : World, Calls Try.prog 55 #[.agg #[.int .i64 c, .int .i64 d]] W fun e w' => e = .returned (.int .i64 (hlf c d)) ∧ Below W.heap.size W w') := Lib.hid (fun e2 W => lhf_any W c d (brB_t (hV.trans e2)).2)
  obtain ⟨C, hCr⟩ : ∃ u, crs a b c d = u := ⟨_, rfl⟩
  rw [hCr] at KT HV
  have KS : Hid (∀ W : World, Calls Try.prog 49 #[.int .i64 C] W fun e w' => e = .returned (.int .i64 (sg1 C)) ∧ Below W.heap.size W w') := Lib.hid (fun W => lsg_any W C)
  obtain ⟨Z, hZ⟩ : ∃ u, sg1 C = u := ⟨_, rfl⟩
  rw [hZ] at KS HV
  have b1 := hlf_01 a b
  have b2 := hlf_01 c d
  obtain ⟨h1, e1⟩ : ∃ u, hlf a b = u := ⟨_, rfl⟩
  obtain ⟨h2, e2⟩ : ∃ u, hlf c d = u := ⟨_, rfl⟩
  rw [e1] at K1 HV b1
  rw [e2] at K2 HV b2
  have eD : IntKind.wrap .i64 (h1 - h2) = h1 - h2 := IntWalk.i64_in _ (by omega)
  clear hZ hCr e1 e2 hU hV b1 b2
  go_enter Try.func21, Try.ntmps21
  go_wp2_with fail
  generalize hW : World.alloc _ _ = W
  have bU : Bk W (w.heap.size) #[.int .i64 a, .int .i64 b] 25 := by rw [← hW]; repeat (first | (refine Bk.new' ?_; (simp; done)) | refine Bk.alloc ?_ _)
  have bV : Bk W (w.heap.size + 1) #[.int .i64 c, .int .i64 d] 25 := by rw [← hW]; repeat (first | (refine Bk.new' ?_; (simp; done)) | refine Bk.alloc ?_ _)
  have HB : Hid (Below w.heap.size w W) := Lib.hid (by rw [← hW]; exact (by repeat (first | exact Below.refl _ _ | (refine Below.alloc ?_ (by simp <;> omega) _) | (refine Below.setCell ?_ (by simp <;> omega) _) | (refine Below.drew ?_) | (refine bel_drewN ?_ _))))
  clear hW
  refine (KU.out _).mono ?_
  rintro e w1 ⟨rfl, hb⟩
  replace bU := bU.on hb
  replace bV := bV.on hb
  replace HB := Lib.hid (bel_end HB.out hb)
  clear hb
  cases hU : U
  case false =>
    subst hU
    have bU_0 := bU.cell 0 rfl
    have bU_1 := bU.cell 1 rfl
    have bU_l := bU.lt
    have bV_0 := bV.cell 0 rfl
    have bV_1 := bV.cell 1 rfl
    have bV_l := bV.lt
    go_wp2
    go_ret2
    exact ⟨ret2e (by rw [HV.out]; rfl) (by rw [HC.out]; rfl), HB.out⟩
  case true =>
    subst hU
    have bU_0 := bU.cell 0 rfl
    have bU_1 := bU.cell 1 rfl
    have bU_l := bU.lt
    have bV_0 := bV.cell 0 rfl
    have bV_1 := bV.cell 1 rfl
    have bV_l := bV.lt
    go_wp2_with fail
    refine (KV.out _).mono ?_
    rintro e w2 ⟨rfl, hb⟩
    replace bU := bU.on hb
    replace bV := bV.on hb
    replace HB := Lib.hid (bel_end HB.out hb)
    clear hb
    clear bU_0 bU_1 bU_l bV_0 bV_1 bV_l
    cases hV : V
    case false =>
      subst hV
      have bU_0 := bU.cell 0 rfl
      have bU_1 := bU.cell 1 rfl
      have bU_l := bU.lt
      have bV_0 := bV.cell 0 rfl
      have bV_1 := bV.cell 1 rfl
      have bV_l := bV.lt
      go_wp2
      go_ret2
      exact ⟨ret2e (by rw [HV.out]; rfl) (by rw [HC.out]; rfl), HB.out⟩
    case true =>
      subst hV
      have bU_0 := bU.cell 0 rfl
      have bU_1 := bU.cell 1 rfl
      have bU_l := bU.lt
      have bV_0 := bV.cell 0 rfl
      have bV_1 := bV.cell 1 rfl
      have bV_l := bV.lt
      go_upto_region 3 with fail
      clear bU_0 bU_1 bU_l bV_0 bV_1 bV_l
      go_cut [18] (fun q wx => q = .bool (h1 != h2) ∧ Below w2.heap.size w2 wx)
      case first =>
        have HW : Hid (Below w2.heap.size w2 w2) := Lib.hid (Below.refl _ _)
        obtain ⟨S, hSd⟩ : ∃ S : World → Prop, ∀ w', S w' ↔ (w'.cell? ⟨w.heap.size, 0, none⟩ = some (.int .i64 a) ∧ w'.cell? ⟨w.heap.size, 1, none⟩ = some (.int .i64 b) ∧ w'.cell? ⟨w.heap.size + 1, 0, none⟩ = some (.int .i64 c) ∧ w'.cell? ⟨w.heap.size + 1, 1, none⟩ = some (.int .i64 d)) := ⟨_, fun _ => Iff.rfl⟩
        have HSp : Hid (∀ w' : World, Bk w' (w.heap.size) #[.int .i64 a, .int .i64 b] 25 → Bk w' (w.heap.size + 1) #[.int .i64 c, .int .i64 d] 25 → S w') := Lib.hid (fun w' bU bV => (hSd w').2 ⟨bU.cell 0 rfl, bU.cell 1 rfl, bV.cell 0 rfl, bV.cell 1 rfl⟩)
        have HSd := Lib.hid hSd
        clear hSd
        refine wp_region_held_drew (S := S) (by kernel_rfl) ?_ (fun hH => ?_)
        · exact (HSp.out _ bU bV : S (World.drew w2))
        clear hH
        generalize hX : World.drew w2 = V0
        replace bU : Bk V0 (w.heap.size) #[.int .i64 a, .int .i64 b] 25 := by rw [← hX]; exact bU
        replace bV : Bk V0 (w.heap.size + 1) #[.int .i64 c, .int .i64 d] 25 := by rw [← hX]; exact bV
        have hb : Below w2.heap.size w2 V0 := by rw [← hX]; exact (Below.refl _ _).drew
        clear hX
        replace HW := Lib.hid (bel_end HW.out hb)
        clear hb
        have hS := HSp.out _ bU bV
        refine wpAnyH_take (i := 0) (oi := { dst := some 14, op := Go.Op.load 25 (Go.Operand.tmp 2), type := 25, pos := "l12_bearings.go:51", after := #[], guard := none }) (v := ?_) rfl (by kernel_rfl) (by kernel_rfl) (by kernel_rfl) (fun _ _ _ h => h) (Or.inl ⟨by rfl, ?_⟩) hS ?_
        rotate_left
        · (intro w hSw; have hSw := (HSd.out w).1 hSw; go_split_ands; go_simp) <;> with_reducible rfl
        clear hS
        try simp only [Act.put, List.setIfInBounds_toArray, List.set_cons_zero, List.set_cons_succ]
        have hS := HSp.out _ bU bV
        refine wpAnyH_take (i := 2) (oi := { dst := some 16, op := Go.Op.load 25 (Go.Operand.tmp 3), type := 25, pos := "l12_bearings.go:51", after := #[], guard := none }) (v := ?_) rfl (by kernel_rfl) (by kernel_rfl) (by kernel_rfl) (fun _ _ _ h => h) (Or.inl ⟨by rfl, ?_⟩) hS ?_
        rotate_left
        · (intro w hSw; have hSw := (HSd.out w).1 hSw; go_split_ands; go_simp) <;> with_reducible rfl
        clear hS
        try simp only [Act.put, List.setIfInBounds_toArray, List.set_cons_zero, List.set_cons_succ]
        refine wpAnyH_ready (rs := [1]) (by kernel_rfl) (by simp) ?_
        refine AllReadyH.cons (o := { dst := some 15, op := Go.Op.call { callee := Go.Callee.value (Go.Operand.func 55), args := #[Go.Operand.tmp 14], argTypes := #[25] }, type := 2, pos := "l12_bearings.go:51", after := #[{ on := 0, ground := Go.Ground.data }], guard := none }) rfl (fun Kn hK => ?_) AllReadyH.nil
        first | go_at_call 55 | (go_simp; go_at_call 55)
        (with_reducible refine Calls.mono (K1.out (by trivial)  _) ?_)
        rintro e V1 ⟨rfl, hb⟩
        try dsimp only
        try simp only [Act.put, List.setIfInBounds_toArray, List.set_cons_zero, List.set_cons_succ]
        replace bU := bU.on hb
        replace bV := bV.on hb
        replace HW := Lib.hid (bel_end HW.out hb)
        clear hb
        refine hK.out _ _ (HSp.out _ bU bV) (fun _ => ?_)
        clear hK Kn
        refine wpAnyH_ready (rs := [3]) (by kernel_rfl) (by simp) ?_
        refine AllReadyH.cons (o := { dst := some 17, op := Go.Op.call { callee := Go.Callee.value (Go.Operand.func 55), args := #[Go.Operand.tmp 16], argTypes := #[25] }, type := 2, pos := "l12_bearings.go:51", after := #[{ on := 2, ground := Go.Ground.data }, { on := 1, ground := Go.Ground.chain }], guard := none }) rfl (fun Kn hK => ?_) AllReadyH.nil
        first | go_at_call 55 | (go_simp; go_at_call 55)
        (with_reducible refine Calls.mono (K2.out (by trivial)  _) ?_)
        rintro e V2 ⟨rfl, hb⟩
        try dsimp only
        try simp only [Act.put, List.setIfInBounds_toArray, List.set_cons_zero, List.set_cons_succ]
        replace bU := bU.on hb
        replace bV := bV.on hb
        replace HW := Lib.hid (bel_end HW.out hb)
        clear hb
        refine hK.out _ _ (HSp.out _ bU bV) (fun _ => ?_)
        clear hK Kn
        have hS := HSp.out _ bU bV
        refine wpAnyH_take (i := 4) (oi := { dst := some 18, op := Go.Op.binOp Go.BinOp.neq 2 (Go.Operand.tmp 15) (Go.Operand.tmp 17) 2, type := 4, pos := "l12_bearings.go:51", after := #[{ on := 1, ground := Go.Ground.data }, { on := 3, ground := Go.Ground.data }], guard := none }) (v := ?_) rfl (by kernel_rfl) (by kernel_rfl) (by kernel_rfl) (fun _ _ _ h => h) (Or.inl ⟨by rfl, ?_⟩) hS ?_
        rotate_left
        · (intro w hSw; have hSw := (HSd.out w).1 hSw; go_split_ands; go_simp) <;> with_reducible rfl
        clear hS
        try simp only [Act.put, List.setIfInBounds_toArray, List.set_cons_zero, List.set_cons_succ]
        refine wpAnyH_done (by kernel_rfl) ?_ _
        go_wp2_with fail
        go_meet
        exact ⟨rfl, HW.out⟩
      case rest =>
        obtain ⟨rfl, hb⟩ := hcut
        replace bU := bU.on hb
        replace bV := bV.on hb
        replace HB := Lib.hid (bel_end HB.out hb)
        clear hb
        by_cases hh : h1 = h2
        · have e0 : (h1 != h2) = false := by simpa using hh
          replace HV : Hid (cbV a b c d = Z) := Lib.hid (by rw [HV.out]; exact if_pos hh)
          clear hh
          have bU_0 := bU.cell 0 rfl
          have bU_1 := bU.cell 1 rfl
          have bU_l := bU.lt
          have bV_0 := bV.cell 0 rfl
          have bV_1 := bV.cell 1 rfl
          have bV_l := bV.lt
          go_wp2_with fail
          refine (KT.out (by trivial) (by trivial) _).mono ?_
          rintro e w3 ⟨rfl, hb⟩
          replace bU := bU.on hb
          replace bV := bV.on hb
          replace HB := Lib.hid (bel_end HB.out hb)
          clear hb
          clear bU_0 bU_1 bU_l bV_0 bV_1 bV_l
          have bU_0 := bU.cell 0 rfl
          have bU_1 := bU.cell 1 rfl
          have bU_l := bU.lt
          have bV_0 := bV.cell 0 rfl
          have bV_1 := bV.cell 1 rfl
          have bV_l := bV.lt
          go_wp2_with fail
          refine (KS.out _).mono ?_
          rintro e w4 ⟨rfl, hb⟩
          replace bU := bU.on hb
          replace bV := bV.on hb
          replace HB := Lib.hid (bel_end HB.out hb)
          clear hb
          clear bU_0 bU_1 bU_l bV_0 bV_1 bV_l
          have bU_0 := bU.cell 0 rfl
          have bU_1 := bU.cell 1 rfl
          have bU_l := bU.lt
          have bV_0 := bV.cell 0 rfl
          have bV_1 := bV.cell 1 rfl
          have bV_l := bV.lt
          go_wp2
          go_ret2
          exact ⟨ret2e HV.out (by rw [HC.out]; rfl), HB.out⟩
        · have e0 : (h1 != h2) = true := by simpa using hh
          replace HV : Hid (cbV a b c d = h1 - h2) := Lib.hid (by rw [HV.out]; exact if_neg hh)
          clear hh
          have bU_0 := bU.cell 0 rfl
          have bU_1 := bU.cell 1 rfl
          have bU_l := bU.lt
          have bV_0 := bV.cell 0 rfl
          have bV_1 := bV.cell 1 rfl
          have bV_l := bV.lt
          go_upto_region 4 with fail
          clear bU_0 bU_1 bU_l bV_0 bV_1 bV_l
          obtain ⟨S, hSd⟩ : ∃ S : World → Prop, ∀ w', S w' ↔ (w'.cell? ⟨w.heap.size, 0, none⟩ = some (.int .i64 a) ∧ w'.cell? ⟨w.heap.size, 1, none⟩ = some (.int .i64 b) ∧ w'.cell? ⟨w.heap.size + 1, 0, none⟩ = some (.int .i64 c) ∧ w'.cell? ⟨w.heap.size + 1, 1, none⟩ = some (.int .i64 d)) := ⟨_, fun _ => Iff.rfl⟩
          have HSp : Hid (∀ w' : World, Bk w' (w.heap.size) #[.int .i64 a, .int .i64 b] 25 → Bk w' (w.heap.size + 1) #[.int .i64 c, .int .i64 d] 25 → S w') := Lib.hid (fun w' bU bV => (hSd w').2 ⟨bU.cell 0 rfl, bU.cell 1 rfl, bV.cell 0 rfl, bV.cell 1 rfl⟩)
          have HSd := Lib.hid hSd
          clear hSd
          refine wp_region_held_drew (S := S) (by kernel_rfl) ?_ (fun hH => ?_)
          · exact (HSp.out _ bU bV : S (World.drew wc))
          clear hH
          generalize hX : World.drew wc = V0
          replace bU : Bk V0 (w.heap.size) #[.int .i64 a, .int .i64 b] 25 := by rw [← hX]; exact bU
          replace bV : Bk V0 (w.heap.size + 1) #[.int .i64 c, .int .i64 d] 25 := by rw [← hX]; exact bV
          have hb : Below wc.heap.size wc V0 := by rw [← hX]; exact (Below.refl _ _).drew
          clear hX
          replace HB := Lib.hid (bel_end HB.out hb)
          clear hb
          have hS := HSp.out _ bU bV
          refine wpAnyH_take (i := 0) (oi := { dst := some 19, op := Go.Op.load 25 (Go.Operand.tmp 2), type := 25, pos := "l12_bearings.go:52", after := #[], guard := none }) (v := ?_) rfl (by kernel_rfl) (by kernel_rfl) (by kernel_rfl) (fun _ _ _ h => h) (Or.inl ⟨by rfl, ?_⟩) hS ?_
          rotate_left
          · (intro w hSw; have hSw := (HSd.out w).1 hSw; go_split_ands; go_simp) <;> with_reducible rfl
          clear hS
          try simp only [Act.put, List.setIfInBounds_toArray, List.set_cons_zero, List.set_cons_succ]
          have hS := HSp.out _ bU bV
          refine wpAnyH_take (i := 2) (oi := { dst := some 21, op := Go.Op.load 25 (Go.Operand.tmp 3), type := 25, pos := "l12_bearings.go:52", after := #[], guard := none }) (v := ?_) rfl (by kernel_rfl) (by kernel_rfl) (by kernel_rfl) (fun _ _ _ h => h) (Or.inl ⟨by rfl, ?_⟩) hS ?_
          rotate_left
          · (intro w hSw; have hSw := (HSd.out w).1 hSw; go_split_ands; go_simp) <;> with_reducible rfl
          clear hS
          try simp only [Act.put, List.setIfInBounds_toArray, List.set_cons_zero, List.set_cons_succ]
          refine wpAnyH_ready (rs := [1]) (by kernel_rfl) (by simp) ?_
          refine AllReadyH.cons (o := { dst := some 20, op := Go.Op.call { callee := Go.Callee.value (Go.Operand.func 55), args := #[Go.Operand.tmp 19], argTypes := #[25] }, type := 2, pos := "l12_bearings.go:52", after := #[{ on := 0, ground := Go.Ground.data }], guard := none }) rfl (fun Kn hK => ?_) AllReadyH.nil
          first | go_at_call 55 | (go_simp; go_at_call 55)
          (with_reducible refine Calls.mono (K1.out (by trivial)  _) ?_)
          rintro e V1 ⟨rfl, hb⟩
          try dsimp only
          try simp only [Act.put, List.setIfInBounds_toArray, List.set_cons_zero, List.set_cons_succ]
          replace bU := bU.on hb
          replace bV := bV.on hb
          replace HB := Lib.hid (bel_end HB.out hb)
          clear hb
          refine hK.out _ _ (HSp.out _ bU bV) (fun _ => ?_)
          clear hK Kn
          refine wpAnyH_ready (rs := [3]) (by kernel_rfl) (by simp) ?_
          refine AllReadyH.cons (o := { dst := some 22, op := Go.Op.call { callee := Go.Callee.value (Go.Operand.func 55), args := #[Go.Operand.tmp 21], argTypes := #[25] }, type := 2, pos := "l12_bearings.go:52", after := #[{ on := 2, ground := Go.Ground.data }, { on := 1, ground := Go.Ground.chain }], guard := none }) rfl (fun Kn hK => ?_) AllReadyH.nil
          first | go_at_call 55 | (go_simp; go_at_call 55)
          (with_reducible refine Calls.mono (K2.out (by trivial)  _) ?_)
          rintro e V2 ⟨rfl, hb⟩
          try dsimp only
          try simp only [Act.put, List.setIfInBounds_toArray, List.set_cons_zero, List.set_cons_succ]
          replace bU := bU.on hb
          replace bV := bV.on hb
          replace HB := Lib.hid (bel_end HB.out hb)
          clear hb
          refine hK.out _ _ (HSp.out _ bU bV) (fun _ => ?_)
          clear hK Kn
          have hS := HSp.out _ bU bV
          refine wpAnyH_take (i := 4) (oi := { dst := some 23, op := Go.Op.binOp Go.BinOp.sub 2 (Go.Operand.tmp 20) (Go.Operand.tmp 22) 2, type := 2, pos := "l12_bearings.go:52", after := #[{ on := 1, ground := Go.Ground.data }, { on := 3, ground := Go.Ground.data }], guard := none }) (v := ?_) rfl (by kernel_rfl) (by kernel_rfl) (by kernel_rfl) (fun _ _ _ h => h) (Or.inl ⟨by rfl, ?_⟩) hS ?_
          rotate_left
          · (intro w hSw; have hSw := (HSd.out w).1 hSw; go_split_ands; go_simp) <;> with_reducible rfl
          clear hS
          try simp only [Act.put, List.setIfInBounds_toArray, List.set_cons_zero, List.set_cons_succ]
          have hS := HSp.out _ bU bV
          refine wpAnyH_take (i := 5) (oi := { dst := some 4, op := Go.Op.assign (Go.Operand.tmp 23), type := 2, pos := "l12_bearings.go:52", after := #[{ on := 4, ground := Go.Ground.data }, { on := 3, ground := Go.Ground.chain }, { on := 0, ground := Go.Ground.phase }, { on := 1, ground := Go.Ground.phase }, { on := 2, ground := Go.Ground.phase }, { on := 3, ground := Go.Ground.phase }, { on := 4, ground := Go.Ground.phase }], guard := none }) (v := ?_) rfl (by kernel_rfl) (by kernel_rfl) (by kernel_rfl) (fun _ _ _ h => h) (Or.inl ⟨by rfl, ?_⟩) hS ?_
          rotate_left
          · (intro w hSw; have hSw := (HSd.out w).1 hSw; go_split_ands; go_simp) <;> with_reducible rfl
          clear hS
          try simp only [Act.put, List.setIfInBounds_toArray, List.set_cons_zero, List.set_cons_succ]
          have hS := HSp.out _ bU bV
          refine wpAnyH_take (i := 6) (oi := { dst := some 5, op := Go.Op.assign (Go.Operand.const (Go.Value.int Go.IntKind.i64 0)), type := 2, pos := "l12_bearings.go:52", after := #[{ on := 5, ground := Go.Ground.chain }, { on := 0, ground := Go.Ground.phase }, { on := 1, ground := Go.Ground.phase }, { on := 2, ground := Go.Ground.phase }, { on := 3, ground := Go.Ground.phase }, { on := 4, ground := Go.Ground.phase }, { on := 5, ground := Go.Ground.phase }], guard := none }) (v := ?_) rfl (by kernel_rfl) (by kernel_rfl) (by kernel_rfl) (fun _ _ _ h => h) (Or.inl ⟨by rfl, ?_⟩) hS ?_
          rotate_left
          · (intro w hSw; have hSw := (HSd.out w).1 hSw; go_split_ands; go_simp) <;> with_reducible rfl
          clear hS
          try simp only [Act.put, List.setIfInBounds_toArray, List.set_cons_zero, List.set_cons_succ]
          refine wpAnyH_done (by kernel_rfl) ?_ _
          go_wp2
          go_ret2
          exact ⟨ret2e HV.out (by rw [HC.out]; rfl), HB.out⟩
end Go.Proofs.Ytkjpjhklnaehbaa
