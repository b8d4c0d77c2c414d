/- The walks of the exact laws of IsFan, FanOf and LiesBetween: each returns true and writes nothing that was there. -/
import Derived.Test.YtaaklnabomhleaaFanB
import Derived.Test.YtaaklnabomhleaaLDir
import Derived.Deep.RegionHeld3
import Derived.Deep.DeepCutAuto
import Derived.Deep.RegionWith
import Derived.Outline
import Derived.Handy
namespace Go.Proofs.Ytaaklnabomhleaa
open Go.ChangeShapes Go.WideShapes Go.ChangeAt Go.RowKit Go.Shelf Num
set_option linter.unusedVariables false
set_option linter.unusedSimpArgs false
attribute [local go_sem ↓] Go.wp_at_zero Go.wp_at_succ

theorem lisf (n lo hi : Int) (v0 : (Lit.int .i64 n).wf = true) (v1 : (Lit.int .i64 lo).wf = true) (v2 : (Lit.int .i64 hi).wf = true) (w : World) :
    Calls Try.prog 3 #[.int .i64 n, .int .i64 lo, .int .i64 hi] w fun e w' => e = .returned (.bool true) ∧ Below w.heap.size w w' := by
  obtain ⟨k, hk⟩ : ∃ k, fanB n lo hi = k := ⟨_, rfl⟩
  have K1 := Lib.hid (fun W => by have := sisf_any n lo hi W; rwa [hk] at this)
  have K2 := Lib.hid (fun W => by have := isf_any n lo hi W; rwa [hk] at this)
  clear hk
  go_enter Try.func3, Try.ntmps3
  go_wp2_with fail
  refine (K1.out _).mono ?_
  rintro e w1 ⟨rfl, hb⟩
  have HB := Lib.hid hb
  clear hb
  go_wp2_with fail
  refine (K2.out _).mono ?_
  rintro e w2 ⟨rfl, hb⟩
  replace HB := Lib.hid (bel_end HB.out hb)
  clear hb
  cases k
  all_goals
    go_wp2
    go_ret
    exact ⟨rfl, HB.out⟩

set_option maxRecDepth 100000 in
set_option maxHeartbeats 4000000 in
theorem lfof (n lo hi : Int) (d : Bool) (v0 : (Lit.int .i64 n).wf = true) (v1 : (Lit.int .i64 lo).wf = true) (v2 : (Lit.int .i64 hi).wf = true) (w : World) :
    Calls Try.prog 4 #[.int .i64 n, .int .i64 lo, .int .i64 hi, .bool d] w fun e w' => e = .returned (.bool true) ∧ Below w.heap.size w w' := by
  have l12 := fanL_len n lo hi d
  obtain ⟨LL, hL⟩ : ∃ x, fanL n lo hi d = x := ⟨_, rfl⟩
  obtain ⟨qq, hq⟩ : ∃ x, fanC n lo hi = x := ⟨_, rfl⟩
  rw [hL] at l12
  have S1 : Hid (∀ w : World, Calls Try.prog 19 #[.int .i64 n, .int .i64 lo, .int .i64 hi, .bool d] w fun e w' => ∃ (a' : Option Addr) (c' : Nat), e = .returned (.tuple #[.slice a' LL.length c', .int .i64 qq]) ∧ OwnD w' w.heap.size w'.heap.size a' c' LL ∧ Below w.heap.size w w') := Lib.hid (fun W => by have := sfo_any n lo hi d W; rwa [hL, hq] at this)
  have S2 : Hid (∀ w : World, Calls Try.prog 20 #[.int .i64 n, .int .i64 lo, .int .i64 hi, .bool d] w fun e w' => ∃ (a' : Option Addr) (c' : Nat), e = .returned (.tuple #[.slice a' LL.length c', .int .i64 qq]) ∧ OwnD w' w.heap.size w'.heap.size a' c' LL ∧ Below w.heap.size w w') := Lib.hid (fun W => by have := ifo_any n lo hi d W; rwa [hL, hq] at this)
  clear hL hq v0 v1 v2
  go_enter Try.func4, Try.ntmps4
  go_wp2_with fail
  refine (S1.out _).mono ?_
  rintro e w1 ⟨sa, sc, rfl, hs, hb⟩
  have q1 := hb.size
  have HS := Lib.hid (DrsL.of hs.drs)
  have HB := Lib.hid hb
  clear hs hb
  go_wp2_with fail
  refine (S2.out _).mono ?_
  rintro e w2 ⟨ga, gc, rfl, hs, hb⟩
  have HG := Lib.hid hs
  have q2 := hb.size
  replace HS := Lib.hid (HS.out.on hb)
  replace HB := Lib.hid (bel_end HB.out hb)
  clear hs hb
  go_wp2_with fail
  refine (eqDs_any _ _ _ _ _ _ LL (by omega) (Nat.le_refl _) HG.out.drs HS.out.drs).mono ?_
  rintro e w3 ⟨rfl, hb⟩
  replace HG := Lib.hid (HG.out.on hb)
  replace HS := Lib.hid (HS.out.on hb)
  replace HB := Lib.hid (bel_end HB.out hb)
  have q3 := hb.size
  clear hb
  go_wp2_with fail
  refine (mkD_any _ _ _ _ _ LL 1 HG.out (by omega) (by omega) (by omega)).mono ?_
  rintro e w4 ⟨rfl, ho, hk⟩
  replace HS := Lib.hid (HS.out.kept hk (by omega) (by omega))
  replace HB := Lib.hid (HB.out.trans ((hk.below (by omega)).mono (by omega)))
  replace HG := Lib.hid ho
  have q4 := hk.size
  clear ho hk
  go_wp2_with fail
  refine (hdD_any _ _ _ _ LL.length 1 HG.out.drs (by omega) (by omega) (by omega)).mono ?_
  rintro e w_ ⟨rfl, rfl⟩
  go_wp2_with fail
  refine (S2.out _).mono ?_
  rintro e w5 ⟨ha, hc, rfl, hs, hb⟩
  have HH := Lib.hid hs
  replace HS := Lib.hid (HS.out.on hb)
  replace HG := Lib.hid (HG.out.on hb)
  replace HB := Lib.hid (bel_end HB.out hb)
  clear hs hb
  go_wp2_with fail
  refine (eqDs_any _ _ _ _ _ _ LL (by omega) (Nat.le_refl _) HH.out.drs HS.out.drs).mono ?_
  rintro e w6 ⟨rfl, hb⟩
  replace HG := Lib.hid (HG.out.on hb)
  replace HB := Lib.hid (bel_end HB.out hb)
  clear hb
  go_wp2_with fail
  refine (hdD_any _ _ _ _ LL.length 1 HG.out.drs (by omega) (by omega) (by omega)).mono ?_
  rintro e w_ ⟨rfl, rfl⟩
  go_wp2
  go_ret
  exact ⟨rfl, HB.out⟩

set_option maxRecDepth 100000 in
set_option maxHeartbeats 8000000 in
theorem llib (c s h x y z u v t : Int) (w : World) :
    Calls Try.prog 5 #[.agg #[.int .i64 c, .int .i64 s, .int .i64 h], .agg #[.int .i64 x, .int .i64 y, .int .i64 z], .agg #[.int .i64 u, .int .i64 v, .int .i64 t]] w fun e w' => e = .returned (.bool true) ∧ Below w.heap.size w w' := by
  obtain ⟨q, hq⟩ : ∃ q, lbB c s h x y z u v t = q := ⟨_, rfl⟩
  have K1 : Hid (∀ W : World, Calls Try.prog 24 #[.agg #[.int .i64 c, .int .i64 s, .int .i64 h], .agg #[.int .i64 x, .int .i64 y, .int .i64 z], .agg #[.int .i64 u, .int .i64 v, .int .i64 t]] W fun e w' => e = .returned (.bool q) ∧ Below W.heap.size W w') := Lib.hid (fun W => by have := slb_any c s h x y z u v t W; rwa [hq] at this)
  have K2 : Hid (∀ W : World, Calls Try.prog 26 #[.agg #[.int .i64 c, .int .i64 s, .int .i64 h], .agg #[.int .i64 x, .int .i64 y, .int .i64 z], .agg #[.int .i64 u, .int .i64 v, .int .i64 t]] W fun e w' => e = .returned (.bool q) ∧ Below W.heap.size W w') := Lib.hid (fun W => by have := ilb_any c s h x y z u v t W; rwa [hq] at this)
  clear hq
  go_enter Try.func5, Try.ntmps5
  go_upto_region 1 with fail
  generalize hW : World.alloc _ _ = W
  have bX : Bk W (w.heap.size) #[.int .i64 c, .int .i64 s, .int .i64 h] 30 := by rw [← hW]; repeat (first | (refine Bk.new' ?_; (simp; done)) | refine Bk.alloc ?_ _)
  have bY : Bk W (w.heap.size + 1) #[.int .i64 x, .int .i64 y, .int .i64 z] 30 := by rw [← hW]; repeat (first | (refine Bk.new' ?_; (simp; done)) | refine Bk.alloc ?_ _)
  have bZ : Bk W (w.heap.size + 1 + 1) #[.int .i64 u, .int .i64 v, .int .i64 t] 30 := by rw [← hW]; repeat (first | (refine Bk.new' ?_; (simp; done)) | refine Bk.alloc ?_ _)
  have HB : Hid (Below w.heap.size w W) := Lib.hid (by rw [← hW]; exact (by repeat (first | exact Below.refl _ _ | (refine Below.alloc ?_ (by simp <;> omega) _) | (refine Below.setCell ?_ (by simp <;> omega) _) | (refine Below.drew ?_) | (refine bel_drewN ?_ _))))
  clear hW
  go_cut [7] (fun p wx => p = .bool q ∧ Below W.heap.size W wx)
  case first =>
    have HW : Hid (Below W.heap.size W W) := Lib.hid (Below.refl _ _)
    obtain ⟨S, hSd⟩ : ∃ S : World → Prop, ∀ w', S w' ↔ (w'.cell? ⟨w.heap.size, 0, none⟩ = some (.int .i64 c) ∧ w'.cell? ⟨w.heap.size, 1, none⟩ = some (.int .i64 s) ∧ w'.cell? ⟨w.heap.size, 2, none⟩ = some (.int .i64 h) ∧ w'.cell? ⟨w.heap.size + 1, 0, none⟩ = some (.int .i64 x) ∧ w'.cell? ⟨w.heap.size + 1, 1, none⟩ = some (.int .i64 y) ∧ w'.cell? ⟨w.heap.size + 1, 2, none⟩ = some (.int .i64 z) ∧ w'.cell? ⟨w.heap.size + 1 + 1, 0, none⟩ = some (.int .i64 u) ∧ w'.cell? ⟨w.heap.size + 1 + 1, 1, none⟩ = some (.int .i64 v) ∧ w'.cell? ⟨w.heap.size + 1 + 1, 2, none⟩ = some (.int .i64 t)) := ⟨_, fun _ => Iff.rfl⟩
    have HSp : Hid (∀ w' : World, Bk w' (w.heap.size) #[.int .i64 c, .int .i64 s, .int .i64 h] 30 → Bk w' (w.heap.size + 1) #[.int .i64 x, .int .i64 y, .int .i64 z] 30 → Bk w' (w.heap.size + 1 + 1) #[.int .i64 u, .int .i64 v, .int .i64 t] 30 → S w') := Lib.hid (fun w' bX bY bZ => (hSd w').2 ⟨bX.cell 0 rfl, bX.cell 1 rfl, bX.cell 2 rfl, bY.cell 0 rfl, bY.cell 1 rfl, bY.cell 2 rfl, bZ.cell 0 rfl, bZ.cell 1 rfl, bZ.cell 2 rfl⟩)
    have HSd := Lib.hid hSd
    clear hSd
    refine wp_region_held_drew (S := S) (by kernel_rfl) ?_ (fun hH => ?_)
    · exact (HSp.out _ bX bY bZ : S (World.drew W))
    clear hH
    generalize hX : World.drew W = V0
    replace bX : Bk V0 (w.heap.size) #[.int .i64 c, .int .i64 s, .int .i64 h] 30 := by rw [← hX]; exact bX
    replace bY : Bk V0 (w.heap.size + 1) #[.int .i64 x, .int .i64 y, .int .i64 z] 30 := by rw [← hX]; exact bY
    replace bZ : Bk V0 (w.heap.size + 1 + 1) #[.int .i64 u, .int .i64 v, .int .i64 t] 30 := by rw [← hX]; exact bZ
    have hb : Below W.heap.size W V0 := by rw [← hX]; exact (Below.refl _ _).drew
    clear hX
    replace HW := Lib.hid (bel_end HW.out hb)
    clear hb
    have hS := HSp.out _ bX bY bZ
    refine wpAnyH_take (i := 0) (oi := { dst := some 9, op := Go.Op.load 30 (Go.Operand.tmp 3), type := 30, pos := "exact.go:3030", after := #[], guard := none }) (v := ?_) rfl (by kernel_rfl) (by kernel_rfl) (by kernel_rfl) (fun _ _ _ h => h) (Or.inl ⟨by rfl, ?_⟩) hS ?_
    rotate_left
    · (intro w hSw; have hSw := (HSd.out w).1 hSw; go_split_ands; go_simp) <;> with_reducible rfl
    clear hS
    try simp only [Act.put, List.setIfInBounds_toArray, List.set_cons_zero, List.set_cons_succ]
    have hS := HSp.out _ bX bY bZ
    refine wpAnyH_take (i := 2) (oi := { dst := some 11, op := Go.Op.load 30 (Go.Operand.tmp 4), type := 30, pos := "exact.go:3030", after := #[], guard := none }) (v := ?_) rfl (by kernel_rfl) (by kernel_rfl) (by kernel_rfl) (fun _ _ _ h => h) (Or.inl ⟨by rfl, ?_⟩) hS ?_
    rotate_left
    · (intro w hSw; have hSw := (HSd.out w).1 hSw; go_split_ands; go_simp) <;> with_reducible rfl
    clear hS
    try simp only [Act.put, List.setIfInBounds_toArray, List.set_cons_zero, List.set_cons_succ]
    have hS := HSp.out _ bX bY bZ
    refine wpAnyH_take (i := 4) (oi := { dst := some 13, op := Go.Op.load 30 (Go.Operand.tmp 5), type := 30, pos := "exact.go:3030", after := #[], guard := none }) (v := ?_) rfl (by kernel_rfl) (by kernel_rfl) (by kernel_rfl) (fun _ _ _ h => h) (Or.inl ⟨by rfl, ?_⟩) hS ?_
    rotate_left
    · (intro w hSw; have hSw := (HSd.out w).1 hSw; go_split_ands; go_simp) <;> with_reducible rfl
    clear hS
    try simp only [Act.put, List.setIfInBounds_toArray, List.set_cons_zero, List.set_cons_succ]
    refine wpAnyH_ready (rs := [1]) (by kernel_rfl) (by simp) ?_
    refine AllReadyH.cons (o := { dst := some 10, op := Go.Op.call { callee := Go.Callee.value (Go.Operand.func 25), args := #[Go.Operand.tmp 9], argTypes := #[30] }, type := 32, pos := "exact.go:3030", after := #[{ on := 0, ground := Go.Ground.data }], guard := none }) rfl (fun Kn hK => ?_) AllReadyH.nil
    first | go_at_call 25 | (go_simp; go_at_call 25)
    refine (tod_any _ _ _ _).mono ?_
    rintro e V1 ⟨rfl, hb⟩
    try dsimp only
    try simp only [Act.put, List.setIfInBounds_toArray, List.set_cons_zero, List.set_cons_succ]
    replace bX := bX.on hb
    replace bY := bY.on hb
    replace bZ := bZ.on hb
    replace HW := Lib.hid (bel_end HW.out hb)
    clear hb
    refine hK.out _ _ (HSp.out _ bX bY bZ) (fun _ => ?_)
    clear hK Kn
    refine wpAnyH_ready (rs := [3]) (by kernel_rfl) (by simp) ?_
    refine AllReadyH.cons (o := { dst := some 12, op := Go.Op.call { callee := Go.Callee.value (Go.Operand.func 25), args := #[Go.Operand.tmp 11], argTypes := #[30] }, type := 32, pos := "exact.go:3030", after := #[{ on := 2, ground := Go.Ground.data }, { on := 1, ground := Go.Ground.chain }], guard := none }) rfl (fun Kn hK => ?_) AllReadyH.nil
    first | go_at_call 25 | (go_simp; go_at_call 25)
    refine (tod_any _ _ _ _).mono ?_
    rintro e V2 ⟨rfl, hb⟩
    try dsimp only
    try simp only [Act.put, List.setIfInBounds_toArray, List.set_cons_zero, List.set_cons_succ]
    replace bX := bX.on hb
    replace bY := bY.on hb
    replace bZ := bZ.on hb
    replace HW := Lib.hid (bel_end HW.out hb)
    clear hb
    refine hK.out _ _ (HSp.out _ bX bY bZ) (fun _ => ?_)
    clear hK Kn
    refine wpAnyH_ready (rs := [5]) (by kernel_rfl) (by simp) ?_
    refine AllReadyH.cons (o := { dst := some 14, op := Go.Op.call { callee := Go.Callee.value (Go.Operand.func 25), args := #[Go.Operand.tmp 13], argTypes := #[30] }, type := 32, pos := "exact.go:3030", after := #[{ on := 4, ground := Go.Ground.data }, { on := 3, ground := Go.Ground.chain }], guard := none }) rfl (fun Kn hK => ?_) AllReadyH.nil
    first | go_at_call 25 | (go_simp; go_at_call 25)
    refine (tod_any _ _ _ _).mono ?_
    rintro e V3 ⟨rfl, hb⟩
    try dsimp only
    try simp only [Act.put, List.setIfInBounds_toArray, List.set_cons_zero, List.set_cons_succ]
    replace bX := bX.on hb
    replace bY := bY.on hb
    replace bZ := bZ.on hb
    replace HW := Lib.hid (bel_end HW.out hb)
    clear hb
    refine hK.out _ _ (HSp.out _ bX bY bZ) (fun _ => ?_)
    clear hK Kn
    refine wpAnyH_ready (rs := [6]) (by kernel_rfl) (by simp) ?_
    refine AllReadyH.cons (o := { dst := some 15, op := Go.Op.call { callee := Go.Callee.value (Go.Operand.func 24), args := #[Go.Operand.tmp 10, Go.Operand.tmp 12, Go.Operand.tmp 14], argTypes := #[32, 32, 32] }, type := 4, pos := "exact.go:3030", after := #[{ on := 1, ground := Go.Ground.data }, { on := 3, ground := Go.Ground.data }, { on := 5, ground := Go.Ground.data }, { on := 5, ground := Go.Ground.chain }], guard := none }) rfl (fun Kn hK => ?_) AllReadyH.nil
    first | go_at_call 24 | (go_simp; go_at_call 24)
    (with_reducible refine Calls.mono (K1.out _) ?_)
    rintro e V4 ⟨rfl, hb⟩
    try dsimp only
    try simp only [Act.put, List.setIfInBounds_toArray, List.set_cons_zero, List.set_cons_succ]
    replace bX := bX.on hb
    replace bY := bY.on hb
    replace bZ := bZ.on hb
    replace HW := Lib.hid (bel_end HW.out hb)
    clear hb
    refine hK.out _ _ (HSp.out _ bX bY bZ) (fun _ => ?_)
    clear hK Kn
    have hS := HSp.out _ bX bY bZ
    refine wpAnyH_take (i := 7) (oi := { dst := some 7, op := Go.Op.assign (Go.Operand.tmp 15), type := 4, pos := "exact.go:3030", after := #[{ on := 6, ground := Go.Ground.data }, { on := 6, ground := Go.Ground.chain }, { on := 0, ground := Go.Ground.phase }, { on := 1, ground := Go.Ground.phase }, { on := 2, ground := Go.Ground.phase }, { on := 3, ground := Go.Ground.phase }, { on := 4, ground := Go.Ground.phase }, { on := 5, ground := Go.Ground.phase }, { on := 6, ground := Go.Ground.phase }], guard := none }) (v := ?_) rfl (by kernel_rfl) (by kernel_rfl) (by kernel_rfl) (fun _ _ _ h => h) (Or.inl ⟨by rfl, ?_⟩) hS ?_
    rotate_left
    · (intro w hSw; have hSw := (HSd.out w).1 hSw; go_split_ands; go_simp) <;> with_reducible rfl
    clear hS
    try simp only [Act.put, List.setIfInBounds_toArray, List.set_cons_zero, List.set_cons_succ]
    refine wpAnyH_done (by kernel_rfl) ?_ _
    go_wp2_with fail
    go_meet
    exact ⟨rfl, HW.out⟩
  case rest =>
    obtain ⟨rfl, hb⟩ := hcut
    replace bX := bX.on hb
    replace bY := bY.on hb
    replace bZ := bZ.on hb
    replace HB := Lib.hid (bel_end HB.out hb)
    clear hb
    go_upto_region 2 with fail
    obtain ⟨W2, hWc⟩ : ∃ X, X = wc := ⟨_, rfl⟩
    rw [← hWc] at bX bY bZ HB ⊢
    clear hWc
    go_cut [8] (fun p wx => p = .bool q ∧ Below W2.heap.size W2 wx)
    case first =>
      have HW : Hid (Below W2.heap.size W2 W2) := Lib.hid (Below.refl _ _)
      obtain ⟨S, hSd⟩ : ∃ S : World → Prop, ∀ w', S w' ↔ (w'.cell? ⟨w.heap.size, 0, none⟩ = some (.int .i64 c) ∧ w'.cell? ⟨w.heap.size, 1, none⟩ = some (.int .i64 s) ∧ w'.cell? ⟨w.heap.size, 2, none⟩ = some (.int .i64 h) ∧ w'.cell? ⟨w.heap.size + 1, 0, none⟩ = some (.int .i64 x) ∧ w'.cell? ⟨w.heap.size + 1, 1, none⟩ = some (.int .i64 y) ∧ w'.cell? ⟨w.heap.size + 1, 2, none⟩ = some (.int .i64 z) ∧ w'.cell? ⟨w.heap.size + 1 + 1, 0, none⟩ = some (.int .i64 u) ∧ w'.cell? ⟨w.heap.size + 1 + 1, 1, none⟩ = some (.int .i64 v) ∧ w'.cell? ⟨w.heap.size + 1 + 1, 2, none⟩ = some (.int .i64 t)) := ⟨_, fun _ => Iff.rfl⟩
      have HSp : Hid (∀ w' : World, Bk w' (w.heap.size) #[.int .i64 c, .int .i64 s, .int .i64 h] 30 → Bk w' (w.heap.size + 1) #[.int .i64 x, .int .i64 y, .int .i64 z] 30 → Bk w' (w.heap.size + 1 + 1) #[.int .i64 u, .int .i64 v, .int .i64 t] 30 → S w') := Lib.hid (fun w' bX bY bZ => (hSd w').2 ⟨bX.cell 0 rfl, bX.cell 1 rfl, bX.cell 2 rfl, bY.cell 0 rfl, bY.cell 1 rfl, bY.cell 2 rfl, bZ.cell 0 rfl, bZ.cell 1 rfl, bZ.cell 2 rfl⟩)
      have HSd := Lib.hid hSd
      clear hSd
      refine wp_region_held_drew (S := S) (by kernel_rfl) ?_ (fun hH => ?_)
      · exact (HSp.out _ bX bY bZ : S (World.drew W2))
      clear hH
      generalize hX : World.drew W2 = V0
      replace bX : Bk V0 (w.heap.size) #[.int .i64 c, .int .i64 s, .int .i64 h] 30 := by rw [← hX]; exact bX
      replace bY : Bk V0 (w.heap.size + 1) #[.int .i64 x, .int .i64 y, .int .i64 z] 30 := by rw [← hX]; exact bY
      replace bZ : Bk V0 (w.heap.size + 1 + 1) #[.int .i64 u, .int .i64 v, .int .i64 t] 30 := by rw [← hX]; exact bZ
      have hb : Below W2.heap.size W2 V0 := by rw [← hX]; exact (Below.refl _ _).drew
      clear hX
      replace HW := Lib.hid (bel_end HW.out hb)
      clear hb
      have hS := HSp.out _ bX bY bZ
      refine wpAnyH_take (i := 0) (oi := { dst := some 16, op := Go.Op.load 30 (Go.Operand.tmp 3), type := 30, pos := "exact.go:3031", after := #[], guard := none }) (v := ?_) rfl (by kernel_rfl) (by kernel_rfl) (by kernel_rfl) (fun _ _ _ h => h) (Or.inl ⟨by rfl, ?_⟩) hS ?_
      rotate_left
      · (intro w hSw; have hSw := (HSd.out w).1 hSw; go_split_ands; go_simp) <;> with_reducible rfl
      clear hS
      try simp only [Act.put, List.setIfInBounds_toArray, List.set_cons_zero, List.set_cons_succ]
      have hS := HSp.out _ bX bY bZ
      refine wpAnyH_take (i := 2) (oi := { dst := some 18, op := Go.Op.load 30 (Go.Operand.tmp 4), type := 30, pos := "exact.go:3031", after := #[], guard := none }) (v := ?_) rfl (by kernel_rfl) (by kernel_rfl) (by kernel_rfl) (fun _ _ _ h => h) (Or.inl ⟨by rfl, ?_⟩) hS ?_
      rotate_left
      · (intro w hSw; have hSw := (HSd.out w).1 hSw; go_split_ands; go_simp) <;> with_reducible rfl
      clear hS
      try simp only [Act.put, List.setIfInBounds_toArray, List.set_cons_zero, List.set_cons_succ]
      have hS := HSp.out _ bX bY bZ
      refine wpAnyH_take (i := 4) (oi := { dst := some 20, op := Go.Op.load 30 (Go.Operand.tmp 5), type := 30, pos := "exact.go:3031", after := #[], guard := none }) (v := ?_) rfl (by kernel_rfl) (by kernel_rfl) (by kernel_rfl) (fun _ _ _ h => h) (Or.inl ⟨by rfl, ?_⟩) hS ?_
      rotate_left
      · (intro w hSw; have hSw := (HSd.out w).1 hSw; go_split_ands; go_simp) <;> with_reducible rfl
      clear hS
      try simp only [Act.put, List.setIfInBounds_toArray, List.set_cons_zero, List.set_cons_succ]
      refine wpAnyH_ready (rs := [1]) (by kernel_rfl) (by simp) ?_
      refine AllReadyH.cons (o := { dst := some 17, op := Go.Op.call { callee := Go.Callee.value (Go.Operand.func 25), args := #[Go.Operand.tmp 16], argTypes := #[30] }, type := 32, pos := "exact.go:3031", after := #[{ on := 0, ground := Go.Ground.data }], guard := none }) rfl (fun Kn hK => ?_) AllReadyH.nil
      first | go_at_call 25 | (go_simp; go_at_call 25)
      refine (tod_any _ _ _ _).mono ?_
      rintro e V1 ⟨rfl, hb⟩
      try dsimp only
      try simp only [Act.put, List.setIfInBounds_toArray, List.set_cons_zero, List.set_cons_succ]
      replace bX := bX.on hb
      replace bY := bY.on hb
      replace bZ := bZ.on hb
      replace HW := Lib.hid (bel_end HW.out hb)
      clear hb
      refine hK.out _ _ (HSp.out _ bX bY bZ) (fun _ => ?_)
      clear hK Kn
      refine wpAnyH_ready (rs := [3]) (by kernel_rfl) (by simp) ?_
      refine AllReadyH.cons (o := { dst := some 19, op := Go.Op.call { callee := Go.Callee.value (Go.Operand.func 25), args := #[Go.Operand.tmp 18], argTypes := #[30] }, type := 32, pos := "exact.go:3031", after := #[{ on := 2, ground := Go.Ground.data }, { on := 1, ground := Go.Ground.chain }], guard := none }) rfl (fun Kn hK => ?_) AllReadyH.nil
      first | go_at_call 25 | (go_simp; go_at_call 25)
      refine (tod_any _ _ _ _).mono ?_
      rintro e V2 ⟨rfl, hb⟩
      try dsimp only
      try simp only [Act.put, List.setIfInBounds_toArray, List.set_cons_zero, List.set_cons_succ]
      replace bX := bX.on hb
      replace bY := bY.on hb
      replace bZ := bZ.on hb
      replace HW := Lib.hid (bel_end HW.out hb)
      clear hb
      refine hK.out _ _ (HSp.out _ bX bY bZ) (fun _ => ?_)
      clear hK Kn
      refine wpAnyH_ready (rs := [5]) (by kernel_rfl) (by simp) ?_
      refine AllReadyH.cons (o := { dst := some 21, op := Go.Op.call { callee := Go.Callee.value (Go.Operand.func 25), args := #[Go.Operand.tmp 20], argTypes := #[30] }, type := 32, pos := "exact.go:3031", after := #[{ on := 4, ground := Go.Ground.data }, { on := 3, ground := Go.Ground.chain }], guard := none }) rfl (fun Kn hK => ?_) AllReadyH.nil
      first | go_at_call 25 | (go_simp; go_at_call 25)
      refine (tod_any _ _ _ _).mono ?_
      rintro e V3 ⟨rfl, hb⟩
      try dsimp only
      try simp only [Act.put, List.setIfInBounds_toArray, List.set_cons_zero, List.set_cons_succ]
      replace bX := bX.on hb
      replace bY := bY.on hb
      replace bZ := bZ.on hb
      replace HW := Lib.hid (bel_end HW.out hb)
      clear hb
      refine hK.out _ _ (HSp.out _ bX bY bZ) (fun _ => ?_)
      clear hK Kn
      refine wpAnyH_ready (rs := [6]) (by kernel_rfl) (by simp) ?_
      refine AllReadyH.cons (o := { dst := some 22, op := Go.Op.call { callee := Go.Callee.value (Go.Operand.func 26), args := #[Go.Operand.tmp 17, Go.Operand.tmp 19, Go.Operand.tmp 21], argTypes := #[32, 32, 32] }, type := 4, pos := "exact.go:3031", after := #[{ on := 1, ground := Go.Ground.data }, { on := 3, ground := Go.Ground.data }, { on := 5, ground := Go.Ground.data }, { on := 5, ground := Go.Ground.chain }], guard := none }) rfl (fun Kn hK => ?_) AllReadyH.nil
      first | go_at_call 26 | (go_simp; go_at_call 26)
      (with_reducible refine Calls.mono (K2.out _) ?_)
      rintro e V4 ⟨rfl, hb⟩
      try dsimp only
      try simp only [Act.put, List.setIfInBounds_toArray, List.set_cons_zero, List.set_cons_succ]
      replace bX := bX.on hb
      replace bY := bY.on hb
      replace bZ := bZ.on hb
      replace HW := Lib.hid (bel_end HW.out hb)
      clear hb
      refine hK.out _ _ (HSp.out _ bX bY bZ) (fun _ => ?_)
      clear hK Kn
      have hS := HSp.out _ bX bY bZ
      refine wpAnyH_take (i := 7) (oi := { dst := some 8, op := Go.Op.assign (Go.Operand.tmp 22), type := 4, pos := "exact.go:3031", after := #[{ on := 6, ground := Go.Ground.data }, { on := 6, ground := Go.Ground.chain }, { on := 0, ground := Go.Ground.phase }, { on := 1, ground := Go.Ground.phase }, { on := 2, ground := Go.Ground.phase }, { on := 3, ground := Go.Ground.phase }, { on := 4, ground := Go.Ground.phase }, { on := 5, ground := Go.Ground.phase }, { on := 6, ground := Go.Ground.phase }], guard := none }) (v := ?_) rfl (by kernel_rfl) (by kernel_rfl) (by kernel_rfl) (fun _ _ _ h => h) (Or.inl ⟨by rfl, ?_⟩) hS ?_
      rotate_left
      · (intro w hSw; have hSw := (HSd.out w).1 hSw; go_split_ands; go_simp) <;> with_reducible rfl
      clear hS
      try simp only [Act.put, List.setIfInBounds_toArray, List.set_cons_zero, List.set_cons_succ]
      refine wpAnyH_done (by kernel_rfl) ?_ _
      go_wp2_with fail
      go_meet
      exact ⟨rfl, HW.out⟩
    case rest =>
      obtain ⟨rfl, hb⟩ := hcut
      replace bX := bX.on hb
      replace bY := bY.on hb
      replace bZ := bZ.on hb
      replace HB := Lib.hid (bel_end HB.out hb)
      clear hb
      clear bX bY bZ
      cases q
      all_goals
        go_wp2
        go_ret
        exact ⟨rfl, HB.out⟩
end Go.Proofs.Ytaaklnabomhleaa
