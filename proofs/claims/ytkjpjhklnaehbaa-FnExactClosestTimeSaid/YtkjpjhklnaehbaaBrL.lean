/- The walks of the exact laws of IsBearing, SideOf, CompareBearings: each returns true and writes nothing that was there. -/
import Derived.Test.YtkjpjhklnaehbaaBrC
import Derived.Deep.RegionHeld3
import Derived.Deep.DeepCutAuto
import Derived.Deep.DrawnRows
import Derived.Deep.RegionWith
namespace Go.Proofs.Ytkjpjhklnaehbaa
open Go.ChangeShapes Go.WideShapes Go.ChangeAt Go.RowKit Go.Shelf Num
set_option linter.unusedVariables false
set_option linter.unusedSimpArgs false

set_option maxRecDepth 100000 in
set_option maxHeartbeats 2000000 in
theorem tpt_any (w : World) (x y : Int) :
    Calls Try.prog 17 #[.agg #[.int .i64 x, .int .i64 y]] w fun e w' => e = .returned (.agg #[.int .i64 x, .int .i64 y]) ∧ Below w.heap.size w w' := by
  go_enter Try.func17, Try.ntmps17
  go_wp2
  exact bodyPost_ret (v := .agg #[.int .i64 x, .int .i64 y]) (by simp [results, Try.results17, go_sem]) rfl ⟨rfl, (by repeat (first | exact Below.refl _ _ | (refine Below.alloc ?_ (by simp <;> omega) _) | (refine Below.setCell ?_ (by simp <;> omega) _) | (refine Below.drew ?_) | (refine bel_drewN ?_ _)))⟩

set_option maxRecDepth 100000 in
set_option maxHeartbeats 8000000 in
theorem libg (x y : Int) (w : World) :
    Calls Try.prog 3 #[.agg #[.int .i64 x, .int .i64 y]] w fun e w' => e = .returned (.bool true) ∧ Below w.heap.size w w' := by
  obtain ⟨Z, hZ⟩ : ∃ u, brB x y = u := ⟨_, rfl⟩
  have S1 : Hid (∀ W : World, Calls Try.prog 16 #[.agg #[.int .i64 x, .int .i64 y]] W fun e w' => e = .returned (.bool Z) ∧ Below W.heap.size W w') := Lib.hid (fun W => by have := sbg_any W x y; rwa [hZ] at this)
  have S2 : Hid (∀ W : World, Calls Try.prog 18 #[.agg #[.int .i64 x, .int .i64 y]] W fun e w' => e = .returned (.bool Z) ∧ Below W.heap.size W w') := Lib.hid (fun W => by have := ibg_any W x y; rwa [hZ] at this)
  clear hZ
  go_enter Try.func3, Try.ntmps3
  go_wp2_with fail
  generalize hW : World.alloc _ _ = W
  have bX : Bk W (w.heap.size) #[.int .i64 x, .int .i64 y] 23 := by rw [← hW]; repeat (first | (refine Bk.new' ?_; (simp; done)) | refine Bk.alloc ?_ _)
  have HB : Hid (Below w.heap.size w W) := Lib.hid (by rw [← hW]; exact (by repeat (first | exact Below.refl _ _ | (refine Below.alloc ?_ (by simp <;> omega) _) | (refine Below.setCell ?_ (by simp <;> omega) _) | (refine Below.drew ?_) | (refine bel_drewN ?_ _))))
  clear hW
  refine (tpt_any _ _ _).mono ?_
  rintro e w1 ⟨rfl, hb⟩
  replace bX := bX.on hb
  replace HB := Lib.hid (bel_end HB.out hb)
  clear hb
  have bX_0 := bX.cell 0 rfl
  have bX_1 := bX.cell 1 rfl
  have bX_l := bX.lt
  go_wp2_with fail
  refine (S1.out _).mono ?_
  rintro e w2 ⟨rfl, hb⟩
  replace bX := bX.on hb
  replace HB := Lib.hid (bel_end HB.out hb)
  clear hb
  clear bX_0 bX_1 bX_l
  have bX_0 := bX.cell 0 rfl
  have bX_1 := bX.cell 1 rfl
  have bX_l := bX.lt
  go_wp2_with fail
  refine (tpt_any _ _ _).mono ?_
  rintro e w3 ⟨rfl, hb⟩
  replace bX := bX.on hb
  replace HB := Lib.hid (bel_end HB.out hb)
  clear hb
  clear bX_0 bX_1 bX_l
  have bX_0 := bX.cell 0 rfl
  have bX_1 := bX.cell 1 rfl
  have bX_l := bX.lt
  go_wp2_with fail
  refine (S2.out _).mono ?_
  rintro e w4 ⟨rfl, hb⟩
  replace bX := bX.on hb
  replace HB := Lib.hid (bel_end HB.out hb)
  clear hb
  clear bX_0 bX_1 bX_l
  have bX_0 := bX.cell 0 rfl
  have bX_1 := bX.cell 1 rfl
  have bX_l := bX.lt
  go_wp2_with fail
  clear bX_0 bX_1 bX_l
  go_ret
  exact ⟨rfl, HB.out⟩

set_option maxRecDepth 100000 in
set_option maxHeartbeats 8000000 in
theorem lsdo (px py ux uy qx qy : Int) (w : World) :
    Calls Try.prog 4 #[.agg #[.int .i64 px, .int .i64 py], .agg #[.int .i64 ux, .int .i64 uy], .agg #[.int .i64 qx, .int .i64 qy]] w fun e w' => e = .returned (.bool true) ∧ Below w.heap.size w w' := by
  obtain ⟨Z, hZ⟩ : ∃ u, sdV px py ux uy qx qy = u := ⟨_, rfl⟩
  obtain ⟨C, hC⟩ : ∃ u, sdC px py ux uy qx qy = u := ⟨_, rfl⟩
  have S1 : Hid (∀ W : World, Calls Try.prog 19 #[.agg #[.int .i64 px, .int .i64 py], .agg #[.int .i64 ux, .int .i64 uy], .agg #[.int .i64 qx, .int .i64 qy]] W fun e w' => e = .returned (.tuple #[.int .i64 Z, .int .i64 C]) ∧ Below W.heap.size W w') := Lib.hid (fun W => by have := ssd_any W px py ux uy qx qy; rwa [hZ, hC] at this)
  have S2 : Hid (∀ W : World, Calls Try.prog 20 #[.agg #[.int .i64 px, .int .i64 py], .agg #[.int .i64 ux, .int .i64 uy], .agg #[.int .i64 qx, .int .i64 qy]] W fun e w' => e = .returned (.tuple #[.int .i64 Z, .int .i64 C]) ∧ Below W.heap.size W w') := Lib.hid (fun W => by have := isd_any W px py ux uy qx qy; rwa [hZ, hC] at this)
  clear hZ hC
  go_enter Try.func4, Try.ntmps4
  go_upto_region 1 with fail
  generalize hW : World.alloc _ _ = W
  have bP : Bk W (w.heap.size) #[.int .i64 px, .int .i64 py] 23 := by rw [← hW]; repeat (first | (refine Bk.new' ?_; (simp; done)) | refine Bk.alloc ?_ _)
  have bU : Bk W (w.heap.size + 1) #[.int .i64 ux, .int .i64 uy] 23 := by rw [← hW]; repeat (first | (refine Bk.new' ?_; (simp; done)) | refine Bk.alloc ?_ _)
  have bQ : Bk W (w.heap.size + 1 + 1) #[.int .i64 qx, .int .i64 qy] 23 := by rw [← hW]; repeat (first | (refine Bk.new' ?_; (simp; done)) | refine Bk.alloc ?_ _)
  have HB : Hid (Below w.heap.size w W) := Lib.hid (by rw [← hW]; exact (by repeat (first | exact Below.refl _ _ | (refine Below.alloc ?_ (by simp <;> omega) _) | (refine Below.setCell ?_ (by simp <;> omega) _) | (refine Below.drew ?_) | (refine bel_drewN ?_ _))))
  clear hW
  have bP_0 := bP.cell 0 rfl
  have bP_1 := bP.cell 1 rfl
  have bP_l := bP.lt
  have bU_0 := bU.cell 0 rfl
  have bU_1 := bU.cell 1 rfl
  have bU_l := bU.lt
  have bQ_0 := bQ.cell 0 rfl
  have bQ_1 := bQ.cell 1 rfl
  have bQ_l := bQ.lt
  go_upto_region 1 with fail
  clear bP_0 bP_1 bP_l bU_0 bU_1 bU_l bQ_0 bQ_1 bQ_l
  go_cut [7, 8] (fun s7 s8 wx => s7 = .int .i64 (Z) ∧ s8 = .int .i64 (C) ∧ Below W.heap.size W wx)
  case first =>
    have HW : Hid (Below W.heap.size W W) := Lib.hid (Below.refl _ _)
    obtain ⟨S, hSd⟩ : ∃ S : World → Prop, ∀ w', S w' ↔ (w'.cell? ⟨w.heap.size, 0, none⟩ = some (.int .i64 px) ∧ w'.cell? ⟨w.heap.size, 1, none⟩ = some (.int .i64 py) ∧ w'.cell? ⟨w.heap.size + 1, 0, none⟩ = some (.int .i64 ux) ∧ w'.cell? ⟨w.heap.size + 1, 1, none⟩ = some (.int .i64 uy) ∧ w'.cell? ⟨w.heap.size + 1 + 1, 0, none⟩ = some (.int .i64 qx) ∧ w'.cell? ⟨w.heap.size + 1 + 1, 1, none⟩ = some (.int .i64 qy)) := ⟨_, fun _ => Iff.rfl⟩
    have HSp : Hid (∀ w' : World, Bk w' (w.heap.size) #[.int .i64 px, .int .i64 py] 23 → Bk w' (w.heap.size + 1) #[.int .i64 ux, .int .i64 uy] 23 → Bk w' (w.heap.size + 1 + 1) #[.int .i64 qx, .int .i64 qy] 23 → S w') := Lib.hid (fun w' bP bU bQ => (hSd w').2 ⟨bP.cell 0 rfl, bP.cell 1 rfl, bU.cell 0 rfl, bU.cell 1 rfl, bQ.cell 0 rfl, bQ.cell 1 rfl⟩)
    have HSd := Lib.hid hSd
    clear hSd
    refine wp_region_held_drew (S := S) (by kernel_rfl) ?_ (fun hH => ?_)
    · exact (HSp.out _ bP bU bQ : S (World.drew W))
    clear hH
    generalize hX : World.drew W = V0
    replace bP : Bk V0 (w.heap.size) #[.int .i64 px, .int .i64 py] 23 := by rw [← hX]; exact bP
    replace bU : Bk V0 (w.heap.size + 1) #[.int .i64 ux, .int .i64 uy] 23 := by rw [← hX]; exact bU
    replace bQ : Bk V0 (w.heap.size + 1 + 1) #[.int .i64 qx, .int .i64 qy] 23 := by rw [← hX]; exact bQ
    have hb : Below W.heap.size W V0 := by rw [← hX]; exact (Below.refl _ _).drew
    clear hX
    replace HW := Lib.hid (bel_end HW.out hb)
    clear hb
    have hS := HSp.out _ bP bU bQ
    refine wpAnyH_take (i := 0) (oi := { dst := some 12, op := Go.Op.load 23 (Go.Operand.tmp 3), type := 23, pos := "exact.go:4013", after := #[], guard := none }) (v := ?_) rfl (by kernel_rfl) (by kernel_rfl) (by kernel_rfl) (fun _ _ _ h => h) (Or.inl ⟨by rfl, ?_⟩) hS ?_
    rotate_left
    · (intro w hSw; have hSw := (HSd.out w).1 hSw; go_split_ands; go_simp) <;> with_reducible rfl
    clear hS
    try simp only [Act.put, List.setIfInBounds_toArray, List.set_cons_zero, List.set_cons_succ]
    have hS := HSp.out _ bP bU bQ
    refine wpAnyH_take (i := 2) (oi := { dst := some 14, op := Go.Op.load 23 (Go.Operand.tmp 4), type := 23, pos := "exact.go:4013", after := #[], guard := none }) (v := ?_) rfl (by kernel_rfl) (by kernel_rfl) (by kernel_rfl) (fun _ _ _ h => h) (Or.inl ⟨by rfl, ?_⟩) hS ?_
    rotate_left
    · (intro w hSw; have hSw := (HSd.out w).1 hSw; go_split_ands; go_simp) <;> with_reducible rfl
    clear hS
    try simp only [Act.put, List.setIfInBounds_toArray, List.set_cons_zero, List.set_cons_succ]
    have hS := HSp.out _ bP bU bQ
    refine wpAnyH_take (i := 4) (oi := { dst := some 16, op := Go.Op.load 23 (Go.Operand.tmp 5), type := 23, pos := "exact.go:4013", after := #[], guard := none }) (v := ?_) rfl (by kernel_rfl) (by kernel_rfl) (by kernel_rfl) (fun _ _ _ h => h) (Or.inl ⟨by rfl, ?_⟩) hS ?_
    rotate_left
    · (intro w hSw; have hSw := (HSd.out w).1 hSw; go_split_ands; go_simp) <;> with_reducible rfl
    clear hS
    try simp only [Act.put, List.setIfInBounds_toArray, List.set_cons_zero, List.set_cons_succ]
    refine wpAnyH_ready (rs := [1]) (by kernel_rfl) (by simp) ?_
    refine AllReadyH.cons (o := { dst := some 13, op := Go.Op.call { callee := Go.Callee.value (Go.Operand.func 17), args := #[Go.Operand.tmp 12], argTypes := #[23] }, type := 25, pos := "exact.go:4013", after := #[{ on := 0, ground := Go.Ground.data }], guard := none }) rfl (fun Kn hK => ?_) AllReadyH.nil
    first | go_at_call 17 | (go_simp; go_at_call 17)
    (with_reducible refine Calls.mono (tpt_any _ _ _) ?_)
    rintro e V1 ⟨rfl, hb⟩
    try dsimp only
    try simp only [Act.put, List.setIfInBounds_toArray, List.set_cons_zero, List.set_cons_succ]
    replace bP := bP.on hb
    replace bU := bU.on hb
    replace bQ := bQ.on hb
    replace HW := Lib.hid (bel_end HW.out hb)
    clear hb
    refine hK.out _ _ (HSp.out _ bP bU bQ) (fun _ => ?_)
    clear hK Kn
    refine wpAnyH_ready (rs := [3]) (by kernel_rfl) (by simp) ?_
    refine AllReadyH.cons (o := { dst := some 15, op := Go.Op.call { callee := Go.Callee.value (Go.Operand.func 17), args := #[Go.Operand.tmp 14], argTypes := #[23] }, type := 25, pos := "exact.go:4013", after := #[{ on := 2, ground := Go.Ground.data }, { on := 1, ground := Go.Ground.chain }], guard := none }) rfl (fun Kn hK => ?_) AllReadyH.nil
    first | go_at_call 17 | (go_simp; go_at_call 17)
    (with_reducible refine Calls.mono (tpt_any _ _ _) ?_)
    rintro e V2 ⟨rfl, hb⟩
    try dsimp only
    try simp only [Act.put, List.setIfInBounds_toArray, List.set_cons_zero, List.set_cons_succ]
    replace bP := bP.on hb
    replace bU := bU.on hb
    replace bQ := bQ.on hb
    replace HW := Lib.hid (bel_end HW.out hb)
    clear hb
    refine hK.out _ _ (HSp.out _ bP bU bQ) (fun _ => ?_)
    clear hK Kn
    refine wpAnyH_ready (rs := [5]) (by kernel_rfl) (by simp) ?_
    refine AllReadyH.cons (o := { dst := some 17, op := Go.Op.call { callee := Go.Callee.value (Go.Operand.func 17), args := #[Go.Operand.tmp 16], argTypes := #[23] }, type := 25, pos := "exact.go:4013", after := #[{ on := 4, ground := Go.Ground.data }, { on := 3, ground := Go.Ground.chain }], guard := none }) rfl (fun Kn hK => ?_) AllReadyH.nil
    first | go_at_call 17 | (go_simp; go_at_call 17)
    (with_reducible refine Calls.mono (tpt_any _ _ _) ?_)
    rintro e V3 ⟨rfl, hb⟩
    try dsimp only
    try simp only [Act.put, List.setIfInBounds_toArray, List.set_cons_zero, List.set_cons_succ]
    replace bP := bP.on hb
    replace bU := bU.on hb
    replace bQ := bQ.on hb
    replace HW := Lib.hid (bel_end HW.out hb)
    clear hb
    refine hK.out _ _ (HSp.out _ bP bU bQ) (fun _ => ?_)
    clear hK Kn
    refine wpAnyH_ready (rs := [6]) (by kernel_rfl) (by simp) ?_
    refine AllReadyH.cons (o := { dst := some 18, op := Go.Op.call { callee := Go.Callee.value (Go.Operand.func 19), args := #[Go.Operand.tmp 13, Go.Operand.tmp 15, Go.Operand.tmp 17], argTypes := #[25, 25, 25] }, type := 28, pos := "exact.go:4013", after := #[{ on := 1, ground := Go.Ground.data }, { on := 3, ground := Go.Ground.data }, { on := 5, ground := Go.Ground.data }, { on := 5, ground := Go.Ground.chain }], guard := none }) rfl (fun Kn hK => ?_) AllReadyH.nil
    first | go_at_call 19 | (go_simp; go_at_call 19)
    (with_reducible refine Calls.mono (S1.out _) ?_)
    rintro e V4 ⟨rfl, hb⟩
    try dsimp only
    try simp only [Act.put, List.setIfInBounds_toArray, List.set_cons_zero, List.set_cons_succ]
    replace bP := bP.on hb
    replace bU := bU.on hb
    replace bQ := bQ.on hb
    replace HW := Lib.hid (bel_end HW.out hb)
    clear hb
    refine hK.out _ _ (HSp.out _ bP bU bQ) (fun _ => ?_)
    clear hK Kn
    have hS := HSp.out _ bP bU bQ
    refine wpAnyH_take (i := 7) (oi := { dst := some 11, op := Go.Op.move (Go.Operand.tmp 18), type := 28, pos := "exact.go:4013", after := #[{ on := 6, ground := Go.Ground.data }], guard := none }) (v := ?_) rfl (by kernel_rfl) (by kernel_rfl) (by kernel_rfl) (fun _ _ _ h => h) (Or.inl ⟨by rfl, ?_⟩) hS ?_
    rotate_left
    · (intro w hSw; have hSw := (HSd.out w).1 hSw; go_split_ands; go_simp) <;> with_reducible rfl
    clear hS
    try simp only [Act.put, List.setIfInBounds_toArray, List.set_cons_zero, List.set_cons_succ]
    have hS := HSp.out _ bP bU bQ
    refine wpAnyH_take (i := 8) (oi := { dst := some 19, op := Go.Op.extract (Go.Operand.tmp 11) 0, type := 2, pos := "exact.go:4013", after := #[{ on := 7, ground := Go.Ground.data }], guard := none }) (v := ?_) rfl (by kernel_rfl) (by kernel_rfl) (by kernel_rfl) (fun _ _ _ h => h) (Or.inl ⟨by rfl, ?_⟩) hS ?_
    rotate_left
    · (intro w hSw; have hSw := (HSd.out w).1 hSw; go_split_ands; go_simp) <;> with_reducible rfl
    clear hS
    try simp only [Act.put, List.setIfInBounds_toArray, List.set_cons_zero, List.set_cons_succ]
    have hS := HSp.out _ bP bU bQ
    refine wpAnyH_take (i := 9) (oi := { dst := some 20, op := Go.Op.extract (Go.Operand.tmp 11) 1, type := 2, pos := "exact.go:4013", after := #[{ on := 7, ground := Go.Ground.data }, { on := 10, ground := Go.Ground.gcOnly Go.Departure.lateStores }], guard := none }) (v := ?_) rfl (by kernel_rfl) (by kernel_rfl) (by kernel_rfl) (fun _ _ _ h => h) (Or.inl ⟨by rfl, ?_⟩) hS ?_
    rotate_left
    · (intro w hSw; have hSw := (HSd.out w).1 hSw; go_split_ands; go_simp) <;> with_reducible rfl
    clear hS
    try simp only [Act.put, List.setIfInBounds_toArray, List.set_cons_zero, List.set_cons_succ]
    have hS := HSp.out _ bP bU bQ
    refine wpAnyH_take (i := 10) (oi := { dst := some 7, op := Go.Op.assign (Go.Operand.tmp 19), type := 2, pos := "exact.go:4013", after := #[{ on := 8, ground := Go.Ground.data }, { on := 6, ground := Go.Ground.chain }, { on := 0, ground := Go.Ground.phase }, { on := 1, ground := Go.Ground.phase }, { on := 2, ground := Go.Ground.phase }, { on := 3, ground := Go.Ground.phase }, { on := 4, ground := Go.Ground.phase }, { on := 5, ground := Go.Ground.phase }, { on := 6, ground := Go.Ground.phase }, { on := 7, ground := Go.Ground.phase }, { on := 8, ground := Go.Ground.phase }, { on := 9, ground := Go.Ground.textOnly Go.Departure.lateStores }], guard := none }) (v := ?_) rfl (by kernel_rfl) (by kernel_rfl) (by kernel_rfl) (fun _ _ _ h => h) (Or.inl ⟨by rfl, ?_⟩) hS ?_
    rotate_left
    · (intro w hSw; have hSw := (HSd.out w).1 hSw; go_split_ands; go_simp) <;> with_reducible rfl
    clear hS
    try simp only [Act.put, List.setIfInBounds_toArray, List.set_cons_zero, List.set_cons_succ]
    have hS := HSp.out _ bP bU bQ
    refine wpAnyH_take (i := 11) (oi := { dst := some 8, op := Go.Op.assign (Go.Operand.tmp 20), type := 2, pos := "exact.go:4013", after := #[{ on := 9, ground := Go.Ground.data }, { on := 10, ground := Go.Ground.chain }, { on := 0, ground := Go.Ground.phase }, { on := 1, ground := Go.Ground.phase }, { on := 2, ground := Go.Ground.phase }, { on := 3, ground := Go.Ground.phase }, { on := 4, ground := Go.Ground.phase }, { on := 5, ground := Go.Ground.phase }, { on := 6, ground := Go.Ground.phase }, { on := 7, ground := Go.Ground.phase }, { on := 8, ground := Go.Ground.phase }, { on := 9, ground := Go.Ground.phase }, { on := 10, ground := Go.Ground.phase }], guard := none }) (v := ?_) rfl (by kernel_rfl) (by kernel_rfl) (by kernel_rfl) (fun _ _ _ h => h) (Or.inl ⟨by rfl, ?_⟩) hS ?_
    rotate_left
    · (intro w hSw; have hSw := (HSd.out w).1 hSw; go_split_ands; go_simp) <;> with_reducible rfl
    clear hS
    try simp only [Act.put, List.setIfInBounds_toArray, List.set_cons_zero, List.set_cons_succ]
    refine wpAnyH_done (by kernel_rfl) ?_ _
    go_wp2_with fail
    go_meet
    exact ⟨rfl, rfl, HW.out⟩
  case rest =>
    obtain ⟨rfl, rfl, hb⟩ := hcut
    replace bP := bP.on hb
    replace bU := bU.on hb
    replace bQ := bQ.on hb
    replace HB := Lib.hid (bel_end HB.out hb)
    clear hb
    obtain ⟨WCa, hWC⟩ : ∃ W, W = wc := ⟨_, rfl⟩
    skip
    have bP_0 := bP.cell 0 rfl
    have bP_1 := bP.cell 1 rfl
    have bP_l := bP.lt
    have bU_0 := bU.cell 0 rfl
    have bU_1 := bU.cell 1 rfl
    have bU_l := bU.lt
    have bQ_0 := bQ.cell 0 rfl
    have bQ_1 := bQ.cell 1 rfl
    have bQ_l := bQ.lt
    go_upto_region 2 with fail
    clear bP_0 bP_1 bP_l bU_0 bU_1 bU_l bQ_0 bQ_1 bQ_l
    go_cut [9, 10] (fun s9 s10 wx => s9 = .int .i64 (Z) ∧ s10 = .int .i64 (C) ∧ Below wc.heap.size wc wx)
    case first =>
      have HW : Hid (Below wc.heap.size wc wc) := Lib.hid (Below.refl _ _)
      obtain ⟨S, hSd⟩ : ∃ S : World → Prop, ∀ w', S w' ↔ (w'.cell? ⟨w.heap.size, 0, none⟩ = some (.int .i64 px) ∧ w'.cell? ⟨w.heap.size, 1, none⟩ = some (.int .i64 py) ∧ w'.cell? ⟨w.heap.size + 1, 0, none⟩ = some (.int .i64 ux) ∧ w'.cell? ⟨w.heap.size + 1, 1, none⟩ = some (.int .i64 uy) ∧ w'.cell? ⟨w.heap.size + 1 + 1, 0, none⟩ = some (.int .i64 qx) ∧ w'.cell? ⟨w.heap.size + 1 + 1, 1, none⟩ = some (.int .i64 qy)) := ⟨_, fun _ => Iff.rfl⟩
      have HSp : Hid (∀ w' : World, Bk w' (w.heap.size) #[.int .i64 px, .int .i64 py] 23 → Bk w' (w.heap.size + 1) #[.int .i64 ux, .int .i64 uy] 23 → Bk w' (w.heap.size + 1 + 1) #[.int .i64 qx, .int .i64 qy] 23 → S w') := Lib.hid (fun w' bP bU bQ => (hSd w').2 ⟨bP.cell 0 rfl, bP.cell 1 rfl, bU.cell 0 rfl, bU.cell 1 rfl, bQ.cell 0 rfl, bQ.cell 1 rfl⟩)
      have HSd := Lib.hid hSd
      clear hSd
      refine wp_region_held_drew (S := S) (by kernel_rfl) ?_ (fun hH => ?_)
      · exact (HSp.out _ bP bU bQ : S (World.drew wc))
      clear hH
      generalize hX : World.drew wc = V0
      replace bP : Bk V0 (w.heap.size) #[.int .i64 px, .int .i64 py] 23 := by rw [← hX]; exact bP
      replace bU : Bk V0 (w.heap.size + 1) #[.int .i64 ux, .int .i64 uy] 23 := by rw [← hX]; exact bU
      replace bQ : Bk V0 (w.heap.size + 1 + 1) #[.int .i64 qx, .int .i64 qy] 23 := by rw [← hX]; exact bQ
      have hb : Below wc.heap.size wc V0 := by rw [← hX]; exact (Below.refl _ _).drew
      clear hX
      replace HW := Lib.hid (bel_end HW.out hb)
      clear hb
      have hS := HSp.out _ bP bU bQ
      refine wpAnyH_take (i := 0) (oi := { dst := some 22, op := Go.Op.load 23 (Go.Operand.tmp 3), type := 23, pos := "exact.go:4014", after := #[], guard := none }) (v := ?_) rfl (by kernel_rfl) (by kernel_rfl) (by kernel_rfl) (fun _ _ _ h => h) (Or.inl ⟨by rfl, ?_⟩) hS ?_
      rotate_left
      · (intro w hSw; have hSw := (HSd.out w).1 hSw; go_split_ands; go_simp) <;> with_reducible rfl
      clear hS
      try simp only [Act.put, List.setIfInBounds_toArray, List.set_cons_zero, List.set_cons_succ]
      have hS := HSp.out _ bP bU bQ
      refine wpAnyH_take (i := 2) (oi := { dst := some 24, op := Go.Op.load 23 (Go.Operand.tmp 4), type := 23, pos := "exact.go:4014", after := #[], guard := none }) (v := ?_) rfl (by kernel_rfl) (by kernel_rfl) (by kernel_rfl) (fun _ _ _ h => h) (Or.inl ⟨by rfl, ?_⟩) hS ?_
      rotate_left
      · (intro w hSw; have hSw := (HSd.out w).1 hSw; go_split_ands; go_simp) <;> with_reducible rfl
      clear hS
      try simp only [Act.put, List.setIfInBounds_toArray, List.set_cons_zero, List.set_cons_succ]
      have hS := HSp.out _ bP bU bQ
      refine wpAnyH_take (i := 4) (oi := { dst := some 26, op := Go.Op.load 23 (Go.Operand.tmp 5), type := 23, pos := "exact.go:4014", after := #[], guard := none }) (v := ?_) rfl (by kernel_rfl) (by kernel_rfl) (by kernel_rfl) (fun _ _ _ h => h) (Or.inl ⟨by rfl, ?_⟩) hS ?_
      rotate_left
      · (intro w hSw; have hSw := (HSd.out w).1 hSw; go_split_ands; go_simp) <;> with_reducible rfl
      clear hS
      try simp only [Act.put, List.setIfInBounds_toArray, List.set_cons_zero, List.set_cons_succ]
      refine wpAnyH_ready (rs := [1]) (by kernel_rfl) (by simp) ?_
      refine AllReadyH.cons (o := { dst := some 23, op := Go.Op.call { callee := Go.Callee.value (Go.Operand.func 17), args := #[Go.Operand.tmp 22], argTypes := #[23] }, type := 25, pos := "exact.go:4014", after := #[{ on := 0, ground := Go.Ground.data }], guard := none }) rfl (fun Kn hK => ?_) AllReadyH.nil
      first | go_at_call 17 | (go_simp; go_at_call 17)
      (with_reducible refine Calls.mono (tpt_any _ _ _) ?_)
      rintro e V1 ⟨rfl, hb⟩
      try dsimp only
      try simp only [Act.put, List.setIfInBounds_toArray, List.set_cons_zero, List.set_cons_succ]
      replace bP := bP.on hb
      replace bU := bU.on hb
      replace bQ := bQ.on hb
      replace HW := Lib.hid (bel_end HW.out hb)
      clear hb
      refine hK.out _ _ (HSp.out _ bP bU bQ) (fun _ => ?_)
      clear hK Kn
      refine wpAnyH_ready (rs := [3]) (by kernel_rfl) (by simp) ?_
      refine AllReadyH.cons (o := { dst := some 25, op := Go.Op.call { callee := Go.Callee.value (Go.Operand.func 17), args := #[Go.Operand.tmp 24], argTypes := #[23] }, type := 25, pos := "exact.go:4014", after := #[{ on := 2, ground := Go.Ground.data }, { on := 1, ground := Go.Ground.chain }], guard := none }) rfl (fun Kn hK => ?_) AllReadyH.nil
      first | go_at_call 17 | (go_simp; go_at_call 17)
      (with_reducible refine Calls.mono (tpt_any _ _ _) ?_)
      rintro e V2 ⟨rfl, hb⟩
      try dsimp only
      try simp only [Act.put, List.setIfInBounds_toArray, List.set_cons_zero, List.set_cons_succ]
      replace bP := bP.on hb
      replace bU := bU.on hb
      replace bQ := bQ.on hb
      replace HW := Lib.hid (bel_end HW.out hb)
      clear hb
      refine hK.out _ _ (HSp.out _ bP bU bQ) (fun _ => ?_)
      clear hK Kn
      refine wpAnyH_ready (rs := [5]) (by kernel_rfl) (by simp) ?_
      refine AllReadyH.cons (o := { dst := some 27, op := Go.Op.call { callee := Go.Callee.value (Go.Operand.func 17), args := #[Go.Operand.tmp 26], argTypes := #[23] }, type := 25, pos := "exact.go:4014", after := #[{ on := 4, ground := Go.Ground.data }, { on := 3, ground := Go.Ground.chain }], guard := none }) rfl (fun Kn hK => ?_) AllReadyH.nil
      first | go_at_call 17 | (go_simp; go_at_call 17)
      (with_reducible refine Calls.mono (tpt_any _ _ _) ?_)
      rintro e V3 ⟨rfl, hb⟩
      try dsimp only
      try simp only [Act.put, List.setIfInBounds_toArray, List.set_cons_zero, List.set_cons_succ]
      replace bP := bP.on hb
      replace bU := bU.on hb
      replace bQ := bQ.on hb
      replace HW := Lib.hid (bel_end HW.out hb)
      clear hb
      refine hK.out _ _ (HSp.out _ bP bU bQ) (fun _ => ?_)
      clear hK Kn
      refine wpAnyH_ready (rs := [6]) (by kernel_rfl) (by simp) ?_
      refine AllReadyH.cons (o := { dst := some 28, op := Go.Op.call { callee := Go.Callee.value (Go.Operand.func 20), args := #[Go.Operand.tmp 23, Go.Operand.tmp 25, Go.Operand.tmp 27], argTypes := #[25, 25, 25] }, type := 28, pos := "exact.go:4014", after := #[{ on := 1, ground := Go.Ground.data }, { on := 3, ground := Go.Ground.data }, { on := 5, ground := Go.Ground.data }, { on := 5, ground := Go.Ground.chain }], guard := none }) rfl (fun Kn hK => ?_) AllReadyH.nil
      first | go_at_call 20 | (go_simp; go_at_call 20)
      (with_reducible refine Calls.mono (S2.out _) ?_)
      rintro e V4 ⟨rfl, hb⟩
      try dsimp only
      try simp only [Act.put, List.setIfInBounds_toArray, List.set_cons_zero, List.set_cons_succ]
      replace bP := bP.on hb
      replace bU := bU.on hb
      replace bQ := bQ.on hb
      replace HW := Lib.hid (bel_end HW.out hb)
      clear hb
      refine hK.out _ _ (HSp.out _ bP bU bQ) (fun _ => ?_)
      clear hK Kn
      have hS := HSp.out _ bP bU bQ
      refine wpAnyH_take (i := 7) (oi := { dst := some 21, op := Go.Op.move (Go.Operand.tmp 28), type := 28, pos := "exact.go:4014", after := #[{ on := 6, ground := Go.Ground.data }], guard := none }) (v := ?_) rfl (by kernel_rfl) (by kernel_rfl) (by kernel_rfl) (fun _ _ _ h => h) (Or.inl ⟨by rfl, ?_⟩) hS ?_
      rotate_left
      · (intro w hSw; have hSw := (HSd.out w).1 hSw; go_split_ands; go_simp) <;> with_reducible rfl
      clear hS
      try simp only [Act.put, List.setIfInBounds_toArray, List.set_cons_zero, List.set_cons_succ]
      have hS := HSp.out _ bP bU bQ
      refine wpAnyH_take (i := 8) (oi := { dst := some 29, op := Go.Op.extract (Go.Operand.tmp 21) 0, type := 2, pos := "exact.go:4014", after := #[{ on := 7, ground := Go.Ground.data }], guard := none }) (v := ?_) rfl (by kernel_rfl) (by kernel_rfl) (by kernel_rfl) (fun _ _ _ h => h) (Or.inl ⟨by rfl, ?_⟩) hS ?_
      rotate_left
      · (intro w hSw; have hSw := (HSd.out w).1 hSw; go_split_ands; go_simp) <;> with_reducible rfl
      clear hS
      try simp only [Act.put, List.setIfInBounds_toArray, List.set_cons_zero, List.set_cons_succ]
      have hS := HSp.out _ bP bU bQ
      refine wpAnyH_take (i := 9) (oi := { dst := some 30, op := Go.Op.extract (Go.Operand.tmp 21) 1, type := 2, pos := "exact.go:4014", after := #[{ on := 7, ground := Go.Ground.data }, { on := 10, ground := Go.Ground.gcOnly Go.Departure.lateStores }], guard := none }) (v := ?_) rfl (by kernel_rfl) (by kernel_rfl) (by kernel_rfl) (fun _ _ _ h => h) (Or.inl ⟨by rfl, ?_⟩) hS ?_
      rotate_left
      · (intro w hSw; have hSw := (HSd.out w).1 hSw; go_split_ands; go_simp) <;> with_reducible rfl
      clear hS
      try simp only [Act.put, List.setIfInBounds_toArray, List.set_cons_zero, List.set_cons_succ]
      have hS := HSp.out _ bP bU bQ
      refine wpAnyH_take (i := 10) (oi := { dst := some 9, op := Go.Op.assign (Go.Operand.tmp 29), type := 2, pos := "exact.go:4014", after := #[{ on := 8, ground := Go.Ground.data }, { on := 6, ground := Go.Ground.chain }, { on := 0, ground := Go.Ground.phase }, { on := 1, ground := Go.Ground.phase }, { on := 2, ground := Go.Ground.phase }, { on := 3, ground := Go.Ground.phase }, { on := 4, ground := Go.Ground.phase }, { on := 5, ground := Go.Ground.phase }, { on := 6, ground := Go.Ground.phase }, { on := 7, ground := Go.Ground.phase }, { on := 8, ground := Go.Ground.phase }, { on := 9, ground := Go.Ground.textOnly Go.Departure.lateStores }], guard := none }) (v := ?_) rfl (by kernel_rfl) (by kernel_rfl) (by kernel_rfl) (fun _ _ _ h => h) (Or.inl ⟨by rfl, ?_⟩) hS ?_
      rotate_left
      · (intro w hSw; have hSw := (HSd.out w).1 hSw; go_split_ands; go_simp) <;> with_reducible rfl
      clear hS
      try simp only [Act.put, List.setIfInBounds_toArray, List.set_cons_zero, List.set_cons_succ]
      have hS := HSp.out _ bP bU bQ
      refine wpAnyH_take (i := 11) (oi := { dst := some 10, op := Go.Op.assign (Go.Operand.tmp 30), type := 2, pos := "exact.go:4014", after := #[{ on := 9, ground := Go.Ground.data }, { on := 10, ground := Go.Ground.chain }, { on := 0, ground := Go.Ground.phase }, { on := 1, ground := Go.Ground.phase }, { on := 2, ground := Go.Ground.phase }, { on := 3, ground := Go.Ground.phase }, { on := 4, ground := Go.Ground.phase }, { on := 5, ground := Go.Ground.phase }, { on := 6, ground := Go.Ground.phase }, { on := 7, ground := Go.Ground.phase }, { on := 8, ground := Go.Ground.phase }, { on := 9, ground := Go.Ground.phase }, { on := 10, ground := Go.Ground.phase }], guard := none }) (v := ?_) rfl (by kernel_rfl) (by kernel_rfl) (by kernel_rfl) (fun _ _ _ h => h) (Or.inl ⟨by rfl, ?_⟩) hS ?_
      rotate_left
      · (intro w hSw; have hSw := (HSd.out w).1 hSw; go_split_ands; go_simp) <;> with_reducible rfl
      clear hS
      try simp only [Act.put, List.setIfInBounds_toArray, List.set_cons_zero, List.set_cons_succ]
      refine wpAnyH_done (by kernel_rfl) ?_ _
      go_wp2_with fail
      go_meet
      exact ⟨rfl, rfl, HW.out⟩
    case rest =>
      obtain ⟨rfl, rfl, hb⟩ := hcut
      replace bP := bP.on hb
      replace bU := bU.on hb
      replace bQ := bQ.on hb
      replace HB := Lib.hid (bel_end HB.out hb)
      clear hb
      obtain ⟨WCb, hWC⟩ : ∃ W, W = wc := ⟨_, rfl⟩
      skip
      have bP_0 := bP.cell 0 rfl
      have bP_1 := bP.cell 1 rfl
      have bP_l := bP.lt
      have bU_0 := bU.cell 0 rfl
      have bU_1 := bU.cell 1 rfl
      have bU_l := bU.lt
      have bQ_0 := bQ.cell 0 rfl
      have bQ_1 := bQ.cell 1 rfl
      have bQ_l := bQ.lt
      go_wp2_with fail
      clear bP_0 bP_1 bP_l bU_0 bU_1 bU_l bQ_0 bQ_1 bQ_l
      go_ret
      exact ⟨rfl, HB.out⟩

set_option maxRecDepth 100000 in
set_option maxHeartbeats 8000000 in
theorem lcmb (a b c d : Int) (w : World) :
    Calls Try.prog 5 #[.agg #[.int .i64 a, .int .i64 b], .agg #[.int .i64 c, .int .i64 d]] w fun e w' => e = .returned (.bool true) ∧ Below w.heap.size w w' := by
  obtain ⟨Z, hZ⟩ : ∃ u, cbV a b c d = u := ⟨_, rfl⟩
  obtain ⟨C, hC⟩ : ∃ u, cbC a b c d = u := ⟨_, rfl⟩
  have S1 : Hid (∀ W : World, Calls Try.prog 21 #[.agg #[.int .i64 a, .int .i64 b], .agg #[.int .i64 c, .int .i64 d]] W fun e w' => e = .returned (.tuple #[.int .i64 Z, .int .i64 C]) ∧ Below W.heap.size W w') := Lib.hid (fun W => by have := scb_any W a b c d; rwa [hZ, hC] at this)
  have S2 : Hid (∀ W : World, Calls Try.prog 22 #[.agg #[.int .i64 a, .int .i64 b], .agg #[.int .i64 c, .int .i64 d]] W fun e w' => e = .returned (.tuple #[.int .i64 Z, .int .i64 C]) ∧ Below W.heap.size W w') := Lib.hid (fun W => by have := icb_any W a b c d; rwa [hZ, hC] at this)
  clear hZ hC
  go_enter Try.func5, Try.ntmps5
  go_upto_region 1 with fail
  generalize hW : World.alloc _ _ = W
  have bU : Bk W (w.heap.size) #[.int .i64 a, .int .i64 b] 23 := by rw [← hW]; repeat (first | (refine Bk.new' ?_; (simp; done)) | refine Bk.alloc ?_ _)
  have bV : Bk W (w.heap.size + 1) #[.int .i64 c, .int .i64 d] 23 := by rw [← hW]; repeat (first | (refine Bk.new' ?_; (simp; done)) | refine Bk.alloc ?_ _)
  have HB : Hid (Below w.heap.size w W) := Lib.hid (by rw [← hW]; exact (by repeat (first | exact Below.refl _ _ | (refine Below.alloc ?_ (by simp <;> omega) _) | (refine Below.setCell ?_ (by simp <;> omega) _) | (refine Below.drew ?_) | (refine bel_drewN ?_ _))))
  clear hW
  have bU_0 := bU.cell 0 rfl
  have bU_1 := bU.cell 1 rfl
  have bU_l := bU.lt
  have bV_0 := bV.cell 0 rfl
  have bV_1 := bV.cell 1 rfl
  have bV_l := bV.lt
  go_upto_region 1 with fail
  clear bU_0 bU_1 bU_l bV_0 bV_1 bV_l
  go_cut [5, 6] (fun s5 s6 wx => s5 = .int .i64 (Z) ∧ s6 = .int .i64 (C) ∧ Below W.heap.size W wx)
  case first =>
    have HW : Hid (Below W.heap.size W W) := Lib.hid (Below.refl _ _)
    obtain ⟨S, hSd⟩ : ∃ S : World → Prop, ∀ w', S w' ↔ (w'.cell? ⟨w.heap.size, 0, none⟩ = some (.int .i64 a) ∧ w'.cell? ⟨w.heap.size, 1, none⟩ = some (.int .i64 b) ∧ w'.cell? ⟨w.heap.size + 1, 0, none⟩ = some (.int .i64 c) ∧ w'.cell? ⟨w.heap.size + 1, 1, none⟩ = some (.int .i64 d)) := ⟨_, fun _ => Iff.rfl⟩
    have HSp : Hid (∀ w' : World, Bk w' (w.heap.size) #[.int .i64 a, .int .i64 b] 23 → Bk w' (w.heap.size + 1) #[.int .i64 c, .int .i64 d] 23 → S w') := Lib.hid (fun w' bU bV => (hSd w').2 ⟨bU.cell 0 rfl, bU.cell 1 rfl, bV.cell 0 rfl, bV.cell 1 rfl⟩)
    have HSd := Lib.hid hSd
    clear hSd
    refine wp_region_held_drew (S := S) (by kernel_rfl) ?_ (fun hH => ?_)
    · exact (HSp.out _ bU bV : S (World.drew W))
    clear hH
    generalize hX : World.drew W = V0
    replace bU : Bk V0 (w.heap.size) #[.int .i64 a, .int .i64 b] 23 := by rw [← hX]; exact bU
    replace bV : Bk V0 (w.heap.size + 1) #[.int .i64 c, .int .i64 d] 23 := by rw [← hX]; exact bV
    have hb : Below W.heap.size W V0 := by rw [← hX]; exact (Below.refl _ _).drew
    clear hX
    replace HW := Lib.hid (bel_end HW.out hb)
    clear hb
    have hS := HSp.out _ bU bV
    refine wpAnyH_take (i := 0) (oi := { dst := some 10, op := Go.Op.load 23 (Go.Operand.tmp 2), type := 23, pos := "exact.go:4023", after := #[], guard := none }) (v := ?_) rfl (by kernel_rfl) (by kernel_rfl) (by kernel_rfl) (fun _ _ _ h => h) (Or.inl ⟨by rfl, ?_⟩) hS ?_
    rotate_left
    · (intro w hSw; have hSw := (HSd.out w).1 hSw; go_split_ands; go_simp) <;> with_reducible rfl
    clear hS
    try simp only [Act.put, List.setIfInBounds_toArray, List.set_cons_zero, List.set_cons_succ]
    have hS := HSp.out _ bU bV
    refine wpAnyH_take (i := 2) (oi := { dst := some 12, op := Go.Op.load 23 (Go.Operand.tmp 3), type := 23, pos := "exact.go:4023", after := #[], guard := none }) (v := ?_) rfl (by kernel_rfl) (by kernel_rfl) (by kernel_rfl) (fun _ _ _ h => h) (Or.inl ⟨by rfl, ?_⟩) hS ?_
    rotate_left
    · (intro w hSw; have hSw := (HSd.out w).1 hSw; go_split_ands; go_simp) <;> with_reducible rfl
    clear hS
    try simp only [Act.put, List.setIfInBounds_toArray, List.set_cons_zero, List.set_cons_succ]
    refine wpAnyH_ready (rs := [1]) (by kernel_rfl) (by simp) ?_
    refine AllReadyH.cons (o := { dst := some 11, op := Go.Op.call { callee := Go.Callee.value (Go.Operand.func 17), args := #[Go.Operand.tmp 10], argTypes := #[23] }, type := 25, pos := "exact.go:4023", after := #[{ on := 0, ground := Go.Ground.data }], guard := none }) rfl (fun Kn hK => ?_) AllReadyH.nil
    first | go_at_call 17 | (go_simp; go_at_call 17)
    (with_reducible refine Calls.mono (tpt_any _ _ _) ?_)
    rintro e V1 ⟨rfl, hb⟩
    try dsimp only
    try simp only [Act.put, List.setIfInBounds_toArray, List.set_cons_zero, List.set_cons_succ]
    replace bU := bU.on hb
    replace bV := bV.on hb
    replace HW := Lib.hid (bel_end HW.out hb)
    clear hb
    refine hK.out _ _ (HSp.out _ bU bV) (fun _ => ?_)
    clear hK Kn
    refine wpAnyH_ready (rs := [3]) (by kernel_rfl) (by simp) ?_
    refine AllReadyH.cons (o := { dst := some 13, op := Go.Op.call { callee := Go.Callee.value (Go.Operand.func 17), args := #[Go.Operand.tmp 12], argTypes := #[23] }, type := 25, pos := "exact.go:4023", after := #[{ on := 2, ground := Go.Ground.data }, { on := 1, ground := Go.Ground.chain }], guard := none }) rfl (fun Kn hK => ?_) AllReadyH.nil
    first | go_at_call 17 | (go_simp; go_at_call 17)
    (with_reducible refine Calls.mono (tpt_any _ _ _) ?_)
    rintro e V2 ⟨rfl, hb⟩
    try dsimp only
    try simp only [Act.put, List.setIfInBounds_toArray, List.set_cons_zero, List.set_cons_succ]
    replace bU := bU.on hb
    replace bV := bV.on hb
    replace HW := Lib.hid (bel_end HW.out hb)
    clear hb
    refine hK.out _ _ (HSp.out _ bU bV) (fun _ => ?_)
    clear hK Kn
    refine wpAnyH_ready (rs := [4]) (by kernel_rfl) (by simp) ?_
    refine AllReadyH.cons (o := { dst := some 14, op := Go.Op.call { callee := Go.Callee.value (Go.Operand.func 21), args := #[Go.Operand.tmp 11, Go.Operand.tmp 13], argTypes := #[25, 25] }, type := 28, pos := "exact.go:4023", after := #[{ on := 1, ground := Go.Ground.data }, { on := 3, ground := Go.Ground.data }, { on := 3, ground := Go.Ground.chain }], guard := none }) rfl (fun Kn hK => ?_) AllReadyH.nil
    first | go_at_call 21 | (go_simp; go_at_call 21)
    (with_reducible refine Calls.mono (S1.out _) ?_)
    rintro e V3 ⟨rfl, hb⟩
    try dsimp only
    try simp only [Act.put, List.setIfInBounds_toArray, List.set_cons_zero, List.set_cons_succ]
    replace bU := bU.on hb
    replace bV := bV.on hb
    replace HW := Lib.hid (bel_end HW.out hb)
    clear hb
    refine hK.out _ _ (HSp.out _ bU bV) (fun _ => ?_)
    clear hK Kn
    have hS := HSp.out _ bU bV
    refine wpAnyH_take (i := 5) (oi := { dst := some 9, op := Go.Op.move (Go.Operand.tmp 14), type := 28, pos := "exact.go:4023", after := #[{ on := 4, ground := Go.Ground.data }], guard := none }) (v := ?_) rfl (by kernel_rfl) (by kernel_rfl) (by kernel_rfl) (fun _ _ _ h => h) (Or.inl ⟨by rfl, ?_⟩) hS ?_
    rotate_left
    · (intro w hSw; have hSw := (HSd.out w).1 hSw; go_split_ands; go_simp) <;> with_reducible rfl
    clear hS
    try simp only [Act.put, List.setIfInBounds_toArray, List.set_cons_zero, List.set_cons_succ]
    have hS := HSp.out _ bU bV
    refine wpAnyH_take (i := 6) (oi := { dst := some 15, op := Go.Op.extract (Go.Operand.tmp 9) 0, type := 2, pos := "exact.go:4023", after := #[{ on := 5, ground := Go.Ground.data }], guard := none }) (v := ?_) rfl (by kernel_rfl) (by kernel_rfl) (by kernel_rfl) (fun _ _ _ h => h) (Or.inl ⟨by rfl, ?_⟩) hS ?_
    rotate_left
    · (intro w hSw; have hSw := (HSd.out w).1 hSw; go_split_ands; go_simp) <;> with_reducible rfl
    clear hS
    try simp only [Act.put, List.setIfInBounds_toArray, List.set_cons_zero, List.set_cons_succ]
    have hS := HSp.out _ bU bV
    refine wpAnyH_take (i := 7) (oi := { dst := some 16, op := Go.Op.extract (Go.Operand.tmp 9) 1, type := 2, pos := "exact.go:4023", after := #[{ on := 5, ground := Go.Ground.data }, { on := 8, ground := Go.Ground.gcOnly Go.Departure.lateStores }], guard := none }) (v := ?_) rfl (by kernel_rfl) (by kernel_rfl) (by kernel_rfl) (fun _ _ _ h => h) (Or.inl ⟨by rfl, ?_⟩) hS ?_
    rotate_left
    · (intro w hSw; have hSw := (HSd.out w).1 hSw; go_split_ands; go_simp) <;> with_reducible rfl
    clear hS
    try simp only [Act.put, List.setIfInBounds_toArray, List.set_cons_zero, List.set_cons_succ]
    have hS := HSp.out _ bU bV
    refine wpAnyH_take (i := 8) (oi := { dst := some 5, op := Go.Op.assign (Go.Operand.tmp 15), type := 2, pos := "exact.go:4023", after := #[{ on := 6, ground := Go.Ground.data }, { on := 4, ground := Go.Ground.chain }, { on := 0, ground := Go.Ground.phase }, { on := 1, ground := Go.Ground.phase }, { on := 2, ground := Go.Ground.phase }, { on := 3, ground := Go.Ground.phase }, { on := 4, ground := Go.Ground.phase }, { on := 5, ground := Go.Ground.phase }, { on := 6, ground := Go.Ground.phase }, { on := 7, ground := Go.Ground.textOnly Go.Departure.lateStores }], guard := none }) (v := ?_) rfl (by kernel_rfl) (by kernel_rfl) (by kernel_rfl) (fun _ _ _ h => h) (Or.inl ⟨by rfl, ?_⟩) hS ?_
    rotate_left
    · (intro w hSw; have hSw := (HSd.out w).1 hSw; go_split_ands; go_simp) <;> with_reducible rfl
    clear hS
    try simp only [Act.put, List.setIfInBounds_toArray, List.set_cons_zero, List.set_cons_succ]
    have hS := HSp.out _ bU bV
    refine wpAnyH_take (i := 9) (oi := { dst := some 6, op := Go.Op.assign (Go.Operand.tmp 16), type := 2, pos := "exact.go:4023", after := #[{ on := 7, ground := Go.Ground.data }, { on := 8, ground := Go.Ground.chain }, { on := 0, ground := Go.Ground.phase }, { on := 1, ground := Go.Ground.phase }, { on := 2, ground := Go.Ground.phase }, { on := 3, ground := Go.Ground.phase }, { on := 4, ground := Go.Ground.phase }, { on := 5, ground := Go.Ground.phase }, { on := 6, ground := Go.Ground.phase }, { on := 7, ground := Go.Ground.phase }, { on := 8, ground := Go.Ground.phase }], guard := none }) (v := ?_) rfl (by kernel_rfl) (by kernel_rfl) (by kernel_rfl) (fun _ _ _ h => h) (Or.inl ⟨by rfl, ?_⟩) hS ?_
    rotate_left
    · (intro w hSw; have hSw := (HSd.out w).1 hSw; go_split_ands; go_simp) <;> with_reducible rfl
    clear hS
    try simp only [Act.put, List.setIfInBounds_toArray, List.set_cons_zero, List.set_cons_succ]
    refine wpAnyH_done (by kernel_rfl) ?_ _
    go_wp2_with fail
    go_meet
    exact ⟨rfl, rfl, HW.out⟩
  case rest =>
    obtain ⟨rfl, rfl, hb⟩ := hcut
    replace bU := bU.on hb
    replace bV := bV.on hb
    replace HB := Lib.hid (bel_end HB.out hb)
    clear hb
    obtain ⟨WCa, hWC⟩ : ∃ W, W = wc := ⟨_, rfl⟩
    skip
    have bU_0 := bU.cell 0 rfl
    have bU_1 := bU.cell 1 rfl
    have bU_l := bU.lt
    have bV_0 := bV.cell 0 rfl
    have bV_1 := bV.cell 1 rfl
    have bV_l := bV.lt
    go_upto_region 2 with fail
    clear bU_0 bU_1 bU_l bV_0 bV_1 bV_l
    go_cut [7, 8] (fun s7 s8 wx => s7 = .int .i64 (Z) ∧ s8 = .int .i64 (C) ∧ Below wc.heap.size wc wx)
    case first =>
      have HW : Hid (Below wc.heap.size wc wc) := Lib.hid (Below.refl _ _)
      obtain ⟨S, hSd⟩ : ∃ S : World → Prop, ∀ w', S w' ↔ (w'.cell? ⟨w.heap.size, 0, none⟩ = some (.int .i64 a) ∧ w'.cell? ⟨w.heap.size, 1, none⟩ = some (.int .i64 b) ∧ w'.cell? ⟨w.heap.size + 1, 0, none⟩ = some (.int .i64 c) ∧ w'.cell? ⟨w.heap.size + 1, 1, none⟩ = some (.int .i64 d)) := ⟨_, fun _ => Iff.rfl⟩
      have HSp : Hid (∀ w' : World, Bk w' (w.heap.size) #[.int .i64 a, .int .i64 b] 23 → Bk w' (w.heap.size + 1) #[.int .i64 c, .int .i64 d] 23 → S w') := Lib.hid (fun w' bU bV => (hSd w').2 ⟨bU.cell 0 rfl, bU.cell 1 rfl, bV.cell 0 rfl, bV.cell 1 rfl⟩)
      have HSd := Lib.hid hSd
      clear hSd
      refine wp_region_held_drew (S := S) (by kernel_rfl) ?_ (fun hH => ?_)
      · exact (HSp.out _ bU bV : S (World.drew wc))
      clear hH
      generalize hX : World.drew wc = V0
      replace bU : Bk V0 (w.heap.size) #[.int .i64 a, .int .i64 b] 23 := by rw [← hX]; exact bU
      replace bV : Bk V0 (w.heap.size + 1) #[.int .i64 c, .int .i64 d] 23 := by rw [← hX]; exact bV
      have hb : Below wc.heap.size wc V0 := by rw [← hX]; exact (Below.refl _ _).drew
      clear hX
      replace HW := Lib.hid (bel_end HW.out hb)
      clear hb
      have hS := HSp.out _ bU bV
      refine wpAnyH_take (i := 0) (oi := { dst := some 18, op := Go.Op.load 23 (Go.Operand.tmp 2), type := 23, pos := "exact.go:4024", after := #[], guard := none }) (v := ?_) rfl (by kernel_rfl) (by kernel_rfl) (by kernel_rfl) (fun _ _ _ h => h) (Or.inl ⟨by rfl, ?_⟩) hS ?_
      rotate_left
      · (intro w hSw; have hSw := (HSd.out w).1 hSw; go_split_ands; go_simp) <;> with_reducible rfl
      clear hS
      try simp only [Act.put, List.setIfInBounds_toArray, List.set_cons_zero, List.set_cons_succ]
      have hS := HSp.out _ bU bV
      refine wpAnyH_take (i := 2) (oi := { dst := some 20, op := Go.Op.load 23 (Go.Operand.tmp 3), type := 23, pos := "exact.go:4024", after := #[], guard := none }) (v := ?_) rfl (by kernel_rfl) (by kernel_rfl) (by kernel_rfl) (fun _ _ _ h => h) (Or.inl ⟨by rfl, ?_⟩) hS ?_
      rotate_left
      · (intro w hSw; have hSw := (HSd.out w).1 hSw; go_split_ands; go_simp) <;> with_reducible rfl
      clear hS
      try simp only [Act.put, List.setIfInBounds_toArray, List.set_cons_zero, List.set_cons_succ]
      refine wpAnyH_ready (rs := [1]) (by kernel_rfl) (by simp) ?_
      refine AllReadyH.cons (o := { dst := some 19, op := Go.Op.call { callee := Go.Callee.value (Go.Operand.func 17), args := #[Go.Operand.tmp 18], argTypes := #[23] }, type := 25, pos := "exact.go:4024", after := #[{ on := 0, ground := Go.Ground.data }], guard := none }) rfl (fun Kn hK => ?_) AllReadyH.nil
      first | go_at_call 17 | (go_simp; go_at_call 17)
      (with_reducible refine Calls.mono (tpt_any _ _ _) ?_)
      rintro e V1 ⟨rfl, hb⟩
      try dsimp only
      try simp only [Act.put, List.setIfInBounds_toArray, List.set_cons_zero, List.set_cons_succ]
      replace bU := bU.on hb
      replace bV := bV.on hb
      replace HW := Lib.hid (bel_end HW.out hb)
      clear hb
      refine hK.out _ _ (HSp.out _ bU bV) (fun _ => ?_)
      clear hK Kn
      refine wpAnyH_ready (rs := [3]) (by kernel_rfl) (by simp) ?_
      refine AllReadyH.cons (o := { dst := some 21, op := Go.Op.call { callee := Go.Callee.value (Go.Operand.func 17), args := #[Go.Operand.tmp 20], argTypes := #[23] }, type := 25, pos := "exact.go:4024", after := #[{ on := 2, ground := Go.Ground.data }, { on := 1, ground := Go.Ground.chain }], guard := none }) rfl (fun Kn hK => ?_) AllReadyH.nil
      first | go_at_call 17 | (go_simp; go_at_call 17)
      (with_reducible refine Calls.mono (tpt_any _ _ _) ?_)
      rintro e V2 ⟨rfl, hb⟩
      try dsimp only
      try simp only [Act.put, List.setIfInBounds_toArray, List.set_cons_zero, List.set_cons_succ]
      replace bU := bU.on hb
      replace bV := bV.on hb
      replace HW := Lib.hid (bel_end HW.out hb)
      clear hb
      refine hK.out _ _ (HSp.out _ bU bV) (fun _ => ?_)
      clear hK Kn
      refine wpAnyH_ready (rs := [4]) (by kernel_rfl) (by simp) ?_
      refine AllReadyH.cons (o := { dst := some 22, op := Go.Op.call { callee := Go.Callee.value (Go.Operand.func 22), args := #[Go.Operand.tmp 19, Go.Operand.tmp 21], argTypes := #[25, 25] }, type := 28, pos := "exact.go:4024", after := #[{ on := 1, ground := Go.Ground.data }, { on := 3, ground := Go.Ground.data }, { on := 3, ground := Go.Ground.chain }], guard := none }) rfl (fun Kn hK => ?_) AllReadyH.nil
      first | go_at_call 22 | (go_simp; go_at_call 22)
      (with_reducible refine Calls.mono (S2.out _) ?_)
      rintro e V3 ⟨rfl, hb⟩
      try dsimp only
      try simp only [Act.put, List.setIfInBounds_toArray, List.set_cons_zero, List.set_cons_succ]
      replace bU := bU.on hb
      replace bV := bV.on hb
      replace HW := Lib.hid (bel_end HW.out hb)
      clear hb
      refine hK.out _ _ (HSp.out _ bU bV) (fun _ => ?_)
      clear hK Kn
      have hS := HSp.out _ bU bV
      refine wpAnyH_take (i := 5) (oi := { dst := some 17, op := Go.Op.move (Go.Operand.tmp 22), type := 28, pos := "exact.go:4024", after := #[{ on := 4, ground := Go.Ground.data }], guard := none }) (v := ?_) rfl (by kernel_rfl) (by kernel_rfl) (by kernel_rfl) (fun _ _ _ h => h) (Or.inl ⟨by rfl, ?_⟩) hS ?_
      rotate_left
      · (intro w hSw; have hSw := (HSd.out w).1 hSw; go_split_ands; go_simp) <;> with_reducible rfl
      clear hS
      try simp only [Act.put, List.setIfInBounds_toArray, List.set_cons_zero, List.set_cons_succ]
      have hS := HSp.out _ bU bV
      refine wpAnyH_take (i := 6) (oi := { dst := some 23, op := Go.Op.extract (Go.Operand.tmp 17) 0, type := 2, pos := "exact.go:4024", after := #[{ on := 5, ground := Go.Ground.data }], guard := none }) (v := ?_) rfl (by kernel_rfl) (by kernel_rfl) (by kernel_rfl) (fun _ _ _ h => h) (Or.inl ⟨by rfl, ?_⟩) hS ?_
      rotate_left
      · (intro w hSw; have hSw := (HSd.out w).1 hSw; go_split_ands; go_simp) <;> with_reducible rfl
      clear hS
      try simp only [Act.put, List.setIfInBounds_toArray, List.set_cons_zero, List.set_cons_succ]
      have hS := HSp.out _ bU bV
      refine wpAnyH_take (i := 7) (oi := { dst := some 24, op := Go.Op.extract (Go.Operand.tmp 17) 1, type := 2, pos := "exact.go:4024", after := #[{ on := 5, ground := Go.Ground.data }, { on := 8, ground := Go.Ground.gcOnly Go.Departure.lateStores }], guard := none }) (v := ?_) rfl (by kernel_rfl) (by kernel_rfl) (by kernel_rfl) (fun _ _ _ h => h) (Or.inl ⟨by rfl, ?_⟩) hS ?_
      rotate_left
      · (intro w hSw; have hSw := (HSd.out w).1 hSw; go_split_ands; go_simp) <;> with_reducible rfl
      clear hS
      try simp only [Act.put, List.setIfInBounds_toArray, List.set_cons_zero, List.set_cons_succ]
      have hS := HSp.out _ bU bV
      refine wpAnyH_take (i := 8) (oi := { dst := some 7, op := Go.Op.assign (Go.Operand.tmp 23), type := 2, pos := "exact.go:4024", after := #[{ on := 6, ground := Go.Ground.data }, { on := 4, ground := Go.Ground.chain }, { on := 0, ground := Go.Ground.phase }, { on := 1, ground := Go.Ground.phase }, { on := 2, ground := Go.Ground.phase }, { on := 3, ground := Go.Ground.phase }, { on := 4, ground := Go.Ground.phase }, { on := 5, ground := Go.Ground.phase }, { on := 6, ground := Go.Ground.phase }, { on := 7, ground := Go.Ground.textOnly Go.Departure.lateStores }], guard := none }) (v := ?_) rfl (by kernel_rfl) (by kernel_rfl) (by kernel_rfl) (fun _ _ _ h => h) (Or.inl ⟨by rfl, ?_⟩) hS ?_
      rotate_left
      · (intro w hSw; have hSw := (HSd.out w).1 hSw; go_split_ands; go_simp) <;> with_reducible rfl
      clear hS
      try simp only [Act.put, List.setIfInBounds_toArray, List.set_cons_zero, List.set_cons_succ]
      have hS := HSp.out _ bU bV
      refine wpAnyH_take (i := 9) (oi := { dst := some 8, op := Go.Op.assign (Go.Operand.tmp 24), type := 2, pos := "exact.go:4024", after := #[{ on := 7, ground := Go.Ground.data }, { on := 8, ground := Go.Ground.chain }, { on := 0, ground := Go.Ground.phase }, { on := 1, ground := Go.Ground.phase }, { on := 2, ground := Go.Ground.phase }, { on := 3, ground := Go.Ground.phase }, { on := 4, ground := Go.Ground.phase }, { on := 5, ground := Go.Ground.phase }, { on := 6, ground := Go.Ground.phase }, { on := 7, ground := Go.Ground.phase }, { on := 8, ground := Go.Ground.phase }], guard := none }) (v := ?_) rfl (by kernel_rfl) (by kernel_rfl) (by kernel_rfl) (fun _ _ _ h => h) (Or.inl ⟨by rfl, ?_⟩) hS ?_
      rotate_left
      · (intro w hSw; have hSw := (HSd.out w).1 hSw; go_split_ands; go_simp) <;> with_reducible rfl
      clear hS
      try simp only [Act.put, List.setIfInBounds_toArray, List.set_cons_zero, List.set_cons_succ]
      refine wpAnyH_done (by kernel_rfl) ?_ _
      go_wp2_with fail
      go_meet
      exact ⟨rfl, rfl, HW.out⟩
    case rest =>
      obtain ⟨rfl, rfl, hb⟩ := hcut
      replace bU := bU.on hb
      replace bV := bV.on hb
      replace HB := Lib.hid (bel_end HB.out hb)
      clear hb
      obtain ⟨WCb, hWC⟩ : ∃ W, W = wc := ⟨_, rfl⟩
      skip
      have bU_0 := bU.cell 0 rfl
      have bU_1 := bU.cell 1 rfl
      have bU_l := bU.lt
      have bV_0 := bV.cell 0 rfl
      have bV_1 := bV.cell 1 rfl
      have bV_l := bV.lt
      go_wp2_with fail
      clear bU_0 bU_1 bU_l bV_0 bV_1 bV_l
      go_ret
      exact ⟨rfl, HB.out⟩
end Go.Proofs.Ytkjpjhklnaehbaa
