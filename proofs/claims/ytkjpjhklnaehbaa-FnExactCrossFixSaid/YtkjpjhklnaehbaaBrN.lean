/- The walk of the exact law of CrossFix: it returns true and writes nothing that was there. -/
import Derived.Test.YtkjpjhklnaehbaaBrL
import Derived.Test.YtkjpjhklnaehbaaBrX
import Derived.Test.YtkjpjhklnaehbaaBrH
import Derived.Deep.RegionHeld3
import Derived.Deep.DeepCutAuto
import Derived.Deep.DrawnRows
import Derived.Deep.RegionWith
namespace Go.Proofs.Ytkjpjhklnaehbaa
open Go.ChangeShapes Go.WideShapes Go.ChangeAt Go.RowKit Go.Shelf Num
set_option linter.unusedVariables false
set_option linter.unusedSimpArgs false

set_option maxRecDepth 100000 in
set_option maxHeartbeats 8000000 in
theorem lcfx (px py ux uy qx qy vx vy : Int) (w : World) :
    Calls Try.prog 6 #[.agg #[.int .i64 px, .int .i64 py], .agg #[.int .i64 ux, .int .i64 uy], .agg #[.int .i64 qx, .int .i64 qy], .agg #[.int .i64 vx, .int .i64 vy]] w fun e w' => e = .returned (.bool true) ∧ Below w.heap.size w w' := by
  obtain ⟨⟨p, q, r, t, c⟩, hT⟩ : ∃ qq, cfT px py ux uy qx qy vx vy = qq := ⟨_, rfl⟩
  have S1 : Hid (∀ W : World, Calls Try.prog 23 #[.agg #[.int .i64 px, .int .i64 py], .agg #[.int .i64 ux, .int .i64 uy], .agg #[.int .i64 qx, .int .i64 qy], .agg #[.int .i64 vx, .int .i64 vy]] W fun e w' => e = .returned (.tuple #[.agg #[.int .i64 p, .int .i64 q], .agg #[.int .i64 r, .int .i64 t], .int .i64 c]) ∧ Below W.heap.size W w') := Lib.hid (fun W => by have := scf_any W px py ux uy qx qy vx vy; rwa [hT] at this)
  have S2 : Hid (∀ W : World, Calls Try.prog 24 #[.agg #[.int .i64 px, .int .i64 py], .agg #[.int .i64 ux, .int .i64 uy], .agg #[.int .i64 qx, .int .i64 qy], .agg #[.int .i64 vx, .int .i64 vy]] W fun e w' => e = .returned (.tuple #[.agg #[.int .i64 p, .int .i64 q], .agg #[.int .i64 r, .int .i64 t], .int .i64 c]) ∧ Below W.heap.size W w') := Lib.hid (fun W => by have := icf_any W px py ux uy qx qy vx vy; rwa [hT] at this)
  clear hT
  go_enter Try.func6, Try.ntmps6
  go_upto_region 1 with fail
  generalize hW : World.alloc _ _ = W
  have bP : Bk W (w.heap.size) #[.int .i64 px, .int .i64 py] 23 := by rw [← hW]; repeat (first | (refine Bk.new' ?_; (simp; done)) | refine Bk.alloc ?_ _)
  have bU : Bk W (w.heap.size + 1) #[.int .i64 ux, .int .i64 uy] 23 := by rw [← hW]; repeat (first | (refine Bk.new' ?_; (simp; done)) | refine Bk.alloc ?_ _)
  have bQ : Bk W (w.heap.size + 1 + 1) #[.int .i64 qx, .int .i64 qy] 23 := by rw [← hW]; repeat (first | (refine Bk.new' ?_; (simp; done)) | refine Bk.alloc ?_ _)
  have bV : Bk W (w.heap.size + 1 + 1 + 1) #[.int .i64 vx, .int .i64 vy] 23 := by rw [← hW]; repeat (first | (refine Bk.new' ?_; (simp; done)) | refine Bk.alloc ?_ _)
  have HB : Hid (Below w.heap.size w W) := Lib.hid (by rw [← hW]; exact (by repeat (first | exact Below.refl _ _ | (refine Below.alloc ?_ (by simp <;> omega) _) | (refine Below.setCell ?_ (by simp <;> omega) _) | (refine Below.drew ?_) | (refine bel_drewN ?_ _))))
  clear hW
  have bP_0 := bP.cell 0 rfl
  have bP_1 := bP.cell 1 rfl
  have bP_l := bP.lt
  have bU_0 := bU.cell 0 rfl
  have bU_1 := bU.cell 1 rfl
  have bU_l := bU.lt
  have bQ_0 := bQ.cell 0 rfl
  have bQ_1 := bQ.cell 1 rfl
  have bQ_l := bQ.lt
  have bV_0 := bV.cell 0 rfl
  have bV_1 := bV.cell 1 rfl
  have bV_l := bV.lt
  go_upto_region 1 with fail
  clear bP_0 bP_1 bP_l bU_0 bU_1 bU_l bQ_0 bQ_1 bQ_l bV_0 bV_1 bV_l
  go_cut [9, 10, 11] (fun s9 s10 s11 wx => XR2 wx s9 s10 s11 #[.int .i64 p, .int .i64 q] 34 #[.int .i64 r, .int .i64 t] 34 (c) ∧ Below W.heap.size W wx)
  case first =>
    have HW : Hid (Below W.heap.size W W) := Lib.hid (Below.refl _ _)
    obtain ⟨S, hSd⟩ : ∃ S : World → Prop, ∀ w', S w' ↔ (w'.cell? ⟨w.heap.size, 0, none⟩ = some (.int .i64 px) ∧ w'.cell? ⟨w.heap.size, 1, none⟩ = some (.int .i64 py) ∧ w'.cell? ⟨w.heap.size + 1, 0, none⟩ = some (.int .i64 ux) ∧ w'.cell? ⟨w.heap.size + 1, 1, none⟩ = some (.int .i64 uy) ∧ w'.cell? ⟨w.heap.size + 1 + 1, 0, none⟩ = some (.int .i64 qx) ∧ w'.cell? ⟨w.heap.size + 1 + 1, 1, none⟩ = some (.int .i64 qy) ∧ w'.cell? ⟨w.heap.size + 1 + 1 + 1, 0, none⟩ = some (.int .i64 vx) ∧ w'.cell? ⟨w.heap.size + 1 + 1 + 1, 1, none⟩ = some (.int .i64 vy)) := ⟨_, fun _ => Iff.rfl⟩
    have HSp : Hid (∀ w' : World, Bk w' (w.heap.size) #[.int .i64 px, .int .i64 py] 23 → Bk w' (w.heap.size + 1) #[.int .i64 ux, .int .i64 uy] 23 → Bk w' (w.heap.size + 1 + 1) #[.int .i64 qx, .int .i64 qy] 23 → Bk w' (w.heap.size + 1 + 1 + 1) #[.int .i64 vx, .int .i64 vy] 23 → S w') := Lib.hid (fun w' bP bU bQ bV => (hSd w').2 ⟨bP.cell 0 rfl, bP.cell 1 rfl, bU.cell 0 rfl, bU.cell 1 rfl, bQ.cell 0 rfl, bQ.cell 1 rfl, bV.cell 0 rfl, bV.cell 1 rfl⟩)
    have HSd := Lib.hid hSd
    clear hSd
    refine wp_region_held_drew (S := S) (by kernel_rfl) ?_ (fun hH => ?_)
    · exact (HSp.out _ bP bU bQ bV : S (World.drew W))
    clear hH
    generalize hX : World.drew W = V0
    replace bP : Bk V0 (w.heap.size) #[.int .i64 px, .int .i64 py] 23 := by rw [← hX]; exact bP
    replace bU : Bk V0 (w.heap.size + 1) #[.int .i64 ux, .int .i64 uy] 23 := by rw [← hX]; exact bU
    replace bQ : Bk V0 (w.heap.size + 1 + 1) #[.int .i64 qx, .int .i64 qy] 23 := by rw [← hX]; exact bQ
    replace bV : Bk V0 (w.heap.size + 1 + 1 + 1) #[.int .i64 vx, .int .i64 vy] 23 := by rw [← hX]; exact bV
    have hb : Below W.heap.size W V0 := by rw [← hX]; exact (Below.refl _ _).drew
    clear hX
    replace HW := Lib.hid (bel_end HW.out hb)
    clear hb
    have hS := HSp.out _ bP bU bQ bV
    refine wpAnyH_take (i := 0) (oi := { dst := some 16, op := Go.Op.load 23 (Go.Operand.tmp 4), type := 23, pos := "exact.go:4033", after := #[], guard := none }) (v := ?_) rfl (by kernel_rfl) (by kernel_rfl) (by kernel_rfl) (fun _ _ _ h => h) (Or.inl ⟨by rfl, ?_⟩) hS ?_
    rotate_left
    · (intro w hSw; have hSw := (HSd.out w).1 hSw; go_split_ands; go_simp) <;> with_reducible rfl
    clear hS
    try simp only [Act.put, List.setIfInBounds_toArray, List.set_cons_zero, List.set_cons_succ]
    have hS := HSp.out _ bP bU bQ bV
    refine wpAnyH_take (i := 2) (oi := { dst := some 18, op := Go.Op.load 23 (Go.Operand.tmp 5), type := 23, pos := "exact.go:4033", after := #[], guard := none }) (v := ?_) rfl (by kernel_rfl) (by kernel_rfl) (by kernel_rfl) (fun _ _ _ h => h) (Or.inl ⟨by rfl, ?_⟩) hS ?_
    rotate_left
    · (intro w hSw; have hSw := (HSd.out w).1 hSw; go_split_ands; go_simp) <;> with_reducible rfl
    clear hS
    try simp only [Act.put, List.setIfInBounds_toArray, List.set_cons_zero, List.set_cons_succ]
    have hS := HSp.out _ bP bU bQ bV
    refine wpAnyH_take (i := 4) (oi := { dst := some 20, op := Go.Op.load 23 (Go.Operand.tmp 6), type := 23, pos := "exact.go:4033", after := #[], guard := none }) (v := ?_) rfl (by kernel_rfl) (by kernel_rfl) (by kernel_rfl) (fun _ _ _ h => h) (Or.inl ⟨by rfl, ?_⟩) hS ?_
    rotate_left
    · (intro w hSw; have hSw := (HSd.out w).1 hSw; go_split_ands; go_simp) <;> with_reducible rfl
    clear hS
    try simp only [Act.put, List.setIfInBounds_toArray, List.set_cons_zero, List.set_cons_succ]
    have hS := HSp.out _ bP bU bQ bV
    refine wpAnyH_take (i := 6) (oi := { dst := some 22, op := Go.Op.load 23 (Go.Operand.tmp 7), type := 23, pos := "exact.go:4033", after := #[], guard := none }) (v := ?_) rfl (by kernel_rfl) (by kernel_rfl) (by kernel_rfl) (fun _ _ _ h => h) (Or.inl ⟨by rfl, ?_⟩) hS ?_
    rotate_left
    · (intro w hSw; have hSw := (HSd.out w).1 hSw; go_split_ands; go_simp) <;> with_reducible rfl
    clear hS
    try simp only [Act.put, List.setIfInBounds_toArray, List.set_cons_zero, List.set_cons_succ]
    refine wpAnyH_ready (rs := [1, 13, 14]) (by decide +kernel) (by simp) ?_
    refine AllReadyH.cons (o := { dst := some 17, op := Go.Op.call { callee := Go.Callee.value (Go.Operand.func 17), args := #[Go.Operand.tmp 16], argTypes := #[23] }, type := 25, pos := "exact.go:4033", after := #[{ on := 0, ground := Go.Ground.data }], guard := none }) rfl (fun Kn hK => ?_) ?_
    first | go_at_call 17 | (go_simp; go_at_call 17)
    (with_reducible refine Calls.mono (tpt_any _ _ _) ?_)
    rintro e V1 ⟨rfl, hb⟩
    try dsimp only
    try simp only [Act.put, List.setIfInBounds_toArray, List.set_cons_zero, List.set_cons_succ]
    replace bP := bP.on hb
    replace bU := bU.on hb
    replace bQ := bQ.on hb
    replace bV := bV.on hb
    replace HW := Lib.hid (bel_end HW.out hb)
    clear hb
    refine hK.out _ _ (HSp.out _ bP bU bQ bV) (fun _ => ?_)
    clear hK Kn
    rotate_left
    refine AllReadyH.cons (o := { dst := some 9, op := Go.Op.alloc 34, type := 0, pos := "exact.go:4033", after := #[], guard := none }) rfl (fun Kn hK => ?_) ?_
    go_simp
    generalize hX : World.alloc V0 _ = V1
    obtain ⟨g13, hg⟩ : ∃ g, g = V0.heap.size := ⟨_, rfl⟩
    have bn13 : Bk V1 g13 #[.int .i64 0, .int .i64 0] 34 := by rw [← hX]; exact Bk.new' hg
    have le13 : W.heap.size ≤ g13 := by rw [hg]; exact HW.out.size
    have nebP_13 : w.heap.size ≠ g13 := by have := bP.lt; omega
    have nebU_13 : w.heap.size + 1 ≠ g13 := by have := bU.lt; omega
    have nebQ_13 : w.heap.size + 1 + 1 ≠ g13 := by have := bQ.lt; omega
    have nebV_13 : w.heap.size + 1 + 1 + 1 ≠ g13 := by have := bV.lt; omega
    try rw [← hg]
    have hb : Below V0.heap.size V0 V1 := by rw [← hX]; exact (Below.refl _ _).alloc (Nat.le_refl _) _
    clear hX hg
    replace bP := bP.on hb
    replace bU := bU.on hb
    replace bQ := bQ.on hb
    replace bV := bV.on hb
    replace HW := Lib.hid (bel_end HW.out hb)
    clear hb
    refine hK.out _ _ (HSp.out _ bP bU bQ bV) (fun _ => ?_)
    clear hK Kn
    rotate_left
    refine AllReadyH.cons (o := { dst := some 10, op := Go.Op.alloc 34, type := 0, pos := "exact.go:4033", after := #[], guard := none }) rfl (fun Kn hK => ?_) AllReadyH.nil
    go_simp
    generalize hX : World.alloc V0 _ = V1
    obtain ⟨g14, hg⟩ : ∃ g, g = V0.heap.size := ⟨_, rfl⟩
    have bn14 : Bk V1 g14 #[.int .i64 0, .int .i64 0] 34 := by rw [← hX]; exact Bk.new' hg
    have le14 : W.heap.size ≤ g14 := by rw [hg]; exact HW.out.size
    have nebP_14 : w.heap.size ≠ g14 := by have := bP.lt; omega
    have nebU_14 : w.heap.size + 1 ≠ g14 := by have := bU.lt; omega
    have nebQ_14 : w.heap.size + 1 + 1 ≠ g14 := by have := bQ.lt; omega
    have nebV_14 : w.heap.size + 1 + 1 + 1 ≠ g14 := by have := bV.lt; omega
    try rw [← hg]
    have hb : Below V0.heap.size V0 V1 := by rw [← hX]; exact (Below.refl _ _).alloc (Nat.le_refl _) _
    clear hX hg
    replace bP := bP.on hb
    replace bU := bU.on hb
    replace bQ := bQ.on hb
    replace bV := bV.on hb
    replace HW := Lib.hid (bel_end HW.out hb)
    clear hb
    refine hK.out _ _ (HSp.out _ bP bU bQ bV) (fun _ => ?_)
    clear hK Kn
    all_goals
      first
      | (refine wpAnyH_ready (rs := [3, 13, 14]) (by decide +kernel) (by simp) ?_
         refine AllReadyH.cons (o := { dst := some 19, op := Go.Op.call { callee := Go.Callee.value (Go.Operand.func 17), args := #[Go.Operand.tmp 18], argTypes := #[23] }, type := 25, pos := "exact.go:4033", after := #[{ on := 2, ground := Go.Ground.data }, { on := 1, ground := Go.Ground.chain }], guard := none }) rfl (fun Kn hK => ?_) ?_
         first | go_at_call 17 | (go_simp; go_at_call 17)
         (with_reducible refine Calls.mono (tpt_any _ _ _) ?_)
         rintro e V2 ⟨rfl, hb⟩
         try dsimp only
         try simp only [Act.put, List.setIfInBounds_toArray, List.set_cons_zero, List.set_cons_succ]
         replace bP := bP.on hb
         replace bU := bU.on hb
         replace bQ := bQ.on hb
         replace bV := bV.on hb
         replace HW := Lib.hid (bel_end HW.out hb)
         clear hb
         refine hK.out _ _ (HSp.out _ bP bU bQ bV) (fun _ => ?_)
         clear hK Kn
         rotate_left
         refine AllReadyH.cons (o := { dst := some 9, op := Go.Op.alloc 34, type := 0, pos := "exact.go:4033", after := #[], guard := none }) rfl (fun Kn hK => ?_) ?_
         go_simp
         generalize hX : World.alloc V1 _ = V2
         obtain ⟨g13, hg⟩ : ∃ g, g = V1.heap.size := ⟨_, rfl⟩
         have bn13 : Bk V2 g13 #[.int .i64 0, .int .i64 0] 34 := by rw [← hX]; exact Bk.new' hg
         have le13 : W.heap.size ≤ g13 := by rw [hg]; exact HW.out.size
         have nebP_13 : w.heap.size ≠ g13 := by have := bP.lt; omega
         have nebU_13 : w.heap.size + 1 ≠ g13 := by have := bU.lt; omega
         have nebQ_13 : w.heap.size + 1 + 1 ≠ g13 := by have := bQ.lt; omega
         have nebV_13 : w.heap.size + 1 + 1 + 1 ≠ g13 := by have := bV.lt; omega
         try rw [← hg]
         have hb : Below V1.heap.size V1 V2 := by rw [← hX]; exact (Below.refl _ _).alloc (Nat.le_refl _) _
         clear hX hg
         replace bP := bP.on hb
         replace bU := bU.on hb
         replace bQ := bQ.on hb
         replace bV := bV.on hb
         replace HW := Lib.hid (bel_end HW.out hb)
         clear hb
         refine hK.out _ _ (HSp.out _ bP bU bQ bV) (fun _ => ?_)
         clear hK Kn
         rotate_left
         refine AllReadyH.cons (o := { dst := some 10, op := Go.Op.alloc 34, type := 0, pos := "exact.go:4033", after := #[], guard := none }) rfl (fun Kn hK => ?_) AllReadyH.nil
         go_simp
         generalize hX : World.alloc V1 _ = V2
         obtain ⟨g14, hg⟩ : ∃ g, g = V1.heap.size := ⟨_, rfl⟩
         have bn14 : Bk V2 g14 #[.int .i64 0, .int .i64 0] 34 := by rw [← hX]; exact Bk.new' hg
         have le14 : W.heap.size ≤ g14 := by rw [hg]; exact HW.out.size
         have nebP_14 : w.heap.size ≠ g14 := by have := bP.lt; omega
         have nebU_14 : w.heap.size + 1 ≠ g14 := by have := bU.lt; omega
         have nebQ_14 : w.heap.size + 1 + 1 ≠ g14 := by have := bQ.lt; omega
         have nebV_14 : w.heap.size + 1 + 1 + 1 ≠ g14 := by have := bV.lt; omega
         try rw [← hg]
         have hb : Below V1.heap.size V1 V2 := by rw [← hX]; exact (Below.refl _ _).alloc (Nat.le_refl _) _
         clear hX hg
         replace bP := bP.on hb
         replace bU := bU.on hb
         replace bQ := bQ.on hb
         replace bV := bV.on hb
         replace HW := Lib.hid (bel_end HW.out hb)
         clear hb
         refine hK.out _ _ (HSp.out _ bP bU bQ bV) (fun _ => ?_)
         clear hK Kn)
      | (refine wpAnyH_ready (rs := [1, 14]) (by decide +kernel) (by simp) ?_
         refine AllReadyH.cons (o := { dst := some 17, op := Go.Op.call { callee := Go.Callee.value (Go.Operand.func 17), args := #[Go.Operand.tmp 16], argTypes := #[23] }, type := 25, pos := "exact.go:4033", after := #[{ on := 0, ground := Go.Ground.data }], guard := none }) rfl (fun Kn hK => ?_) ?_
         first | go_at_call 17 | (go_simp; go_at_call 17)
         (with_reducible refine Calls.mono (tpt_any _ _ _) ?_)
         rintro e V2 ⟨rfl, hb⟩
         try dsimp only
         try simp only [Act.put, List.setIfInBounds_toArray, List.set_cons_zero, List.set_cons_succ]
         replace bP := bP.on hb
         replace bU := bU.on hb
         replace bQ := bQ.on hb
         replace bV := bV.on hb
         replace bn13 := bn13.on hb
         replace HW := Lib.hid (bel_end HW.out hb)
         clear hb
         refine hK.out _ _ (HSp.out _ bP bU bQ bV) (fun _ => ?_)
         clear hK Kn
         rotate_left
         refine AllReadyH.cons (o := { dst := some 10, op := Go.Op.alloc 34, type := 0, pos := "exact.go:4033", after := #[], guard := none }) rfl (fun Kn hK => ?_) AllReadyH.nil
         go_simp
         generalize hX : World.alloc V1 _ = V2
         obtain ⟨g14, hg⟩ : ∃ g, g = V1.heap.size := ⟨_, rfl⟩
         have bn14 : Bk V2 g14 #[.int .i64 0, .int .i64 0] 34 := by rw [← hX]; exact Bk.new' hg
         have le14 : W.heap.size ≤ g14 := by rw [hg]; exact HW.out.size
         have nebP_14 : w.heap.size ≠ g14 := by have := bP.lt; omega
         have nebU_14 : w.heap.size + 1 ≠ g14 := by have := bU.lt; omega
         have nebQ_14 : w.heap.size + 1 + 1 ≠ g14 := by have := bQ.lt; omega
         have nebV_14 : w.heap.size + 1 + 1 + 1 ≠ g14 := by have := bV.lt; omega
         have ne13_14 : g13 ≠ g14 := by have := bn13.lt; omega
         try rw [← hg]
         have hb : Below V1.heap.size V1 V2 := by rw [← hX]; exact (Below.refl _ _).alloc (Nat.le_refl _) _
         clear hX hg
         replace bP := bP.on hb
         replace bU := bU.on hb
         replace bQ := bQ.on hb
         replace bV := bV.on hb
         replace bn13 := bn13.on hb
         replace HW := Lib.hid (bel_end HW.out hb)
         clear hb
         refine hK.out _ _ (HSp.out _ bP bU bQ bV) (fun _ => ?_)
         clear hK Kn)
      | (refine wpAnyH_ready (rs := [1, 13]) (by decide +kernel) (by simp) ?_
         refine AllReadyH.cons (o := { dst := some 17, op := Go.Op.call { callee := Go.Callee.value (Go.Operand.func 17), args := #[Go.Operand.tmp 16], argTypes := #[23] }, type := 25, pos := "exact.go:4033", after := #[{ on := 0, ground := Go.Ground.data }], guard := none }) rfl (fun Kn hK => ?_) ?_
         first | go_at_call 17 | (go_simp; go_at_call 17)
         (with_reducible refine Calls.mono (tpt_any _ _ _) ?_)
         rintro e V2 ⟨rfl, hb⟩
         try dsimp only
         try simp only [Act.put, List.setIfInBounds_toArray, List.set_cons_zero, List.set_cons_succ]
         replace bP := bP.on hb
         replace bU := bU.on hb
         replace bQ := bQ.on hb
         replace bV := bV.on hb
         replace bn14 := bn14.on hb
         replace HW := Lib.hid (bel_end HW.out hb)
         clear hb
         refine hK.out _ _ (HSp.out _ bP bU bQ bV) (fun _ => ?_)
         clear hK Kn
         rotate_left
         refine AllReadyH.cons (o := { dst := some 9, op := Go.Op.alloc 34, type := 0, pos := "exact.go:4033", after := #[], guard := none }) rfl (fun Kn hK => ?_) AllReadyH.nil
         go_simp
         generalize hX : World.alloc V1 _ = V2
         obtain ⟨g13, hg⟩ : ∃ g, g = V1.heap.size := ⟨_, rfl⟩
         have bn13 : Bk V2 g13 #[.int .i64 0, .int .i64 0] 34 := by rw [← hX]; exact Bk.new' hg
         have le13 : W.heap.size ≤ g13 := by rw [hg]; exact HW.out.size
         have nebP_13 : w.heap.size ≠ g13 := by have := bP.lt; omega
         have nebU_13 : w.heap.size + 1 ≠ g13 := by have := bU.lt; omega
         have nebQ_13 : w.heap.size + 1 + 1 ≠ g13 := by have := bQ.lt; omega
         have nebV_13 : w.heap.size + 1 + 1 + 1 ≠ g13 := by have := bV.lt; omega
         have ne13_14 : g13 ≠ g14 := by have := bn14.lt; omega
         try rw [← hg]
         have hb : Below V1.heap.size V1 V2 := by rw [← hX]; exact (Below.refl _ _).alloc (Nat.le_refl _) _
         clear hX hg
         replace bP := bP.on hb
         replace bU := bU.on hb
         replace bQ := bQ.on hb
         replace bV := bV.on hb
         replace bn14 := bn14.on hb
         replace HW := Lib.hid (bel_end HW.out hb)
         clear hb
         refine hK.out _ _ (HSp.out _ bP bU bQ bV) (fun _ => ?_)
         clear hK Kn)
    all_goals
      first
      | (refine wpAnyH_ready (rs := [5, 13, 14]) (by decide +kernel) (by simp) ?_
         refine AllReadyH.cons (o := { dst := some 21, op := Go.Op.call { callee := Go.Callee.value (Go.Operand.func 17), args := #[Go.Operand.tmp 20], argTypes := #[23] }, type := 25, pos := "exact.go:4033", after := #[{ on := 4, ground := Go.Ground.data }, { on := 3, ground := Go.Ground.chain }], guard := none }) rfl (fun Kn hK => ?_) ?_
         first | go_at_call 17 | (go_simp; go_at_call 17)
         (with_reducible refine Calls.mono (tpt_any _ _ _) ?_)
         rintro e V3 ⟨rfl, hb⟩
         try dsimp only
         try simp only [Act.put, List.setIfInBounds_toArray, List.set_cons_zero, List.set_cons_succ]
         replace bP := bP.on hb
         replace bU := bU.on hb
         replace bQ := bQ.on hb
         replace bV := bV.on hb
         replace HW := Lib.hid (bel_end HW.out hb)
         clear hb
         refine hK.out _ _ (HSp.out _ bP bU bQ bV) (fun _ => ?_)
         clear hK Kn
         rotate_left
         refine AllReadyH.cons (o := { dst := some 9, op := Go.Op.alloc 34, type := 0, pos := "exact.go:4033", after := #[], guard := none }) rfl (fun Kn hK => ?_) ?_
         go_simp
         generalize hX : World.alloc V2 _ = V3
         obtain ⟨g13, hg⟩ : ∃ g, g = V2.heap.size := ⟨_, rfl⟩
         have bn13 : Bk V3 g13 #[.int .i64 0, .int .i64 0] 34 := by rw [← hX]; exact Bk.new' hg
         have le13 : W.heap.size ≤ g13 := by rw [hg]; exact HW.out.size
         have nebP_13 : w.heap.size ≠ g13 := by have := bP.lt; omega
         have nebU_13 : w.heap.size + 1 ≠ g13 := by have := bU.lt; omega
         have nebQ_13 : w.heap.size + 1 + 1 ≠ g13 := by have := bQ.lt; omega
         have nebV_13 : w.heap.size + 1 + 1 + 1 ≠ g13 := by have := bV.lt; omega
         try rw [← hg]
         have hb : Below V2.heap.size V2 V3 := by rw [← hX]; exact (Below.refl _ _).alloc (Nat.le_refl _) _
         clear hX hg
         replace bP := bP.on hb
         replace bU := bU.on hb
         replace bQ := bQ.on hb
         replace bV := bV.on hb
         replace HW := Lib.hid (bel_end HW.out hb)
         clear hb
         refine hK.out _ _ (HSp.out _ bP bU bQ bV) (fun _ => ?_)
         clear hK Kn
         rotate_left
         refine AllReadyH.cons (o := { dst := some 10, op := Go.Op.alloc 34, type := 0, pos := "exact.go:4033", after := #[], guard := none }) rfl (fun Kn hK => ?_) AllReadyH.nil
         go_simp
         generalize hX : World.alloc V2 _ = V3
         obtain ⟨g14, hg⟩ : ∃ g, g = V2.heap.size := ⟨_, rfl⟩
         have bn14 : Bk V3 g14 #[.int .i64 0, .int .i64 0] 34 := by rw [← hX]; exact Bk.new' hg
         have le14 : W.heap.size ≤ g14 := by rw [hg]; exact HW.out.size
         have nebP_14 : w.heap.size ≠ g14 := by have := bP.lt; omega
         have nebU_14 : w.heap.size + 1 ≠ g14 := by have := bU.lt; omega
         have nebQ_14 : w.heap.size + 1 + 1 ≠ g14 := by have := bQ.lt; omega
         have nebV_14 : w.heap.size + 1 + 1 + 1 ≠ g14 := by have := bV.lt; omega
         try rw [← hg]
         have hb : Below V2.heap.size V2 V3 := by rw [← hX]; exact (Below.refl _ _).alloc (Nat.le_refl _) _
         clear hX hg
         replace bP := bP.on hb
         replace bU := bU.on hb
         replace bQ := bQ.on hb
         replace bV := bV.on hb
         replace HW := Lib.hid (bel_end HW.out hb)
         clear hb
         refine hK.out _ _ (HSp.out _ bP bU bQ bV) (fun _ => ?_)
         clear hK Kn)
      | (refine wpAnyH_ready (rs := [3, 14]) (by decide +kernel) (by simp) ?_
         refine AllReadyH.cons (o := { dst := some 19, op := Go.Op.call { callee := Go.Callee.value (Go.Operand.func 17), args := #[Go.Operand.tmp 18], argTypes := #[23] }, type := 25, pos := "exact.go:4033", after := #[{ on := 2, ground := Go.Ground.data }, { on := 1, ground := Go.Ground.chain }], guard := none }) rfl (fun Kn hK => ?_) ?_
         first | go_at_call 17 | (go_simp; go_at_call 17)
         (with_reducible refine Calls.mono (tpt_any _ _ _) ?_)
         rintro e V3 ⟨rfl, hb⟩
         try dsimp only
         try simp only [Act.put, List.setIfInBounds_toArray, List.set_cons_zero, List.set_cons_succ]
         replace bP := bP.on hb
         replace bU := bU.on hb
         replace bQ := bQ.on hb
         replace bV := bV.on hb
         replace bn13 := bn13.on hb
         replace HW := Lib.hid (bel_end HW.out hb)
         clear hb
         refine hK.out _ _ (HSp.out _ bP bU bQ bV) (fun _ => ?_)
         clear hK Kn
         rotate_left
         refine AllReadyH.cons (o := { dst := some 10, op := Go.Op.alloc 34, type := 0, pos := "exact.go:4033", after := #[], guard := none }) rfl (fun Kn hK => ?_) AllReadyH.nil
         go_simp
         generalize hX : World.alloc V2 _ = V3
         obtain ⟨g14, hg⟩ : ∃ g, g = V2.heap.size := ⟨_, rfl⟩
         have bn14 : Bk V3 g14 #[.int .i64 0, .int .i64 0] 34 := by rw [← hX]; exact Bk.new' hg
         have le14 : W.heap.size ≤ g14 := by rw [hg]; exact HW.out.size
         have nebP_14 : w.heap.size ≠ g14 := by have := bP.lt; omega
         have nebU_14 : w.heap.size + 1 ≠ g14 := by have := bU.lt; omega
         have nebQ_14 : w.heap.size + 1 + 1 ≠ g14 := by have := bQ.lt; omega
         have nebV_14 : w.heap.size + 1 + 1 + 1 ≠ g14 := by have := bV.lt; omega
         have ne13_14 : g13 ≠ g14 := by have := bn13.lt; omega
         try rw [← hg]
         have hb : Below V2.heap.size V2 V3 := by rw [← hX]; exact (Below.refl _ _).alloc (Nat.le_refl _) _
         clear hX hg
         replace bP := bP.on hb
         replace bU := bU.on hb
         replace bQ := bQ.on hb
         replace bV := bV.on hb
         replace bn13 := bn13.on hb
         replace HW := Lib.hid (bel_end HW.out hb)
         clear hb
         refine hK.out _ _ (HSp.out _ bP bU bQ bV) (fun _ => ?_)
         clear hK Kn)
      | (refine wpAnyH_ready (rs := [3, 13]) (by decide +kernel) (by simp) ?_
         refine AllReadyH.cons (o := { dst := some 19, op := Go.Op.call { callee := Go.Callee.value (Go.Operand.func 17), args := #[Go.Operand.tmp 18], argTypes := #[23] }, type := 25, pos := "exact.go:4033", after := #[{ on := 2, ground := Go.Ground.data }, { on := 1, ground := Go.Ground.chain }], guard := none }) rfl (fun Kn hK => ?_) ?_
         first | go_at_call 17 | (go_simp; go_at_call 17)
         (with_reducible refine Calls.mono (tpt_any _ _ _) ?_)
         rintro e V3 ⟨rfl, hb⟩
         try dsimp only
         try simp only [Act.put, List.setIfInBounds_toArray, List.set_cons_zero, List.set_cons_succ]
         replace bP := bP.on hb
         replace bU := bU.on hb
         replace bQ := bQ.on hb
         replace bV := bV.on hb
         replace bn14 := bn14.on hb
         replace HW := Lib.hid (bel_end HW.out hb)
         clear hb
         refine hK.out _ _ (HSp.out _ bP bU bQ bV) (fun _ => ?_)
         clear hK Kn
         rotate_left
         refine AllReadyH.cons (o := { dst := some 9, op := Go.Op.alloc 34, type := 0, pos := "exact.go:4033", after := #[], guard := none }) rfl (fun Kn hK => ?_) AllReadyH.nil
         go_simp
         generalize hX : World.alloc V2 _ = V3
         obtain ⟨g13, hg⟩ : ∃ g, g = V2.heap.size := ⟨_, rfl⟩
         have bn13 : Bk V3 g13 #[.int .i64 0, .int .i64 0] 34 := by rw [← hX]; exact Bk.new' hg
         have le13 : W.heap.size ≤ g13 := by rw [hg]; exact HW.out.size
         have nebP_13 : w.heap.size ≠ g13 := by have := bP.lt; omega
         have nebU_13 : w.heap.size + 1 ≠ g13 := by have := bU.lt; omega
         have nebQ_13 : w.heap.size + 1 + 1 ≠ g13 := by have := bQ.lt; omega
         have nebV_13 : w.heap.size + 1 + 1 + 1 ≠ g13 := by have := bV.lt; omega
         have ne13_14 : g13 ≠ g14 := by have := bn14.lt; omega
         try rw [← hg]
         have hb : Below V2.heap.size V2 V3 := by rw [← hX]; exact (Below.refl _ _).alloc (Nat.le_refl _) _
         clear hX hg
         replace bP := bP.on hb
         replace bU := bU.on hb
         replace bQ := bQ.on hb
         replace bV := bV.on hb
         replace bn14 := bn14.on hb
         replace HW := Lib.hid (bel_end HW.out hb)
         clear hb
         refine hK.out _ _ (HSp.out _ bP bU bQ bV) (fun _ => ?_)
         clear hK Kn)
      | (refine wpAnyH_ready (rs := [1]) (by decide +kernel) (by simp) ?_
         refine AllReadyH.cons (o := { dst := some 17, op := Go.Op.call { callee := Go.Callee.value (Go.Operand.func 17), args := #[Go.Operand.tmp 16], argTypes := #[23] }, type := 25, pos := "exact.go:4033", after := #[{ on := 0, ground := Go.Ground.data }], guard := none }) rfl (fun Kn hK => ?_) AllReadyH.nil
         first | go_at_call 17 | (go_simp; go_at_call 17)
         (with_reducible refine Calls.mono (tpt_any _ _ _) ?_)
         rintro e V3 ⟨rfl, hb⟩
         try dsimp only
         try simp only [Act.put, List.setIfInBounds_toArray, List.set_cons_zero, List.set_cons_succ]
         replace bP := bP.on hb
         replace bU := bU.on hb
         replace bQ := bQ.on hb
         replace bV := bV.on hb
         replace bn13 := bn13.on hb
         replace bn14 := bn14.on hb
         replace HW := Lib.hid (bel_end HW.out hb)
         clear hb
         refine hK.out _ _ (HSp.out _ bP bU bQ bV) (fun _ => ?_)
         clear hK Kn)
    all_goals
      first
      | (refine wpAnyH_ready (rs := [7, 13, 14]) (by decide +kernel) (by simp) ?_
         refine AllReadyH.cons (o := { dst := some 23, op := Go.Op.call { callee := Go.Callee.value (Go.Operand.func 17), args := #[Go.Operand.tmp 22], argTypes := #[23] }, type := 25, pos := "exact.go:4033", after := #[{ on := 6, ground := Go.Ground.data }, { on := 5, ground := Go.Ground.chain }], guard := none }) rfl (fun Kn hK => ?_) ?_
         first | go_at_call 17 | (go_simp; go_at_call 17)
         (with_reducible refine Calls.mono (tpt_any _ _ _) ?_)
         rintro e V4 ⟨rfl, hb⟩
         try dsimp only
         try simp only [Act.put, List.setIfInBounds_toArray, List.set_cons_zero, List.set_cons_succ]
         replace bP := bP.on hb
         replace bU := bU.on hb
         replace bQ := bQ.on hb
         replace bV := bV.on hb
         replace HW := Lib.hid (bel_end HW.out hb)
         clear hb
         refine hK.out _ _ (HSp.out _ bP bU bQ bV) (fun _ => ?_)
         clear hK Kn
         rotate_left
         refine AllReadyH.cons (o := { dst := some 9, op := Go.Op.alloc 34, type := 0, pos := "exact.go:4033", after := #[], guard := none }) rfl (fun Kn hK => ?_) ?_
         go_simp
         generalize hX : World.alloc V3 _ = V4
         obtain ⟨g13, hg⟩ : ∃ g, g = V3.heap.size := ⟨_, rfl⟩
         have bn13 : Bk V4 g13 #[.int .i64 0, .int .i64 0] 34 := by rw [← hX]; exact Bk.new' hg
         have le13 : W.heap.size ≤ g13 := by rw [hg]; exact HW.out.size
         have nebP_13 : w.heap.size ≠ g13 := by have := bP.lt; omega
         have nebU_13 : w.heap.size + 1 ≠ g13 := by have := bU.lt; omega
         have nebQ_13 : w.heap.size + 1 + 1 ≠ g13 := by have := bQ.lt; omega
         have nebV_13 : w.heap.size + 1 + 1 + 1 ≠ g13 := by have := bV.lt; omega
         try rw [← hg]
         have hb : Below V3.heap.size V3 V4 := by rw [← hX]; exact (Below.refl _ _).alloc (Nat.le_refl _) _
         clear hX hg
         replace bP := bP.on hb
         replace bU := bU.on hb
         replace bQ := bQ.on hb
         replace bV := bV.on hb
         replace HW := Lib.hid (bel_end HW.out hb)
         clear hb
         refine hK.out _ _ (HSp.out _ bP bU bQ bV) (fun _ => ?_)
         clear hK Kn
         rotate_left
         refine AllReadyH.cons (o := { dst := some 10, op := Go.Op.alloc 34, type := 0, pos := "exact.go:4033", after := #[], guard := none }) rfl (fun Kn hK => ?_) AllReadyH.nil
         go_simp
         generalize hX : World.alloc V3 _ = V4
         obtain ⟨g14, hg⟩ : ∃ g, g = V3.heap.size := ⟨_, rfl⟩
         have bn14 : Bk V4 g14 #[.int .i64 0, .int .i64 0] 34 := by rw [← hX]; exact Bk.new' hg
         have le14 : W.heap.size ≤ g14 := by rw [hg]; exact HW.out.size
         have nebP_14 : w.heap.size ≠ g14 := by have := bP.lt; omega
         have nebU_14 : w.heap.size + 1 ≠ g14 := by have := bU.lt; omega
         have nebQ_14 : w.heap.size + 1 + 1 ≠ g14 := by have := bQ.lt; omega
         have nebV_14 : w.heap.size + 1 + 1 + 1 ≠ g14 := by have := bV.lt; omega
         try rw [← hg]
         have hb : Below V3.heap.size V3 V4 := by rw [← hX]; exact (Below.refl _ _).alloc (Nat.le_refl _) _
         clear hX hg
         replace bP := bP.on hb
         replace bU := bU.on hb
         replace bQ := bQ.on hb
         replace bV := bV.on hb
         replace HW := Lib.hid (bel_end HW.out hb)
         clear hb
         refine hK.out _ _ (HSp.out _ bP bU bQ bV) (fun _ => ?_)
         clear hK Kn)
      | (refine wpAnyH_ready (rs := [5, 14]) (by decide +kernel) (by simp) ?_
         refine AllReadyH.cons (o := { dst := some 21, op := Go.Op.call { callee := Go.Callee.value (Go.Operand.func 17), args := #[Go.Operand.tmp 20], argTypes := #[23] }, type := 25, pos := "exact.go:4033", after := #[{ on := 4, ground := Go.Ground.data }, { on := 3, ground := Go.Ground.chain }], guard := none }) rfl (fun Kn hK => ?_) ?_
         first | go_at_call 17 | (go_simp; go_at_call 17)
         (with_reducible refine Calls.mono (tpt_any _ _ _) ?_)
         rintro e V4 ⟨rfl, hb⟩
         try dsimp only
         try simp only [Act.put, List.setIfInBounds_toArray, List.set_cons_zero, List.set_cons_succ]
         replace bP := bP.on hb
         replace bU := bU.on hb
         replace bQ := bQ.on hb
         replace bV := bV.on hb
         replace bn13 := bn13.on hb
         replace HW := Lib.hid (bel_end HW.out hb)
         clear hb
         refine hK.out _ _ (HSp.out _ bP bU bQ bV) (fun _ => ?_)
         clear hK Kn
         rotate_left
         refine AllReadyH.cons (o := { dst := some 10, op := Go.Op.alloc 34, type := 0, pos := "exact.go:4033", after := #[], guard := none }) rfl (fun Kn hK => ?_) AllReadyH.nil
         go_simp
         generalize hX : World.alloc V3 _ = V4
         obtain ⟨g14, hg⟩ : ∃ g, g = V3.heap.size := ⟨_, rfl⟩
         have bn14 : Bk V4 g14 #[.int .i64 0, .int .i64 0] 34 := by rw [← hX]; exact Bk.new' hg
         have le14 : W.heap.size ≤ g14 := by rw [hg]; exact HW.out.size
         have nebP_14 : w.heap.size ≠ g14 := by have := bP.lt; omega
         have nebU_14 : w.heap.size + 1 ≠ g14 := by have := bU.lt; omega
         have nebQ_14 : w.heap.size + 1 + 1 ≠ g14 := by have := bQ.lt; omega
         have nebV_14 : w.heap.size + 1 + 1 + 1 ≠ g14 := by have := bV.lt; omega
         have ne13_14 : g13 ≠ g14 := by have := bn13.lt; omega
         try rw [← hg]
         have hb : Below V3.heap.size V3 V4 := by rw [← hX]; exact (Below.refl _ _).alloc (Nat.le_refl _) _
         clear hX hg
         replace bP := bP.on hb
         replace bU := bU.on hb
         replace bQ := bQ.on hb
         replace bV := bV.on hb
         replace bn13 := bn13.on hb
         replace HW := Lib.hid (bel_end HW.out hb)
         clear hb
         refine hK.out _ _ (HSp.out _ bP bU bQ bV) (fun _ => ?_)
         clear hK Kn)
      | (refine wpAnyH_ready (rs := [5, 13]) (by decide +kernel) (by simp) ?_
         refine AllReadyH.cons (o := { dst := some 21, op := Go.Op.call { callee := Go.Callee.value (Go.Operand.func 17), args := #[Go.Operand.tmp 20], argTypes := #[23] }, type := 25, pos := "exact.go:4033", after := #[{ on := 4, ground := Go.Ground.data }, { on := 3, ground := Go.Ground.chain }], guard := none }) rfl (fun Kn hK => ?_) ?_
         first | go_at_call 17 | (go_simp; go_at_call 17)
         (with_reducible refine Calls.mono (tpt_any _ _ _) ?_)
         rintro e V4 ⟨rfl, hb⟩
         try dsimp only
         try simp only [Act.put, List.setIfInBounds_toArray, List.set_cons_zero, List.set_cons_succ]
         replace bP := bP.on hb
         replace bU := bU.on hb
         replace bQ := bQ.on hb
         replace bV := bV.on hb
         replace bn14 := bn14.on hb
         replace HW := Lib.hid (bel_end HW.out hb)
         clear hb
         refine hK.out _ _ (HSp.out _ bP bU bQ bV) (fun _ => ?_)
         clear hK Kn
         rotate_left
         refine AllReadyH.cons (o := { dst := some 9, op := Go.Op.alloc 34, type := 0, pos := "exact.go:4033", after := #[], guard := none }) rfl (fun Kn hK => ?_) AllReadyH.nil
         go_simp
         generalize hX : World.alloc V3 _ = V4
         obtain ⟨g13, hg⟩ : ∃ g, g = V3.heap.size := ⟨_, rfl⟩
         have bn13 : Bk V4 g13 #[.int .i64 0, .int .i64 0] 34 := by rw [← hX]; exact Bk.new' hg
         have le13 : W.heap.size ≤ g13 := by rw [hg]; exact HW.out.size
         have nebP_13 : w.heap.size ≠ g13 := by have := bP.lt; omega
         have nebU_13 : w.heap.size + 1 ≠ g13 := by have := bU.lt; omega
         have nebQ_13 : w.heap.size + 1 + 1 ≠ g13 := by have := bQ.lt; omega
         have nebV_13 : w.heap.size + 1 + 1 + 1 ≠ g13 := by have := bV.lt; omega
         have ne13_14 : g13 ≠ g14 := by have := bn14.lt; omega
         try rw [← hg]
         have hb : Below V3.heap.size V3 V4 := by rw [← hX]; exact (Below.refl _ _).alloc (Nat.le_refl _) _
         clear hX hg
         replace bP := bP.on hb
         replace bU := bU.on hb
         replace bQ := bQ.on hb
         replace bV := bV.on hb
         replace bn14 := bn14.on hb
         replace HW := Lib.hid (bel_end HW.out hb)
         clear hb
         refine hK.out _ _ (HSp.out _ bP bU bQ bV) (fun _ => ?_)
         clear hK Kn)
      | (refine wpAnyH_ready (rs := [3]) (by decide +kernel) (by simp) ?_
         refine AllReadyH.cons (o := { dst := some 19, op := Go.Op.call { callee := Go.Callee.value (Go.Operand.func 17), args := #[Go.Operand.tmp 18], argTypes := #[23] }, type := 25, pos := "exact.go:4033", after := #[{ on := 2, ground := Go.Ground.data }, { on := 1, ground := Go.Ground.chain }], guard := none }) rfl (fun Kn hK => ?_) AllReadyH.nil
         first | go_at_call 17 | (go_simp; go_at_call 17)
         (with_reducible refine Calls.mono (tpt_any _ _ _) ?_)
         rintro e V4 ⟨rfl, hb⟩
         try dsimp only
         try simp only [Act.put, List.setIfInBounds_toArray, List.set_cons_zero, List.set_cons_succ]
         replace bP := bP.on hb
         replace bU := bU.on hb
         replace bQ := bQ.on hb
         replace bV := bV.on hb
         replace bn13 := bn13.on hb
         replace bn14 := bn14.on hb
         replace HW := Lib.hid (bel_end HW.out hb)
         clear hb
         refine hK.out _ _ (HSp.out _ bP bU bQ bV) (fun _ => ?_)
         clear hK Kn)
    all_goals
      first
      | (refine wpAnyH_ready (rs := [8, 13, 14]) (by decide +kernel) (by simp) ?_
         refine AllReadyH.cons (o := { dst := some 24, op := Go.Op.call { callee := Go.Callee.value (Go.Operand.func 23), args := #[Go.Operand.tmp 17, Go.Operand.tmp 19, Go.Operand.tmp 21, Go.Operand.tmp 23], argTypes := #[25, 25, 25, 25] }, type := 35, pos := "exact.go:4033", after := #[{ on := 1, ground := Go.Ground.data }, { on := 3, ground := Go.Ground.data }, { on := 5, ground := Go.Ground.data }, { on := 7, ground := Go.Ground.data }, { on := 7, ground := Go.Ground.chain }], guard := none }) rfl (fun Kn hK => ?_) ?_
         first | go_at_call 23 | (go_simp; go_at_call 23)
         (with_reducible refine Calls.mono (S1.out _) ?_)
         rintro e V5 ⟨rfl, hb⟩
         try dsimp only
         try simp only [Act.put, List.setIfInBounds_toArray, List.set_cons_zero, List.set_cons_succ]
         replace bP := bP.on hb
         replace bU := bU.on hb
         replace bQ := bQ.on hb
         replace bV := bV.on hb
         replace HW := Lib.hid (bel_end HW.out hb)
         clear hb
         refine hK.out _ _ (HSp.out _ bP bU bQ bV) (fun _ => ?_)
         clear hK Kn
         rotate_left
         refine AllReadyH.cons (o := { dst := some 9, op := Go.Op.alloc 34, type := 0, pos := "exact.go:4033", after := #[], guard := none }) rfl (fun Kn hK => ?_) ?_
         go_simp
         generalize hX : World.alloc V4 _ = V5
         obtain ⟨g13, hg⟩ : ∃ g, g = V4.heap.size := ⟨_, rfl⟩
         have bn13 : Bk V5 g13 #[.int .i64 0, .int .i64 0] 34 := by rw [← hX]; exact Bk.new' hg
         have le13 : W.heap.size ≤ g13 := by rw [hg]; exact HW.out.size
         have nebP_13 : w.heap.size ≠ g13 := by have := bP.lt; omega
         have nebU_13 : w.heap.size + 1 ≠ g13 := by have := bU.lt; omega
         have nebQ_13 : w.heap.size + 1 + 1 ≠ g13 := by have := bQ.lt; omega
         have nebV_13 : w.heap.size + 1 + 1 + 1 ≠ g13 := by have := bV.lt; omega
         try rw [← hg]
         have hb : Below V4.heap.size V4 V5 := by rw [← hX]; exact (Below.refl _ _).alloc (Nat.le_refl _) _
         clear hX hg
         replace bP := bP.on hb
         replace bU := bU.on hb
         replace bQ := bQ.on hb
         replace bV := bV.on hb
         replace HW := Lib.hid (bel_end HW.out hb)
         clear hb
         refine hK.out _ _ (HSp.out _ bP bU bQ bV) (fun _ => ?_)
         clear hK Kn
         rotate_left
         refine AllReadyH.cons (o := { dst := some 10, op := Go.Op.alloc 34, type := 0, pos := "exact.go:4033", after := #[], guard := none }) rfl (fun Kn hK => ?_) AllReadyH.nil
         go_simp
         generalize hX : World.alloc V4 _ = V5
         obtain ⟨g14, hg⟩ : ∃ g, g = V4.heap.size := ⟨_, rfl⟩
         have bn14 : Bk V5 g14 #[.int .i64 0, .int .i64 0] 34 := by rw [← hX]; exact Bk.new' hg
         have le14 : W.heap.size ≤ g14 := by rw [hg]; exact HW.out.size
         have nebP_14 : w.heap.size ≠ g14 := by have := bP.lt; omega
         have nebU_14 : w.heap.size + 1 ≠ g14 := by have := bU.lt; omega
         have nebQ_14 : w.heap.size + 1 + 1 ≠ g14 := by have := bQ.lt; omega
         have nebV_14 : w.heap.size + 1 + 1 + 1 ≠ g14 := by have := bV.lt; omega
         try rw [← hg]
         have hb : Below V4.heap.size V4 V5 := by rw [← hX]; exact (Below.refl _ _).alloc (Nat.le_refl _) _
         clear hX hg
         replace bP := bP.on hb
         replace bU := bU.on hb
         replace bQ := bQ.on hb
         replace bV := bV.on hb
         replace HW := Lib.hid (bel_end HW.out hb)
         clear hb
         refine hK.out _ _ (HSp.out _ bP bU bQ bV) (fun _ => ?_)
         clear hK Kn)
      | (refine wpAnyH_ready (rs := [7, 14]) (by decide +kernel) (by simp) ?_
         refine AllReadyH.cons (o := { dst := some 23, op := Go.Op.call { callee := Go.Callee.value (Go.Operand.func 17), args := #[Go.Operand.tmp 22], argTypes := #[23] }, type := 25, pos := "exact.go:4033", after := #[{ on := 6, ground := Go.Ground.data }, { on := 5, ground := Go.Ground.chain }], guard := none }) rfl (fun Kn hK => ?_) ?_
         first | go_at_call 17 | (go_simp; go_at_call 17)
         (with_reducible refine Calls.mono (tpt_any _ _ _) ?_)
         rintro e V5 ⟨rfl, hb⟩
         try dsimp only
         try simp only [Act.put, List.setIfInBounds_toArray, List.set_cons_zero, List.set_cons_succ]
         replace bP := bP.on hb
         replace bU := bU.on hb
         replace bQ := bQ.on hb
         replace bV := bV.on hb
         replace bn13 := bn13.on hb
         replace HW := Lib.hid (bel_end HW.out hb)
         clear hb
         refine hK.out _ _ (HSp.out _ bP bU bQ bV) (fun _ => ?_)
         clear hK Kn
         rotate_left
         refine AllReadyH.cons (o := { dst := some 10, op := Go.Op.alloc 34, type := 0, pos := "exact.go:4033", after := #[], guard := none }) rfl (fun Kn hK => ?_) AllReadyH.nil
         go_simp
         generalize hX : World.alloc V4 _ = V5
         obtain ⟨g14, hg⟩ : ∃ g, g = V4.heap.size := ⟨_, rfl⟩
         have bn14 : Bk V5 g14 #[.int .i64 0, .int .i64 0] 34 := by rw [← hX]; exact Bk.new' hg
         have le14 : W.heap.size ≤ g14 := by rw [hg]; exact HW.out.size
         have nebP_14 : w.heap.size ≠ g14 := by have := bP.lt; omega
         have nebU_14 : w.heap.size + 1 ≠ g14 := by have := bU.lt; omega
         have nebQ_14 : w.heap.size + 1 + 1 ≠ g14 := by have := bQ.lt; omega
         have nebV_14 : w.heap.size + 1 + 1 + 1 ≠ g14 := by have := bV.lt; omega
         have ne13_14 : g13 ≠ g14 := by have := bn13.lt; omega
         try rw [← hg]
         have hb : Below V4.heap.size V4 V5 := by rw [← hX]; exact (Below.refl _ _).alloc (Nat.le_refl _) _
         clear hX hg
         replace bP := bP.on hb
         replace bU := bU.on hb
         replace bQ := bQ.on hb
         replace bV := bV.on hb
         replace bn13 := bn13.on hb
         replace HW := Lib.hid (bel_end HW.out hb)
         clear hb
         refine hK.out _ _ (HSp.out _ bP bU bQ bV) (fun _ => ?_)
         clear hK Kn)
      | (refine wpAnyH_ready (rs := [7, 13]) (by decide +kernel) (by simp) ?_
         refine AllReadyH.cons (o := { dst := some 23, op := Go.Op.call { callee := Go.Callee.value (Go.Operand.func 17), args := #[Go.Operand.tmp 22], argTypes := #[23] }, type := 25, pos := "exact.go:4033", after := #[{ on := 6, ground := Go.Ground.data }, { on := 5, ground := Go.Ground.chain }], guard := none }) rfl (fun Kn hK => ?_) ?_
         first | go_at_call 17 | (go_simp; go_at_call 17)
         (with_reducible refine Calls.mono (tpt_any _ _ _) ?_)
         rintro e V5 ⟨rfl, hb⟩
         try dsimp only
         try simp only [Act.put, List.setIfInBounds_toArray, List.set_cons_zero, List.set_cons_succ]
         replace bP := bP.on hb
         replace bU := bU.on hb
         replace bQ := bQ.on hb
         replace bV := bV.on hb
         replace bn14 := bn14.on hb
         replace HW := Lib.hid (bel_end HW.out hb)
         clear hb
         refine hK.out _ _ (HSp.out _ bP bU bQ bV) (fun _ => ?_)
         clear hK Kn
         rotate_left
         refine AllReadyH.cons (o := { dst := some 9, op := Go.Op.alloc 34, type := 0, pos := "exact.go:4033", after := #[], guard := none }) rfl (fun Kn hK => ?_) AllReadyH.nil
         go_simp
         generalize hX : World.alloc V4 _ = V5
         obtain ⟨g13, hg⟩ : ∃ g, g = V4.heap.size := ⟨_, rfl⟩
         have bn13 : Bk V5 g13 #[.int .i64 0, .int .i64 0] 34 := by rw [← hX]; exact Bk.new' hg
         have le13 : W.heap.size ≤ g13 := by rw [hg]; exact HW.out.size
         have nebP_13 : w.heap.size ≠ g13 := by have := bP.lt; omega
         have nebU_13 : w.heap.size + 1 ≠ g13 := by have := bU.lt; omega
         have nebQ_13 : w.heap.size + 1 + 1 ≠ g13 := by have := bQ.lt; omega
         have nebV_13 : w.heap.size + 1 + 1 + 1 ≠ g13 := by have := bV.lt; omega
         have ne13_14 : g13 ≠ g14 := by have := bn14.lt; omega
         try rw [← hg]
         have hb : Below V4.heap.size V4 V5 := by rw [← hX]; exact (Below.refl _ _).alloc (Nat.le_refl _) _
         clear hX hg
         replace bP := bP.on hb
         replace bU := bU.on hb
         replace bQ := bQ.on hb
         replace bV := bV.on hb
         replace bn14 := bn14.on hb
         replace HW := Lib.hid (bel_end HW.out hb)
         clear hb
         refine hK.out _ _ (HSp.out _ bP bU bQ bV) (fun _ => ?_)
         clear hK Kn)
      | (refine wpAnyH_ready (rs := [5]) (by decide +kernel) (by simp) ?_
         refine AllReadyH.cons (o := { dst := some 21, op := Go.Op.call { callee := Go.Callee.value (Go.Operand.func 17), args := #[Go.Operand.tmp 20], argTypes := #[23] }, type := 25, pos := "exact.go:4033", after := #[{ on := 4, ground := Go.Ground.data }, { on := 3, ground := Go.Ground.chain }], guard := none }) rfl (fun Kn hK => ?_) AllReadyH.nil
         first | go_at_call 17 | (go_simp; go_at_call 17)
         (with_reducible refine Calls.mono (tpt_any _ _ _) ?_)
         rintro e V5 ⟨rfl, hb⟩
         try dsimp only
         try simp only [Act.put, List.setIfInBounds_toArray, List.set_cons_zero, List.set_cons_succ]
         replace bP := bP.on hb
         replace bU := bU.on hb
         replace bQ := bQ.on hb
         replace bV := bV.on hb
         replace bn13 := bn13.on hb
         replace bn14 := bn14.on hb
         replace HW := Lib.hid (bel_end HW.out hb)
         clear hb
         refine hK.out _ _ (HSp.out _ bP bU bQ bV) (fun _ => ?_)
         clear hK Kn)
    all_goals
      first
      | (have hS := HSp.out _ bP bU bQ bV
         refine wpAnyH_take (i := 9) (oi := { dst := some 15, op := Go.Op.move (Go.Operand.tmp 24), type := 35, pos := "exact.go:4033", after := #[{ on := 8, ground := Go.Ground.data }], guard := none }) (v := ?_) rfl (by kernel_rfl) (by kernel_rfl) (by kernel_rfl) (fun _ _ _ h => h) (Or.inl ⟨by rfl, ?_⟩) hS ?_
         rotate_left
         · (intro w hSw; have hSw := (HSd.out w).1 hSw; go_split_ands; go_simp) <;> with_reducible rfl
         clear hS
         try simp only [Act.put, List.setIfInBounds_toArray, List.set_cons_zero, List.set_cons_succ]
         have hS := HSp.out _ bP bU bQ bV
         refine wpAnyH_take (i := 10) (oi := { dst := some 25, op := Go.Op.extract (Go.Operand.tmp 15) 0, type := 34, pos := "exact.go:4033", after := #[{ on := 9, ground := Go.Ground.data }], guard := none }) (v := ?_) rfl (by kernel_rfl) (by kernel_rfl) (by kernel_rfl) (fun _ _ _ h => h) (Or.inl ⟨by rfl, ?_⟩) hS ?_
         rotate_left
         · (intro w hSw; have hSw := (HSd.out w).1 hSw; go_split_ands; go_simp) <;> with_reducible rfl
         clear hS
         try simp only [Act.put, List.setIfInBounds_toArray, List.set_cons_zero, List.set_cons_succ]
         have hS := HSp.out _ bP bU bQ bV
         refine wpAnyH_take (i := 11) (oi := { dst := some 26, op := Go.Op.extract (Go.Operand.tmp 15) 1, type := 34, pos := "exact.go:4033", after := #[{ on := 9, ground := Go.Ground.data }, { on := 15, ground := Go.Ground.gcOnly Go.Departure.lateStores }], guard := none }) (v := ?_) rfl (by kernel_rfl) (by kernel_rfl) (by kernel_rfl) (fun _ _ _ h => h) (Or.inl ⟨by rfl, ?_⟩) hS ?_
         rotate_left
         · (intro w hSw; have hSw := (HSd.out w).1 hSw; go_split_ands; go_simp) <;> with_reducible rfl
         clear hS
         try simp only [Act.put, List.setIfInBounds_toArray, List.set_cons_zero, List.set_cons_succ]
         have hS := HSp.out _ bP bU bQ bV
         refine wpAnyH_take (i := 12) (oi := { dst := some 27, op := Go.Op.extract (Go.Operand.tmp 15) 2, type := 2, pos := "exact.go:4033", after := #[{ on := 9, ground := Go.Ground.data }, { on := 16, ground := Go.Ground.gcOnly Go.Departure.lateStores }], guard := none }) (v := ?_) rfl (by kernel_rfl) (by kernel_rfl) (by kernel_rfl) (fun _ _ _ h => h) (Or.inl ⟨by rfl, ?_⟩) hS ?_
         rotate_left
         · (intro w hSw; have hSw := (HSd.out w).1 hSw; go_split_ands; go_simp) <;> with_reducible rfl
         clear hS
         try simp only [Act.put, List.setIfInBounds_toArray, List.set_cons_zero, List.set_cons_succ]
         refine wpAnyH_ready (rs := [13, 14]) (by decide +kernel) (by simp) ?_
         refine AllReadyH.cons (o := { dst := some 9, op := Go.Op.alloc 34, type := 0, pos := "exact.go:4033", after := #[], guard := none }) rfl (fun Kn hK => ?_) ?_
         go_simp
         generalize hX : World.alloc V5 _ = V6
         obtain ⟨g13, hg⟩ : ∃ g, g = V5.heap.size := ⟨_, rfl⟩
         have bn13 : Bk V6 g13 #[.int .i64 0, .int .i64 0] 34 := by rw [← hX]; exact Bk.new' hg
         have le13 : W.heap.size ≤ g13 := by rw [hg]; exact HW.out.size
         have nebP_13 : w.heap.size ≠ g13 := by have := bP.lt; omega
         have nebU_13 : w.heap.size + 1 ≠ g13 := by have := bU.lt; omega
         have nebQ_13 : w.heap.size + 1 + 1 ≠ g13 := by have := bQ.lt; omega
         have nebV_13 : w.heap.size + 1 + 1 + 1 ≠ g13 := by have := bV.lt; omega
         try rw [← hg]
         have hb : Below V5.heap.size V5 V6 := by rw [← hX]; exact (Below.refl _ _).alloc (Nat.le_refl _) _
         clear hX hg
         replace bP := bP.on hb
         replace bU := bU.on hb
         replace bQ := bQ.on hb
         replace bV := bV.on hb
         replace HW := Lib.hid (bel_end HW.out hb)
         clear hb
         refine hK.out _ _ (HSp.out _ bP bU bQ bV) (fun _ => ?_)
         clear hK Kn
         rotate_left
         refine AllReadyH.cons (o := { dst := some 10, op := Go.Op.alloc 34, type := 0, pos := "exact.go:4033", after := #[], guard := none }) rfl (fun Kn hK => ?_) AllReadyH.nil
         go_simp
         generalize hX : World.alloc V5 _ = V6
         obtain ⟨g14, hg⟩ : ∃ g, g = V5.heap.size := ⟨_, rfl⟩
         have bn14 : Bk V6 g14 #[.int .i64 0, .int .i64 0] 34 := by rw [← hX]; exact Bk.new' hg
         have le14 : W.heap.size ≤ g14 := by rw [hg]; exact HW.out.size
         have nebP_14 : w.heap.size ≠ g14 := by have := bP.lt; omega
         have nebU_14 : w.heap.size + 1 ≠ g14 := by have := bU.lt; omega
         have nebQ_14 : w.heap.size + 1 + 1 ≠ g14 := by have := bQ.lt; omega
         have nebV_14 : w.heap.size + 1 + 1 + 1 ≠ g14 := by have := bV.lt; omega
         try rw [← hg]
         have hb : Below V5.heap.size V5 V6 := by rw [← hX]; exact (Below.refl _ _).alloc (Nat.le_refl _) _
         clear hX hg
         replace bP := bP.on hb
         replace bU := bU.on hb
         replace bQ := bQ.on hb
         replace bV := bV.on hb
         replace HW := Lib.hid (bel_end HW.out hb)
         clear hb
         refine hK.out _ _ (HSp.out _ bP bU bQ bV) (fun _ => ?_)
         clear hK Kn)
      | (refine wpAnyH_ready (rs := [8, 14]) (by decide +kernel) (by simp) ?_
         refine AllReadyH.cons (o := { dst := some 24, op := Go.Op.call { callee := Go.Callee.value (Go.Operand.func 23), args := #[Go.Operand.tmp 17, Go.Operand.tmp 19, Go.Operand.tmp 21, Go.Operand.tmp 23], argTypes := #[25, 25, 25, 25] }, type := 35, pos := "exact.go:4033", after := #[{ on := 1, ground := Go.Ground.data }, { on := 3, ground := Go.Ground.data }, { on := 5, ground := Go.Ground.data }, { on := 7, ground := Go.Ground.data }, { on := 7, ground := Go.Ground.chain }], guard := none }) rfl (fun Kn hK => ?_) ?_
         first | go_at_call 23 | (go_simp; go_at_call 23)
         (with_reducible refine Calls.mono (S1.out _) ?_)
         rintro e V6 ⟨rfl, hb⟩
         try dsimp only
         try simp only [Act.put, List.setIfInBounds_toArray, List.set_cons_zero, List.set_cons_succ]
         replace bP := bP.on hb
         replace bU := bU.on hb
         replace bQ := bQ.on hb
         replace bV := bV.on hb
         replace bn13 := bn13.on hb
         replace HW := Lib.hid (bel_end HW.out hb)
         clear hb
         refine hK.out _ _ (HSp.out _ bP bU bQ bV) (fun _ => ?_)
         clear hK Kn
         rotate_left
         refine AllReadyH.cons (o := { dst := some 10, op := Go.Op.alloc 34, type := 0, pos := "exact.go:4033", after := #[], guard := none }) rfl (fun Kn hK => ?_) AllReadyH.nil
         go_simp
         generalize hX : World.alloc V5 _ = V6
         obtain ⟨g14, hg⟩ : ∃ g, g = V5.heap.size := ⟨_, rfl⟩
         have bn14 : Bk V6 g14 #[.int .i64 0, .int .i64 0] 34 := by rw [← hX]; exact Bk.new' hg
         have le14 : W.heap.size ≤ g14 := by rw [hg]; exact HW.out.size
         have nebP_14 : w.heap.size ≠ g14 := by have := bP.lt; omega
         have nebU_14 : w.heap.size + 1 ≠ g14 := by have := bU.lt; omega
         have nebQ_14 : w.heap.size + 1 + 1 ≠ g14 := by have := bQ.lt; omega
         have nebV_14 : w.heap.size + 1 + 1 + 1 ≠ g14 := by have := bV.lt; omega
         have ne13_14 : g13 ≠ g14 := by have := bn13.lt; omega
         try rw [← hg]
         have hb : Below V5.heap.size V5 V6 := by rw [← hX]; exact (Below.refl _ _).alloc (Nat.le_refl _) _
         clear hX hg
         replace bP := bP.on hb
         replace bU := bU.on hb
         replace bQ := bQ.on hb
         replace bV := bV.on hb
         replace bn13 := bn13.on hb
         replace HW := Lib.hid (bel_end HW.out hb)
         clear hb
         refine hK.out _ _ (HSp.out _ bP bU bQ bV) (fun _ => ?_)
         clear hK Kn)
      | (refine wpAnyH_ready (rs := [8, 13]) (by decide +kernel) (by simp) ?_
         refine AllReadyH.cons (o := { dst := some 24, op := Go.Op.call { callee := Go.Callee.value (Go.Operand.func 23), args := #[Go.Operand.tmp 17, Go.Operand.tmp 19, Go.Operand.tmp 21, Go.Operand.tmp 23], argTypes := #[25, 25, 25, 25] }, type := 35, pos := "exact.go:4033", after := #[{ on := 1, ground := Go.Ground.data }, { on := 3, ground := Go.Ground.data }, { on := 5, ground := Go.Ground.data }, { on := 7, ground := Go.Ground.data }, { on := 7, ground := Go.Ground.chain }], guard := none }) rfl (fun Kn hK => ?_) ?_
         first | go_at_call 23 | (go_simp; go_at_call 23)
         (with_reducible refine Calls.mono (S1.out _) ?_)
         rintro e V6 ⟨rfl, hb⟩
         try dsimp only
         try simp only [Act.put, List.setIfInBounds_toArray, List.set_cons_zero, List.set_cons_succ]
         replace bP := bP.on hb
         replace bU := bU.on hb
         replace bQ := bQ.on hb
         replace bV := bV.on hb
         replace bn14 := bn14.on hb
         replace HW := Lib.hid (bel_end HW.out hb)
         clear hb
         refine hK.out _ _ (HSp.out _ bP bU bQ bV) (fun _ => ?_)
         clear hK Kn
         rotate_left
         refine AllReadyH.cons (o := { dst := some 9, op := Go.Op.alloc 34, type := 0, pos := "exact.go:4033", after := #[], guard := none }) rfl (fun Kn hK => ?_) AllReadyH.nil
         go_simp
         generalize hX : World.alloc V5 _ = V6
         obtain ⟨g13, hg⟩ : ∃ g, g = V5.heap.size := ⟨_, rfl⟩
         have bn13 : Bk V6 g13 #[.int .i64 0, .int .i64 0] 34 := by rw [← hX]; exact Bk.new' hg
         have le13 : W.heap.size ≤ g13 := by rw [hg]; exact HW.out.size
         have nebP_13 : w.heap.size ≠ g13 := by have := bP.lt; omega
         have nebU_13 : w.heap.size + 1 ≠ g13 := by have := bU.lt; omega
         have nebQ_13 : w.heap.size + 1 + 1 ≠ g13 := by have := bQ.lt; omega
         have nebV_13 : w.heap.size + 1 + 1 + 1 ≠ g13 := by have := bV.lt; omega
         have ne13_14 : g13 ≠ g14 := by have := bn14.lt; omega
         try rw [← hg]
         have hb : Below V5.heap.size V5 V6 := by rw [← hX]; exact (Below.refl _ _).alloc (Nat.le_refl _) _
         clear hX hg
         replace bP := bP.on hb
         replace bU := bU.on hb
         replace bQ := bQ.on hb
         replace bV := bV.on hb
         replace bn14 := bn14.on hb
         replace HW := Lib.hid (bel_end HW.out hb)
         clear hb
         refine hK.out _ _ (HSp.out _ bP bU bQ bV) (fun _ => ?_)
         clear hK Kn)
      | (refine wpAnyH_ready (rs := [7]) (by decide +kernel) (by simp) ?_
         refine AllReadyH.cons (o := { dst := some 23, op := Go.Op.call { callee := Go.Callee.value (Go.Operand.func 17), args := #[Go.Operand.tmp 22], argTypes := #[23] }, type := 25, pos := "exact.go:4033", after := #[{ on := 6, ground := Go.Ground.data }, { on := 5, ground := Go.Ground.chain }], guard := none }) rfl (fun Kn hK => ?_) AllReadyH.nil
         first | go_at_call 17 | (go_simp; go_at_call 17)
         (with_reducible refine Calls.mono (tpt_any _ _ _) ?_)
         rintro e V6 ⟨rfl, hb⟩
         try dsimp only
         try simp only [Act.put, List.setIfInBounds_toArray, List.set_cons_zero, List.set_cons_succ]
         replace bP := bP.on hb
         replace bU := bU.on hb
         replace bQ := bQ.on hb
         replace bV := bV.on hb
         replace bn13 := bn13.on hb
         replace bn14 := bn14.on hb
         replace HW := Lib.hid (bel_end HW.out hb)
         clear hb
         refine hK.out _ _ (HSp.out _ bP bU bQ bV) (fun _ => ?_)
         clear hK Kn)
    all_goals
      first
      | (refine wpAnyH_ready (rs := [14]) (by decide +kernel) (by simp) ?_
         refine AllReadyH.cons (o := { dst := some 10, op := Go.Op.alloc 34, type := 0, pos := "exact.go:4033", after := #[], guard := none }) rfl (fun Kn hK => ?_) AllReadyH.nil
         go_simp
         generalize hX : World.alloc V6 _ = V7
         obtain ⟨g14, hg⟩ : ∃ g, g = V6.heap.size := ⟨_, rfl⟩
         have bn14 : Bk V7 g14 #[.int .i64 0, .int .i64 0] 34 := by rw [← hX]; exact Bk.new' hg
         have le14 : W.heap.size ≤ g14 := by rw [hg]; exact HW.out.size
         have nebP_14 : w.heap.size ≠ g14 := by have := bP.lt; omega
         have nebU_14 : w.heap.size + 1 ≠ g14 := by have := bU.lt; omega
         have nebQ_14 : w.heap.size + 1 + 1 ≠ g14 := by have := bQ.lt; omega
         have nebV_14 : w.heap.size + 1 + 1 + 1 ≠ g14 := by have := bV.lt; omega
         have ne13_14 : g13 ≠ g14 := by have := bn13.lt; omega
         try rw [← hg]
         have hb : Below V6.heap.size V6 V7 := by rw [← hX]; exact (Below.refl _ _).alloc (Nat.le_refl _) _
         clear hX hg
         replace bP := bP.on hb
         replace bU := bU.on hb
         replace bQ := bQ.on hb
         replace bV := bV.on hb
         replace bn13 := bn13.on hb
         replace HW := Lib.hid (bel_end HW.out hb)
         clear hb
         refine hK.out _ _ (HSp.out _ bP bU bQ bV) (fun _ => ?_)
         clear hK Kn)
      | (refine wpAnyH_ready (rs := [13]) (by decide +kernel) (by simp) ?_
         refine AllReadyH.cons (o := { dst := some 9, op := Go.Op.alloc 34, type := 0, pos := "exact.go:4033", after := #[], guard := none }) rfl (fun Kn hK => ?_) AllReadyH.nil
         go_simp
         generalize hX : World.alloc V6 _ = V7
         obtain ⟨g13, hg⟩ : ∃ g, g = V6.heap.size := ⟨_, rfl⟩
         have bn13 : Bk V7 g13 #[.int .i64 0, .int .i64 0] 34 := by rw [← hX]; exact Bk.new' hg
         have le13 : W.heap.size ≤ g13 := by rw [hg]; exact HW.out.size
         have nebP_13 : w.heap.size ≠ g13 := by have := bP.lt; omega
         have nebU_13 : w.heap.size + 1 ≠ g13 := by have := bU.lt; omega
         have nebQ_13 : w.heap.size + 1 + 1 ≠ g13 := by have := bQ.lt; omega
         have nebV_13 : w.heap.size + 1 + 1 + 1 ≠ g13 := by have := bV.lt; omega
         have ne13_14 : g13 ≠ g14 := by have := bn14.lt; omega
         try rw [← hg]
         have hb : Below V6.heap.size V6 V7 := by rw [← hX]; exact (Below.refl _ _).alloc (Nat.le_refl _) _
         clear hX hg
         replace bP := bP.on hb
         replace bU := bU.on hb
         replace bQ := bQ.on hb
         replace bV := bV.on hb
         replace bn14 := bn14.on hb
         replace HW := Lib.hid (bel_end HW.out hb)
         clear hb
         refine hK.out _ _ (HSp.out _ bP bU bQ bV) (fun _ => ?_)
         clear hK Kn)
      | (have hS := HSp.out _ bP bU bQ bV
         refine wpAnyH_take (i := 9) (oi := { dst := some 15, op := Go.Op.move (Go.Operand.tmp 24), type := 35, pos := "exact.go:4033", after := #[{ on := 8, ground := Go.Ground.data }], guard := none }) (v := ?_) rfl (by kernel_rfl) (by kernel_rfl) (by kernel_rfl) (fun _ _ _ h => h) (Or.inl ⟨by rfl, ?_⟩) hS ?_
         rotate_left
         · (intro w hSw; have hSw := (HSd.out w).1 hSw; go_split_ands; go_simp) <;> with_reducible rfl
         clear hS
         try simp only [Act.put, List.setIfInBounds_toArray, List.set_cons_zero, List.set_cons_succ]
         have hS := HSp.out _ bP bU bQ bV
         refine wpAnyH_take (i := 10) (oi := { dst := some 25, op := Go.Op.extract (Go.Operand.tmp 15) 0, type := 34, pos := "exact.go:4033", after := #[{ on := 9, ground := Go.Ground.data }], guard := none }) (v := ?_) rfl (by kernel_rfl) (by kernel_rfl) (by kernel_rfl) (fun _ _ _ h => h) (Or.inl ⟨by rfl, ?_⟩) hS ?_
         rotate_left
         · (intro w hSw; have hSw := (HSd.out w).1 hSw; go_split_ands; go_simp) <;> with_reducible rfl
         clear hS
         try simp only [Act.put, List.setIfInBounds_toArray, List.set_cons_zero, List.set_cons_succ]
         have hS := HSp.out _ bP bU bQ bV
         refine wpAnyH_take (i := 11) (oi := { dst := some 26, op := Go.Op.extract (Go.Operand.tmp 15) 1, type := 34, pos := "exact.go:4033", after := #[{ on := 9, ground := Go.Ground.data }, { on := 15, ground := Go.Ground.gcOnly Go.Departure.lateStores }], guard := none }) (v := ?_) rfl (by kernel_rfl) (by kernel_rfl) (by kernel_rfl) (fun _ _ _ h => h) (Or.inl ⟨by rfl, ?_⟩) hS ?_
         rotate_left
         · (intro w hSw; have hSw := (HSd.out w).1 hSw; go_split_ands; go_simp) <;> with_reducible rfl
         clear hS
         try simp only [Act.put, List.setIfInBounds_toArray, List.set_cons_zero, List.set_cons_succ]
         have hS := HSp.out _ bP bU bQ bV
         refine wpAnyH_take (i := 12) (oi := { dst := some 27, op := Go.Op.extract (Go.Operand.tmp 15) 2, type := 2, pos := "exact.go:4033", after := #[{ on := 9, ground := Go.Ground.data }, { on := 16, ground := Go.Ground.gcOnly Go.Departure.lateStores }], guard := none }) (v := ?_) rfl (by kernel_rfl) (by kernel_rfl) (by kernel_rfl) (fun _ _ _ h => h) (Or.inl ⟨by rfl, ?_⟩) hS ?_
         rotate_left
         · (intro w hSw; have hSw := (HSd.out w).1 hSw; go_split_ands; go_simp) <;> with_reducible rfl
         clear hS
         try simp only [Act.put, List.setIfInBounds_toArray, List.set_cons_zero, List.set_cons_succ]
         refine wpAnyH_ready (rs := [14]) (by decide +kernel) (by simp) ?_
         refine AllReadyH.cons (o := { dst := some 10, op := Go.Op.alloc 34, type := 0, pos := "exact.go:4033", after := #[], guard := none }) rfl (fun Kn hK => ?_) AllReadyH.nil
         go_simp
         generalize hX : World.alloc V6 _ = V7
         obtain ⟨g14, hg⟩ : ∃ g, g = V6.heap.size := ⟨_, rfl⟩
         have bn14 : Bk V7 g14 #[.int .i64 0, .int .i64 0] 34 := by rw [← hX]; exact Bk.new' hg
         have le14 : W.heap.size ≤ g14 := by rw [hg]; exact HW.out.size
         have nebP_14 : w.heap.size ≠ g14 := by have := bP.lt; omega
         have nebU_14 : w.heap.size + 1 ≠ g14 := by have := bU.lt; omega
         have nebQ_14 : w.heap.size + 1 + 1 ≠ g14 := by have := bQ.lt; omega
         have nebV_14 : w.heap.size + 1 + 1 + 1 ≠ g14 := by have := bV.lt; omega
         have ne13_14 : g13 ≠ g14 := by have := bn13.lt; omega
         try rw [← hg]
         have hb : Below V6.heap.size V6 V7 := by rw [← hX]; exact (Below.refl _ _).alloc (Nat.le_refl _) _
         clear hX hg
         replace bP := bP.on hb
         replace bU := bU.on hb
         replace bQ := bQ.on hb
         replace bV := bV.on hb
         replace bn13 := bn13.on hb
         replace HW := Lib.hid (bel_end HW.out hb)
         clear hb
         refine hK.out _ _ (HSp.out _ bP bU bQ bV) (fun _ => ?_)
         clear hK Kn)
      | (refine wpAnyH_ready (rs := [8]) (by decide +kernel) (by simp) ?_
         refine AllReadyH.cons (o := { dst := some 24, op := Go.Op.call { callee := Go.Callee.value (Go.Operand.func 23), args := #[Go.Operand.tmp 17, Go.Operand.tmp 19, Go.Operand.tmp 21, Go.Operand.tmp 23], argTypes := #[25, 25, 25, 25] }, type := 35, pos := "exact.go:4033", after := #[{ on := 1, ground := Go.Ground.data }, { on := 3, ground := Go.Ground.data }, { on := 5, ground := Go.Ground.data }, { on := 7, ground := Go.Ground.data }, { on := 7, ground := Go.Ground.chain }], guard := none }) rfl (fun Kn hK => ?_) AllReadyH.nil
         first | go_at_call 23 | (go_simp; go_at_call 23)
         (with_reducible refine Calls.mono (S1.out _) ?_)
         rintro e V7 ⟨rfl, hb⟩
         try dsimp only
         try simp only [Act.put, List.setIfInBounds_toArray, List.set_cons_zero, List.set_cons_succ]
         replace bP := bP.on hb
         replace bU := bU.on hb
         replace bQ := bQ.on hb
         replace bV := bV.on hb
         replace bn13 := bn13.on hb
         replace bn14 := bn14.on hb
         replace HW := Lib.hid (bel_end HW.out hb)
         clear hb
         refine hK.out _ _ (HSp.out _ bP bU bQ bV) (fun _ => ?_)
         clear hK Kn)
      | (have hS := HSp.out _ bP bU bQ bV
         refine wpAnyH_take (i := 9) (oi := { dst := some 15, op := Go.Op.move (Go.Operand.tmp 24), type := 35, pos := "exact.go:4033", after := #[{ on := 8, ground := Go.Ground.data }], guard := none }) (v := ?_) rfl (by kernel_rfl) (by kernel_rfl) (by kernel_rfl) (fun _ _ _ h => h) (Or.inl ⟨by rfl, ?_⟩) hS ?_
         rotate_left
         · (intro w hSw; have hSw := (HSd.out w).1 hSw; go_split_ands; go_simp) <;> with_reducible rfl
         clear hS
         try simp only [Act.put, List.setIfInBounds_toArray, List.set_cons_zero, List.set_cons_succ]
         have hS := HSp.out _ bP bU bQ bV
         refine wpAnyH_take (i := 10) (oi := { dst := some 25, op := Go.Op.extract (Go.Operand.tmp 15) 0, type := 34, pos := "exact.go:4033", after := #[{ on := 9, ground := Go.Ground.data }], guard := none }) (v := ?_) rfl (by kernel_rfl) (by kernel_rfl) (by kernel_rfl) (fun _ _ _ h => h) (Or.inl ⟨by rfl, ?_⟩) hS ?_
         rotate_left
         · (intro w hSw; have hSw := (HSd.out w).1 hSw; go_split_ands; go_simp) <;> with_reducible rfl
         clear hS
         try simp only [Act.put, List.setIfInBounds_toArray, List.set_cons_zero, List.set_cons_succ]
         have hS := HSp.out _ bP bU bQ bV
         refine wpAnyH_take (i := 11) (oi := { dst := some 26, op := Go.Op.extract (Go.Operand.tmp 15) 1, type := 34, pos := "exact.go:4033", after := #[{ on := 9, ground := Go.Ground.data }, { on := 15, ground := Go.Ground.gcOnly Go.Departure.lateStores }], guard := none }) (v := ?_) rfl (by kernel_rfl) (by kernel_rfl) (by kernel_rfl) (fun _ _ _ h => h) (Or.inl ⟨by rfl, ?_⟩) hS ?_
         rotate_left
         · (intro w hSw; have hSw := (HSd.out w).1 hSw; go_split_ands; go_simp) <;> with_reducible rfl
         clear hS
         try simp only [Act.put, List.setIfInBounds_toArray, List.set_cons_zero, List.set_cons_succ]
         have hS := HSp.out _ bP bU bQ bV
         refine wpAnyH_take (i := 12) (oi := { dst := some 27, op := Go.Op.extract (Go.Operand.tmp 15) 2, type := 2, pos := "exact.go:4033", after := #[{ on := 9, ground := Go.Ground.data }, { on := 16, ground := Go.Ground.gcOnly Go.Departure.lateStores }], guard := none }) (v := ?_) rfl (by kernel_rfl) (by kernel_rfl) (by kernel_rfl) (fun _ _ _ h => h) (Or.inl ⟨by rfl, ?_⟩) hS ?_
         rotate_left
         · (intro w hSw; have hSw := (HSd.out w).1 hSw; go_split_ands; go_simp) <;> with_reducible rfl
         clear hS
         try simp only [Act.put, List.setIfInBounds_toArray, List.set_cons_zero, List.set_cons_succ]
         refine wpAnyH_ready (rs := [13]) (by decide +kernel) (by simp) ?_
         refine AllReadyH.cons (o := { dst := some 9, op := Go.Op.alloc 34, type := 0, pos := "exact.go:4033", after := #[], guard := none }) rfl (fun Kn hK => ?_) AllReadyH.nil
         go_simp
         generalize hX : World.alloc V6 _ = V7
         obtain ⟨g13, hg⟩ : ∃ g, g = V6.heap.size := ⟨_, rfl⟩
         have bn13 : Bk V7 g13 #[.int .i64 0, .int .i64 0] 34 := by rw [← hX]; exact Bk.new' hg
         have le13 : W.heap.size ≤ g13 := by rw [hg]; exact HW.out.size
         have nebP_13 : w.heap.size ≠ g13 := by have := bP.lt; omega
         have nebU_13 : w.heap.size + 1 ≠ g13 := by have := bU.lt; omega
         have nebQ_13 : w.heap.size + 1 + 1 ≠ g13 := by have := bQ.lt; omega
         have nebV_13 : w.heap.size + 1 + 1 + 1 ≠ g13 := by have := bV.lt; omega
         have ne13_14 : g13 ≠ g14 := by have := bn14.lt; omega
         try rw [← hg]
         have hb : Below V6.heap.size V6 V7 := by rw [← hX]; exact (Below.refl _ _).alloc (Nat.le_refl _) _
         clear hX hg
         replace bP := bP.on hb
         replace bU := bU.on hb
         replace bQ := bQ.on hb
         replace bV := bV.on hb
         replace bn14 := bn14.on hb
         replace HW := Lib.hid (bel_end HW.out hb)
         clear hb
         refine hK.out _ _ (HSp.out _ bP bU bQ bV) (fun _ => ?_)
         clear hK Kn)
    all_goals
      first
      | (refine wpAnyH_ready (rs := [15]) (by decide +kernel) (by simp) ?_
         refine AllReadyH.cons (o := { dst := none, op := Go.Op.store 34 (Go.Operand.tmp 9) (Go.Operand.tmp 25), type := 0, pos := "exact.go:4033", after := #[{ on := 13, ground := Go.Ground.data }, { on := 10, ground := Go.Ground.data }, { on := 8, ground := Go.Ground.chain }, { on := 0, ground := Go.Ground.phase }, { on := 1, ground := Go.Ground.phase }, { on := 2, ground := Go.Ground.phase }, { on := 3, ground := Go.Ground.phase }, { on := 4, ground := Go.Ground.phase }, { on := 5, ground := Go.Ground.phase }, { on := 6, ground := Go.Ground.phase }, { on := 7, ground := Go.Ground.phase }, { on := 8, ground := Go.Ground.phase }, { on := 9, ground := Go.Ground.phase }, { on := 10, ground := Go.Ground.phase }, { on := 11, ground := Go.Ground.textOnly Go.Departure.lateStores }, { on := 12, ground := Go.Ground.textOnly Go.Departure.lateStores }, { on := 13, ground := Go.Ground.phase }, { on := 14, ground := Go.Ground.phase }], guard := none }) rfl (fun Kn hK => ?_) AllReadyH.nil
         have bn13_0 := bn13.cell 0 rfl
         have bn13_1 := bn13.cell 1 rfl
         have bn13_f0 := bn13.frozen 0
         have bn13_f1 := bn13.frozen 1
         have bn13_l := bn13.lt
         go_simp
         clear bn13_0 bn13_f0 bn13_1 bn13_f1 bn13_l
         generalize hX : World.setCell _ _ _ = V8
         have hb : Below W.heap.size W V8 := by rw [← hX]; exact ((HW.out.setCell (p := ⟨g13, 0, none⟩) le13 _).setCell (p := ⟨g13, 1, none⟩) le13 _)
         replace bP : Bk V8 (w.heap.size) #[.int .i64 px, .int .i64 py] 23 := by rw [← hX]; exact (Bk.other (Bk.other bP nebP_13 0 _) nebP_13 1 _)
         replace bU : Bk V8 (w.heap.size + 1) #[.int .i64 ux, .int .i64 uy] 23 := by rw [← hX]; exact (Bk.other (Bk.other bU nebU_13 0 _) nebU_13 1 _)
         replace bQ : Bk V8 (w.heap.size + 1 + 1) #[.int .i64 qx, .int .i64 qy] 23 := by rw [← hX]; exact (Bk.other (Bk.other bQ nebQ_13 0 _) nebQ_13 1 _)
         replace bV : Bk V8 (w.heap.size + 1 + 1 + 1) #[.int .i64 vx, .int .i64 vy] 23 := by rw [← hX]; exact (Bk.other (Bk.other bV nebV_13 0 _) nebV_13 1 _)
         replace bn14 : Bk V8 (g14) #[.int .i64 0, .int .i64 0] 34 := by rw [← hX]; exact (Bk.other (Bk.other bn14 (Ne.symm ne13_14) 0 _) (Ne.symm ne13_14) 1 _)
         replace bn13 : Bk V8 (g13) #[.int .i64 p, .int .i64 q] 34 := by rw [← hX]; exact (Bk.set (Bk.set bn13 0 _ rfl) 1 _ rfl)
         clear hX
         replace HW := Lib.hid hb
         clear hb
         refine hK.out _ _ (HSp.out _ bP bU bQ bV) (fun _ => ?_)
         clear hK Kn)
      | (have hS := HSp.out _ bP bU bQ bV
         refine wpAnyH_take (i := 9) (oi := { dst := some 15, op := Go.Op.move (Go.Operand.tmp 24), type := 35, pos := "exact.go:4033", after := #[{ on := 8, ground := Go.Ground.data }], guard := none }) (v := ?_) rfl (by kernel_rfl) (by kernel_rfl) (by kernel_rfl) (fun _ _ _ h => h) (Or.inl ⟨by rfl, ?_⟩) hS ?_
         rotate_left
         · (intro w hSw; have hSw := (HSd.out w).1 hSw; go_split_ands; go_simp) <;> with_reducible rfl
         clear hS
         try simp only [Act.put, List.setIfInBounds_toArray, List.set_cons_zero, List.set_cons_succ]
         have hS := HSp.out _ bP bU bQ bV
         refine wpAnyH_take (i := 10) (oi := { dst := some 25, op := Go.Op.extract (Go.Operand.tmp 15) 0, type := 34, pos := "exact.go:4033", after := #[{ on := 9, ground := Go.Ground.data }], guard := none }) (v := ?_) rfl (by kernel_rfl) (by kernel_rfl) (by kernel_rfl) (fun _ _ _ h => h) (Or.inl ⟨by rfl, ?_⟩) hS ?_
         rotate_left
         · (intro w hSw; have hSw := (HSd.out w).1 hSw; go_split_ands; go_simp) <;> with_reducible rfl
         clear hS
         try simp only [Act.put, List.setIfInBounds_toArray, List.set_cons_zero, List.set_cons_succ]
         have hS := HSp.out _ bP bU bQ bV
         refine wpAnyH_take (i := 11) (oi := { dst := some 26, op := Go.Op.extract (Go.Operand.tmp 15) 1, type := 34, pos := "exact.go:4033", after := #[{ on := 9, ground := Go.Ground.data }, { on := 15, ground := Go.Ground.gcOnly Go.Departure.lateStores }], guard := none }) (v := ?_) rfl (by kernel_rfl) (by kernel_rfl) (by kernel_rfl) (fun _ _ _ h => h) (Or.inl ⟨by rfl, ?_⟩) hS ?_
         rotate_left
         · (intro w hSw; have hSw := (HSd.out w).1 hSw; go_split_ands; go_simp) <;> with_reducible rfl
         clear hS
         try simp only [Act.put, List.setIfInBounds_toArray, List.set_cons_zero, List.set_cons_succ]
         have hS := HSp.out _ bP bU bQ bV
         refine wpAnyH_take (i := 12) (oi := { dst := some 27, op := Go.Op.extract (Go.Operand.tmp 15) 2, type := 2, pos := "exact.go:4033", after := #[{ on := 9, ground := Go.Ground.data }, { on := 16, ground := Go.Ground.gcOnly Go.Departure.lateStores }], guard := none }) (v := ?_) rfl (by kernel_rfl) (by kernel_rfl) (by kernel_rfl) (fun _ _ _ h => h) (Or.inl ⟨by rfl, ?_⟩) hS ?_
         rotate_left
         · (intro w hSw; have hSw := (HSd.out w).1 hSw; go_split_ands; go_simp) <;> with_reducible rfl
         clear hS
         try simp only [Act.put, List.setIfInBounds_toArray, List.set_cons_zero, List.set_cons_succ]
         refine wpAnyH_ready (rs := [15]) (by decide +kernel) (by simp) ?_
         refine AllReadyH.cons (o := { dst := none, op := Go.Op.store 34 (Go.Operand.tmp 9) (Go.Operand.tmp 25), type := 0, pos := "exact.go:4033", after := #[{ on := 13, ground := Go.Ground.data }, { on := 10, ground := Go.Ground.data }, { on := 8, ground := Go.Ground.chain }, { on := 0, ground := Go.Ground.phase }, { on := 1, ground := Go.Ground.phase }, { on := 2, ground := Go.Ground.phase }, { on := 3, ground := Go.Ground.phase }, { on := 4, ground := Go.Ground.phase }, { on := 5, ground := Go.Ground.phase }, { on := 6, ground := Go.Ground.phase }, { on := 7, ground := Go.Ground.phase }, { on := 8, ground := Go.Ground.phase }, { on := 9, ground := Go.Ground.phase }, { on := 10, ground := Go.Ground.phase }, { on := 11, ground := Go.Ground.textOnly Go.Departure.lateStores }, { on := 12, ground := Go.Ground.textOnly Go.Departure.lateStores }, { on := 13, ground := Go.Ground.phase }, { on := 14, ground := Go.Ground.phase }], guard := none }) rfl (fun Kn hK => ?_) AllReadyH.nil
         have bn13_0 := bn13.cell 0 rfl
         have bn13_1 := bn13.cell 1 rfl
         have bn13_f0 := bn13.frozen 0
         have bn13_f1 := bn13.frozen 1
         have bn13_l := bn13.lt
         go_simp
         clear bn13_0 bn13_f0 bn13_1 bn13_f1 bn13_l
         generalize hX : World.setCell _ _ _ = V8
         have hb : Below W.heap.size W V8 := by rw [← hX]; exact ((HW.out.setCell (p := ⟨g13, 0, none⟩) le13 _).setCell (p := ⟨g13, 1, none⟩) le13 _)
         replace bP : Bk V8 (w.heap.size) #[.int .i64 px, .int .i64 py] 23 := by rw [← hX]; exact (Bk.other (Bk.other bP nebP_13 0 _) nebP_13 1 _)
         replace bU : Bk V8 (w.heap.size + 1) #[.int .i64 ux, .int .i64 uy] 23 := by rw [← hX]; exact (Bk.other (Bk.other bU nebU_13 0 _) nebU_13 1 _)
         replace bQ : Bk V8 (w.heap.size + 1 + 1) #[.int .i64 qx, .int .i64 qy] 23 := by rw [← hX]; exact (Bk.other (Bk.other bQ nebQ_13 0 _) nebQ_13 1 _)
         replace bV : Bk V8 (w.heap.size + 1 + 1 + 1) #[.int .i64 vx, .int .i64 vy] 23 := by rw [← hX]; exact (Bk.other (Bk.other bV nebV_13 0 _) nebV_13 1 _)
         replace bn14 : Bk V8 (g14) #[.int .i64 0, .int .i64 0] 34 := by rw [← hX]; exact (Bk.other (Bk.other bn14 (Ne.symm ne13_14) 0 _) (Ne.symm ne13_14) 1 _)
         replace bn13 : Bk V8 (g13) #[.int .i64 p, .int .i64 q] 34 := by rw [← hX]; exact (Bk.set (Bk.set bn13 0 _ rfl) 1 _ rfl)
         clear hX
         replace HW := Lib.hid hb
         clear hb
         refine hK.out _ _ (HSp.out _ bP bU bQ bV) (fun _ => ?_)
         clear hK Kn)
    all_goals
      refine wpAnyH_ready (rs := [16]) (by decide +kernel) (by simp) ?_
      refine AllReadyH.cons (o := { dst := none, op := Go.Op.store 34 (Go.Operand.tmp 10) (Go.Operand.tmp 26), type := 0, pos := "exact.go:4033", after := #[{ on := 14, ground := Go.Ground.data }, { on := 11, ground := Go.Ground.data }, { on := 15, ground := Go.Ground.chain }, { on := 0, ground := Go.Ground.phase }, { on := 1, ground := Go.Ground.phase }, { on := 2, ground := Go.Ground.phase }, { on := 3, ground := Go.Ground.phase }, { on := 4, ground := Go.Ground.phase }, { on := 5, ground := Go.Ground.phase }, { on := 6, ground := Go.Ground.phase }, { on := 7, ground := Go.Ground.phase }, { on := 8, ground := Go.Ground.phase }, { on := 9, ground := Go.Ground.phase }, { on := 10, ground := Go.Ground.phase }, { on := 11, ground := Go.Ground.phase }, { on := 12, ground := Go.Ground.textOnly Go.Departure.lateStores }, { on := 13, ground := Go.Ground.phase }, { on := 14, ground := Go.Ground.phase }, { on := 15, ground := Go.Ground.phase }], guard := none }) rfl (fun Kn hK => ?_) AllReadyH.nil
      have bn14_0 := bn14.cell 0 rfl
      have bn14_1 := bn14.cell 1 rfl
      have bn14_f0 := bn14.frozen 0
      have bn14_f1 := bn14.frozen 1
      have bn14_l := bn14.lt
      go_simp
      clear bn14_0 bn14_f0 bn14_1 bn14_f1 bn14_l
      generalize hX : World.setCell _ _ _ = V9
      have hb : Below W.heap.size W V9 := by rw [← hX]; exact ((HW.out.setCell (p := ⟨g14, 0, none⟩) le14 _).setCell (p := ⟨g14, 1, none⟩) le14 _)
      replace bP : Bk V9 (w.heap.size) #[.int .i64 px, .int .i64 py] 23 := by rw [← hX]; exact (Bk.other (Bk.other bP nebP_14 0 _) nebP_14 1 _)
      replace bU : Bk V9 (w.heap.size + 1) #[.int .i64 ux, .int .i64 uy] 23 := by rw [← hX]; exact (Bk.other (Bk.other bU nebU_14 0 _) nebU_14 1 _)
      replace bQ : Bk V9 (w.heap.size + 1 + 1) #[.int .i64 qx, .int .i64 qy] 23 := by rw [← hX]; exact (Bk.other (Bk.other bQ nebQ_14 0 _) nebQ_14 1 _)
      replace bV : Bk V9 (w.heap.size + 1 + 1 + 1) #[.int .i64 vx, .int .i64 vy] 23 := by rw [← hX]; exact (Bk.other (Bk.other bV nebV_14 0 _) nebV_14 1 _)
      replace bn13 : Bk V9 (g13) #[.int .i64 p, .int .i64 q] 34 := by rw [← hX]; exact (Bk.other (Bk.other bn13 ne13_14 0 _) ne13_14 1 _)
      replace bn14 : Bk V9 (g14) #[.int .i64 r, .int .i64 t] 34 := by rw [← hX]; exact (Bk.set (Bk.set bn14 0 _ rfl) 1 _ rfl)
      clear hX
      replace HW := Lib.hid hb
      clear hb
      refine hK.out _ _ (HSp.out _ bP bU bQ bV) (fun _ => ?_)
      clear hK Kn
    all_goals
      have hS := HSp.out _ bP bU bQ bV
      refine wpAnyH_take (i := 17) (oi := { dst := some 11, op := Go.Op.assign (Go.Operand.tmp 27), type := 2, pos := "exact.go:4033", after := #[{ on := 12, ground := Go.Ground.data }, { on := 16, ground := Go.Ground.chain }, { on := 0, ground := Go.Ground.phase }, { on := 1, ground := Go.Ground.phase }, { on := 2, ground := Go.Ground.phase }, { on := 3, ground := Go.Ground.phase }, { on := 4, ground := Go.Ground.phase }, { on := 5, ground := Go.Ground.phase }, { on := 6, ground := Go.Ground.phase }, { on := 7, ground := Go.Ground.phase }, { on := 8, ground := Go.Ground.phase }, { on := 9, ground := Go.Ground.phase }, { on := 10, ground := Go.Ground.phase }, { on := 11, ground := Go.Ground.phase }, { on := 12, ground := Go.Ground.phase }, { on := 13, ground := Go.Ground.phase }, { on := 14, ground := Go.Ground.phase }, { on := 15, ground := Go.Ground.phase }, { on := 16, ground := Go.Ground.phase }], guard := none }) (v := ?_) rfl (by kernel_rfl) (by kernel_rfl) (by kernel_rfl) (fun _ _ _ h => h) (Or.inl ⟨by rfl, ?_⟩) hS ?_
      rotate_left
      · (intro w hSw; have hSw := (HSd.out w).1 hSw; go_split_ands; go_simp) <;> with_reducible rfl
      clear hS
      try simp only [Act.put, List.setIfInBounds_toArray, List.set_cons_zero, List.set_cons_succ]
      refine wpAnyH_done (by kernel_rfl) ?_ _
      go_wp2_with fail
      go_meet
      exact ⟨⟨_, _, rfl, rfl, rfl, bn13, bn14⟩, HW.out⟩
  case rest =>
    obtain ⟨hx, hb⟩ := hcut
    replace bP := bP.on hb
    replace bU := bU.on hb
    replace bQ := bQ.on hb
    replace bV := bV.on hb
    replace HB := Lib.hid (bel_end HB.out hb)
    clear hb
    obtain ⟨ga0, ga1, rfl, rfl, rfl, bRa0, bRa1⟩ := hx
    obtain ⟨WCa, hWC⟩ : ∃ W, W = wc := ⟨_, rfl⟩
    skip
    have bP_0 := bP.cell 0 rfl
    have bP_1 := bP.cell 1 rfl
    have bP_l := bP.lt
    have bU_0 := bU.cell 0 rfl
    have bU_1 := bU.cell 1 rfl
    have bU_l := bU.lt
    have bQ_0 := bQ.cell 0 rfl
    have bQ_1 := bQ.cell 1 rfl
    have bQ_l := bQ.lt
    have bV_0 := bV.cell 0 rfl
    have bV_1 := bV.cell 1 rfl
    have bV_l := bV.lt
    have bRa0_0 := bRa0.cell 0 rfl
    have bRa0_1 := bRa0.cell 1 rfl
    have bRa0_l := bRa0.lt
    have bRa1_0 := bRa1.cell 0 rfl
    have bRa1_1 := bRa1.cell 1 rfl
    have bRa1_l := bRa1.lt
    go_upto_region 2 with fail
    clear bP_0 bP_1 bP_l bU_0 bU_1 bU_l bQ_0 bQ_1 bQ_l bV_0 bV_1 bV_l bRa0_0 bRa0_1 bRa0_l bRa1_0 bRa1_1 bRa1_l
    go_cut [12, 13, 14] (fun s12 s13 s14 wx => XR2 wx s12 s13 s14 #[.int .i64 p, .int .i64 q] 34 #[.int .i64 r, .int .i64 t] 34 (c) ∧ Below wc.heap.size wc wx)
    case first =>
      have HW : Hid (Below wc.heap.size wc wc) := Lib.hid (Below.refl _ _)
      obtain ⟨S, hSd⟩ : ∃ S : World → Prop, ∀ w', S w' ↔ (w'.cell? ⟨w.heap.size, 0, none⟩ = some (.int .i64 px) ∧ w'.cell? ⟨w.heap.size, 1, none⟩ = some (.int .i64 py) ∧ w'.cell? ⟨w.heap.size + 1, 0, none⟩ = some (.int .i64 ux) ∧ w'.cell? ⟨w.heap.size + 1, 1, none⟩ = some (.int .i64 uy) ∧ w'.cell? ⟨w.heap.size + 1 + 1, 0, none⟩ = some (.int .i64 qx) ∧ w'.cell? ⟨w.heap.size + 1 + 1, 1, none⟩ = some (.int .i64 qy) ∧ w'.cell? ⟨w.heap.size + 1 + 1 + 1, 0, none⟩ = some (.int .i64 vx) ∧ w'.cell? ⟨w.heap.size + 1 + 1 + 1, 1, none⟩ = some (.int .i64 vy)) := ⟨_, fun _ => Iff.rfl⟩
      have HSp : Hid (∀ w' : World, Bk w' (w.heap.size) #[.int .i64 px, .int .i64 py] 23 → Bk w' (w.heap.size + 1) #[.int .i64 ux, .int .i64 uy] 23 → Bk w' (w.heap.size + 1 + 1) #[.int .i64 qx, .int .i64 qy] 23 → Bk w' (w.heap.size + 1 + 1 + 1) #[.int .i64 vx, .int .i64 vy] 23 → S w') := Lib.hid (fun w' bP bU bQ bV => (hSd w').2 ⟨bP.cell 0 rfl, bP.cell 1 rfl, bU.cell 0 rfl, bU.cell 1 rfl, bQ.cell 0 rfl, bQ.cell 1 rfl, bV.cell 0 rfl, bV.cell 1 rfl⟩)
      have HSd := Lib.hid hSd
      clear hSd
      refine wp_region_held_drew (S := S) (by kernel_rfl) ?_ (fun hH => ?_)
      · exact (HSp.out _ bP bU bQ bV : S (World.drew wc))
      clear hH
      generalize hX : World.drew wc = V0
      replace bP : Bk V0 (w.heap.size) #[.int .i64 px, .int .i64 py] 23 := by rw [← hX]; exact bP
      replace bU : Bk V0 (w.heap.size + 1) #[.int .i64 ux, .int .i64 uy] 23 := by rw [← hX]; exact bU
      replace bQ : Bk V0 (w.heap.size + 1 + 1) #[.int .i64 qx, .int .i64 qy] 23 := by rw [← hX]; exact bQ
      replace bV : Bk V0 (w.heap.size + 1 + 1 + 1) #[.int .i64 vx, .int .i64 vy] 23 := by rw [← hX]; exact bV
      have hb : Below wc.heap.size wc V0 := by rw [← hX]; exact (Below.refl _ _).drew
      clear hX
      replace HW := Lib.hid (bel_end HW.out hb)
      clear hb
      have hS := HSp.out _ bP bU bQ bV
      refine wpAnyH_take (i := 0) (oi := { dst := some 29, op := Go.Op.load 23 (Go.Operand.tmp 4), type := 23, pos := "exact.go:4034", after := #[], guard := none }) (v := ?_) rfl (by kernel_rfl) (by kernel_rfl) (by kernel_rfl) (fun _ _ _ h => h) (Or.inl ⟨by rfl, ?_⟩) hS ?_
      rotate_left
      · (intro w hSw; have hSw := (HSd.out w).1 hSw; go_split_ands; go_simp) <;> with_reducible rfl
      clear hS
      try simp only [Act.put, List.setIfInBounds_toArray, List.set_cons_zero, List.set_cons_succ]
      have hS := HSp.out _ bP bU bQ bV
      refine wpAnyH_take (i := 2) (oi := { dst := some 31, op := Go.Op.load 23 (Go.Operand.tmp 5), type := 23, pos := "exact.go:4034", after := #[], guard := none }) (v := ?_) rfl (by kernel_rfl) (by kernel_rfl) (by kernel_rfl) (fun _ _ _ h => h) (Or.inl ⟨by rfl, ?_⟩) hS ?_
      rotate_left
      · (intro w hSw; have hSw := (HSd.out w).1 hSw; go_split_ands; go_simp) <;> with_reducible rfl
      clear hS
      try simp only [Act.put, List.setIfInBounds_toArray, List.set_cons_zero, List.set_cons_succ]
      have hS := HSp.out _ bP bU bQ bV
      refine wpAnyH_take (i := 4) (oi := { dst := some 33, op := Go.Op.load 23 (Go.Operand.tmp 6), type := 23, pos := "exact.go:4034", after := #[], guard := none }) (v := ?_) rfl (by kernel_rfl) (by kernel_rfl) (by kernel_rfl) (fun _ _ _ h => h) (Or.inl ⟨by rfl, ?_⟩) hS ?_
      rotate_left
      · (intro w hSw; have hSw := (HSd.out w).1 hSw; go_split_ands; go_simp) <;> with_reducible rfl
      clear hS
      try simp only [Act.put, List.setIfInBounds_toArray, List.set_cons_zero, List.set_cons_succ]
      have hS := HSp.out _ bP bU bQ bV
      refine wpAnyH_take (i := 6) (oi := { dst := some 35, op := Go.Op.load 23 (Go.Operand.tmp 7), type := 23, pos := "exact.go:4034", after := #[], guard := none }) (v := ?_) rfl (by kernel_rfl) (by kernel_rfl) (by kernel_rfl) (fun _ _ _ h => h) (Or.inl ⟨by rfl, ?_⟩) hS ?_
      rotate_left
      · (intro w hSw; have hSw := (HSd.out w).1 hSw; go_split_ands; go_simp) <;> with_reducible rfl
      clear hS
      try simp only [Act.put, List.setIfInBounds_toArray, List.set_cons_zero, List.set_cons_succ]
      refine wpAnyH_ready (rs := [1, 13, 14]) (by decide +kernel) (by simp) ?_
      refine AllReadyH.cons (o := { dst := some 30, op := Go.Op.call { callee := Go.Callee.value (Go.Operand.func 17), args := #[Go.Operand.tmp 29], argTypes := #[23] }, type := 25, pos := "exact.go:4034", after := #[{ on := 0, ground := Go.Ground.data }], guard := none }) rfl (fun Kn hK => ?_) ?_
      first | go_at_call 17 | (go_simp; go_at_call 17)
      (with_reducible refine Calls.mono (tpt_any _ _ _) ?_)
      rintro e V1 ⟨rfl, hb⟩
      try dsimp only
      try simp only [Act.put, List.setIfInBounds_toArray, List.set_cons_zero, List.set_cons_succ]
      replace bP := bP.on hb
      replace bU := bU.on hb
      replace bQ := bQ.on hb
      replace bV := bV.on hb
      replace HW := Lib.hid (bel_end HW.out hb)
      clear hb
      refine hK.out _ _ (HSp.out _ bP bU bQ bV) (fun _ => ?_)
      clear hK Kn
      rotate_left
      refine AllReadyH.cons (o := { dst := some 12, op := Go.Op.alloc 34, type := 0, pos := "exact.go:4034", after := #[], guard := none }) rfl (fun Kn hK => ?_) ?_
      go_simp
      generalize hX : World.alloc V0 _ = V1
      obtain ⟨g13, hg⟩ : ∃ g, g = V0.heap.size := ⟨_, rfl⟩
      have bn13 : Bk V1 g13 #[.int .i64 0, .int .i64 0] 34 := by rw [← hX]; exact Bk.new' hg
      have le13 : wc.heap.size ≤ g13 := by rw [hg]; exact HW.out.size
      have nebP_13 : w.heap.size ≠ g13 := by have := bP.lt; omega
      have nebU_13 : w.heap.size + 1 ≠ g13 := by have := bU.lt; omega
      have nebQ_13 : w.heap.size + 1 + 1 ≠ g13 := by have := bQ.lt; omega
      have nebV_13 : w.heap.size + 1 + 1 + 1 ≠ g13 := by have := bV.lt; omega
      try rw [← hg]
      have hb : Below V0.heap.size V0 V1 := by rw [← hX]; exact (Below.refl _ _).alloc (Nat.le_refl _) _
      clear hX hg
      replace bP := bP.on hb
      replace bU := bU.on hb
      replace bQ := bQ.on hb
      replace bV := bV.on hb
      replace HW := Lib.hid (bel_end HW.out hb)
      clear hb
      refine hK.out _ _ (HSp.out _ bP bU bQ bV) (fun _ => ?_)
      clear hK Kn
      rotate_left
      refine AllReadyH.cons (o := { dst := some 13, op := Go.Op.alloc 34, type := 0, pos := "exact.go:4034", after := #[], guard := none }) rfl (fun Kn hK => ?_) AllReadyH.nil
      go_simp
      generalize hX : World.alloc V0 _ = V1
      obtain ⟨g14, hg⟩ : ∃ g, g = V0.heap.size := ⟨_, rfl⟩
      have bn14 : Bk V1 g14 #[.int .i64 0, .int .i64 0] 34 := by rw [← hX]; exact Bk.new' hg
      have le14 : wc.heap.size ≤ g14 := by rw [hg]; exact HW.out.size
      have nebP_14 : w.heap.size ≠ g14 := by have := bP.lt; omega
      have nebU_14 : w.heap.size + 1 ≠ g14 := by have := bU.lt; omega
      have nebQ_14 : w.heap.size + 1 + 1 ≠ g14 := by have := bQ.lt; omega
      have nebV_14 : w.heap.size + 1 + 1 + 1 ≠ g14 := by have := bV.lt; omega
      try rw [← hg]
      have hb : Below V0.heap.size V0 V1 := by rw [← hX]; exact (Below.refl _ _).alloc (Nat.le_refl _) _
      clear hX hg
      replace bP := bP.on hb
      replace bU := bU.on hb
      replace bQ := bQ.on hb
      replace bV := bV.on hb
      replace HW := Lib.hid (bel_end HW.out hb)
      clear hb
      refine hK.out _ _ (HSp.out _ bP bU bQ bV) (fun _ => ?_)
      clear hK Kn
      all_goals
        first
        | (refine wpAnyH_ready (rs := [3, 13, 14]) (by decide +kernel) (by simp) ?_
           refine AllReadyH.cons (o := { dst := some 32, op := Go.Op.call { callee := Go.Callee.value (Go.Operand.func 17), args := #[Go.Operand.tmp 31], argTypes := #[23] }, type := 25, pos := "exact.go:4034", after := #[{ on := 2, ground := Go.Ground.data }, { on := 1, ground := Go.Ground.chain }], guard := none }) rfl (fun Kn hK => ?_) ?_
           first | go_at_call 17 | (go_simp; go_at_call 17)
           (with_reducible refine Calls.mono (tpt_any _ _ _) ?_)
           rintro e V2 ⟨rfl, hb⟩
           try dsimp only
           try simp only [Act.put, List.setIfInBounds_toArray, List.set_cons_zero, List.set_cons_succ]
           replace bP := bP.on hb
           replace bU := bU.on hb
           replace bQ := bQ.on hb
           replace bV := bV.on hb
           replace HW := Lib.hid (bel_end HW.out hb)
           clear hb
           refine hK.out _ _ (HSp.out _ bP bU bQ bV) (fun _ => ?_)
           clear hK Kn
           rotate_left
           refine AllReadyH.cons (o := { dst := some 12, op := Go.Op.alloc 34, type := 0, pos := "exact.go:4034", after := #[], guard := none }) rfl (fun Kn hK => ?_) ?_
           go_simp
           generalize hX : World.alloc V1 _ = V2
           obtain ⟨g13, hg⟩ : ∃ g, g = V1.heap.size := ⟨_, rfl⟩
           have bn13 : Bk V2 g13 #[.int .i64 0, .int .i64 0] 34 := by rw [← hX]; exact Bk.new' hg
           have le13 : wc.heap.size ≤ g13 := by rw [hg]; exact HW.out.size
           have nebP_13 : w.heap.size ≠ g13 := by have := bP.lt; omega
           have nebU_13 : w.heap.size + 1 ≠ g13 := by have := bU.lt; omega
           have nebQ_13 : w.heap.size + 1 + 1 ≠ g13 := by have := bQ.lt; omega
           have nebV_13 : w.heap.size + 1 + 1 + 1 ≠ g13 := by have := bV.lt; omega
           try rw [← hg]
           have hb : Below V1.heap.size V1 V2 := by rw [← hX]; exact (Below.refl _ _).alloc (Nat.le_refl _) _
           clear hX hg
           replace bP := bP.on hb
           replace bU := bU.on hb
           replace bQ := bQ.on hb
           replace bV := bV.on hb
           replace HW := Lib.hid (bel_end HW.out hb)
           clear hb
           refine hK.out _ _ (HSp.out _ bP bU bQ bV) (fun _ => ?_)
           clear hK Kn
           rotate_left
           refine AllReadyH.cons (o := { dst := some 13, op := Go.Op.alloc 34, type := 0, pos := "exact.go:4034", after := #[], guard := none }) rfl (fun Kn hK => ?_) AllReadyH.nil
           go_simp
           generalize hX : World.alloc V1 _ = V2
           obtain ⟨g14, hg⟩ : ∃ g, g = V1.heap.size := ⟨_, rfl⟩
           have bn14 : Bk V2 g14 #[.int .i64 0, .int .i64 0] 34 := by rw [← hX]; exact Bk.new' hg
           have le14 : wc.heap.size ≤ g14 := by rw [hg]; exact HW.out.size
           have nebP_14 : w.heap.size ≠ g14 := by have := bP.lt; omega
           have nebU_14 : w.heap.size + 1 ≠ g14 := by have := bU.lt; omega
           have nebQ_14 : w.heap.size + 1 + 1 ≠ g14 := by have := bQ.lt; omega
           have nebV_14 : w.heap.size + 1 + 1 + 1 ≠ g14 := by have := bV.lt; omega
           try rw [← hg]
           have hb : Below V1.heap.size V1 V2 := by rw [← hX]; exact (Below.refl _ _).alloc (Nat.le_refl _) _
           clear hX hg
           replace bP := bP.on hb
           replace bU := bU.on hb
           replace bQ := bQ.on hb
           replace bV := bV.on hb
           replace HW := Lib.hid (bel_end HW.out hb)
           clear hb
           refine hK.out _ _ (HSp.out _ bP bU bQ bV) (fun _ => ?_)
           clear hK Kn)
        | (refine wpAnyH_ready (rs := [1, 14]) (by decide +kernel) (by simp) ?_
           refine AllReadyH.cons (o := { dst := some 30, op := Go.Op.call { callee := Go.Callee.value (Go.Operand.func 17), args := #[Go.Operand.tmp 29], argTypes := #[23] }, type := 25, pos := "exact.go:4034", after := #[{ on := 0, ground := Go.Ground.data }], guard := none }) rfl (fun Kn hK => ?_) ?_
           first | go_at_call 17 | (go_simp; go_at_call 17)
           (with_reducible refine Calls.mono (tpt_any _ _ _) ?_)
           rintro e V2 ⟨rfl, hb⟩
           try dsimp only
           try simp only [Act.put, List.setIfInBounds_toArray, List.set_cons_zero, List.set_cons_succ]
           replace bP := bP.on hb
           replace bU := bU.on hb
           replace bQ := bQ.on hb
           replace bV := bV.on hb
           replace bn13 := bn13.on hb
           replace HW := Lib.hid (bel_end HW.out hb)
           clear hb
           refine hK.out _ _ (HSp.out _ bP bU bQ bV) (fun _ => ?_)
           clear hK Kn
           rotate_left
           refine AllReadyH.cons (o := { dst := some 13, op := Go.Op.alloc 34, type := 0, pos := "exact.go:4034", after := #[], guard := none }) rfl (fun Kn hK => ?_) AllReadyH.nil
           go_simp
           generalize hX : World.alloc V1 _ = V2
           obtain ⟨g14, hg⟩ : ∃ g, g = V1.heap.size := ⟨_, rfl⟩
           have bn14 : Bk V2 g14 #[.int .i64 0, .int .i64 0] 34 := by rw [← hX]; exact Bk.new' hg
           have le14 : wc.heap.size ≤ g14 := by rw [hg]; exact HW.out.size
           have nebP_14 : w.heap.size ≠ g14 := by have := bP.lt; omega
           have nebU_14 : w.heap.size + 1 ≠ g14 := by have := bU.lt; omega
           have nebQ_14 : w.heap.size + 1 + 1 ≠ g14 := by have := bQ.lt; omega
           have nebV_14 : w.heap.size + 1 + 1 + 1 ≠ g14 := by have := bV.lt; omega
           have ne13_14 : g13 ≠ g14 := by have := bn13.lt; omega
           try rw [← hg]
           have hb : Below V1.heap.size V1 V2 := by rw [← hX]; exact (Below.refl _ _).alloc (Nat.le_refl _) _
           clear hX hg
           replace bP := bP.on hb
           replace bU := bU.on hb
           replace bQ := bQ.on hb
           replace bV := bV.on hb
           replace bn13 := bn13.on hb
           replace HW := Lib.hid (bel_end HW.out hb)
           clear hb
           refine hK.out _ _ (HSp.out _ bP bU bQ bV) (fun _ => ?_)
           clear hK Kn)
        | (refine wpAnyH_ready (rs := [1, 13]) (by decide +kernel) (by simp) ?_
           refine AllReadyH.cons (o := { dst := some 30, op := Go.Op.call { callee := Go.Callee.value (Go.Operand.func 17), args := #[Go.Operand.tmp 29], argTypes := #[23] }, type := 25, pos := "exact.go:4034", after := #[{ on := 0, ground := Go.Ground.data }], guard := none }) rfl (fun Kn hK => ?_) ?_
           first | go_at_call 17 | (go_simp; go_at_call 17)
           (with_reducible refine Calls.mono (tpt_any _ _ _) ?_)
           rintro e V2 ⟨rfl, hb⟩
           try dsimp only
           try simp only [Act.put, List.setIfInBounds_toArray, List.set_cons_zero, List.set_cons_succ]
           replace bP := bP.on hb
           replace bU := bU.on hb
           replace bQ := bQ.on hb
           replace bV := bV.on hb
           replace bn14 := bn14.on hb
           replace HW := Lib.hid (bel_end HW.out hb)
           clear hb
           refine hK.out _ _ (HSp.out _ bP bU bQ bV) (fun _ => ?_)
           clear hK Kn
           rotate_left
           refine AllReadyH.cons (o := { dst := some 12, op := Go.Op.alloc 34, type := 0, pos := "exact.go:4034", after := #[], guard := none }) rfl (fun Kn hK => ?_) AllReadyH.nil
           go_simp
           generalize hX : World.alloc V1 _ = V2
           obtain ⟨g13, hg⟩ : ∃ g, g = V1.heap.size := ⟨_, rfl⟩
           have bn13 : Bk V2 g13 #[.int .i64 0, .int .i64 0] 34 := by rw [← hX]; exact Bk.new' hg
           have le13 : wc.heap.size ≤ g13 := by rw [hg]; exact HW.out.size
           have nebP_13 : w.heap.size ≠ g13 := by have := bP.lt; omega
           have nebU_13 : w.heap.size + 1 ≠ g13 := by have := bU.lt; omega
           have nebQ_13 : w.heap.size + 1 + 1 ≠ g13 := by have := bQ.lt; omega
           have nebV_13 : w.heap.size + 1 + 1 + 1 ≠ g13 := by have := bV.lt; omega
           have ne13_14 : g13 ≠ g14 := by have := bn14.lt; omega
           try rw [← hg]
           have hb : Below V1.heap.size V1 V2 := by rw [← hX]; exact (Below.refl _ _).alloc (Nat.le_refl _) _
           clear hX hg
           replace bP := bP.on hb
           replace bU := bU.on hb
           replace bQ := bQ.on hb
           replace bV := bV.on hb
           replace bn14 := bn14.on hb
           replace HW := Lib.hid (bel_end HW.out hb)
           clear hb
           refine hK.out _ _ (HSp.out _ bP bU bQ bV) (fun _ => ?_)
           clear hK Kn)
      all_goals
        first
        | (refine wpAnyH_ready (rs := [5, 13, 14]) (by decide +kernel) (by simp) ?_
           refine AllReadyH.cons (o := { dst := some 34, op := Go.Op.call { callee := Go.Callee.value (Go.Operand.func 17), args := #[Go.Operand.tmp 33], argTypes := #[23] }, type := 25, pos := "exact.go:4034", after := #[{ on := 4, ground := Go.Ground.data }, { on := 3, ground := Go.Ground.chain }], guard := none }) rfl (fun Kn hK => ?_) ?_
           first | go_at_call 17 | (go_simp; go_at_call 17)
           (with_reducible refine Calls.mono (tpt_any _ _ _) ?_)
           rintro e V3 ⟨rfl, hb⟩
           try dsimp only
           try simp only [Act.put, List.setIfInBounds_toArray, List.set_cons_zero, List.set_cons_succ]
           replace bP := bP.on hb
           replace bU := bU.on hb
           replace bQ := bQ.on hb
           replace bV := bV.on hb
           replace HW := Lib.hid (bel_end HW.out hb)
           clear hb
           refine hK.out _ _ (HSp.out _ bP bU bQ bV) (fun _ => ?_)
           clear hK Kn
           rotate_left
           refine AllReadyH.cons (o := { dst := some 12, op := Go.Op.alloc 34, type := 0, pos := "exact.go:4034", after := #[], guard := none }) rfl (fun Kn hK => ?_) ?_
           go_simp
           generalize hX : World.alloc V2 _ = V3
           obtain ⟨g13, hg⟩ : ∃ g, g = V2.heap.size := ⟨_, rfl⟩
           have bn13 : Bk V3 g13 #[.int .i64 0, .int .i64 0] 34 := by rw [← hX]; exact Bk.new' hg
           have le13 : wc.heap.size ≤ g13 := by rw [hg]; exact HW.out.size
           have nebP_13 : w.heap.size ≠ g13 := by have := bP.lt; omega
           have nebU_13 : w.heap.size + 1 ≠ g13 := by have := bU.lt; omega
           have nebQ_13 : w.heap.size + 1 + 1 ≠ g13 := by have := bQ.lt; omega
           have nebV_13 : w.heap.size + 1 + 1 + 1 ≠ g13 := by have := bV.lt; omega
           try rw [← hg]
           have hb : Below V2.heap.size V2 V3 := by rw [← hX]; exact (Below.refl _ _).alloc (Nat.le_refl _) _
           clear hX hg
           replace bP := bP.on hb
           replace bU := bU.on hb
           replace bQ := bQ.on hb
           replace bV := bV.on hb
           replace HW := Lib.hid (bel_end HW.out hb)
           clear hb
           refine hK.out _ _ (HSp.out _ bP bU bQ bV) (fun _ => ?_)
           clear hK Kn
           rotate_left
           refine AllReadyH.cons (o := { dst := some 13, op := Go.Op.alloc 34, type := 0, pos := "exact.go:4034", after := #[], guard := none }) rfl (fun Kn hK => ?_) AllReadyH.nil
           go_simp
           generalize hX : World.alloc V2 _ = V3
           obtain ⟨g14, hg⟩ : ∃ g, g = V2.heap.size := ⟨_, rfl⟩
           have bn14 : Bk V3 g14 #[.int .i64 0, .int .i64 0] 34 := by rw [← hX]; exact Bk.new' hg
           have le14 : wc.heap.size ≤ g14 := by rw [hg]; exact HW.out.size
           have nebP_14 : w.heap.size ≠ g14 := by have := bP.lt; omega
           have nebU_14 : w.heap.size + 1 ≠ g14 := by have := bU.lt; omega
           have nebQ_14 : w.heap.size + 1 + 1 ≠ g14 := by have := bQ.lt; omega
           have nebV_14 : w.heap.size + 1 + 1 + 1 ≠ g14 := by have := bV.lt; omega
           try rw [← hg]
           have hb : Below V2.heap.size V2 V3 := by rw [← hX]; exact (Below.refl _ _).alloc (Nat.le_refl _) _
           clear hX hg
           replace bP := bP.on hb
           replace bU := bU.on hb
           replace bQ := bQ.on hb
           replace bV := bV.on hb
           replace HW := Lib.hid (bel_end HW.out hb)
           clear hb
           refine hK.out _ _ (HSp.out _ bP bU bQ bV) (fun _ => ?_)
           clear hK Kn)
        | (refine wpAnyH_ready (rs := [3, 14]) (by decide +kernel) (by simp) ?_
           refine AllReadyH.cons (o := { dst := some 32, op := Go.Op.call { callee := Go.Callee.value (Go.Operand.func 17), args := #[Go.Operand.tmp 31], argTypes := #[23] }, type := 25, pos := "exact.go:4034", after := #[{ on := 2, ground := Go.Ground.data }, { on := 1, ground := Go.Ground.chain }], guard := none }) rfl (fun Kn hK => ?_) ?_
           first | go_at_call 17 | (go_simp; go_at_call 17)
           (with_reducible refine Calls.mono (tpt_any _ _ _) ?_)
           rintro e V3 ⟨rfl, hb⟩
           try dsimp only
           try simp only [Act.put, List.setIfInBounds_toArray, List.set_cons_zero, List.set_cons_succ]
           replace bP := bP.on hb
           replace bU := bU.on hb
           replace bQ := bQ.on hb
           replace bV := bV.on hb
           replace bn13 := bn13.on hb
           replace HW := Lib.hid (bel_end HW.out hb)
           clear hb
           refine hK.out _ _ (HSp.out _ bP bU bQ bV) (fun _ => ?_)
           clear hK Kn
           rotate_left
           refine AllReadyH.cons (o := { dst := some 13, op := Go.Op.alloc 34, type := 0, pos := "exact.go:4034", after := #[], guard := none }) rfl (fun Kn hK => ?_) AllReadyH.nil
           go_simp
           generalize hX : World.alloc V2 _ = V3
           obtain ⟨g14, hg⟩ : ∃ g, g = V2.heap.size := ⟨_, rfl⟩
           have bn14 : Bk V3 g14 #[.int .i64 0, .int .i64 0] 34 := by rw [← hX]; exact Bk.new' hg
           have le14 : wc.heap.size ≤ g14 := by rw [hg]; exact HW.out.size
           have nebP_14 : w.heap.size ≠ g14 := by have := bP.lt; omega
           have nebU_14 : w.heap.size + 1 ≠ g14 := by have := bU.lt; omega
           have nebQ_14 : w.heap.size + 1 + 1 ≠ g14 := by have := bQ.lt; omega
           have nebV_14 : w.heap.size + 1 + 1 + 1 ≠ g14 := by have := bV.lt; omega
           have ne13_14 : g13 ≠ g14 := by have := bn13.lt; omega
           try rw [← hg]
           have hb : Below V2.heap.size V2 V3 := by rw [← hX]; exact (Below.refl _ _).alloc (Nat.le_refl _) _
           clear hX hg
           replace bP := bP.on hb
           replace bU := bU.on hb
           replace bQ := bQ.on hb
           replace bV := bV.on hb
           replace bn13 := bn13.on hb
           replace HW := Lib.hid (bel_end HW.out hb)
           clear hb
           refine hK.out _ _ (HSp.out _ bP bU bQ bV) (fun _ => ?_)
           clear hK Kn)
        | (refine wpAnyH_ready (rs := [3, 13]) (by decide +kernel) (by simp) ?_
           refine AllReadyH.cons (o := { dst := some 32, op := Go.Op.call { callee := Go.Callee.value (Go.Operand.func 17), args := #[Go.Operand.tmp 31], argTypes := #[23] }, type := 25, pos := "exact.go:4034", after := #[{ on := 2, ground := Go.Ground.data }, { on := 1, ground := Go.Ground.chain }], guard := none }) rfl (fun Kn hK => ?_) ?_
           first | go_at_call 17 | (go_simp; go_at_call 17)
           (with_reducible refine Calls.mono (tpt_any _ _ _) ?_)
           rintro e V3 ⟨rfl, hb⟩
           try dsimp only
           try simp only [Act.put, List.setIfInBounds_toArray, List.set_cons_zero, List.set_cons_succ]
           replace bP := bP.on hb
           replace bU := bU.on hb
           replace bQ := bQ.on hb
           replace bV := bV.on hb
           replace bn14 := bn14.on hb
           replace HW := Lib.hid (bel_end HW.out hb)
           clear hb
           refine hK.out _ _ (HSp.out _ bP bU bQ bV) (fun _ => ?_)
           clear hK Kn
           rotate_left
           refine AllReadyH.cons (o := { dst := some 12, op := Go.Op.alloc 34, type := 0, pos := "exact.go:4034", after := #[], guard := none }) rfl (fun Kn hK => ?_) AllReadyH.nil
           go_simp
           generalize hX : World.alloc V2 _ = V3
           obtain ⟨g13, hg⟩ : ∃ g, g = V2.heap.size := ⟨_, rfl⟩
           have bn13 : Bk V3 g13 #[.int .i64 0, .int .i64 0] 34 := by rw [← hX]; exact Bk.new' hg
           have le13 : wc.heap.size ≤ g13 := by rw [hg]; exact HW.out.size
           have nebP_13 : w.heap.size ≠ g13 := by have := bP.lt; omega
           have nebU_13 : w.heap.size + 1 ≠ g13 := by have := bU.lt; omega
           have nebQ_13 : w.heap.size + 1 + 1 ≠ g13 := by have := bQ.lt; omega
           have nebV_13 : w.heap.size + 1 + 1 + 1 ≠ g13 := by have := bV.lt; omega
           have ne13_14 : g13 ≠ g14 := by have := bn14.lt; omega
           try rw [← hg]
           have hb : Below V2.heap.size V2 V3 := by rw [← hX]; exact (Below.refl _ _).alloc (Nat.le_refl _) _
           clear hX hg
           replace bP := bP.on hb
           replace bU := bU.on hb
           replace bQ := bQ.on hb
           replace bV := bV.on hb
           replace bn14 := bn14.on hb
           replace HW := Lib.hid (bel_end HW.out hb)
           clear hb
           refine hK.out _ _ (HSp.out _ bP bU bQ bV) (fun _ => ?_)
           clear hK Kn)
        | (refine wpAnyH_ready (rs := [1]) (by decide +kernel) (by simp) ?_
           refine AllReadyH.cons (o := { dst := some 30, op := Go.Op.call { callee := Go.Callee.value (Go.Operand.func 17), args := #[Go.Operand.tmp 29], argTypes := #[23] }, type := 25, pos := "exact.go:4034", after := #[{ on := 0, ground := Go.Ground.data }], guard := none }) rfl (fun Kn hK => ?_) AllReadyH.nil
           first | go_at_call 17 | (go_simp; go_at_call 17)
           (with_reducible refine Calls.mono (tpt_any _ _ _) ?_)
           rintro e V3 ⟨rfl, hb⟩
           try dsimp only
           try simp only [Act.put, List.setIfInBounds_toArray, List.set_cons_zero, List.set_cons_succ]
           replace bP := bP.on hb
           replace bU := bU.on hb
           replace bQ := bQ.on hb
           replace bV := bV.on hb
           replace bn13 := bn13.on hb
           replace bn14 := bn14.on hb
           replace HW := Lib.hid (bel_end HW.out hb)
           clear hb
           refine hK.out _ _ (HSp.out _ bP bU bQ bV) (fun _ => ?_)
           clear hK Kn)
      all_goals
        first
        | (refine wpAnyH_ready (rs := [7, 13, 14]) (by decide +kernel) (by simp) ?_
           refine AllReadyH.cons (o := { dst := some 36, op := Go.Op.call { callee := Go.Callee.value (Go.Operand.func 17), args := #[Go.Operand.tmp 35], argTypes := #[23] }, type := 25, pos := "exact.go:4034", after := #[{ on := 6, ground := Go.Ground.data }, { on := 5, ground := Go.Ground.chain }], guard := none }) rfl (fun Kn hK => ?_) ?_
           first | go_at_call 17 | (go_simp; go_at_call 17)
           (with_reducible refine Calls.mono (tpt_any _ _ _) ?_)
           rintro e V4 ⟨rfl, hb⟩
           try dsimp only
           try simp only [Act.put, List.setIfInBounds_toArray, List.set_cons_zero, List.set_cons_succ]
           replace bP := bP.on hb
           replace bU := bU.on hb
           replace bQ := bQ.on hb
           replace bV := bV.on hb
           replace HW := Lib.hid (bel_end HW.out hb)
           clear hb
           refine hK.out _ _ (HSp.out _ bP bU bQ bV) (fun _ => ?_)
           clear hK Kn
           rotate_left
           refine AllReadyH.cons (o := { dst := some 12, op := Go.Op.alloc 34, type := 0, pos := "exact.go:4034", after := #[], guard := none }) rfl (fun Kn hK => ?_) ?_
           go_simp
           generalize hX : World.alloc V3 _ = V4
           obtain ⟨g13, hg⟩ : ∃ g, g = V3.heap.size := ⟨_, rfl⟩
           have bn13 : Bk V4 g13 #[.int .i64 0, .int .i64 0] 34 := by rw [← hX]; exact Bk.new' hg
           have le13 : wc.heap.size ≤ g13 := by rw [hg]; exact HW.out.size
           have nebP_13 : w.heap.size ≠ g13 := by have := bP.lt; omega
           have nebU_13 : w.heap.size + 1 ≠ g13 := by have := bU.lt; omega
           have nebQ_13 : w.heap.size + 1 + 1 ≠ g13 := by have := bQ.lt; omega
           have nebV_13 : w.heap.size + 1 + 1 + 1 ≠ g13 := by have := bV.lt; omega
           try rw [← hg]
           have hb : Below V3.heap.size V3 V4 := by rw [← hX]; exact (Below.refl _ _).alloc (Nat.le_refl _) _
           clear hX hg
           replace bP := bP.on hb
           replace bU := bU.on hb
           replace bQ := bQ.on hb
           replace bV := bV.on hb
           replace HW := Lib.hid (bel_end HW.out hb)
           clear hb
           refine hK.out _ _ (HSp.out _ bP bU bQ bV) (fun _ => ?_)
           clear hK Kn
           rotate_left
           refine AllReadyH.cons (o := { dst := some 13, op := Go.Op.alloc 34, type := 0, pos := "exact.go:4034", after := #[], guard := none }) rfl (fun Kn hK => ?_) AllReadyH.nil
           go_simp
           generalize hX : World.alloc V3 _ = V4
           obtain ⟨g14, hg⟩ : ∃ g, g = V3.heap.size := ⟨_, rfl⟩
           have bn14 : Bk V4 g14 #[.int .i64 0, .int .i64 0] 34 := by rw [← hX]; exact Bk.new' hg
           have le14 : wc.heap.size ≤ g14 := by rw [hg]; exact HW.out.size
           have nebP_14 : w.heap.size ≠ g14 := by have := bP.lt; omega
           have nebU_14 : w.heap.size + 1 ≠ g14 := by have := bU.lt; omega
           have nebQ_14 : w.heap.size + 1 + 1 ≠ g14 := by have := bQ.lt; omega
           have nebV_14 : w.heap.size + 1 + 1 + 1 ≠ g14 := by have := bV.lt; omega
           try rw [← hg]
           have hb : Below V3.heap.size V3 V4 := by rw [← hX]; exact (Below.refl _ _).alloc (Nat.le_refl _) _
           clear hX hg
           replace bP := bP.on hb
           replace bU := bU.on hb
           replace bQ := bQ.on hb
           replace bV := bV.on hb
           replace HW := Lib.hid (bel_end HW.out hb)
           clear hb
           refine hK.out _ _ (HSp.out _ bP bU bQ bV) (fun _ => ?_)
           clear hK Kn)
        | (refine wpAnyH_ready (rs := [5, 14]) (by decide +kernel) (by simp) ?_
           refine AllReadyH.cons (o := { dst := some 34, op := Go.Op.call { callee := Go.Callee.value (Go.Operand.func 17), args := #[Go.Operand.tmp 33], argTypes := #[23] }, type := 25, pos := "exact.go:4034", after := #[{ on := 4, ground := Go.Ground.data }, { on := 3, ground := Go.Ground.chain }], guard := none }) rfl (fun Kn hK => ?_) ?_
           first | go_at_call 17 | (go_simp; go_at_call 17)
           (with_reducible refine Calls.mono (tpt_any _ _ _) ?_)
           rintro e V4 ⟨rfl, hb⟩
           try dsimp only
           try simp only [Act.put, List.setIfInBounds_toArray, List.set_cons_zero, List.set_cons_succ]
           replace bP := bP.on hb
           replace bU := bU.on hb
           replace bQ := bQ.on hb
           replace bV := bV.on hb
           replace bn13 := bn13.on hb
           replace HW := Lib.hid (bel_end HW.out hb)
           clear hb
           refine hK.out _ _ (HSp.out _ bP bU bQ bV) (fun _ => ?_)
           clear hK Kn
           rotate_left
           refine AllReadyH.cons (o := { dst := some 13, op := Go.Op.alloc 34, type := 0, pos := "exact.go:4034", after := #[], guard := none }) rfl (fun Kn hK => ?_) AllReadyH.nil
           go_simp
           generalize hX : World.alloc V3 _ = V4
           obtain ⟨g14, hg⟩ : ∃ g, g = V3.heap.size := ⟨_, rfl⟩
           have bn14 : Bk V4 g14 #[.int .i64 0, .int .i64 0] 34 := by rw [← hX]; exact Bk.new' hg
           have le14 : wc.heap.size ≤ g14 := by rw [hg]; exact HW.out.size
           have nebP_14 : w.heap.size ≠ g14 := by have := bP.lt; omega
           have nebU_14 : w.heap.size + 1 ≠ g14 := by have := bU.lt; omega
           have nebQ_14 : w.heap.size + 1 + 1 ≠ g14 := by have := bQ.lt; omega
           have nebV_14 : w.heap.size + 1 + 1 + 1 ≠ g14 := by have := bV.lt; omega
           have ne13_14 : g13 ≠ g14 := by have := bn13.lt; omega
           try rw [← hg]
           have hb : Below V3.heap.size V3 V4 := by rw [← hX]; exact (Below.refl _ _).alloc (Nat.le_refl _) _
           clear hX hg
           replace bP := bP.on hb
           replace bU := bU.on hb
           replace bQ := bQ.on hb
           replace bV := bV.on hb
           replace bn13 := bn13.on hb
           replace HW := Lib.hid (bel_end HW.out hb)
           clear hb
           refine hK.out _ _ (HSp.out _ bP bU bQ bV) (fun _ => ?_)
           clear hK Kn)
        | (refine wpAnyH_ready (rs := [5, 13]) (by decide +kernel) (by simp) ?_
           refine AllReadyH.cons (o := { dst := some 34, op := Go.Op.call { callee := Go.Callee.value (Go.Operand.func 17), args := #[Go.Operand.tmp 33], argTypes := #[23] }, type := 25, pos := "exact.go:4034", after := #[{ on := 4, ground := Go.Ground.data }, { on := 3, ground := Go.Ground.chain }], guard := none }) rfl (fun Kn hK => ?_) ?_
           first | go_at_call 17 | (go_simp; go_at_call 17)
           (with_reducible refine Calls.mono (tpt_any _ _ _) ?_)
           rintro e V4 ⟨rfl, hb⟩
           try dsimp only
           try simp only [Act.put, List.setIfInBounds_toArray, List.set_cons_zero, List.set_cons_succ]
           replace bP := bP.on hb
           replace bU := bU.on hb
           replace bQ := bQ.on hb
           replace bV := bV.on hb
           replace bn14 := bn14.on hb
           replace HW := Lib.hid (bel_end HW.out hb)
           clear hb
           refine hK.out _ _ (HSp.out _ bP bU bQ bV) (fun _ => ?_)
           clear hK Kn
           rotate_left
           refine AllReadyH.cons (o := { dst := some 12, op := Go.Op.alloc 34, type := 0, pos := "exact.go:4034", after := #[], guard := none }) rfl (fun Kn hK => ?_) AllReadyH.nil
           go_simp
           generalize hX : World.alloc V3 _ = V4
           obtain ⟨g13, hg⟩ : ∃ g, g = V3.heap.size := ⟨_, rfl⟩
           have bn13 : Bk V4 g13 #[.int .i64 0, .int .i64 0] 34 := by rw [← hX]; exact Bk.new' hg
           have le13 : wc.heap.size ≤ g13 := by rw [hg]; exact HW.out.size
           have nebP_13 : w.heap.size ≠ g13 := by have := bP.lt; omega
           have nebU_13 : w.heap.size + 1 ≠ g13 := by have := bU.lt; omega
           have nebQ_13 : w.heap.size + 1 + 1 ≠ g13 := by have := bQ.lt; omega
           have nebV_13 : w.heap.size + 1 + 1 + 1 ≠ g13 := by have := bV.lt; omega
           have ne13_14 : g13 ≠ g14 := by have := bn14.lt; omega
           try rw [← hg]
           have hb : Below V3.heap.size V3 V4 := by rw [← hX]; exact (Below.refl _ _).alloc (Nat.le_refl _) _
           clear hX hg
           replace bP := bP.on hb
           replace bU := bU.on hb
           replace bQ := bQ.on hb
           replace bV := bV.on hb
           replace bn14 := bn14.on hb
           replace HW := Lib.hid (bel_end HW.out hb)
           clear hb
           refine hK.out _ _ (HSp.out _ bP bU bQ bV) (fun _ => ?_)
           clear hK Kn)
        | (refine wpAnyH_ready (rs := [3]) (by decide +kernel) (by simp) ?_
           refine AllReadyH.cons (o := { dst := some 32, op := Go.Op.call { callee := Go.Callee.value (Go.Operand.func 17), args := #[Go.Operand.tmp 31], argTypes := #[23] }, type := 25, pos := "exact.go:4034", after := #[{ on := 2, ground := Go.Ground.data }, { on := 1, ground := Go.Ground.chain }], guard := none }) rfl (fun Kn hK => ?_) AllReadyH.nil
           first | go_at_call 17 | (go_simp; go_at_call 17)
           (with_reducible refine Calls.mono (tpt_any _ _ _) ?_)
           rintro e V4 ⟨rfl, hb⟩
           try dsimp only
           try simp only [Act.put, List.setIfInBounds_toArray, List.set_cons_zero, List.set_cons_succ]
           replace bP := bP.on hb
           replace bU := bU.on hb
           replace bQ := bQ.on hb
           replace bV := bV.on hb
           replace bn13 := bn13.on hb
           replace bn14 := bn14.on hb
           replace HW := Lib.hid (bel_end HW.out hb)
           clear hb
           refine hK.out _ _ (HSp.out _ bP bU bQ bV) (fun _ => ?_)
           clear hK Kn)
      all_goals
        first
        | (refine wpAnyH_ready (rs := [8, 13, 14]) (by decide +kernel) (by simp) ?_
           refine AllReadyH.cons (o := { dst := some 37, op := Go.Op.call { callee := Go.Callee.value (Go.Operand.func 24), args := #[Go.Operand.tmp 30, Go.Operand.tmp 32, Go.Operand.tmp 34, Go.Operand.tmp 36], argTypes := #[25, 25, 25, 25] }, type := 35, pos := "exact.go:4034", after := #[{ on := 1, ground := Go.Ground.data }, { on := 3, ground := Go.Ground.data }, { on := 5, ground := Go.Ground.data }, { on := 7, ground := Go.Ground.data }, { on := 7, ground := Go.Ground.chain }], guard := none }) rfl (fun Kn hK => ?_) ?_
           first | go_at_call 24 | (go_simp; go_at_call 24)
           (with_reducible refine Calls.mono (S2.out _) ?_)
           rintro e V5 ⟨rfl, hb⟩
           try dsimp only
           try simp only [Act.put, List.setIfInBounds_toArray, List.set_cons_zero, List.set_cons_succ]
           replace bP := bP.on hb
           replace bU := bU.on hb
           replace bQ := bQ.on hb
           replace bV := bV.on hb
           replace HW := Lib.hid (bel_end HW.out hb)
           clear hb
           refine hK.out _ _ (HSp.out _ bP bU bQ bV) (fun _ => ?_)
           clear hK Kn
           rotate_left
           refine AllReadyH.cons (o := { dst := some 12, op := Go.Op.alloc 34, type := 0, pos := "exact.go:4034", after := #[], guard := none }) rfl (fun Kn hK => ?_) ?_
           go_simp
           generalize hX : World.alloc V4 _ = V5
           obtain ⟨g13, hg⟩ : ∃ g, g = V4.heap.size := ⟨_, rfl⟩
           have bn13 : Bk V5 g13 #[.int .i64 0, .int .i64 0] 34 := by rw [← hX]; exact Bk.new' hg
           have le13 : wc.heap.size ≤ g13 := by rw [hg]; exact HW.out.size
           have nebP_13 : w.heap.size ≠ g13 := by have := bP.lt; omega
           have nebU_13 : w.heap.size + 1 ≠ g13 := by have := bU.lt; omega
           have nebQ_13 : w.heap.size + 1 + 1 ≠ g13 := by have := bQ.lt; omega
           have nebV_13 : w.heap.size + 1 + 1 + 1 ≠ g13 := by have := bV.lt; omega
           try rw [← hg]
           have hb : Below V4.heap.size V4 V5 := by rw [← hX]; exact (Below.refl _ _).alloc (Nat.le_refl _) _
           clear hX hg
           replace bP := bP.on hb
           replace bU := bU.on hb
           replace bQ := bQ.on hb
           replace bV := bV.on hb
           replace HW := Lib.hid (bel_end HW.out hb)
           clear hb
           refine hK.out _ _ (HSp.out _ bP bU bQ bV) (fun _ => ?_)
           clear hK Kn
           rotate_left
           refine AllReadyH.cons (o := { dst := some 13, op := Go.Op.alloc 34, type := 0, pos := "exact.go:4034", after := #[], guard := none }) rfl (fun Kn hK => ?_) AllReadyH.nil
           go_simp
           generalize hX : World.alloc V4 _ = V5
           obtain ⟨g14, hg⟩ : ∃ g, g = V4.heap.size := ⟨_, rfl⟩
           have bn14 : Bk V5 g14 #[.int .i64 0, .int .i64 0] 34 := by rw [← hX]; exact Bk.new' hg
           have le14 : wc.heap.size ≤ g14 := by rw [hg]; exact HW.out.size
           have nebP_14 : w.heap.size ≠ g14 := by have := bP.lt; omega
           have nebU_14 : w.heap.size + 1 ≠ g14 := by have := bU.lt; omega
           have nebQ_14 : w.heap.size + 1 + 1 ≠ g14 := by have := bQ.lt; omega
           have nebV_14 : w.heap.size + 1 + 1 + 1 ≠ g14 := by have := bV.lt; omega
           try rw [← hg]
           have hb : Below V4.heap.size V4 V5 := by rw [← hX]; exact (Below.refl _ _).alloc (Nat.le_refl _) _
           clear hX hg
           replace bP := bP.on hb
           replace bU := bU.on hb
           replace bQ := bQ.on hb
           replace bV := bV.on hb
           replace HW := Lib.hid (bel_end HW.out hb)
           clear hb
           refine hK.out _ _ (HSp.out _ bP bU bQ bV) (fun _ => ?_)
           clear hK Kn)
        | (refine wpAnyH_ready (rs := [7, 14]) (by decide +kernel) (by simp) ?_
           refine AllReadyH.cons (o := { dst := some 36, op := Go.Op.call { callee := Go.Callee.value (Go.Operand.func 17), args := #[Go.Operand.tmp 35], argTypes := #[23] }, type := 25, pos := "exact.go:4034", after := #[{ on := 6, ground := Go.Ground.data }, { on := 5, ground := Go.Ground.chain }], guard := none }) rfl (fun Kn hK => ?_) ?_
           first | go_at_call 17 | (go_simp; go_at_call 17)
           (with_reducible refine Calls.mono (tpt_any _ _ _) ?_)
           rintro e V5 ⟨rfl, hb⟩
           try dsimp only
           try simp only [Act.put, List.setIfInBounds_toArray, List.set_cons_zero, List.set_cons_succ]
           replace bP := bP.on hb
           replace bU := bU.on hb
           replace bQ := bQ.on hb
           replace bV := bV.on hb
           replace bn13 := bn13.on hb
           replace HW := Lib.hid (bel_end HW.out hb)
           clear hb
           refine hK.out _ _ (HSp.out _ bP bU bQ bV) (fun _ => ?_)
           clear hK Kn
           rotate_left
           refine AllReadyH.cons (o := { dst := some 13, op := Go.Op.alloc 34, type := 0, pos := "exact.go:4034", after := #[], guard := none }) rfl (fun Kn hK => ?_) AllReadyH.nil
           go_simp
           generalize hX : World.alloc V4 _ = V5
           obtain ⟨g14, hg⟩ : ∃ g, g = V4.heap.size := ⟨_, rfl⟩
           have bn14 : Bk V5 g14 #[.int .i64 0, .int .i64 0] 34 := by rw [← hX]; exact Bk.new' hg
           have le14 : wc.heap.size ≤ g14 := by rw [hg]; exact HW.out.size
           have nebP_14 : w.heap.size ≠ g14 := by have := bP.lt; omega
           have nebU_14 : w.heap.size + 1 ≠ g14 := by have := bU.lt; omega
           have nebQ_14 : w.heap.size + 1 + 1 ≠ g14 := by have := bQ.lt; omega
           have nebV_14 : w.heap.size + 1 + 1 + 1 ≠ g14 := by have := bV.lt; omega
           have ne13_14 : g13 ≠ g14 := by have := bn13.lt; omega
           try rw [← hg]
           have hb : Below V4.heap.size V4 V5 := by rw [← hX]; exact (Below.refl _ _).alloc (Nat.le_refl _) _
           clear hX hg
           replace bP := bP.on hb
           replace bU := bU.on hb
           replace bQ := bQ.on hb
           replace bV := bV.on hb
           replace bn13 := bn13.on hb
           replace HW := Lib.hid (bel_end HW.out hb)
           clear hb
           refine hK.out _ _ (HSp.out _ bP bU bQ bV) (fun _ => ?_)
           clear hK Kn)
        | (refine wpAnyH_ready (rs := [7, 13]) (by decide +kernel) (by simp) ?_
           refine AllReadyH.cons (o := { dst := some 36, op := Go.Op.call { callee := Go.Callee.value (Go.Operand.func 17), args := #[Go.Operand.tmp 35], argTypes := #[23] }, type := 25, pos := "exact.go:4034", after := #[{ on := 6, ground := Go.Ground.data }, { on := 5, ground := Go.Ground.chain }], guard := none }) rfl (fun Kn hK => ?_) ?_
           first | go_at_call 17 | (go_simp; go_at_call 17)
           (with_reducible refine Calls.mono (tpt_any _ _ _) ?_)
           rintro e V5 ⟨rfl, hb⟩
           try dsimp only
           try simp only [Act.put, List.setIfInBounds_toArray, List.set_cons_zero, List.set_cons_succ]
           replace bP := bP.on hb
           replace bU := bU.on hb
           replace bQ := bQ.on hb
           replace bV := bV.on hb
           replace bn14 := bn14.on hb
           replace HW := Lib.hid (bel_end HW.out hb)
           clear hb
           refine hK.out _ _ (HSp.out _ bP bU bQ bV) (fun _ => ?_)
           clear hK Kn
           rotate_left
           refine AllReadyH.cons (o := { dst := some 12, op := Go.Op.alloc 34, type := 0, pos := "exact.go:4034", after := #[], guard := none }) rfl (fun Kn hK => ?_) AllReadyH.nil
           go_simp
           generalize hX : World.alloc V4 _ = V5
           obtain ⟨g13, hg⟩ : ∃ g, g = V4.heap.size := ⟨_, rfl⟩
           have bn13 : Bk V5 g13 #[.int .i64 0, .int .i64 0] 34 := by rw [← hX]; exact Bk.new' hg
           have le13 : wc.heap.size ≤ g13 := by rw [hg]; exact HW.out.size
           have nebP_13 : w.heap.size ≠ g13 := by have := bP.lt; omega
           have nebU_13 : w.heap.size + 1 ≠ g13 := by have := bU.lt; omega
           have nebQ_13 : w.heap.size + 1 + 1 ≠ g13 := by have := bQ.lt; omega
           have nebV_13 : w.heap.size + 1 + 1 + 1 ≠ g13 := by have := bV.lt; omega
           have ne13_14 : g13 ≠ g14 := by have := bn14.lt; omega
           try rw [← hg]
           have hb : Below V4.heap.size V4 V5 := by rw [← hX]; exact (Below.refl _ _).alloc (Nat.le_refl _) _
           clear hX hg
           replace bP := bP.on hb
           replace bU := bU.on hb
           replace bQ := bQ.on hb
           replace bV := bV.on hb
           replace bn14 := bn14.on hb
           replace HW := Lib.hid (bel_end HW.out hb)
           clear hb
           refine hK.out _ _ (HSp.out _ bP bU bQ bV) (fun _ => ?_)
           clear hK Kn)
        | (refine wpAnyH_ready (rs := [5]) (by decide +kernel) (by simp) ?_
           refine AllReadyH.cons (o := { dst := some 34, op := Go.Op.call { callee := Go.Callee.value (Go.Operand.func 17), args := #[Go.Operand.tmp 33], argTypes := #[23] }, type := 25, pos := "exact.go:4034", after := #[{ on := 4, ground := Go.Ground.data }, { on := 3, ground := Go.Ground.chain }], guard := none }) rfl (fun Kn hK => ?_) AllReadyH.nil
           first | go_at_call 17 | (go_simp; go_at_call 17)
           (with_reducible refine Calls.mono (tpt_any _ _ _) ?_)
           rintro e V5 ⟨rfl, hb⟩
           try dsimp only
           try simp only [Act.put, List.setIfInBounds_toArray, List.set_cons_zero, List.set_cons_succ]
           replace bP := bP.on hb
           replace bU := bU.on hb
           replace bQ := bQ.on hb
           replace bV := bV.on hb
           replace bn13 := bn13.on hb
           replace bn14 := bn14.on hb
           replace HW := Lib.hid (bel_end HW.out hb)
           clear hb
           refine hK.out _ _ (HSp.out _ bP bU bQ bV) (fun _ => ?_)
           clear hK Kn)
      all_goals
        first
        | (have hS := HSp.out _ bP bU bQ bV
           refine wpAnyH_take (i := 9) (oi := { dst := some 28, op := Go.Op.move (Go.Operand.tmp 37), type := 35, pos := "exact.go:4034", after := #[{ on := 8, ground := Go.Ground.data }], guard := none }) (v := ?_) rfl (by kernel_rfl) (by kernel_rfl) (by kernel_rfl) (fun _ _ _ h => h) (Or.inl ⟨by rfl, ?_⟩) hS ?_
           rotate_left
           · (intro w hSw; have hSw := (HSd.out w).1 hSw; go_split_ands; go_simp) <;> with_reducible rfl
           clear hS
           try simp only [Act.put, List.setIfInBounds_toArray, List.set_cons_zero, List.set_cons_succ]
           have hS := HSp.out _ bP bU bQ bV
           refine wpAnyH_take (i := 10) (oi := { dst := some 38, op := Go.Op.extract (Go.Operand.tmp 28) 0, type := 34, pos := "exact.go:4034", after := #[{ on := 9, ground := Go.Ground.data }], guard := none }) (v := ?_) rfl (by kernel_rfl) (by kernel_rfl) (by kernel_rfl) (fun _ _ _ h => h) (Or.inl ⟨by rfl, ?_⟩) hS ?_
           rotate_left
           · (intro w hSw; have hSw := (HSd.out w).1 hSw; go_split_ands; go_simp) <;> with_reducible rfl
           clear hS
           try simp only [Act.put, List.setIfInBounds_toArray, List.set_cons_zero, List.set_cons_succ]
           have hS := HSp.out _ bP bU bQ bV
           refine wpAnyH_take (i := 11) (oi := { dst := some 39, op := Go.Op.extract (Go.Operand.tmp 28) 1, type := 34, pos := "exact.go:4034", after := #[{ on := 9, ground := Go.Ground.data }, { on := 15, ground := Go.Ground.gcOnly Go.Departure.lateStores }], guard := none }) (v := ?_) rfl (by kernel_rfl) (by kernel_rfl) (by kernel_rfl) (fun _ _ _ h => h) (Or.inl ⟨by rfl, ?_⟩) hS ?_
           rotate_left
           · (intro w hSw; have hSw := (HSd.out w).1 hSw; go_split_ands; go_simp) <;> with_reducible rfl
           clear hS
           try simp only [Act.put, List.setIfInBounds_toArray, List.set_cons_zero, List.set_cons_succ]
           have hS := HSp.out _ bP bU bQ bV
           refine wpAnyH_take (i := 12) (oi := { dst := some 40, op := Go.Op.extract (Go.Operand.tmp 28) 2, type := 2, pos := "exact.go:4034", after := #[{ on := 9, ground := Go.Ground.data }, { on := 16, ground := Go.Ground.gcOnly Go.Departure.lateStores }], guard := none }) (v := ?_) rfl (by kernel_rfl) (by kernel_rfl) (by kernel_rfl) (fun _ _ _ h => h) (Or.inl ⟨by rfl, ?_⟩) hS ?_
           rotate_left
           · (intro w hSw; have hSw := (HSd.out w).1 hSw; go_split_ands; go_simp) <;> with_reducible rfl
           clear hS
           try simp only [Act.put, List.setIfInBounds_toArray, List.set_cons_zero, List.set_cons_succ]
           refine wpAnyH_ready (rs := [13, 14]) (by decide +kernel) (by simp) ?_
           refine AllReadyH.cons (o := { dst := some 12, op := Go.Op.alloc 34, type := 0, pos := "exact.go:4034", after := #[], guard := none }) rfl (fun Kn hK => ?_) ?_
           go_simp
           generalize hX : World.alloc V5 _ = V6
           obtain ⟨g13, hg⟩ : ∃ g, g = V5.heap.size := ⟨_, rfl⟩
           have bn13 : Bk V6 g13 #[.int .i64 0, .int .i64 0] 34 := by rw [← hX]; exact Bk.new' hg
           have le13 : wc.heap.size ≤ g13 := by rw [hg]; exact HW.out.size
           have nebP_13 : w.heap.size ≠ g13 := by have := bP.lt; omega
           have nebU_13 : w.heap.size + 1 ≠ g13 := by have := bU.lt; omega
           have nebQ_13 : w.heap.size + 1 + 1 ≠ g13 := by have := bQ.lt; omega
           have nebV_13 : w.heap.size + 1 + 1 + 1 ≠ g13 := by have := bV.lt; omega
           try rw [← hg]
           have hb : Below V5.heap.size V5 V6 := by rw [← hX]; exact (Below.refl _ _).alloc (Nat.le_refl _) _
           clear hX hg
           replace bP := bP.on hb
           replace bU := bU.on hb
           replace bQ := bQ.on hb
           replace bV := bV.on hb
           replace HW := Lib.hid (bel_end HW.out hb)
           clear hb
           refine hK.out _ _ (HSp.out _ bP bU bQ bV) (fun _ => ?_)
           clear hK Kn
           rotate_left
           refine AllReadyH.cons (o := { dst := some 13, op := Go.Op.alloc 34, type := 0, pos := "exact.go:4034", after := #[], guard := none }) rfl (fun Kn hK => ?_) AllReadyH.nil
           go_simp
           generalize hX : World.alloc V5 _ = V6
           obtain ⟨g14, hg⟩ : ∃ g, g = V5.heap.size := ⟨_, rfl⟩
           have bn14 : Bk V6 g14 #[.int .i64 0, .int .i64 0] 34 := by rw [← hX]; exact Bk.new' hg
           have le14 : wc.heap.size ≤ g14 := by rw [hg]; exact HW.out.size
           have nebP_14 : w.heap.size ≠ g14 := by have := bP.lt; omega
           have nebU_14 : w.heap.size + 1 ≠ g14 := by have := bU.lt; omega
           have nebQ_14 : w.heap.size + 1 + 1 ≠ g14 := by have := bQ.lt; omega
           have nebV_14 : w.heap.size + 1 + 1 + 1 ≠ g14 := by have := bV.lt; omega
           try rw [← hg]
           have hb : Below V5.heap.size V5 V6 := by rw [← hX]; exact (Below.refl _ _).alloc (Nat.le_refl _) _
           clear hX hg
           replace bP := bP.on hb
           replace bU := bU.on hb
           replace bQ := bQ.on hb
           replace bV := bV.on hb
           replace HW := Lib.hid (bel_end HW.out hb)
           clear hb
           refine hK.out _ _ (HSp.out _ bP bU bQ bV) (fun _ => ?_)
           clear hK Kn)
        | (refine wpAnyH_ready (rs := [8, 14]) (by decide +kernel) (by simp) ?_
           refine AllReadyH.cons (o := { dst := some 37, op := Go.Op.call { callee := Go.Callee.value (Go.Operand.func 24), args := #[Go.Operand.tmp 30, Go.Operand.tmp 32, Go.Operand.tmp 34, Go.Operand.tmp 36], argTypes := #[25, 25, 25, 25] }, type := 35, pos := "exact.go:4034", after := #[{ on := 1, ground := Go.Ground.data }, { on := 3, ground := Go.Ground.data }, { on := 5, ground := Go.Ground.data }, { on := 7, ground := Go.Ground.data }, { on := 7, ground := Go.Ground.chain }], guard := none }) rfl (fun Kn hK => ?_) ?_
           first | go_at_call 24 | (go_simp; go_at_call 24)
           (with_reducible refine Calls.mono (S2.out _) ?_)
           rintro e V6 ⟨rfl, hb⟩
           try dsimp only
           try simp only [Act.put, List.setIfInBounds_toArray, List.set_cons_zero, List.set_cons_succ]
           replace bP := bP.on hb
           replace bU := bU.on hb
           replace bQ := bQ.on hb
           replace bV := bV.on hb
           replace bn13 := bn13.on hb
           replace HW := Lib.hid (bel_end HW.out hb)
           clear hb
           refine hK.out _ _ (HSp.out _ bP bU bQ bV) (fun _ => ?_)
           clear hK Kn
           rotate_left
           refine AllReadyH.cons (o := { dst := some 13, op := Go.Op.alloc 34, type := 0, pos := "exact.go:4034", after := #[], guard := none }) rfl (fun Kn hK => ?_) AllReadyH.nil
           go_simp
           generalize hX : World.alloc V5 _ = V6
           obtain ⟨g14, hg⟩ : ∃ g, g = V5.heap.size := ⟨_, rfl⟩
           have bn14 : Bk V6 g14 #[.int .i64 0, .int .i64 0] 34 := by rw [← hX]; exact Bk.new' hg
           have le14 : wc.heap.size ≤ g14 := by rw [hg]; exact HW.out.size
           have nebP_14 : w.heap.size ≠ g14 := by have := bP.lt; omega
           have nebU_14 : w.heap.size + 1 ≠ g14 := by have := bU.lt; omega
           have nebQ_14 : w.heap.size + 1 + 1 ≠ g14 := by have := bQ.lt; omega
           have nebV_14 : w.heap.size + 1 + 1 + 1 ≠ g14 := by have := bV.lt; omega
           have ne13_14 : g13 ≠ g14 := by have := bn13.lt; omega
           try rw [← hg]
           have hb : Below V5.heap.size V5 V6 := by rw [← hX]; exact (Below.refl _ _).alloc (Nat.le_refl _) _
           clear hX hg
           replace bP := bP.on hb
           replace bU := bU.on hb
           replace bQ := bQ.on hb
           replace bV := bV.on hb
           replace bn13 := bn13.on hb
           replace HW := Lib.hid (bel_end HW.out hb)
           clear hb
           refine hK.out _ _ (HSp.out _ bP bU bQ bV) (fun _ => ?_)
           clear hK Kn)
        | (refine wpAnyH_ready (rs := [8, 13]) (by decide +kernel) (by simp) ?_
           refine AllReadyH.cons (o := { dst := some 37, op := Go.Op.call { callee := Go.Callee.value (Go.Operand.func 24), args := #[Go.Operand.tmp 30, Go.Operand.tmp 32, Go.Operand.tmp 34, Go.Operand.tmp 36], argTypes := #[25, 25, 25, 25] }, type := 35, pos := "exact.go:4034", after := #[{ on := 1, ground := Go.Ground.data }, { on := 3, ground := Go.Ground.data }, { on := 5, ground := Go.Ground.data }, { on := 7, ground := Go.Ground.data }, { on := 7, ground := Go.Ground.chain }], guard := none }) rfl (fun Kn hK => ?_) ?_
           first | go_at_call 24 | (go_simp; go_at_call 24)
           (with_reducible refine Calls.mono (S2.out _) ?_)
           rintro e V6 ⟨rfl, hb⟩
           try dsimp only
           try simp only [Act.put, List.setIfInBounds_toArray, List.set_cons_zero, List.set_cons_succ]
           replace bP := bP.on hb
           replace bU := bU.on hb
           replace bQ := bQ.on hb
           replace bV := bV.on hb
           replace bn14 := bn14.on hb
           replace HW := Lib.hid (bel_end HW.out hb)
           clear hb
           refine hK.out _ _ (HSp.out _ bP bU bQ bV) (fun _ => ?_)
           clear hK Kn
           rotate_left
           refine AllReadyH.cons (o := { dst := some 12, op := Go.Op.alloc 34, type := 0, pos := "exact.go:4034", after := #[], guard := none }) rfl (fun Kn hK => ?_) AllReadyH.nil
           go_simp
           generalize hX : World.alloc V5 _ = V6
           obtain ⟨g13, hg⟩ : ∃ g, g = V5.heap.size := ⟨_, rfl⟩
           have bn13 : Bk V6 g13 #[.int .i64 0, .int .i64 0] 34 := by rw [← hX]; exact Bk.new' hg
           have le13 : wc.heap.size ≤ g13 := by rw [hg]; exact HW.out.size
           have nebP_13 : w.heap.size ≠ g13 := by have := bP.lt; omega
           have nebU_13 : w.heap.size + 1 ≠ g13 := by have := bU.lt; omega
           have nebQ_13 : w.heap.size + 1 + 1 ≠ g13 := by have := bQ.lt; omega
           have nebV_13 : w.heap.size + 1 + 1 + 1 ≠ g13 := by have := bV.lt; omega
           have ne13_14 : g13 ≠ g14 := by have := bn14.lt; omega
           try rw [← hg]
           have hb : Below V5.heap.size V5 V6 := by rw [← hX]; exact (Below.refl _ _).alloc (Nat.le_refl _) _
           clear hX hg
           replace bP := bP.on hb
           replace bU := bU.on hb
           replace bQ := bQ.on hb
           replace bV := bV.on hb
           replace bn14 := bn14.on hb
           replace HW := Lib.hid (bel_end HW.out hb)
           clear hb
           refine hK.out _ _ (HSp.out _ bP bU bQ bV) (fun _ => ?_)
           clear hK Kn)
        | (refine wpAnyH_ready (rs := [7]) (by decide +kernel) (by simp) ?_
           refine AllReadyH.cons (o := { dst := some 36, op := Go.Op.call { callee := Go.Callee.value (Go.Operand.func 17), args := #[Go.Operand.tmp 35], argTypes := #[23] }, type := 25, pos := "exact.go:4034", after := #[{ on := 6, ground := Go.Ground.data }, { on := 5, ground := Go.Ground.chain }], guard := none }) rfl (fun Kn hK => ?_) AllReadyH.nil
           first | go_at_call 17 | (go_simp; go_at_call 17)
           (with_reducible refine Calls.mono (tpt_any _ _ _) ?_)
           rintro e V6 ⟨rfl, hb⟩
           try dsimp only
           try simp only [Act.put, List.setIfInBounds_toArray, List.set_cons_zero, List.set_cons_succ]
           replace bP := bP.on hb
           replace bU := bU.on hb
           replace bQ := bQ.on hb
           replace bV := bV.on hb
           replace bn13 := bn13.on hb
           replace bn14 := bn14.on hb
           replace HW := Lib.hid (bel_end HW.out hb)
           clear hb
           refine hK.out _ _ (HSp.out _ bP bU bQ bV) (fun _ => ?_)
           clear hK Kn)
      all_goals
        first
        | (refine wpAnyH_ready (rs := [14]) (by decide +kernel) (by simp) ?_
           refine AllReadyH.cons (o := { dst := some 13, op := Go.Op.alloc 34, type := 0, pos := "exact.go:4034", after := #[], guard := none }) rfl (fun Kn hK => ?_) AllReadyH.nil
           go_simp
           generalize hX : World.alloc V6 _ = V7
           obtain ⟨g14, hg⟩ : ∃ g, g = V6.heap.size := ⟨_, rfl⟩
           have bn14 : Bk V7 g14 #[.int .i64 0, .int .i64 0] 34 := by rw [← hX]; exact Bk.new' hg
           have le14 : wc.heap.size ≤ g14 := by rw [hg]; exact HW.out.size
           have nebP_14 : w.heap.size ≠ g14 := by have := bP.lt; omega
           have nebU_14 : w.heap.size + 1 ≠ g14 := by have := bU.lt; omega
           have nebQ_14 : w.heap.size + 1 + 1 ≠ g14 := by have := bQ.lt; omega
           have nebV_14 : w.heap.size + 1 + 1 + 1 ≠ g14 := by have := bV.lt; omega
           have ne13_14 : g13 ≠ g14 := by have := bn13.lt; omega
           try rw [← hg]
           have hb : Below V6.heap.size V6 V7 := by rw [← hX]; exact (Below.refl _ _).alloc (Nat.le_refl _) _
           clear hX hg
           replace bP := bP.on hb
           replace bU := bU.on hb
           replace bQ := bQ.on hb
           replace bV := bV.on hb
           replace bn13 := bn13.on hb
           replace HW := Lib.hid (bel_end HW.out hb)
           clear hb
           refine hK.out _ _ (HSp.out _ bP bU bQ bV) (fun _ => ?_)
           clear hK Kn)
        | (refine wpAnyH_ready (rs := [13]) (by decide +kernel) (by simp) ?_
           refine AllReadyH.cons (o := { dst := some 12, op := Go.Op.alloc 34, type := 0, pos := "exact.go:4034", after := #[], guard := none }) rfl (fun Kn hK => ?_) AllReadyH.nil
           go_simp
           generalize hX : World.alloc V6 _ = V7
           obtain ⟨g13, hg⟩ : ∃ g, g = V6.heap.size := ⟨_, rfl⟩
           have bn13 : Bk V7 g13 #[.int .i64 0, .int .i64 0] 34 := by rw [← hX]; exact Bk.new' hg
           have le13 : wc.heap.size ≤ g13 := by rw [hg]; exact HW.out.size
           have nebP_13 : w.heap.size ≠ g13 := by have := bP.lt; omega
           have nebU_13 : w.heap.size + 1 ≠ g13 := by have := bU.lt; omega
           have nebQ_13 : w.heap.size + 1 + 1 ≠ g13 := by have := bQ.lt; omega
           have nebV_13 : w.heap.size + 1 + 1 + 1 ≠ g13 := by have := bV.lt; omega
           have ne13_14 : g13 ≠ g14 := by have := bn14.lt; omega
           try rw [← hg]
           have hb : Below V6.heap.size V6 V7 := by rw [← hX]; exact (Below.refl _ _).alloc (Nat.le_refl _) _
           clear hX hg
           replace bP := bP.on hb
           replace bU := bU.on hb
           replace bQ := bQ.on hb
           replace bV := bV.on hb
           replace bn14 := bn14.on hb
           replace HW := Lib.hid (bel_end HW.out hb)
           clear hb
           refine hK.out _ _ (HSp.out _ bP bU bQ bV) (fun _ => ?_)
           clear hK Kn)
        | (have hS := HSp.out _ bP bU bQ bV
           refine wpAnyH_take (i := 9) (oi := { dst := some 28, op := Go.Op.move (Go.Operand.tmp 37), type := 35, pos := "exact.go:4034", after := #[{ on := 8, ground := Go.Ground.data }], guard := none }) (v := ?_) rfl (by kernel_rfl) (by kernel_rfl) (by kernel_rfl) (fun _ _ _ h => h) (Or.inl ⟨by rfl, ?_⟩) hS ?_
           rotate_left
           · (intro w hSw; have hSw := (HSd.out w).1 hSw; go_split_ands; go_simp) <;> with_reducible rfl
           clear hS
           try simp only [Act.put, List.setIfInBounds_toArray, List.set_cons_zero, List.set_cons_succ]
           have hS := HSp.out _ bP bU bQ bV
           refine wpAnyH_take (i := 10) (oi := { dst := some 38, op := Go.Op.extract (Go.Operand.tmp 28) 0, type := 34, pos := "exact.go:4034", after := #[{ on := 9, ground := Go.Ground.data }], guard := none }) (v := ?_) rfl (by kernel_rfl) (by kernel_rfl) (by kernel_rfl) (fun _ _ _ h => h) (Or.inl ⟨by rfl, ?_⟩) hS ?_
           rotate_left
           · (intro w hSw; have hSw := (HSd.out w).1 hSw; go_split_ands; go_simp) <;> with_reducible rfl
           clear hS
           try simp only [Act.put, List.setIfInBounds_toArray, List.set_cons_zero, List.set_cons_succ]
           have hS := HSp.out _ bP bU bQ bV
           refine wpAnyH_take (i := 11) (oi := { dst := some 39, op := Go.Op.extract (Go.Operand.tmp 28) 1, type := 34, pos := "exact.go:4034", after := #[{ on := 9, ground := Go.Ground.data }, { on := 15, ground := Go.Ground.gcOnly Go.Departure.lateStores }], guard := none }) (v := ?_) rfl (by kernel_rfl) (by kernel_rfl) (by kernel_rfl) (fun _ _ _ h => h) (Or.inl ⟨by rfl, ?_⟩) hS ?_
           rotate_left
           · (intro w hSw; have hSw := (HSd.out w).1 hSw; go_split_ands; go_simp) <;> with_reducible rfl
           clear hS
           try simp only [Act.put, List.setIfInBounds_toArray, List.set_cons_zero, List.set_cons_succ]
           have hS := HSp.out _ bP bU bQ bV
           refine wpAnyH_take (i := 12) (oi := { dst := some 40, op := Go.Op.extract (Go.Operand.tmp 28) 2, type := 2, pos := "exact.go:4034", after := #[{ on := 9, ground := Go.Ground.data }, { on := 16, ground := Go.Ground.gcOnly Go.Departure.lateStores }], guard := none }) (v := ?_) rfl (by kernel_rfl) (by kernel_rfl) (by kernel_rfl) (fun _ _ _ h => h) (Or.inl ⟨by rfl, ?_⟩) hS ?_
           rotate_left
           · (intro w hSw; have hSw := (HSd.out w).1 hSw; go_split_ands; go_simp) <;> with_reducible rfl
           clear hS
           try simp only [Act.put, List.setIfInBounds_toArray, List.set_cons_zero, List.set_cons_succ]
           refine wpAnyH_ready (rs := [14]) (by decide +kernel) (by simp) ?_
           refine AllReadyH.cons (o := { dst := some 13, op := Go.Op.alloc 34, type := 0, pos := "exact.go:4034", after := #[], guard := none }) rfl (fun Kn hK => ?_) AllReadyH.nil
           go_simp
           generalize hX : World.alloc V6 _ = V7
           obtain ⟨g14, hg⟩ : ∃ g, g = V6.heap.size := ⟨_, rfl⟩
           have bn14 : Bk V7 g14 #[.int .i64 0, .int .i64 0] 34 := by rw [← hX]; exact Bk.new' hg
           have le14 : wc.heap.size ≤ g14 := by rw [hg]; exact HW.out.size
           have nebP_14 : w.heap.size ≠ g14 := by have := bP.lt; omega
           have nebU_14 : w.heap.size + 1 ≠ g14 := by have := bU.lt; omega
           have nebQ_14 : w.heap.size + 1 + 1 ≠ g14 := by have := bQ.lt; omega
           have nebV_14 : w.heap.size + 1 + 1 + 1 ≠ g14 := by have := bV.lt; omega
           have ne13_14 : g13 ≠ g14 := by have := bn13.lt; omega
           try rw [← hg]
           have hb : Below V6.heap.size V6 V7 := by rw [← hX]; exact (Below.refl _ _).alloc (Nat.le_refl _) _
           clear hX hg
           replace bP := bP.on hb
           replace bU := bU.on hb
           replace bQ := bQ.on hb
           replace bV := bV.on hb
           replace bn13 := bn13.on hb
           replace HW := Lib.hid (bel_end HW.out hb)
           clear hb
           refine hK.out _ _ (HSp.out _ bP bU bQ bV) (fun _ => ?_)
           clear hK Kn)
        | (refine wpAnyH_ready (rs := [8]) (by decide +kernel) (by simp) ?_
           refine AllReadyH.cons (o := { dst := some 37, op := Go.Op.call { callee := Go.Callee.value (Go.Operand.func 24), args := #[Go.Operand.tmp 30, Go.Operand.tmp 32, Go.Operand.tmp 34, Go.Operand.tmp 36], argTypes := #[25, 25, 25, 25] }, type := 35, pos := "exact.go:4034", after := #[{ on := 1, ground := Go.Ground.data }, { on := 3, ground := Go.Ground.data }, { on := 5, ground := Go.Ground.data }, { on := 7, ground := Go.Ground.data }, { on := 7, ground := Go.Ground.chain }], guard := none }) rfl (fun Kn hK => ?_) AllReadyH.nil
           first | go_at_call 24 | (go_simp; go_at_call 24)
           (with_reducible refine Calls.mono (S2.out _) ?_)
           rintro e V7 ⟨rfl, hb⟩
           try dsimp only
           try simp only [Act.put, List.setIfInBounds_toArray, List.set_cons_zero, List.set_cons_succ]
           replace bP := bP.on hb
           replace bU := bU.on hb
           replace bQ := bQ.on hb
           replace bV := bV.on hb
           replace bn13 := bn13.on hb
           replace bn14 := bn14.on hb
           replace HW := Lib.hid (bel_end HW.out hb)
           clear hb
           refine hK.out _ _ (HSp.out _ bP bU bQ bV) (fun _ => ?_)
           clear hK Kn)
        | (have hS := HSp.out _ bP bU bQ bV
           refine wpAnyH_take (i := 9) (oi := { dst := some 28, op := Go.Op.move (Go.Operand.tmp 37), type := 35, pos := "exact.go:4034", after := #[{ on := 8, ground := Go.Ground.data }], guard := none }) (v := ?_) rfl (by kernel_rfl) (by kernel_rfl) (by kernel_rfl) (fun _ _ _ h => h) (Or.inl ⟨by rfl, ?_⟩) hS ?_
           rotate_left
           · (intro w hSw; have hSw := (HSd.out w).1 hSw; go_split_ands; go_simp) <;> with_reducible rfl
           clear hS
           try simp only [Act.put, List.setIfInBounds_toArray, List.set_cons_zero, List.set_cons_succ]
           have hS := HSp.out _ bP bU bQ bV
           refine wpAnyH_take (i := 10) (oi := { dst := some 38, op := Go.Op.extract (Go.Operand.tmp 28) 0, type := 34, pos := "exact.go:4034", after := #[{ on := 9, ground := Go.Ground.data }], guard := none }) (v := ?_) rfl (by kernel_rfl) (by kernel_rfl) (by kernel_rfl) (fun _ _ _ h => h) (Or.inl ⟨by rfl, ?_⟩) hS ?_
           rotate_left
           · (intro w hSw; have hSw := (HSd.out w).1 hSw; go_split_ands; go_simp) <;> with_reducible rfl
           clear hS
           try simp only [Act.put, List.setIfInBounds_toArray, List.set_cons_zero, List.set_cons_succ]
           have hS := HSp.out _ bP bU bQ bV
           refine wpAnyH_take (i := 11) (oi := { dst := some 39, op := Go.Op.extract (Go.Operand.tmp 28) 1, type := 34, pos := "exact.go:4034", after := #[{ on := 9, ground := Go.Ground.data }, { on := 15, ground := Go.Ground.gcOnly Go.Departure.lateStores }], guard := none }) (v := ?_) rfl (by kernel_rfl) (by kernel_rfl) (by kernel_rfl) (fun _ _ _ h => h) (Or.inl ⟨by rfl, ?_⟩) hS ?_
           rotate_left
           · (intro w hSw; have hSw := (HSd.out w).1 hSw; go_split_ands; go_simp) <;> with_reducible rfl
           clear hS
           try simp only [Act.put, List.setIfInBounds_toArray, List.set_cons_zero, List.set_cons_succ]
           have hS := HSp.out _ bP bU bQ bV
           refine wpAnyH_take (i := 12) (oi := { dst := some 40, op := Go.Op.extract (Go.Operand.tmp 28) 2, type := 2, pos := "exact.go:4034", after := #[{ on := 9, ground := Go.Ground.data }, { on := 16, ground := Go.Ground.gcOnly Go.Departure.lateStores }], guard := none }) (v := ?_) rfl (by kernel_rfl) (by kernel_rfl) (by kernel_rfl) (fun _ _ _ h => h) (Or.inl ⟨by rfl, ?_⟩) hS ?_
           rotate_left
           · (intro w hSw; have hSw := (HSd.out w).1 hSw; go_split_ands; go_simp) <;> with_reducible rfl
           clear hS
           try simp only [Act.put, List.setIfInBounds_toArray, List.set_cons_zero, List.set_cons_succ]
           refine wpAnyH_ready (rs := [13]) (by decide +kernel) (by simp) ?_
           refine AllReadyH.cons (o := { dst := some 12, op := Go.Op.alloc 34, type := 0, pos := "exact.go:4034", after := #[], guard := none }) rfl (fun Kn hK => ?_) AllReadyH.nil
           go_simp
           generalize hX : World.alloc V6 _ = V7
           obtain ⟨g13, hg⟩ : ∃ g, g = V6.heap.size := ⟨_, rfl⟩
           have bn13 : Bk V7 g13 #[.int .i64 0, .int .i64 0] 34 := by rw [← hX]; exact Bk.new' hg
           have le13 : wc.heap.size ≤ g13 := by rw [hg]; exact HW.out.size
           have nebP_13 : w.heap.size ≠ g13 := by have := bP.lt; omega
           have nebU_13 : w.heap.size + 1 ≠ g13 := by have := bU.lt; omega
           have nebQ_13 : w.heap.size + 1 + 1 ≠ g13 := by have := bQ.lt; omega
           have nebV_13 : w.heap.size + 1 + 1 + 1 ≠ g13 := by have := bV.lt; omega
           have ne13_14 : g13 ≠ g14 := by have := bn14.lt; omega
           try rw [← hg]
           have hb : Below V6.heap.size V6 V7 := by rw [← hX]; exact (Below.refl _ _).alloc (Nat.le_refl _) _
           clear hX hg
           replace bP := bP.on hb
           replace bU := bU.on hb
           replace bQ := bQ.on hb
           replace bV := bV.on hb
           replace bn14 := bn14.on hb
           replace HW := Lib.hid (bel_end HW.out hb)
           clear hb
           refine hK.out _ _ (HSp.out _ bP bU bQ bV) (fun _ => ?_)
           clear hK Kn)
      all_goals
        first
        | (refine wpAnyH_ready (rs := [15]) (by decide +kernel) (by simp) ?_
           refine AllReadyH.cons (o := { dst := none, op := Go.Op.store 34 (Go.Operand.tmp 12) (Go.Operand.tmp 38), type := 0, pos := "exact.go:4034", after := #[{ on := 13, ground := Go.Ground.data }, { on := 10, ground := Go.Ground.data }, { on := 8, ground := Go.Ground.chain }, { on := 0, ground := Go.Ground.phase }, { on := 1, ground := Go.Ground.phase }, { on := 2, ground := Go.Ground.phase }, { on := 3, ground := Go.Ground.phase }, { on := 4, ground := Go.Ground.phase }, { on := 5, ground := Go.Ground.phase }, { on := 6, ground := Go.Ground.phase }, { on := 7, ground := Go.Ground.phase }, { on := 8, ground := Go.Ground.phase }, { on := 9, ground := Go.Ground.phase }, { on := 10, ground := Go.Ground.phase }, { on := 11, ground := Go.Ground.textOnly Go.Departure.lateStores }, { on := 12, ground := Go.Ground.textOnly Go.Departure.lateStores }, { on := 13, ground := Go.Ground.phase }, { on := 14, ground := Go.Ground.phase }], guard := none }) rfl (fun Kn hK => ?_) AllReadyH.nil
           have bn13_0 := bn13.cell 0 rfl
           have bn13_1 := bn13.cell 1 rfl
           have bn13_f0 := bn13.frozen 0
           have bn13_f1 := bn13.frozen 1
           have bn13_l := bn13.lt
           go_simp
           clear bn13_0 bn13_f0 bn13_1 bn13_f1 bn13_l
           generalize hX : World.setCell _ _ _ = V8
           have hb : Below wc.heap.size wc V8 := by rw [← hX]; exact ((HW.out.setCell (p := ⟨g13, 0, none⟩) le13 _).setCell (p := ⟨g13, 1, none⟩) le13 _)
           replace bP : Bk V8 (w.heap.size) #[.int .i64 px, .int .i64 py] 23 := by rw [← hX]; exact (Bk.other (Bk.other bP nebP_13 0 _) nebP_13 1 _)
           replace bU : Bk V8 (w.heap.size + 1) #[.int .i64 ux, .int .i64 uy] 23 := by rw [← hX]; exact (Bk.other (Bk.other bU nebU_13 0 _) nebU_13 1 _)
           replace bQ : Bk V8 (w.heap.size + 1 + 1) #[.int .i64 qx, .int .i64 qy] 23 := by rw [← hX]; exact (Bk.other (Bk.other bQ nebQ_13 0 _) nebQ_13 1 _)
           replace bV : Bk V8 (w.heap.size + 1 + 1 + 1) #[.int .i64 vx, .int .i64 vy] 23 := by rw [← hX]; exact (Bk.other (Bk.other bV nebV_13 0 _) nebV_13 1 _)
           replace bn14 : Bk V8 (g14) #[.int .i64 0, .int .i64 0] 34 := by rw [← hX]; exact (Bk.other (Bk.other bn14 (Ne.symm ne13_14) 0 _) (Ne.symm ne13_14) 1 _)
           replace bn13 : Bk V8 (g13) #[.int .i64 p, .int .i64 q] 34 := by rw [← hX]; exact (Bk.set (Bk.set bn13 0 _ rfl) 1 _ rfl)
           clear hX
           replace HW := Lib.hid hb
           clear hb
           refine hK.out _ _ (HSp.out _ bP bU bQ bV) (fun _ => ?_)
           clear hK Kn)
        | (have hS := HSp.out _ bP bU bQ bV
           refine wpAnyH_take (i := 9) (oi := { dst := some 28, op := Go.Op.move (Go.Operand.tmp 37), type := 35, pos := "exact.go:4034", after := #[{ on := 8, ground := Go.Ground.data }], guard := none }) (v := ?_) rfl (by kernel_rfl) (by kernel_rfl) (by kernel_rfl) (fun _ _ _ h => h) (Or.inl ⟨by rfl, ?_⟩) hS ?_
           rotate_left
           · (intro w hSw; have hSw := (HSd.out w).1 hSw; go_split_ands; go_simp) <;> with_reducible rfl
           clear hS
           try simp only [Act.put, List.setIfInBounds_toArray, List.set_cons_zero, List.set_cons_succ]
           have hS := HSp.out _ bP bU bQ bV
           refine wpAnyH_take (i := 10) (oi := { dst := some 38, op := Go.Op.extract (Go.Operand.tmp 28) 0, type := 34, pos := "exact.go:4034", after := #[{ on := 9, ground := Go.Ground.data }], guard := none }) (v := ?_) rfl (by kernel_rfl) (by kernel_rfl) (by kernel_rfl) (fun _ _ _ h => h) (Or.inl ⟨by rfl, ?_⟩) hS ?_
           rotate_left
           · (intro w hSw; have hSw := (HSd.out w).1 hSw; go_split_ands; go_simp) <;> with_reducible rfl
           clear hS
           try simp only [Act.put, List.setIfInBounds_toArray, List.set_cons_zero, List.set_cons_succ]
           have hS := HSp.out _ bP bU bQ bV
           refine wpAnyH_take (i := 11) (oi := { dst := some 39, op := Go.Op.extract (Go.Operand.tmp 28) 1, type := 34, pos := "exact.go:4034", after := #[{ on := 9, ground := Go.Ground.data }, { on := 15, ground := Go.Ground.gcOnly Go.Departure.lateStores }], guard := none }) (v := ?_) rfl (by kernel_rfl) (by kernel_rfl) (by kernel_rfl) (fun _ _ _ h => h) (Or.inl ⟨by rfl, ?_⟩) hS ?_
           rotate_left
           · (intro w hSw; have hSw := (HSd.out w).1 hSw; go_split_ands; go_simp) <;> with_reducible rfl
           clear hS
           try simp only [Act.put, List.setIfInBounds_toArray, List.set_cons_zero, List.set_cons_succ]
           have hS := HSp.out _ bP bU bQ bV
           refine wpAnyH_take (i := 12) (oi := { dst := some 40, op := Go.Op.extract (Go.Operand.tmp 28) 2, type := 2, pos := "exact.go:4034", after := #[{ on := 9, ground := Go.Ground.data }, { on := 16, ground := Go.Ground.gcOnly Go.Departure.lateStores }], guard := none }) (v := ?_) rfl (by kernel_rfl) (by kernel_rfl) (by kernel_rfl) (fun _ _ _ h => h) (Or.inl ⟨by rfl, ?_⟩) hS ?_
           rotate_left
           · (intro w hSw; have hSw := (HSd.out w).1 hSw; go_split_ands; go_simp) <;> with_reducible rfl
           clear hS
           try simp only [Act.put, List.setIfInBounds_toArray, List.set_cons_zero, List.set_cons_succ]
           refine wpAnyH_ready (rs := [15]) (by decide +kernel) (by simp) ?_
           refine AllReadyH.cons (o := { dst := none, op := Go.Op.store 34 (Go.Operand.tmp 12) (Go.Operand.tmp 38), type := 0, pos := "exact.go:4034", after := #[{ on := 13, ground := Go.Ground.data }, { on := 10, ground := Go.Ground.data }, { on := 8, ground := Go.Ground.chain }, { on := 0, ground := Go.Ground.phase }, { on := 1, ground := Go.Ground.phase }, { on := 2, ground := Go.Ground.phase }, { on := 3, ground := Go.Ground.phase }, { on := 4, ground := Go.Ground.phase }, { on := 5, ground := Go.Ground.phase }, { on := 6, ground := Go.Ground.phase }, { on := 7, ground := Go.Ground.phase }, { on := 8, ground := Go.Ground.phase }, { on := 9, ground := Go.Ground.phase }, { on := 10, ground := Go.Ground.phase }, { on := 11, ground := Go.Ground.textOnly Go.Departure.lateStores }, { on := 12, ground := Go.Ground.textOnly Go.Departure.lateStores }, { on := 13, ground := Go.Ground.phase }, { on := 14, ground := Go.Ground.phase }], guard := none }) rfl (fun Kn hK => ?_) AllReadyH.nil
           have bn13_0 := bn13.cell 0 rfl
           have bn13_1 := bn13.cell 1 rfl
           have bn13_f0 := bn13.frozen 0
           have bn13_f1 := bn13.frozen 1
           have bn13_l := bn13.lt
           go_simp
           clear bn13_0 bn13_f0 bn13_1 bn13_f1 bn13_l
           generalize hX : World.setCell _ _ _ = V8
           have hb : Below wc.heap.size wc V8 := by rw [← hX]; exact ((HW.out.setCell (p := ⟨g13, 0, none⟩) le13 _).setCell (p := ⟨g13, 1, none⟩) le13 _)
           replace bP : Bk V8 (w.heap.size) #[.int .i64 px, .int .i64 py] 23 := by rw [← hX]; exact (Bk.other (Bk.other bP nebP_13 0 _) nebP_13 1 _)
           replace bU : Bk V8 (w.heap.size + 1) #[.int .i64 ux, .int .i64 uy] 23 := by rw [← hX]; exact (Bk.other (Bk.other bU nebU_13 0 _) nebU_13 1 _)
           replace bQ : Bk V8 (w.heap.size + 1 + 1) #[.int .i64 qx, .int .i64 qy] 23 := by rw [← hX]; exact (Bk.other (Bk.other bQ nebQ_13 0 _) nebQ_13 1 _)
           replace bV : Bk V8 (w.heap.size + 1 + 1 + 1) #[.int .i64 vx, .int .i64 vy] 23 := by rw [← hX]; exact (Bk.other (Bk.other bV nebV_13 0 _) nebV_13 1 _)
           replace bn14 : Bk V8 (g14) #[.int .i64 0, .int .i64 0] 34 := by rw [← hX]; exact (Bk.other (Bk.other bn14 (Ne.symm ne13_14) 0 _) (Ne.symm ne13_14) 1 _)
           replace bn13 : Bk V8 (g13) #[.int .i64 p, .int .i64 q] 34 := by rw [← hX]; exact (Bk.set (Bk.set bn13 0 _ rfl) 1 _ rfl)
           clear hX
           replace HW := Lib.hid hb
           clear hb
           refine hK.out _ _ (HSp.out _ bP bU bQ bV) (fun _ => ?_)
           clear hK Kn)
      all_goals
        refine wpAnyH_ready (rs := [16]) (by decide +kernel) (by simp) ?_
        refine AllReadyH.cons (o := { dst := none, op := Go.Op.store 34 (Go.Operand.tmp 13) (Go.Operand.tmp 39), type := 0, pos := "exact.go:4034", after := #[{ on := 14, ground := Go.Ground.data }, { on := 11, ground := Go.Ground.data }, { on := 15, ground := Go.Ground.chain }, { on := 0, ground := Go.Ground.phase }, { on := 1, ground := Go.Ground.phase }, { on := 2, ground := Go.Ground.phase }, { on := 3, ground := Go.Ground.phase }, { on := 4, ground := Go.Ground.phase }, { on := 5, ground := Go.Ground.phase }, { on := 6, ground := Go.Ground.phase }, { on := 7, ground := Go.Ground.phase }, { on := 8, ground := Go.Ground.phase }, { on := 9, ground := Go.Ground.phase }, { on := 10, ground := Go.Ground.phase }, { on := 11, ground := Go.Ground.phase }, { on := 12, ground := Go.Ground.textOnly Go.Departure.lateStores }, { on := 13, ground := Go.Ground.phase }, { on := 14, ground := Go.Ground.phase }, { on := 15, ground := Go.Ground.phase }], guard := none }) rfl (fun Kn hK => ?_) AllReadyH.nil
        have bn14_0 := bn14.cell 0 rfl
        have bn14_1 := bn14.cell 1 rfl
        have bn14_f0 := bn14.frozen 0
        have bn14_f1 := bn14.frozen 1
        have bn14_l := bn14.lt
        go_simp
        clear bn14_0 bn14_f0 bn14_1 bn14_f1 bn14_l
        generalize hX : World.setCell _ _ _ = V9
        have hb : Below wc.heap.size wc V9 := by rw [← hX]; exact ((HW.out.setCell (p := ⟨g14, 0, none⟩) le14 _).setCell (p := ⟨g14, 1, none⟩) le14 _)
        replace bP : Bk V9 (w.heap.size) #[.int .i64 px, .int .i64 py] 23 := by rw [← hX]; exact (Bk.other (Bk.other bP nebP_14 0 _) nebP_14 1 _)
        replace bU : Bk V9 (w.heap.size + 1) #[.int .i64 ux, .int .i64 uy] 23 := by rw [← hX]; exact (Bk.other (Bk.other bU nebU_14 0 _) nebU_14 1 _)
        replace bQ : Bk V9 (w.heap.size + 1 + 1) #[.int .i64 qx, .int .i64 qy] 23 := by rw [← hX]; exact (Bk.other (Bk.other bQ nebQ_14 0 _) nebQ_14 1 _)
        replace bV : Bk V9 (w.heap.size + 1 + 1 + 1) #[.int .i64 vx, .int .i64 vy] 23 := by rw [← hX]; exact (Bk.other (Bk.other bV nebV_14 0 _) nebV_14 1 _)
        replace bn13 : Bk V9 (g13) #[.int .i64 p, .int .i64 q] 34 := by rw [← hX]; exact (Bk.other (Bk.other bn13 ne13_14 0 _) ne13_14 1 _)
        replace bn14 : Bk V9 (g14) #[.int .i64 r, .int .i64 t] 34 := by rw [← hX]; exact (Bk.set (Bk.set bn14 0 _ rfl) 1 _ rfl)
        clear hX
        replace HW := Lib.hid hb
        clear hb
        refine hK.out _ _ (HSp.out _ bP bU bQ bV) (fun _ => ?_)
        clear hK Kn
      all_goals
        have hS := HSp.out _ bP bU bQ bV
        refine wpAnyH_take (i := 17) (oi := { dst := some 14, op := Go.Op.assign (Go.Operand.tmp 40), type := 2, pos := "exact.go:4034", after := #[{ on := 12, ground := Go.Ground.data }, { on := 16, ground := Go.Ground.chain }, { on := 0, ground := Go.Ground.phase }, { on := 1, ground := Go.Ground.phase }, { on := 2, ground := Go.Ground.phase }, { on := 3, ground := Go.Ground.phase }, { on := 4, ground := Go.Ground.phase }, { on := 5, ground := Go.Ground.phase }, { on := 6, ground := Go.Ground.phase }, { on := 7, ground := Go.Ground.phase }, { on := 8, ground := Go.Ground.phase }, { on := 9, ground := Go.Ground.phase }, { on := 10, ground := Go.Ground.phase }, { on := 11, ground := Go.Ground.phase }, { on := 12, ground := Go.Ground.phase }, { on := 13, ground := Go.Ground.phase }, { on := 14, ground := Go.Ground.phase }, { on := 15, ground := Go.Ground.phase }, { on := 16, ground := Go.Ground.phase }], guard := none }) (v := ?_) rfl (by kernel_rfl) (by kernel_rfl) (by kernel_rfl) (fun _ _ _ h => h) (Or.inl ⟨by rfl, ?_⟩) hS ?_
        rotate_left
        · (intro w hSw; have hSw := (HSd.out w).1 hSw; go_split_ands; go_simp) <;> with_reducible rfl
        clear hS
        try simp only [Act.put, List.setIfInBounds_toArray, List.set_cons_zero, List.set_cons_succ]
        refine wpAnyH_done (by kernel_rfl) ?_ _
        go_wp2_with fail
        go_meet
        exact ⟨⟨_, _, rfl, rfl, rfl, bn13, bn14⟩, HW.out⟩
    case rest =>
      obtain ⟨hx, hb⟩ := hcut
      replace bP := bP.on hb
      replace bU := bU.on hb
      replace bQ := bQ.on hb
      replace bV := bV.on hb
      replace bRa0 := bRa0.on hb
      replace bRa1 := bRa1.on hb
      replace HB := Lib.hid (bel_end HB.out hb)
      clear hb
      obtain ⟨gb0, gb1, rfl, rfl, rfl, bRb0, bRb1⟩ := hx
      obtain ⟨WCb, hWC⟩ : ∃ W, W = wc := ⟨_, rfl⟩
      skip
      have bP_0 := bP.cell 0 rfl
      have bP_1 := bP.cell 1 rfl
      have bP_l := bP.lt
      have bU_0 := bU.cell 0 rfl
      have bU_1 := bU.cell 1 rfl
      have bU_l := bU.lt
      have bQ_0 := bQ.cell 0 rfl
      have bQ_1 := bQ.cell 1 rfl
      have bQ_l := bQ.lt
      have bV_0 := bV.cell 0 rfl
      have bV_1 := bV.cell 1 rfl
      have bV_l := bV.lt
      have bRa0_0 := bRa0.cell 0 rfl
      have bRa0_1 := bRa0.cell 1 rfl
      have bRa0_l := bRa0.lt
      have bRa1_0 := bRa1.cell 0 rfl
      have bRa1_1 := bRa1.cell 1 rfl
      have bRa1_l := bRa1.lt
      have bRb0_0 := bRb0.cell 0 rfl
      have bRb0_1 := bRb0.cell 1 rfl
      have bRb0_l := bRb0.lt
      have bRb1_0 := bRb1.cell 0 rfl
      have bRb1_1 := bRb1.cell 1 rfl
      have bRb1_l := bRb1.lt
      go_wp2_with fail
      clear bP_0 bP_1 bP_l bU_0 bU_1 bU_l bQ_0 bQ_1 bQ_l bV_0 bV_1 bV_l bRa0_0 bRa0_1 bRa0_l bRa1_0 bRa1_1 bRa1_l bRb0_0 bRb0_1 bRb0_l bRb1_0 bRb1_1 bRb1_l
      refine (eqr_any _ _ _ _ _).mono ?_
      simp only [beq_self_eq_true, Bool.and_self]
      rintro e we0 ⟨rfl, hb⟩
      replace bP := bP.on hb
      replace bU := bU.on hb
      replace bQ := bQ.on hb
      replace bV := bV.on hb
      replace bRa0 := bRa0.on hb
      replace bRa1 := bRa1.on hb
      replace bRb0 := bRb0.on hb
      replace bRb1 := bRb1.on hb
      replace HB := Lib.hid (bel_end HB.out hb)
      clear hb
      have bP_0 := bP.cell 0 rfl
      have bP_1 := bP.cell 1 rfl
      have bP_l := bP.lt
      have bU_0 := bU.cell 0 rfl
      have bU_1 := bU.cell 1 rfl
      have bU_l := bU.lt
      have bQ_0 := bQ.cell 0 rfl
      have bQ_1 := bQ.cell 1 rfl
      have bQ_l := bQ.lt
      have bV_0 := bV.cell 0 rfl
      have bV_1 := bV.cell 1 rfl
      have bV_l := bV.lt
      have bRa0_0 := bRa0.cell 0 rfl
      have bRa0_1 := bRa0.cell 1 rfl
      have bRa0_l := bRa0.lt
      have bRa1_0 := bRa1.cell 0 rfl
      have bRa1_1 := bRa1.cell 1 rfl
      have bRa1_l := bRa1.lt
      have bRb0_0 := bRb0.cell 0 rfl
      have bRb0_1 := bRb0.cell 1 rfl
      have bRb0_l := bRb0.lt
      have bRb1_0 := bRb1.cell 0 rfl
      have bRb1_1 := bRb1.cell 1 rfl
      have bRb1_l := bRb1.lt
      go_wp2_with fail
      clear bP_0 bP_1 bP_l bU_0 bU_1 bU_l bQ_0 bQ_1 bQ_l bV_0 bV_1 bV_l bRa0_0 bRa0_1 bRa0_l bRa1_0 bRa1_1 bRa1_l bRb0_0 bRb0_1 bRb0_l bRb1_0 bRb1_1 bRb1_l
      refine (eqr_any _ _ _ _ _).mono ?_
      simp only [beq_self_eq_true, Bool.and_self]
      rintro e we1 ⟨rfl, hb⟩
      replace bP := bP.on hb
      replace bU := bU.on hb
      replace bQ := bQ.on hb
      replace bV := bV.on hb
      replace bRa0 := bRa0.on hb
      replace bRa1 := bRa1.on hb
      replace bRb0 := bRb0.on hb
      replace bRb1 := bRb1.on hb
      replace HB := Lib.hid (bel_end HB.out hb)
      clear hb
      have bP_0 := bP.cell 0 rfl
      have bP_1 := bP.cell 1 rfl
      have bP_l := bP.lt
      have bU_0 := bU.cell 0 rfl
      have bU_1 := bU.cell 1 rfl
      have bU_l := bU.lt
      have bQ_0 := bQ.cell 0 rfl
      have bQ_1 := bQ.cell 1 rfl
      have bQ_l := bQ.lt
      have bV_0 := bV.cell 0 rfl
      have bV_1 := bV.cell 1 rfl
      have bV_l := bV.lt
      have bRa0_0 := bRa0.cell 0 rfl
      have bRa0_1 := bRa0.cell 1 rfl
      have bRa0_l := bRa0.lt
      have bRa1_0 := bRa1.cell 0 rfl
      have bRa1_1 := bRa1.cell 1 rfl
      have bRa1_l := bRa1.lt
      have bRb0_0 := bRb0.cell 0 rfl
      have bRb0_1 := bRb0.cell 1 rfl
      have bRb0_l := bRb0.lt
      have bRb1_0 := bRb1.cell 0 rfl
      have bRb1_1 := bRb1.cell 1 rfl
      have bRb1_l := bRb1.lt
      go_wp2
      go_ret
      exact ⟨rfl, HB.out⟩
end Go.Proofs.Ytkjpjhklnaehbaa
