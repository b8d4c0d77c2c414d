/- Contracts of the delays of arrays and of their errors, the program's and the model's. -/
import Derived.Test.YthfaejhiabdkbaaBmB
import Derived.Deep.RegionHeld3
namespace Go.Proofs.Ythfaejhiabdkbaa
open Go.ChangeShapes Go.WideShapes Go.ChangeAt Go.RowKit Go.Shelf Num
set_option linter.unusedVariables false
set_option linter.unusedSimpArgs false

set_option maxRecDepth 100000 in
set_option maxHeartbeats 8000000 in
theorem ldl_any (w : World) (a : Option Addr) (cap : Nat) (zs : List Int) (c s h r v : Int) (ok : AOk zs c s h r v) (hz : Ints .i64 w w.heap.size a zs) :
    Calls Try.prog 34 #[.slice a zs.length cap, .agg #[.int .i64 c, .int .i64 s, .int .i64 h], .int .i64 r, .int .i64 v] w fun e w' => ∃ (a' : Option Addr) (c' : Nat), e = .returned (.slice a' (dlL zs s h r v zs.length).length c') ∧ OwnA w' w.heap.size w'.heap.size a' c' (dlL zs s h r v zs.length) ∧ Below w.heap.size w w' := by
  obtain ⟨i0, hi, hz0, hz1, hz2⟩ := info_parts info_i64
  have HZ := Lib.hid hz
  have HD : Hid (∀ i, _) := Lib.hid ok.num
  obtain ⟨d1, d2⟩ := ok.den
  have h1 := (arrB_t ok.ar).2.1
  clear hz ok
  obtain ⟨N, hN⟩ : ∃ N, zs.length = N := ⟨_, rfl⟩
  rw [hN] at h1 ⊢
  have HN := Lib.hid hN
  clear hN
  go_enter Try.func34, Try.ntmps34
  go_upto_region 1 with fail
  obtain ⟨W, hW⟩ : ∃ W, W = w.alloc (.cells #[.int .i64 c, .int .i64 s, .int .i64 h] 30) := ⟨_, rfl⟩
  have hb : Below w.heap.size w W := by rw [hW]; exact (by repeat (first | exact Below.refl _ _ | (refine Below.alloc ?_ (by simp <;> omega) _) | (refine Below.setCell ?_ (by simp <;> omega) _) | (refine Below.drew ?_) | (refine bel_drewN ?_ _)))
  have bX0 : Bk W w.heap.size #[.int .i64 c, .int .i64 s, .int .i64 h] 30 := by rw [hW]; exact Bk.new' rfl
  rw [← hW]
  clear hW
  have HB := Lib.hid hb
  have HZ1 := Lib.hid ((HZ.out.below hb).more hb.size)
  clear hb
  go_wp2_with fail
  have HR0 := Lib.hid (RowG.lit (w1 := W) (t := 2) (m := 1) (W := W.alloc (.cells #[] 2)) (Bk.new' rfl) (Nat.le_refl _) ((Below.refl _ _).alloc (Nat.le_refl _) _))
  go_loopw [9, 10] (fun q i wr => ∃ (k ge ce : Nat), k ≤ N ∧ q = .slice (some ⟨ge, 0, none⟩) k ce ∧ i = .int .i64 k ∧ RowG W 2 1 ge ce k ((dlL zs s h r v k).map iv4) wr) (fun _ i _ => N - (intOf i).toNat)
  case atStart => exact ⟨0, W.heap.size, 0, by omega, rfl, rfl, HR0.out⟩
  case round =>
    obtain ⟨k, ge, ce, hk, rfl, rfl, hR⟩ := hrel
    have HR := Lib.hid hR
    have HW := Lib.hid hR.bel
    have bX := bX0.on hR.bel
    have HXG := Lib.hid hR.lo
    have HR0l := Lib.hid bX0.lt
    clear hR HR0 bX0
    by_cases hlt : k < N
    · obtain ⟨b, off, rfl, hbl, hc0⟩ := HZ1.out.at_ (j := k) (by rw [HN.out]; exact hlt)
      obtain ⟨n1, n2, n3, n4, n5, n6⟩ := HD.out k
      have hs := dlL_succ zs s h r v k
      have HF : Hid (dly s h r v (zs.getD k 0) = near (dnm (zs.getD k 0) r s) (h * v)) := Lib.hid rfl
      obtain ⟨x, hx⟩ : ∃ x, zs.getD k 0 = x := ⟨_, rfl⟩
      rw [hx] at hc0 n1 n2 n3 n4 n5 n6 HF hs
      clear hx
      have hc := (HW.out.cell (p := ⟨b, off + k, none⟩) hbl).trans hc0
      have HCK : Hid (∀ w', Below W.heap.size W w' → w'.cell? ⟨b, off + k, none⟩ = some (.int .i64 x)) := Lib.hid (fun w' hb => (hb.cell (p := ⟨b, off + k, none⟩) hbl).trans hc0)
      clear hc0
      obtain ⟨D, hD⟩ : ∃ D, dly s h r v x = D := ⟨_, rfl⟩
      rw [hD] at hs HF
      have HSN : Hid ((dlL zs s h r v k).map iv4 ++ [.int .i64 D] = (dlL zs s h r v (k + 1)).map iv4) := Lib.hid (by rw [hs, List.map_append]; rfl)
      clear hD hs
      have K1 : Hid (∀ w : World, Calls Try.prog 53 #[.int .i64 (dnm x r s), .int .i64 (h * v)] w fun e w' => e = .returned (.int .i64 D) ∧ w = w') := Lib.hid (fun w => by have := lnr_any (dnm x r s) (h * v) (by omega) (by omega) (by omega) (by omega) (by omega) w; rwa [← HF.out] at this)
      unfold dnm at n5 n6 K1
      have e1 : IntKind.wrap .i64 (10 * x) = 10 * x := IntWalk.i64_in _ (by omega)
      have e2 : IntKind.wrap .i64 (10 * x * r) = 10 * x * r := IntWalk.i64_in _ (by omega)
      have e3 : IntKind.wrap .i64 (10 * x * r * s) = 10 * x * r * s := IntWalk.i64_in _ (by omega)
      have e4 : IntKind.wrap .i64 (h * v) = h * v := IntWalk.i64_in _ (by omega)
      clear n1 n2 n3 n4 n5 n6 d1 d2 HF
      go_wp2_with fail
      obtain ⟨S, hSd⟩ : ∃ S : World → Prop, ∀ w', S w' ↔ (w'.cell? ⟨w.heap.size, 1, none⟩ = some (.int .i64 s) ∧ w'.cell? ⟨w.heap.size, 2, none⟩ = some (.int .i64 h) ∧ w'.cell? ⟨b, off + k, none⟩ = some (.int .i64 x)) := ⟨_, fun _ => Iff.rfl⟩
      have HSp : Hid (∀ w' : World, Bk w' (w.heap.size) #[.int .i64 c, .int .i64 s, .int .i64 h] 30 → w'.cell? ⟨b, off + k, none⟩ = some (.int .i64 x) → S w') := Lib.hid (fun w' bX y0 => (hSd w').2 ⟨bX.cell 1 rfl, bX.cell 2 rfl, y0⟩)
      have HSd := Lib.hid hSd
      clear hSd
      refine wp_region_held_drew (S := S) (by kernel_rfl) ?_ (fun hH => ?_)
      · exact (HSp.out _ bX hc : S (World.drew wr))
      clear hH
      generalize hX : World.drew wr = V0
      replace bX : Bk V0 (w.heap.size) #[.int .i64 c, .int .i64 s, .int .i64 h] 30 := by rw [← hX]; exact bX
      have hb : Below wr.heap.size wr V0 := by rw [← hX]; exact (Below.refl _ _).drew
      clear hX
      replace HR := Lib.hid (HR.out.on hb)
      replace hc := kc1 hc hb
      replace HW := Lib.hid (bel_end HW.out hb)
      clear hb
      have hS := HSp.out _ bX hc
      refine wpAnyH_take (i := 0) (oi := { dst := some 18, op := Go.Op.move (Go.Operand.tmp 9), type := 22, pos := "l11_arrays.go:37", after := #[], guard := none }) (v := ?_) rfl (by kernel_rfl) (by kernel_rfl) (by kernel_rfl) (fun _ _ _ h => h) (Or.inl ⟨by rfl, ?_⟩) hS ?_
      rotate_left
      · (intro w hSw; have hSw := (HSd.out w).1 hSw; go_split_ands; go_simp) <;> with_reducible rfl
      clear hS
      try simp only [Act.put, List.setIfInBounds_toArray, List.set_cons_zero, List.set_cons_succ]
      have hS := HSp.out _ bX hc
      refine wpAnyH_take (i := 1) (oi := { dst := some 19, op := Go.Op.move (Go.Operand.tmp 0), type := 22, pos := "l11_arrays.go:37", after := #[], guard := none }) (v := ?_) rfl (by kernel_rfl) (by kernel_rfl) (by kernel_rfl) (fun _ _ _ h => h) (Or.inl ⟨by rfl, ?_⟩) hS ?_
      rotate_left
      · (intro w hSw; have hSw := (HSd.out w).1 hSw; go_split_ands; go_simp) <;> with_reducible rfl
      clear hS
      try simp only [Act.put, List.setIfInBounds_toArray, List.set_cons_zero, List.set_cons_succ]
      have hS := HSp.out _ bX hc
      refine wpAnyH_take (i := 2) (oi := { dst := some 20, op := Go.Op.move (Go.Operand.tmp 10), type := 3, pos := "l11_arrays.go:37", after := #[], guard := none }) (v := ?_) rfl (by kernel_rfl) (by kernel_rfl) (by kernel_rfl) (fun _ _ _ h => h) (Or.inl ⟨by rfl, ?_⟩) hS ?_
      rotate_left
      · (intro w hSw; have hSw := (HSd.out w).1 hSw; go_split_ands; go_simp) <;> with_reducible rfl
      clear hS
      try simp only [Act.put, List.setIfInBounds_toArray, List.set_cons_zero, List.set_cons_succ]
      have hS := HSp.out _ bX hc
      refine wpAnyH_take (i := 3) (oi := { dst := some 21, op := Go.Op.indexAddr 22 (Go.Operand.tmp 19) (Go.Operand.tmp 20), type := 0, pos := "l11_arrays.go:37", after := #[{ on := 1, ground := Go.Ground.data }, { on := 2, ground := Go.Ground.data }], guard := none }) (v := ?_) rfl (by kernel_rfl) (by kernel_rfl) (by kernel_rfl) (fun _ _ _ h => h) (Or.inl ⟨by rfl, ?_⟩) hS ?_
      rotate_left
      · (intro w hSw; have hSw := (HSd.out w).1 hSw; go_split_ands; go_simp) <;> with_reducible rfl
      clear hS
      try simp only [Act.put, List.setIfInBounds_toArray, List.set_cons_zero, List.set_cons_succ]
      have hS := HSp.out _ bX hc
      refine wpAnyH_take (i := 4) (oi := { dst := some 22, op := Go.Op.load 2 (Go.Operand.tmp 21), type := 2, pos := "l11_arrays.go:37", after := #[{ on := 3, ground := Go.Ground.data }], guard := none }) (v := ?_) rfl (by kernel_rfl) (by kernel_rfl) (by kernel_rfl) (fun _ _ _ h => h) (Or.inl ⟨by rfl, ?_⟩) hS ?_
      rotate_left
      · (intro w hSw; have hSw := (HSd.out w).1 hSw; go_split_ands; go_simp) <;> with_reducible rfl
      clear hS
      try simp only [Act.put, List.setIfInBounds_toArray, List.set_cons_zero, List.set_cons_succ]
      have hS := HSp.out _ bX hc
      refine wpAnyH_take (i := 5) (oi := { dst := some 23, op := Go.Op.binOp Go.BinOp.mul 2 (Go.Operand.const (Go.Value.int Go.IntKind.i64 10)) (Go.Operand.tmp 22) 2, type := 2, pos := "l11_arrays.go:37", after := #[{ on := 4, ground := Go.Ground.data }], guard := none }) (v := ?_) rfl (by kernel_rfl) (by kernel_rfl) (by kernel_rfl) (fun _ _ _ h => h) (Or.inl ⟨by rfl, ?_⟩) hS ?_
      rotate_left
      · (intro w hSw; have hSw := (HSd.out w).1 hSw; go_split_ands; go_simp) <;> with_reducible rfl
      clear hS
      try simp only [Act.put, List.setIfInBounds_toArray, List.set_cons_zero, List.set_cons_succ]
      have hS := HSp.out _ bX hc
      refine wpAnyH_take (i := 6) (oi := { dst := some 24, op := Go.Op.move (Go.Operand.tmp 2), type := 2, pos := "l11_arrays.go:37", after := #[], guard := none }) (v := ?_) rfl (by kernel_rfl) (by kernel_rfl) (by kernel_rfl) (fun _ _ _ h => h) (Or.inl ⟨by rfl, ?_⟩) hS ?_
      rotate_left
      · (intro w hSw; have hSw := (HSd.out w).1 hSw; go_split_ands; go_simp) <;> with_reducible rfl
      clear hS
      try simp only [Act.put, List.setIfInBounds_toArray, List.set_cons_zero, List.set_cons_succ]
      have hS := HSp.out _ bX hc
      refine wpAnyH_take (i := 7) (oi := { dst := some 25, op := Go.Op.binOp Go.BinOp.mul 2 (Go.Operand.tmp 23) (Go.Operand.tmp 24) 2, type := 2, pos := "l11_arrays.go:37", after := #[{ on := 5, ground := Go.Ground.data }, { on := 6, ground := Go.Ground.data }], guard := none }) (v := ?_) rfl (by kernel_rfl) (by kernel_rfl) (by kernel_rfl) (fun _ _ _ h => h) (Or.inl ⟨by rfl, ?_⟩) hS ?_
      rotate_left
      · (intro w hSw; have hSw := (HSd.out w).1 hSw; go_split_ands; go_simp) <;> with_reducible rfl
      clear hS
      try simp only [Act.put, List.setIfInBounds_toArray, List.set_cons_zero, List.set_cons_succ]
      have hS := HSp.out _ bX hc
      refine wpAnyH_take (i := 8) (oi := { dst := some 26, op := Go.Op.fieldAddr 30 (Go.Operand.tmp 5) 1, type := 0, pos := "l11_arrays.go:37", after := #[], guard := none }) (v := ?_) rfl (by kernel_rfl) (by kernel_rfl) (by kernel_rfl) (fun _ _ _ h => h) (Or.inl ⟨by rfl, ?_⟩) hS ?_
      rotate_left
      · (intro w hSw; have hSw := (HSd.out w).1 hSw; go_split_ands; go_simp) <;> with_reducible rfl
      clear hS
      try simp only [Act.put, List.setIfInBounds_toArray, List.set_cons_zero, List.set_cons_succ]
      have hS := HSp.out _ bX hc
      refine wpAnyH_take (i := 9) (oi := { dst := some 27, op := Go.Op.load 2 (Go.Operand.tmp 26), type := 2, pos := "l11_arrays.go:37", after := #[{ on := 8, ground := Go.Ground.data }], guard := none }) (v := ?_) rfl (by kernel_rfl) (by kernel_rfl) (by kernel_rfl) (fun _ _ _ h => h) (Or.inl ⟨by rfl, ?_⟩) hS ?_
      rotate_left
      · (intro w hSw; have hSw := (HSd.out w).1 hSw; go_split_ands; go_simp) <;> with_reducible rfl
      clear hS
      try simp only [Act.put, List.setIfInBounds_toArray, List.set_cons_zero, List.set_cons_succ]
      have hS := HSp.out _ bX hc
      refine wpAnyH_take (i := 10) (oi := { dst := some 28, op := Go.Op.binOp Go.BinOp.mul 2 (Go.Operand.tmp 25) (Go.Operand.tmp 27) 2, type := 2, pos := "l11_arrays.go:37", after := #[{ on := 7, ground := Go.Ground.data }, { on := 9, ground := Go.Ground.data }], guard := none }) (v := ?_) rfl (by kernel_rfl) (by kernel_rfl) (by kernel_rfl) (fun _ _ _ h => h) (Or.inl ⟨by rfl, ?_⟩) hS ?_
      rotate_left
      · (intro w hSw; have hSw := (HSd.out w).1 hSw; go_split_ands; go_simp) <;> with_reducible rfl
      clear hS
      try simp only [Act.put, List.setIfInBounds_toArray, List.set_cons_zero, List.set_cons_succ]
      have hS := HSp.out _ bX hc
      refine wpAnyH_take (i := 11) (oi := { dst := some 29, op := Go.Op.fieldAddr 30 (Go.Operand.tmp 5) 2, type := 0, pos := "l11_arrays.go:37", after := #[], guard := none }) (v := ?_) rfl (by kernel_rfl) (by kernel_rfl) (by kernel_rfl) (fun _ _ _ h => h) (Or.inl ⟨by rfl, ?_⟩) hS ?_
      rotate_left
      · (intro w hSw; have hSw := (HSd.out w).1 hSw; go_split_ands; go_simp) <;> with_reducible rfl
      clear hS
      try simp only [Act.put, List.setIfInBounds_toArray, List.set_cons_zero, List.set_cons_succ]
      have hS := HSp.out _ bX hc
      refine wpAnyH_take (i := 12) (oi := { dst := some 30, op := Go.Op.load 2 (Go.Operand.tmp 29), type := 2, pos := "l11_arrays.go:37", after := #[{ on := 11, ground := Go.Ground.data }], guard := none }) (v := ?_) rfl (by kernel_rfl) (by kernel_rfl) (by kernel_rfl) (fun _ _ _ h => h) (Or.inl ⟨by rfl, ?_⟩) hS ?_
      rotate_left
      · (intro w hSw; have hSw := (HSd.out w).1 hSw; go_split_ands; go_simp) <;> with_reducible rfl
      clear hS
      try simp only [Act.put, List.setIfInBounds_toArray, List.set_cons_zero, List.set_cons_succ]
      have hS := HSp.out _ bX hc
      refine wpAnyH_take (i := 13) (oi := { dst := some 31, op := Go.Op.move (Go.Operand.tmp 3), type := 2, pos := "l11_arrays.go:37", after := #[], guard := none }) (v := ?_) rfl (by kernel_rfl) (by kernel_rfl) (by kernel_rfl) (fun _ _ _ h => h) (Or.inl ⟨by rfl, ?_⟩) hS ?_
      rotate_left
      · (intro w hSw; have hSw := (HSd.out w).1 hSw; go_split_ands; go_simp) <;> with_reducible rfl
      clear hS
      try simp only [Act.put, List.setIfInBounds_toArray, List.set_cons_zero, List.set_cons_succ]
      have hS := HSp.out _ bX hc
      refine wpAnyH_take (i := 14) (oi := { dst := some 32, op := Go.Op.binOp Go.BinOp.mul 2 (Go.Operand.tmp 30) (Go.Operand.tmp 31) 2, type := 2, pos := "l11_arrays.go:37", after := #[{ on := 12, ground := Go.Ground.data }, { on := 13, ground := Go.Ground.data }], guard := none }) (v := ?_) rfl (by kernel_rfl) (by kernel_rfl) (by kernel_rfl) (fun _ _ _ h => h) (Or.inl ⟨by rfl, ?_⟩) hS ?_
      rotate_left
      · (intro w hSw; have hSw := (HSd.out w).1 hSw; go_split_ands; go_simp) <;> with_reducible rfl
      clear hS
      try simp only [Act.put, List.setIfInBounds_toArray, List.set_cons_zero, List.set_cons_succ]
      refine wpAnyH_ready (rs := [15]) (by kernel_rfl) (by simp) ?_
      refine AllReadyH.cons (o := { dst := some 33, op := Go.Op.call { callee := Go.Callee.value (Go.Operand.func 53), args := #[Go.Operand.tmp 28, Go.Operand.tmp 32], argTypes := #[2, 2] }, type := 2, pos := "l11_arrays.go:37", after := #[{ on := 10, ground := Go.Ground.data }, { on := 14, ground := Go.Ground.data }], guard := none }) rfl (fun Kn hK => ?_) AllReadyH.nil
      first | go_at_call 53 | (go_simp; go_at_call 53)
      (with_reducible refine Calls.mono (K1.out _) ?_)
      rintro e V1 ⟨rfl, hw⟩
      have hb : Below V0.heap.size V0 V1 := hw ▸ Below.refl _ _
      clear hw
      try dsimp only
      try simp only [Act.put, List.setIfInBounds_toArray, List.set_cons_zero, List.set_cons_succ]
      replace bX := bX.on hb
      replace HR := Lib.hid (HR.out.on hb)
      replace hc := kc1 hc hb
      replace HW := Lib.hid (bel_end HW.out hb)
      clear hb
      refine hK.out _ _ (HSp.out _ bX hc) (fun _ => ?_)
      clear hK Kn
      refine wpAnyH_ready (rs := [16]) (by kernel_rfl) (by simp) ?_
      refine AllReadyH.cons (o := { dst := some 34, op := Go.Op.buildSlice 22 1 #[(0, Go.Operand.tmp 33)], type := 22, pos := "l11_arrays.go:37", after := #[{ on := 15, ground := Go.Ground.data }], guard := none }) rfl (fun Kn hK => ?_) AllReadyH.nil
      go_simp
      generalize hX : World.alloc V1 _ = V2
      obtain ⟨g16, hg⟩ : ∃ g, g = V1.heap.size := ⟨_, rfl⟩
      have bn16 : Bk V2 g16 #[.int .i64 D] 2 := by rw [← hX]; exact Bk.new' hg
      have le16 : W.heap.size ≤ g16 := by rw [hg]; exact HW.out.size
      have nebX_16 : w.heap.size ≠ g16 := by have := bX.lt; omega
      replace bX : Bk V2 (w.heap.size) #[.int .i64 c, .int .i64 s, .int .i64 h] 30 := by rw [← hX]; exact bX.alloc _
      try rw [← hg]
      have hb : Below V1.heap.size V1 V2 := by rw [← hX]; exact (Below.refl _ _).alloc (Nat.le_refl _) _
      clear hX hg
      replace HR := Lib.hid (HR.out.on hb)
      replace hc := kc1 hc hb
      replace HW := Lib.hid (bel_end HW.out hb)
      clear hb
      refine hK.out _ _ (HSp.out _ bX hc) (fun _ => ?_)
      clear hK Kn
      refine wpAnyH_ready (rs := [17]) (by kernel_rfl) (by simp) ?_
      refine AllReadyH.cons (o := { dst := some 35, op := Go.Op.call { callee := Go.Callee.builtin Go.Builtin.append, args := #[Go.Operand.tmp 18, Go.Operand.tmp 34], argTypes := #[22, 22] }, type := 22, pos := "l11_arrays.go:37", after := #[{ on := 0, ground := Go.Ground.data }, { on := 16, ground := Go.Ground.data }, { on := 15, ground := Go.Ground.chain }], guard := none }) rfl (fun Kn hK => ?_) AllReadyH.nil
      refine step_append_lies _ rfl _ _ 22 rfl W.heap.size 2 i0 (.int .i64 0) 1 8 Try.underlying22 hi hz0 hz1 hz2 rfl (by decide) (.slice (some ⟨ge, 0, none⟩) k ce) k ((dlL zs s h r v k).map iv4) rfl HR.out.own ⟨g16, 0, none⟩ 1 1 [.int .i64 D] rfl rfl (World.news_of_block (cs := #[.int .i64 D]) (t := 2) (fr := (0, 0)) bn16) (by simp [Value.oneCell']) (by decide) (by unfold maxLen; omega) (by omega) (HR.out.bel.size) V2.heap.size rfl ?_
      intro g2 cp2 V3 hown hgrow hat hlt9
      replace hgrow : V2.grownBy V3 (some ge) := hgrow
      replace HR := Lib.hid (HR.out.snoc hown hgrow)
      replace HW := Lib.hid HR.out.bel
      have bX8 := bX.kept hgrow (by intro e; injection e with e; have := HXG.out; have := HR0l.out; omega)
      replace bX := bX8
      clear bX8 hown hgrow hat hlt9 bn16
      have hc8 := HCK.out _ HW.out
      replace hc := hc8
      clear hc8
      try simp only [Act.put, List.setIfInBounds_toArray, List.set_cons_zero, List.set_cons_succ]
      refine hK.out _ _ (HSp.out _ bX hc) (fun _ => ?_)
      clear hK Kn
      have hS := HSp.out _ bX hc
      refine wpAnyH_take (i := 18) (oi := { dst := some 9, op := Go.Op.assign (Go.Operand.tmp 35), type := 22, pos := "l11_arrays.go:37", after := #[{ on := 17, ground := Go.Ground.data }, { on := 17, ground := Go.Ground.chain }, { on := 0, ground := Go.Ground.phase }, { on := 1, ground := Go.Ground.phase }, { on := 2, ground := Go.Ground.phase }, { on := 3, ground := Go.Ground.phase }, { on := 4, ground := Go.Ground.phase }, { on := 5, ground := Go.Ground.phase }, { on := 6, ground := Go.Ground.phase }, { on := 7, ground := Go.Ground.phase }, { on := 8, ground := Go.Ground.phase }, { on := 9, ground := Go.Ground.phase }, { on := 10, ground := Go.Ground.phase }, { on := 11, ground := Go.Ground.phase }, { on := 12, ground := Go.Ground.phase }, { on := 13, ground := Go.Ground.phase }, { on := 14, ground := Go.Ground.phase }, { on := 15, ground := Go.Ground.phase }, { on := 16, ground := Go.Ground.phase }, { on := 17, ground := Go.Ground.phase }], guard := none }) (v := ?_) rfl (by kernel_rfl) (by kernel_rfl) (by kernel_rfl) (fun _ _ _ h => h) (Or.inl ⟨by rfl, ?_⟩) hS ?_
      rotate_left
      · (intro w hSw; have hSw := (HSd.out w).1 hSw; go_split_ands; go_simp) <;> with_reducible rfl
      clear hS
      try simp only [Act.put, List.setIfInBounds_toArray, List.set_cons_zero, List.set_cons_succ]
      refine wpAnyH_done (by kernel_rfl) ?_ _
      rw [HSN.out] at HR
      go_wp2_with fail
      go_roundw
      (case rel => exact ⟨k + 1, g2, cp2, by omega, rfl, by go_num, HR.out⟩)
      (case measure => simp [intOf]; omega)
    · obtain rfl : k = N := by omega
      go_wp2
      go_ret
      exact ⟨some ⟨ge, 0, none⟩, ce, by rw [dlL_len]; rfl, ownA_row HR.out (dlL_len _ _ _ _ _ _) HB.out.size, bel_end HB.out HR.out.bel⟩
end Go.Proofs.Ythfaejhiabdkbaa
