/- Contracts of cmp.Compare at two numbers, of slices.MinFunc at the program's costs, and of the program's NearestIn. -/
import Derived.Test.YtdkiikmmlfdlcaaGtH
namespace Go.Proofs.Ytdkiikmmlfdlcaa
open Go.ChangeShapes Go.WideShapes Go.ChangeAt Go.RowKit Go.Shelf Num
set_option linter.unusedVariables false
set_option linter.unusedSimpArgs false

theorem nanG_any (w : World) (x : Int) :
    Calls Try.prog 91 #[.int .i64 x] w fun e w' => e = .returned (.bool false) ∧ w = w' := by
  go_enter Try.func91, Try.ntmps91
  go_wp2
  go_ret
  exact ⟨ret_bool (by simp), rfl⟩
theorem cmpG_any (w : World) (x y : Int) :
    Calls Try.prog 75 #[.int .i64 x, .int .i64 y] w fun e w' => e = .returned (.int .i64 (sgn x y)) ∧ w = w' := by
  by_cases h1 : x < y
  · go_enter Try.func75, Try.ntmps75
    go_wp2_with (go_at_call 91; refine (nanG_any _ _).mono ?_; rintro e w' ⟨rfl, rfl⟩)
    go_ret
    exact ⟨ret_int (by unfold sgn; rw [if_pos h1]), rfl⟩
  · by_cases h2 : y < x
    · go_enter Try.func75, Try.ntmps75
      go_wp2_with (go_at_call 91; refine (nanG_any _ _).mono ?_; rintro e w' ⟨rfl, rfl⟩)
      go_ret
      exact ⟨ret_int (by unfold sgn; rw [if_neg (by omega), if_pos h2]), rfl⟩
    · go_enter Try.func75, Try.ntmps75
      go_wp2_with (go_at_call 91; refine (nanG_any _ _).mono ?_; rintro e w' ⟨rfl, rfl⟩)
      go_ret
      exact ⟨ret_int (by unfold sgn; rw [if_neg (by omega), if_neg (by omega)]), rfl⟩
/-- the first of the least of the first k elements -/
theorem mn_one {f : Nat → Int} {zs : List Int} (h : 0 < zs.length) : mnL f (zs.take 1) = zs.getD 0 0 := by
  cases zs with
  | nil => simp at h
  | cons z t => simp [mnL, mnS]
theorem mn_step {f : Nat → Int} {zs : List Int} {k : Nat} (h : k < zs.length) : mnL f (zs.take (k + 1)) = mnS f (mnL f (zs.take k)) (zs.getD k 0) := by
  rw [List.take_succ_eq_append_getElem h, mnL_snoc, List.getD_eq_getElem?_getD, List.getElem?_eq_getElem h]
  rfl

set_option maxRecDepth 100000 in
set_option maxHeartbeats 8000000 in
theorem ncl_any (w : World) (gM gL : Nat) (x y u v s : Int) (a : Option Addr) (cap i j : Nat) (ps : List (Int × Int)) (hz : Cts w w.heap.size a ps) (hM : Bk w gM #[.int .i64 x, .int .i64 y, .int .i64 u, .int .i64 v, .int .i64 s] 25) (hL : Bk w gL #[.slice a ps.length cap] 29) (hi : i < ps.length) (hj : j < ps.length) (hxy : ctB x y = true) (ha : allC ps = true) :
    Calls Try.prog 74 #[.int .i64 (i : Int), .int .i64 (j : Int), .pointer (some ⟨gM, 0, none⟩), .pointer (some ⟨gL, 0, none⟩)] w fun e w' => e = .returned (.int .i64 (sgn (gK x y ps i) (gK x y ps j))) ∧ Below w.heap.size w w' := by
  obtain ⟨b, off, p, q, rfl, hBk, hpq, hc0, hc1⟩ := hz.at_ hi
  obtain ⟨b2, off2, p2, q2, rb, hBk2, hpq2, hd0, hd1⟩ := hz.at_ hj
  simp only [Option.some.injEq, Addr.mk.injEq, and_true] at rb
  obtain ⟨rb1, rb2⟩ := rb
  subst rb1 rb2
  have hcq := allC_at ha hi
  have hcq2 := allC_at ha hj
  rw [hpq] at hcq
  rw [hpq2] at hcq2
  have HE : gK x y ps i = gc x y p q ∧ gK x y ps j = gc x y p2 q2 := by unfold gK pX pY; rw [hpq, hpq2]; exact ⟨rfl, rfl⟩
  rw [HE.1, HE.2]
  have K1 : Hid (∀ W : World, Calls Try.prog 76 #[.agg #[.int .i64 x, .int .i64 y, .int .i64 u, .int .i64 v, .int .i64 s], .agg #[.int .i64 p, .int .i64 q]] W fun e w' => e = .returned (.int .i64 (gc x y p q)) ∧ Below W.heap.size W w') := Lib.hid (fun W => ico14_any W x y u v s p q hxy hcq)
  have K2 : Hid (∀ W : World, Calls Try.prog 76 #[.agg #[.int .i64 x, .int .i64 y, .int .i64 u, .int .i64 v, .int .i64 s], .agg #[.int .i64 p2, .int .i64 q2]] W fun e w' => e = .returned (.int .i64 (gc x y p2 q2)) ∧ Below W.heap.size W w') := Lib.hid (fun W => ico14_any W x y u v s p2 q2 hxy hcq2)
  obtain ⟨G, hG⟩ : ∃ qq, gc x y p q = qq := ⟨_, rfl⟩
  obtain ⟨G2, hG2⟩ : ∃ qq, gc x y p2 q2 = qq := ⟨_, rfl⟩
  rw [hG] at K1 ⊢
  rw [hG2] at K2 ⊢
  have K3 : Hid (∀ W : World, Calls Try.prog 75 #[.int .i64 G, .int .i64 G2] W fun e w' => e = .returned (.int .i64 (sgn G G2)) ∧ W = w') := Lib.hid (fun W => cmpG_any W G G2)
  have hi0 : (i : Int) < (ps.length : Int) := by omega
  have hj0 : (j : Int) < (ps.length : Int) := by omega
  clear hG hG2 HE hpq hpq2 hcq hcq2 hz hBk hBk2 hi hj ha hxy
  have HB := Lib.hid (Below.refl w.heap.size w)
  go_enter Try.func74, Try.ntmps74
  have hM_0 := hM.cell 0 rfl
  have hM_1 := hM.cell 1 rfl
  have hM_2 := hM.cell 2 rfl
  have hM_3 := hM.cell 3 rfl
  have hM_4 := hM.cell 4 rfl
  have hM_l := hM.lt
  have hL_0 := hL.cell 0 rfl
  have hL_l := hL.lt
  go_upto_region 1 with fail
  clear hM_0 hM_1 hM_2 hM_3 hM_4 hM_l hL_0 hL_l
  obtain ⟨S, hSd⟩ : ∃ S : World → Prop, ∀ w', S w' ↔ (w'.cell? ⟨gM, 0, none⟩ = some (.int .i64 x) ∧ w'.cell? ⟨gM, 1, none⟩ = some (.int .i64 y) ∧ w'.cell? ⟨gM, 2, none⟩ = some (.int .i64 u) ∧ w'.cell? ⟨gM, 3, none⟩ = some (.int .i64 v) ∧ w'.cell? ⟨gM, 4, none⟩ = some (.int .i64 s) ∧ w'.cell? ⟨gL, 0, none⟩ = some (.slice (some ⟨b, off, none⟩) ps.length cap) ∧ w'.cell? ⟨b, off + i * 2, none⟩ = some (.int .i64 p) ∧ w'.cell? ⟨b, off + i * 2 + 1, none⟩ = some (.int .i64 q) ∧ w'.cell? ⟨b, off + j * 2, none⟩ = some (.int .i64 p2) ∧ w'.cell? ⟨b, off + j * 2 + 1, none⟩ = some (.int .i64 q2)) := ⟨_, fun _ => Iff.rfl⟩
  have HSp : Hid (∀ w' : World, Bk w' (gM) #[.int .i64 x, .int .i64 y, .int .i64 u, .int .i64 v, .int .i64 s] 25 → Bk w' (gL) #[.slice (some ⟨b, off, none⟩) ps.length cap] 29 → w'.cell? ⟨b, off + i * 2, none⟩ = some (.int .i64 p) → w'.cell? ⟨b, off + i * 2 + 1, none⟩ = some (.int .i64 q) → w'.cell? ⟨b, off + j * 2, none⟩ = some (.int .i64 p2) → w'.cell? ⟨b, off + j * 2 + 1, none⟩ = some (.int .i64 q2) → S w') := Lib.hid (fun w' hM hL y0 y1 y2 y3 => (hSd w').2 ⟨hM.cell 0 rfl, hM.cell 1 rfl, hM.cell 2 rfl, hM.cell 3 rfl, hM.cell 4 rfl, hL.cell 0 rfl, y0, y1, y2, y3⟩)
  have HSd := Lib.hid hSd
  clear hSd
  refine wp_region_held_drew (S := S) (by kernel_rfl) ?_ (fun hH => ?_)
  · exact (HSp.out _ hM hL hc0 hc1 hd0 hd1 : S (World.drew w))
  clear hH
  generalize hX : World.drew w = V0
  replace hM : Bk V0 (gM) #[.int .i64 x, .int .i64 y, .int .i64 u, .int .i64 v, .int .i64 s] 25 := by rw [← hX]; exact hM
  replace hL : Bk V0 (gL) #[.slice (some ⟨b, off, none⟩) ps.length cap] 29 := by rw [← hX]; exact hL
  have hb : Below w.heap.size w V0 := by rw [← hX]; exact (Below.refl _ _).drew
  clear hX
  replace hc0 := kcG hc0 hb
  replace hc1 := kcG hc1 hb
  replace hd0 := kcG hd0 hb
  replace hd1 := kcG hd1 hb
  replace HB := Lib.hid (bel_end HB.out hb)
  clear hb
  have hS := HSp.out _ hM hL hc0 hc1 hd0 hd1
  refine wpAnyH_take (i := 0) (oi := { dst := some 7, op := Go.Op.load 25 (Go.Operand.tmp 2), type := 25, pos := "l14_gating.go:109", after := #[], guard := none }) (v := ?_) rfl (by kernel_rfl) (by kernel_rfl) (by kernel_rfl) (fun _ _ _ h => h) (Or.inl ⟨by rfl, ?_⟩) hS ?_
  rotate_left
  · (intro w hSw; have hSw := (HSd.out w).1 hSw; go_split_ands; go_simp) <;> with_reducible rfl
  clear hS
  try simp only [Act.put, List.setIfInBounds_toArray, List.set_cons_zero, List.set_cons_succ]
  have hS := HSp.out _ hM hL hc0 hc1 hd0 hd1
  refine wpAnyH_take (i := 1) (oi := { dst := some 8, op := Go.Op.load 29 (Go.Operand.tmp 3), type := 29, pos := "l14_gating.go:109", after := #[], guard := none }) (v := ?_) rfl (by kernel_rfl) (by kernel_rfl) (by kernel_rfl) (fun _ _ _ h => h) (Or.inl ⟨by rfl, ?_⟩) hS ?_
  rotate_left
  · (intro w hSw; have hSw := (HSd.out w).1 hSw; go_split_ands; go_simp) <;> with_reducible rfl
  clear hS
  try simp only [Act.put, List.setIfInBounds_toArray, List.set_cons_zero, List.set_cons_succ]
  have hS := HSp.out _ hM hL hc0 hc1 hd0 hd1
  refine wpAnyH_take (i := 2) (oi := { dst := some 9, op := Go.Op.move (Go.Operand.tmp 0), type := 2, pos := "l14_gating.go:109", after := #[], guard := none }) (v := ?_) rfl (by kernel_rfl) (by kernel_rfl) (by kernel_rfl) (fun _ _ _ h => h) (Or.inl ⟨by rfl, ?_⟩) hS ?_
  rotate_left
  · (intro w hSw; have hSw := (HSd.out w).1 hSw; go_split_ands; go_simp) <;> with_reducible rfl
  clear hS
  try simp only [Act.put, List.setIfInBounds_toArray, List.set_cons_zero, List.set_cons_succ]
  have hS := HSp.out _ hM hL hc0 hc1 hd0 hd1
  refine wpAnyH_take (i := 3) (oi := { dst := some 10, op := Go.Op.indexAddr 29 (Go.Operand.tmp 8) (Go.Operand.tmp 9), type := 0, pos := "l14_gating.go:109", after := #[{ on := 1, ground := Go.Ground.data }, { on := 2, ground := Go.Ground.data }], guard := none }) (v := ?_) rfl (by kernel_rfl) (by kernel_rfl) (by kernel_rfl) (fun _ _ _ h => h) (Or.inl ⟨by rfl, ?_⟩) hS ?_
  rotate_left
  · (intro w hSw; have hSw := (HSd.out w).1 hSw; go_split_ands; go_simp) <;> with_reducible rfl
  clear hS
  try simp only [Act.put, List.setIfInBounds_toArray, List.set_cons_zero, List.set_cons_succ]
  have hS := HSp.out _ hM hL hc0 hc1 hd0 hd1
  refine wpAnyH_take (i := 4) (oi := { dst := some 11, op := Go.Op.load 45 (Go.Operand.tmp 10), type := 45, pos := "l14_gating.go:109", after := #[{ on := 3, ground := Go.Ground.data }], guard := none }) (v := ?_) rfl (by kernel_rfl) (by kernel_rfl) (by kernel_rfl) (fun _ _ _ h => h) (Or.inl ⟨by rfl, ?_⟩) hS ?_
  rotate_left
  · (intro w hSw; have hSw := (HSd.out w).1 hSw; go_split_ands; go_simp) <;> with_reducible rfl
  clear hS
  try simp only [Act.put, List.setIfInBounds_toArray, List.set_cons_zero, List.set_cons_succ]
  have hS := HSp.out _ hM hL hc0 hc1 hd0 hd1
  refine wpAnyH_take (i := 6) (oi := { dst := some 13, op := Go.Op.load 25 (Go.Operand.tmp 2), type := 25, pos := "l14_gating.go:109", after := #[], guard := none }) (v := ?_) rfl (by kernel_rfl) (by kernel_rfl) (by kernel_rfl) (fun _ _ _ h => h) (Or.inl ⟨by rfl, ?_⟩) hS ?_
  rotate_left
  · (intro w hSw; have hSw := (HSd.out w).1 hSw; go_split_ands; go_simp) <;> with_reducible rfl
  clear hS
  try simp only [Act.put, List.setIfInBounds_toArray, List.set_cons_zero, List.set_cons_succ]
  have hS := HSp.out _ hM hL hc0 hc1 hd0 hd1
  refine wpAnyH_take (i := 7) (oi := { dst := some 14, op := Go.Op.load 29 (Go.Operand.tmp 3), type := 29, pos := "l14_gating.go:109", after := #[], guard := none }) (v := ?_) rfl (by kernel_rfl) (by kernel_rfl) (by kernel_rfl) (fun _ _ _ h => h) (Or.inl ⟨by rfl, ?_⟩) hS ?_
  rotate_left
  · (intro w hSw; have hSw := (HSd.out w).1 hSw; go_split_ands; go_simp) <;> with_reducible rfl
  clear hS
  try simp only [Act.put, List.setIfInBounds_toArray, List.set_cons_zero, List.set_cons_succ]
  have hS := HSp.out _ hM hL hc0 hc1 hd0 hd1
  refine wpAnyH_take (i := 8) (oi := { dst := some 15, op := Go.Op.move (Go.Operand.tmp 1), type := 2, pos := "l14_gating.go:109", after := #[], guard := none }) (v := ?_) rfl (by kernel_rfl) (by kernel_rfl) (by kernel_rfl) (fun _ _ _ h => h) (Or.inl ⟨by rfl, ?_⟩) hS ?_
  rotate_left
  · (intro w hSw; have hSw := (HSd.out w).1 hSw; go_split_ands; go_simp) <;> with_reducible rfl
  clear hS
  try simp only [Act.put, List.setIfInBounds_toArray, List.set_cons_zero, List.set_cons_succ]
  have hS := HSp.out _ hM hL hc0 hc1 hd0 hd1
  refine wpAnyH_take (i := 9) (oi := { dst := some 16, op := Go.Op.indexAddr 29 (Go.Operand.tmp 14) (Go.Operand.tmp 15), type := 0, pos := "l14_gating.go:109", after := #[{ on := 7, ground := Go.Ground.data }, { on := 8, ground := Go.Ground.data }], guard := none }) (v := ?_) rfl (by kernel_rfl) (by kernel_rfl) (by kernel_rfl) (fun _ _ _ h => h) (Or.inl ⟨by rfl, ?_⟩) hS ?_
  rotate_left
  · (intro w hSw; have hSw := (HSd.out w).1 hSw; go_split_ands; go_simp) <;> with_reducible rfl
  clear hS
  try simp only [Act.put, List.setIfInBounds_toArray, List.set_cons_zero, List.set_cons_succ]
  have hS := HSp.out _ hM hL hc0 hc1 hd0 hd1
  refine wpAnyH_take (i := 10) (oi := { dst := some 17, op := Go.Op.load 45 (Go.Operand.tmp 16), type := 45, pos := "l14_gating.go:109", after := #[{ on := 9, ground := Go.Ground.data }], guard := none }) (v := ?_) rfl (by kernel_rfl) (by kernel_rfl) (by kernel_rfl) (fun _ _ _ h => h) (Or.inl ⟨by rfl, ?_⟩) hS ?_
  rotate_left
  · (intro w hSw; have hSw := (HSd.out w).1 hSw; go_split_ands; go_simp) <;> with_reducible rfl
  clear hS
  try simp only [Act.put, List.setIfInBounds_toArray, List.set_cons_zero, List.set_cons_succ]
  refine wpAnyH_ready (rs := [5]) (by kernel_rfl) (by simp) ?_
  refine AllReadyH.cons (o := { dst := some 12, op := Go.Op.call { callee := Go.Callee.value (Go.Operand.func 76), args := #[Go.Operand.tmp 7, Go.Operand.tmp 11], argTypes := #[25, 45] }, type := 2, pos := "l14_gating.go:109", after := #[{ on := 0, ground := Go.Ground.data }, { on := 4, ground := Go.Ground.data }], guard := none }) rfl (fun Kn hK => ?_) AllReadyH.nil
  first | go_at_call 76 | (go_simp; go_at_call 76)
  (with_reducible refine Calls.mono (K1.out  _) ?_)
  rintro e V1 ⟨rfl, hb⟩
  try dsimp only
  try simp only [Act.put, List.setIfInBounds_toArray, List.set_cons_zero, List.set_cons_succ]
  replace hM := hM.on hb
  replace hL := hL.on hb
  replace hc0 := kcG hc0 hb
  replace hc1 := kcG hc1 hb
  replace hd0 := kcG hd0 hb
  replace hd1 := kcG hd1 hb
  replace HB := Lib.hid (bel_end HB.out hb)
  clear hb
  refine hK.out _ _ (HSp.out _ hM hL hc0 hc1 hd0 hd1) (fun _ => ?_)
  clear hK Kn
  refine wpAnyH_ready (rs := [11]) (by kernel_rfl) (by simp) ?_
  refine AllReadyH.cons (o := { dst := some 18, op := Go.Op.call { callee := Go.Callee.value (Go.Operand.func 76), args := #[Go.Operand.tmp 13, Go.Operand.tmp 17], argTypes := #[25, 45] }, type := 2, pos := "l14_gating.go:109", after := #[{ on := 6, ground := Go.Ground.data }, { on := 10, ground := Go.Ground.data }, { on := 5, ground := Go.Ground.chain }], guard := none }) rfl (fun Kn hK => ?_) AllReadyH.nil
  first | go_at_call 76 | (go_simp; go_at_call 76)
  (with_reducible refine Calls.mono (K2.out  _) ?_)
  rintro e V2 ⟨rfl, hb⟩
  try dsimp only
  try simp only [Act.put, List.setIfInBounds_toArray, List.set_cons_zero, List.set_cons_succ]
  replace hM := hM.on hb
  replace hL := hL.on hb
  replace hc0 := kcG hc0 hb
  replace hc1 := kcG hc1 hb
  replace hd0 := kcG hd0 hb
  replace hd1 := kcG hd1 hb
  replace HB := Lib.hid (bel_end HB.out hb)
  clear hb
  refine hK.out _ _ (HSp.out _ hM hL hc0 hc1 hd0 hd1) (fun _ => ?_)
  clear hK Kn
  refine wpAnyH_ready (rs := [12]) (by kernel_rfl) (by simp) ?_
  refine AllReadyH.cons (o := { dst := some 19, op := Go.Op.call { callee := Go.Callee.value (Go.Operand.func 75), args := #[Go.Operand.tmp 12, Go.Operand.tmp 18], argTypes := #[2, 2] }, type := 3, pos := "l14_gating.go:109", after := #[{ on := 5, ground := Go.Ground.data }, { on := 11, ground := Go.Ground.data }, { on := 11, ground := Go.Ground.chain }], guard := none }) rfl (fun Kn hK => ?_) AllReadyH.nil
  first | go_at_call 75 | (go_simp; go_at_call 75)
  (with_reducible refine Calls.mono (K3.out _) ?_)
  rintro e V3 ⟨rfl, hw⟩
  have hb : Below V2.heap.size V2 V3 := hw ▸ Below.refl _ _
  clear hw
  try dsimp only
  try simp only [Act.put, List.setIfInBounds_toArray, List.set_cons_zero, List.set_cons_succ]
  replace hM := hM.on hb
  replace hL := hL.on hb
  replace hc0 := kcG hc0 hb
  replace hc1 := kcG hc1 hb
  replace hd0 := kcG hd0 hb
  replace hd1 := kcG hd1 hb
  replace HB := Lib.hid (bel_end HB.out hb)
  clear hb
  refine hK.out _ _ (HSp.out _ hM hL hc0 hc1 hd0 hd1) (fun _ => ?_)
  clear hK Kn
  have hS := HSp.out _ hM hL hc0 hc1 hd0 hd1
  refine wpAnyH_take (i := 13) (oi := { dst := some 6, op := Go.Op.assign (Go.Operand.tmp 19), type := 3, pos := "l14_gating.go:109", after := #[{ on := 12, ground := Go.Ground.data }, { on := 12, ground := Go.Ground.chain }, { on := 0, ground := Go.Ground.phase }, { on := 1, ground := Go.Ground.phase }, { on := 2, ground := Go.Ground.phase }, { on := 3, ground := Go.Ground.phase }, { on := 4, ground := Go.Ground.phase }, { on := 5, ground := Go.Ground.phase }, { on := 6, ground := Go.Ground.phase }, { on := 7, ground := Go.Ground.phase }, { on := 8, ground := Go.Ground.phase }, { on := 9, ground := Go.Ground.phase }, { on := 10, ground := Go.Ground.phase }, { on := 11, ground := Go.Ground.phase }, { on := 12, ground := Go.Ground.phase }], guard := none }) (v := ?_) rfl (by kernel_rfl) (by kernel_rfl) (by kernel_rfl) (fun _ _ _ h => h) (Or.inl ⟨by rfl, ?_⟩) hS ?_
  rotate_left
  · (intro w hSw; have hSw := (HSd.out w).1 hSw; go_split_ands; go_simp) <;> with_reducible rfl
  clear hS
  try simp only [Act.put, List.setIfInBounds_toArray, List.set_cons_zero, List.set_cons_succ]
  refine wpAnyH_done (by kernel_rfl) ?_ _
  go_wp2
  go_ret
  exact ⟨rfl, HB.out⟩

set_option maxRecDepth 100000 in
set_option maxHeartbeats 4000000 in
theorem mnf_any (w : World) (gM gL : Nat) (f : Nat → Int) (a : Option Addr) (cap : Nat) (zs : List Int) (hl : zs.length ≤ 9223372036854775807) (h0 : 0 < zs.length) (hz : Ints .i64 w w.heap.size a zs) (N : Nat) (hN : ∀ k, k < zs.length → ∃ j : Nat, j < N ∧ zs.getD k 0 = (j : Int)) (K : Hid (∀ (W : World) (i j : Nat), Below w.heap.size w W → i < N → j < N → Calls Try.prog 74 #[.int .i64 (i : Int), .int .i64 (j : Int), .pointer (some ⟨gM, 0, none⟩), .pointer (some ⟨gL, 0, none⟩)] W fun e w' => e = .returned (.int .i64 (sgn (f i) (f j))) ∧ Below W.heap.size W w')) :
    Calls Try.prog 73 #[.slice a zs.length cap, .func (.func 74) #[] #[.pointer (some ⟨gM, 0, none⟩), .pointer (some ⟨gL, 0, none⟩)]] w fun e w' => e = .returned (.int .i64 (mnL f zs)) ∧ Below w.heap.size w w' := by
  have HZ := Lib.hid hz
  have HN := Lib.hid hN
  clear hz hN
  obtain ⟨b, off, rfl, hB, hc⟩ := HZ.out.at_ h0
  obtain ⟨j0, hj0, hx0⟩ := HN.out 0 h0
  rw [Nat.add_zero, hx0] at hc
  have d0 : ¬ ((zs.length : Int) < 1) := by omega
  have d1 : decide ((zs.length : Int) < 1) = false := by simp; omega
  have H1 : Hid (mnL f (zs.take 1) = (j0 : Int)) := Lib.hid (by rw [mn_one h0]; exact hx0)
  clear hx0
  go_enter Try.func73, Try.ntmps73
  go_wp2_with fail
  clear hc d0 d1
  go_loopw [5, 6] (fun m i wr => ∃ k j : Nat, 1 ≤ k ∧ k ≤ zs.length ∧ j < N ∧ i = .int .i64 k ∧ m = .int .i64 (j : Int) ∧ mnL f (zs.take k) = (j : Int) ∧ Below w.heap.size w wr) (fun _ i _ => zs.length - (intOf i).toNat)
  case atStart => exact ⟨1, j0, Nat.le_refl _, h0, hj0, rfl, rfl, H1.out, Below.refl _ _⟩
  case round =>
    obtain ⟨k, j, hk1, hk, hj, rfl, rfl, hmn, hb⟩ := hrel
    have HB := Lib.hid hb
    have HMN := Lib.hid hmn
    clear hb hmn H1 hj0
    by_cases hlt : k < zs.length
    case pos =>
      obtain ⟨b1, off1, e1, hB1, hc⟩ := (HZ.out.below HB.out).at_ hlt
      simp only [Option.some.injEq, Addr.mk.injEq, and_true] at e1
      obtain ⟨e1, e2⟩ := e1
      subst e1 e2
      obtain ⟨i, hi, hx⟩ := HN.out k hlt
      rw [hx] at hc
      have HS := Lib.hid (mn_step (f := f) hlt)
      rw [HMN.out, hx] at HS
      have HK := Lib.hid (K.out wr i j HB.out hi hj)
      have hkl : (k : Int) < (zs.length : Int) := by omega
      clear hx
      by_cases hf : f i < f j
      case pos =>
        have hs : sgn (f i) (f j) = -1 := by unfold sgn; rw [if_pos hf]
        rw [hs] at HK
        have HS2 : Hid (mnL f (zs.take (k + 1)) = (i : Int)) := Lib.hid (by rw [HS.out]; unfold mnS; rw [Int.toNat_natCast, Int.toNat_natCast, if_pos (Or.inr hf)])
        clear HS hs hf
        go_wp2_with fail
        (with_reducible refine Calls.mono HK.out ?_)
        rintro e w2 ⟨rfl, hb⟩
        have hc2 := kcG hc hb
        replace HB := Lib.hid (bel_end HB.out hb)
        clear hb hc HK
        go_wp2_with fail
        go_roundw
        case rel => exact ⟨k + 1, i, by omega, by omega, hi, by go_num, rfl, HS2.out, HB.out⟩
        case measure => simp [intOf]; omega
      case neg =>
        have hs : ¬ sgn (f i) (f j) < 0 := by unfold sgn; rw [if_neg hf]; split <;> omega
        obtain ⟨Z, hZ⟩ : ∃ z, sgn (f i) (f j) = z := ⟨_, rfl⟩
        rw [hZ] at HK hs
        have HS2 : Hid (mnL f (zs.take (k + 1)) = (j : Int)) := Lib.hid (by rw [HS.out]; unfold mnS; rw [Int.toNat_natCast, Int.toNat_natCast, if_neg (by omega)])
        clear HS hf hZ
        go_wp2_with fail
        (with_reducible refine Calls.mono HK.out ?_)
        rintro e w2 ⟨rfl, hb⟩
        replace HB := Lib.hid (bel_end HB.out hb)
        clear hb hc HK
        go_wp2_with fail
        go_roundw
        case rel => exact ⟨k + 1, j, by omega, by omega, hj, by go_num, rfl, HS2.out, HB.out⟩
        case measure => simp [intOf]; omega
    case neg =>
      obtain rfl : k = zs.length := by omega
      rw [List.take_length] at HMN
      go_wp2
      go_ret
      exact ⟨ret_int HMN.out.symm, HB.out⟩

set_option maxRecDepth 100000 in
set_option maxHeartbeats 8000000 in
theorem inr_any (w : World) (x y u v s : Int) (a : Option Addr) (cap : Nat) (ps : List (Int × Int)) (hl : ps.length ≤ 9223372036854775807) (hz : Cts w w.heap.size a ps) :
    Calls Try.prog 28 #[.agg #[.int .i64 x, .int .i64 y, .int .i64 u, .int .i64 v, .int .i64 s], .slice a ps.length cap] w fun e w' => e = .returned (.tuple #[.int .i64 (nrV x y u v s ps), .int .i64 (nrC x y u v s ps)]) ∧ Below w.heap.size w w' := by
  have HZ := Lib.hid hz
  clear hz
  obtain ⟨C, hC⟩ : ∃ qq, mcC x y u v s ps = qq := ⟨_, rfl⟩
  obtain ⟨R, hR⟩ : ∃ qq, ciT x y u v s ps = qq := ⟨_, rfl⟩
  have KI : Hid (∀ W : World, Below w.heap.size w W → Calls Try.prog 26 #[.agg #[.int .i64 x, .int .i64 y, .int .i64 u, .int .i64 v, .int .i64 s], .slice a ps.length cap] W fun e w' => ∃ (a' : Option Addr) (c' : Nat), e = .returned (.tuple #[.slice a' R.length c', .int .i64 C]) ∧ OwnA w' W.heap.size w'.heap.size a' c' R ∧ Below W.heap.size W w') := Lib.hid (fun W hb => by have := ici_any W x y u v s a cap ps hl (HZ.out.on hb); rwa [hC, hR] at this)
  have hR6 := ciT_len x y u v s ps
  rw [hR] at hR6
  by_cases hc : C = 0
  case neg =>
    have HT : Hid (nrV x y u v s ps = 0 ∧ nrC x y u v s ps = C) := Lib.hid (by unfold nrV nrC; rw [hC, if_neg hc, if_neg hc]; exact ⟨rfl, rfl⟩)
    have hc2 : (C != 0) = true := by simpa using hc
    clear hC hc hR
    go_enter Try.func28, Try.ntmps28
    go_wp2_with fail
    generalize hW : World.alloc _ _ = W
    have bM : Bk W (w.heap.size) #[.int .i64 x, .int .i64 y, .int .i64 u, .int .i64 v, .int .i64 s] 25 := by rw [← hW]; repeat (first | (refine Bk.new' ?_; (simp; done)) | refine Bk.alloc ?_ _)
    have bL : Bk W (w.heap.size + 1) #[.slice a ps.length cap] 29 := by rw [← hW]; repeat (first | (refine Bk.new' ?_; (simp; done)) | refine Bk.alloc ?_ _)
    have HB : Hid (Below w.heap.size w W) := Lib.hid (by rw [← hW]; exact (by repeat (first | exact Below.refl _ _ | (refine Below.alloc ?_ (by simp <;> omega) _) | (refine Below.setCell ?_ (by simp <;> omega) _) | (refine Below.drew ?_) | (refine bel_drewN ?_ _))))
    clear hW
    (with_reducible refine Calls.mono (KI.out _ HB.out) ?_)
    rintro e w2 ⟨a', c', rfl, ho, hb⟩
    have HO := Lib.hid ho
    replace bM := bM.on hb
    replace bL := bL.on hb
    replace HB := Lib.hid (bel_end HB.out hb)
    clear hb ho KI
    have bM_0 := bM.cell 0 rfl
    have bM_1 := bM.cell 1 rfl
    have bM_2 := bM.cell 2 rfl
    have bM_3 := bM.cell 3 rfl
    have bM_4 := bM.cell 4 rfl
    have bM_l := bM.lt
    have bL_0 := bL.cell 0 rfl
    have bL_l := bL.lt
    go_wp2
    go_ret2
    exact ⟨ret_ii HT.out.1 HT.out.2, HB.out⟩
  case pos =>
    subst hc
    obtain ⟨hm, ha, h6⟩ := mcC_0 hC
    obtain ⟨hxy, -, -, -, -⟩ := mtB_t hm
    have hR2 : R = cinL x y s ps ps.length := by rw [← hR]; unfold ciT; rw [if_pos hC]
    have hnr := nrB_mn x y s ps ps.length
    rw [← hR2] at hnr
    have HT : nrV x y u v s ps = (if nrB x y s ps ps.length < 0 then 0 else nrB x y s ps ps.length) ∧ nrC x y u v s ps = (if nrB x y s ps ps.length < 0 then 4 else 0) := by unfold nrV nrC; rw [if_pos hC, if_pos hC]; exact ⟨rfl, rfl⟩
    have HRN : Hid (∀ k, k < R.length → ∃ j : Nat, j < ps.length ∧ R.getD k 0 = (j : Int)) := Lib.hid (fun k hk => by
      have hmem : R.getD k 0 ∈ R := by rw [List.getD_eq_getElem?_getD, List.getElem?_eq_getElem hk]; exact List.getElem_mem hk
      rw [hR2] at hmem ⊢
      obtain ⟨j, e, hj, -⟩ := cinL_mem hmem
      exact ⟨j, hj, e⟩)
    have HXY := Lib.hid hxy
    have HA := Lib.hid ha
    have hnf := nr_facts (x := x) (y := y) (s := s) (ps := ps) (k := ps.length)
    rw [← hR2] at hnf
    by_cases h0 : R.length = 0
    case pos =>
      obtain rfl : R = [] := List.length_eq_zero_iff.1 h0
      have hneg : nrB x y s ps ps.length < 0 := by rcases hnf with ⟨h1, -⟩ | ⟨m, -, -, h1, -⟩; omega; simp at h1
      rw [if_pos hneg, if_pos hneg] at HT
      replace HT := Lib.hid HT
      clear hC hm ha hxy hR hR2 hnr hnf hneg h0
      go_enter Try.func28, Try.ntmps28
      go_wp2_with fail
      generalize hW : World.alloc _ _ = W
      have bM : Bk W (w.heap.size) #[.int .i64 x, .int .i64 y, .int .i64 u, .int .i64 v, .int .i64 s] 25 := by rw [← hW]; repeat (first | (refine Bk.new' ?_; (simp; done)) | refine Bk.alloc ?_ _)
      have bL : Bk W (w.heap.size + 1) #[.slice a ps.length cap] 29 := by rw [← hW]; repeat (first | (refine Bk.new' ?_; (simp; done)) | refine Bk.alloc ?_ _)
      have HB : Hid (Below w.heap.size w W) := Lib.hid (by rw [← hW]; exact (by repeat (first | exact Below.refl _ _ | (refine Below.alloc ?_ (by simp <;> omega) _) | (refine Below.setCell ?_ (by simp <;> omega) _) | (refine Below.drew ?_) | (refine bel_drewN ?_ _))))
      clear hW
      (with_reducible refine Calls.mono (KI.out _ HB.out) ?_)
      rintro e w2 ⟨a', c', rfl, ho, hb⟩
      have HO := Lib.hid ho
      replace bM := bM.on hb
      replace bL := bL.on hb
      replace HB := Lib.hid (bel_end HB.out hb)
      clear hb ho KI
      have bM_0 := bM.cell 0 rfl
      have bM_1 := bM.cell 1 rfl
      have bM_2 := bM.cell 2 rfl
      have bM_3 := bM.cell 3 rfl
      have bM_4 := bM.cell 4 rfl
      have bM_l := bM.lt
      have bL_0 := bL.cell 0 rfl
      have bL_l := bL.lt
      go_wp2
      go_ret2
      exact ⟨ret_ii HT.out.1 HT.out.2, HB.out⟩
    case neg =>
      have hge : ¬ nrB x y s ps ps.length < 0 := by rcases hnf with ⟨-, h1⟩ | ⟨m, -, h1, -⟩; exact absurd (by rw [h1]; rfl) h0; omega
      rw [if_neg hge, if_neg hge] at HT
      obtain ⟨Z, hZ⟩ : ∃ z, nrB x y s ps ps.length = z := ⟨_, rfl⟩
      rw [hZ] at HT hnr
      replace HT := Lib.hid HT
      have HMN := Lib.hid hnr.symm
      have h1 : ¬ (R.length : Int) = 0 := by omega
      have h2 : ((R.length : Int) == 0) = false := by simpa using h1
      clear hC hm ha hxy hR hR2 hnr hnf hge hZ
      go_enter Try.func28, Try.ntmps28
      go_wp2_with fail
      generalize hW : World.alloc _ _ = W
      have bM : Bk W (w.heap.size) #[.int .i64 x, .int .i64 y, .int .i64 u, .int .i64 v, .int .i64 s] 25 := by rw [← hW]; repeat (first | (refine Bk.new' ?_; (simp; done)) | refine Bk.alloc ?_ _)
      have bL : Bk W (w.heap.size + 1) #[.slice a ps.length cap] 29 := by rw [← hW]; repeat (first | (refine Bk.new' ?_; (simp; done)) | refine Bk.alloc ?_ _)
      have HB : Hid (Below w.heap.size w W) := Lib.hid (by rw [← hW]; exact (by repeat (first | exact Below.refl _ _ | (refine Below.alloc ?_ (by simp <;> omega) _) | (refine Below.setCell ?_ (by simp <;> omega) _) | (refine Below.drew ?_) | (refine bel_drewN ?_ _))))
      clear hW
      (with_reducible refine Calls.mono (KI.out _ HB.out) ?_)
      rintro e w2 ⟨a', c', rfl, ho, hb⟩
      have HO := Lib.hid ho
      replace bM := bM.on hb
      replace bL := bL.on hb
      replace HB := Lib.hid (bel_end HB.out hb)
      clear hb ho KI
      have bM_0 := bM.cell 0 rfl
      have bM_1 := bM.cell 1 rfl
      have bM_2 := bM.cell 2 rfl
      have bM_3 := bM.cell 3 rfl
      have bM_4 := bM.cell 4 rfl
      have bM_l := bM.lt
      have bL_0 := bL.cell 0 rfl
      have bL_l := bL.lt
      go_wp2_with fail
      have KM := Lib.hid (mnf_any w2 w.heap.size (w.heap.size + 1) (gK x y ps) a' c' R (by omega) (by omega) HO.out.ints ps.length HRN.out (Lib.hid (fun W i j hb hi hj => ncl_any W w.heap.size (w.heap.size + 1) x y u v s a cap i j ps (HZ.out.on (bel_end HB.out hb)) (bM.on hb) (bL.on hb) hi hj HXY.out HA.out)))
      rw [HMN.out] at KM
      clear bM_0 bM_1 bM_2 bM_3 bM_4 bM_l bL_0 bL_l
      clear bM bL
      (with_reducible refine Calls.mono KM.out ?_)
      rintro e w3 ⟨rfl, hb⟩
      replace HB := Lib.hid (bel_end HB.out hb)
      clear hb KM
      go_wp2
      go_ret2
      exact ⟨ret_ii HT.out.1 HT.out.2, HB.out⟩
end Go.Proofs.Ytdkiikmmlfdlcaa
