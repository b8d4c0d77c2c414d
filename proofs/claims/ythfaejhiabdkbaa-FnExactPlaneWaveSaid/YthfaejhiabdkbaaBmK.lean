/- The walk of the exact law of PlaneWave: it returns true and writes nothing that was there. -/
import Derived.Test.YthfaejhiabdkbaaBmJ
import Derived.Test.YthfaejhiabdkbaaBmX
import Derived.Deep.RegionHeld3
namespace Go.Proofs.Ythfaejhiabdkbaa
open Go.ChangeShapes Go.WideShapes Go.ChangeAt Go.RowKit Go.Shelf Num
set_option linter.unusedVariables false
set_option linter.unusedSimpArgs false
theorem eq2_any (w : World) (a b : Option Addr) (c d : Nat) (zss : List (List Int)) (hl : zss.length ≤ 1048576) (hr : ∀ j, j < zss.length → (gR zss j).length ≤ 1048576) (hx : RwL w w.heap.size a zss) (hy : RwL w w.heap.size b zss) :
    Calls Try.prog 22 #[.slice a zss.length c, .slice b zss.length d] w fun e w' => e = .returned (.bool true) ∧ Below w.heap.size w w' :=
  (eqs_any w w.heap.size a b c d zss hl hr hx hy).mono (by rintro e w' ⟨rfl, n, rfl⟩; exact ⟨rfl, bel_drewN (Below.refl _ _) _⟩)
theorem totR_le {zss : List (List Int)} {M n : Nat} (h : ∀ j, j < n → (gR zss j).length ≤ M) : totR zss n ≤ n * M := by
  induction n with
  | zero => simp [totR]
  | succ n ih =>
    have h1 := ih (fun j hj => h j (by omega))
    have h2 := h n (by omega)
    rw [totR_succ, Nat.succ_mul]
    omega

set_option maxRecDepth 100000 in
set_option maxHeartbeats 8000000 in
theorem lplw (a0 : Option Addr) (len0 cap0 : Nat) (z0 : List Int) (a1 : Option Addr) (len1 cap1 : Nat) (z1 : List Int) (dx dy dz r v st le : Int) (w : World) (w0 : IsRow .i64 w a0 len0 cap0 z0) (w1 : IsRow .i64 w a1 len1 cap1 z1) (w3 : (Lit.int .i64 r).wf = true) (w4 : (Lit.int .i64 v).wf = true) (w5 : (Lit.int .i64 st).wf = true) (w6 : (Lit.int .i64 le).wf = true) :
    Calls Try.prog 6 #[.slice a0 len0 cap0, .slice a1 len1 cap1, .agg #[.int .i64 dx, .int .i64 dy, .int .i64 dz], .int .i64 r, .int .i64 v, .int .i64 st, .int .i64 le] w fun e w' => e = .returned (.bool true) ∧ Below w.heap.size w w' := by
  obtain ⟨hm0, hlen, hz0, -⟩ := Ints.of_row w0
  obtain ⟨ps, hzs⟩ : ∃ zs, z0.take len0 = zs := ⟨_, rfl⟩
  rw [hzs] at hz0 hlen
  subst hlen
  clear hzs w0
  obtain ⟨hm1, hlen, hz1, -⟩ := Ints.of_row w1
  obtain ⟨zs, hzs⟩ : ∃ zs, z1.take len1 = zs := ⟨_, rfl⟩
  rw [hzs] at hz1 hlen
  subst hlen
  clear hzs w1
  clear w3 w4 w5 w6
  have Hps := Lib.hid (IntL.of hz0)
  have Hzs := Lib.hid (IntL.of hz1)
  clear hz0 hz1
  have HB := Lib.hid (Below.refl w.heap.size w)
  by_cases hbps : 1048576 < ps.length
  · go_enter Try.func6, Try.ntmps6
    go_wp2
    go_ret
    exact ⟨rfl, (by repeat (first | exact Below.refl _ _ | (refine Below.alloc ?_ (by simp <;> omega) _) | (refine Below.setCell ?_ (by simp <;> omega) _) | (refine Below.drew ?_) | (refine bel_drewN ?_ _)))⟩
  by_cases hbzs : 1048576 < zs.length
  · go_enter Try.func6, Try.ntmps6
    go_wp2
    go_ret
    exact ⟨rfl, (by repeat (first | exact Below.refl _ _ | (refine Below.alloc ?_ (by simp <;> omega) _) | (refine Below.setCell ?_ (by simp <;> omega) _) | (refine Below.drew ?_) | (refine bel_drewN ?_ _)))⟩
  obtain ⟨l12, lrr⟩ := pwR_len ps zs dx dy dz r v st le
  obtain ⟨LL, hL⟩ : ∃ u, pwR ps zs dx dy dz r v st le = u := ⟨_, rfl⟩
  rw [hL] at l12 lrr
  have HLR : Hid (∀ j, j < LL.length → (gR LL j).length ≤ 1048576) := Lib.hid (fun j hj => by have := lrr j hj; omega)
  have hT : totR LL LL.length ≤ 1048576 := by have := totR_le (M := 400) lrr; omega
  clear lrr
  obtain ⟨qq, hqq⟩ : ∃ u, pwC ps zs dx dy dz r v st le = u := ⟨_, rfl⟩
  have S1 : Hid (∀ (W : World) (a b : Option Addr) (c d : Nat), Ints .i64 W W.heap.size a ps → Ints .i64 W W.heap.size b zs → Calls Try.prog 20 #[.slice a ps.length c, .slice b zs.length d, .agg #[.int .i64 dx, .int .i64 dy, .int .i64 dz], .int .i64 r, .int .i64 v, .int .i64 st, .int .i64 le] W fun e w' => ∃ (p : Option Addr) (e_ : Nat) (qs : Nat → Option Addr × Nat), e = .returned (.tuple #[.slice p LL.length e_, .int .i64 qq]) ∧ OwnR w' W.heap.size w'.heap.size p e_ qs LL ∧ Below W.heap.size W w') := Lib.hid (fun W a b c d h1 h2 => by have := spw_any W a b c d ps zs dx dy dz r v st le (by omega) (by omega) h1 h2; rwa [hL, hqq] at this)
  have S2 : Hid (∀ (W : World) (a b : Option Addr) (c d : Nat), Ints .i64 W W.heap.size a ps → Ints .i64 W W.heap.size b zs → Calls Try.prog 21 #[.slice a ps.length c, .slice b zs.length d, .agg #[.int .i64 dx, .int .i64 dy, .int .i64 dz], .int .i64 r, .int .i64 v, .int .i64 st, .int .i64 le] W fun e w' => ∃ (p : Option Addr) (e_ : Nat) (qs : Nat → Option Addr × Nat), e = .returned (.tuple #[.slice p LL.length e_, .int .i64 qq]) ∧ OwnR w' W.heap.size w'.heap.size p e_ qs LL ∧ Below W.heap.size W w') := Lib.hid (fun W a b c d h1 h2 => by have := iplw W a b c d ps zs dx dy dz r v st le (by omega) (by omega) h1 h2; rwa [hL, hqq] at this)
  clear hL hqq
  go_enter Try.func6, Try.ntmps6
  go_wp2_with fail
  generalize hW : World.alloc _ _ = W0
  have HD_ : Bk W0 (w.heap.size) #[.int .i64 dx, .int .i64 dy, .int .i64 dz] 27 := by rw [← hW]; repeat (first | (refine Bk.new' ?_; (simp; done)) | refine Bk.alloc ?_ _)
  have hb : Below w.heap.size w W0 := by rw [← hW]; exact (by repeat (first | exact Below.refl _ _ | (refine Below.alloc ?_ (by simp <;> omega) _) | (refine Below.setCell ?_ (by simp <;> omega) _) | (refine Below.drew ?_) | (refine bel_drewN ?_ _)))
  clear hW
  have HD := Lib.hid HD_
  have ltHD := HD_.lt
  clear HD_
  replace Hps := Lib.hid (Hps.out.on hb)
  replace Hzs := Lib.hid (Hzs.out.on hb)
  replace HB := Lib.hid (bel_end HB.out hb)
  have q0 := hb.size
  clear hb
  have bHD := HD.out
  obtain ⟨S, hSd⟩ : ∃ S : World → Prop, ∀ w', S w' ↔ (w'.cell? ⟨w.heap.size, 0, none⟩ = some (.int .i64 dx) ∧ w'.cell? ⟨w.heap.size, 1, none⟩ = some (.int .i64 dy) ∧ w'.cell? ⟨w.heap.size, 2, none⟩ = some (.int .i64 dz)) := ⟨_, fun _ => Iff.rfl⟩
  have HSp : Hid (∀ w' : World, Bk w' (w.heap.size) #[.int .i64 dx, .int .i64 dy, .int .i64 dz] 27 → S w') := Lib.hid (fun w' bHD => (hSd w').2 ⟨bHD.cell 0 rfl, bHD.cell 1 rfl, bHD.cell 2 rfl⟩)
  have HSd := Lib.hid hSd
  clear hSd
  refine wp_region_held_drew (S := S) (by kernel_rfl) ?_ (fun hH => ?_)
  · exact (HSp.out _ bHD : S (World.drew W0))
  clear hH
  generalize hX : World.drew W0 = U1_0
  replace bHD : Bk U1_0 (w.heap.size) #[.int .i64 dx, .int .i64 dy, .int .i64 dz] 27 := by rw [← hX]; exact bHD
  have hb : Below W0.heap.size W0 U1_0 := by rw [← hX]; exact (Below.refl _ _).drew
  clear hX
  replace Hps := Lib.hid (Hps.out.on hb)
  replace Hzs := Lib.hid (Hzs.out.on hb)
  have qq1 := hb.size
  replace HB := Lib.hid (bel_end HB.out hb)
  clear hb
  have hS := HSp.out _ bHD
  refine wpAnyH_take (i := 0) (oi := { dst := some 33, op := Go.Op.move (Go.Operand.tmp 0), type := 22, pos := "exact.go:3824", after := #[], guard := none }) (v := ?_) rfl (by kernel_rfl) (by kernel_rfl) (by kernel_rfl) (fun _ _ _ h => h) (Or.inl ⟨by rfl, ?_⟩) hS ?_
  rotate_left
  · (intro w hSw; have hSw := (HSd.out w).1 hSw; go_split_ands; go_simp) <;> with_reducible rfl
  clear hS
  try simp only [Act.put, List.setIfInBounds_toArray, List.set_cons_zero, List.set_cons_succ]
  have hS := HSp.out _ bHD
  refine wpAnyH_take (i := 2) (oi := { dst := some 35, op := Go.Op.move (Go.Operand.tmp 1), type := 22, pos := "exact.go:3824", after := #[], guard := none }) (v := ?_) rfl (by kernel_rfl) (by kernel_rfl) (by kernel_rfl) (fun _ _ _ h => h) (Or.inl ⟨by rfl, ?_⟩) hS ?_
  rotate_left
  · (intro w hSw; have hSw := (HSd.out w).1 hSw; go_split_ands; go_simp) <;> with_reducible rfl
  clear hS
  try simp only [Act.put, List.setIfInBounds_toArray, List.set_cons_zero, List.set_cons_succ]
  have hS := HSp.out _ bHD
  refine wpAnyH_take (i := 4) (oi := { dst := some 37, op := Go.Op.load 27 (Go.Operand.tmp 9), type := 27, pos := "exact.go:3824", after := #[], guard := none }) (v := ?_) rfl (by kernel_rfl) (by kernel_rfl) (by kernel_rfl) (fun _ _ _ h => h) (Or.inl ⟨by rfl, ?_⟩) hS ?_
  rotate_left
  · (intro w hSw; have hSw := (HSd.out w).1 hSw; go_split_ands; go_simp) <;> with_reducible rfl
  clear hS
  try simp only [Act.put, List.setIfInBounds_toArray, List.set_cons_zero, List.set_cons_succ]
  have hS := HSp.out _ bHD
  refine wpAnyH_take (i := 6) (oi := { dst := some 39, op := Go.Op.move (Go.Operand.tmp 3), type := 2, pos := "exact.go:3824", after := #[], guard := none }) (v := ?_) rfl (by kernel_rfl) (by kernel_rfl) (by kernel_rfl) (fun _ _ _ h => h) (Or.inl ⟨by rfl, ?_⟩) hS ?_
  rotate_left
  · (intro w hSw; have hSw := (HSd.out w).1 hSw; go_split_ands; go_simp) <;> with_reducible rfl
  clear hS
  try simp only [Act.put, List.setIfInBounds_toArray, List.set_cons_zero, List.set_cons_succ]
  have hS := HSp.out _ bHD
  refine wpAnyH_take (i := 7) (oi := { dst := some 40, op := Go.Op.move (Go.Operand.tmp 4), type := 2, pos := "exact.go:3824", after := #[], guard := none }) (v := ?_) rfl (by kernel_rfl) (by kernel_rfl) (by kernel_rfl) (fun _ _ _ h => h) (Or.inl ⟨by rfl, ?_⟩) hS ?_
  rotate_left
  · (intro w hSw; have hSw := (HSd.out w).1 hSw; go_split_ands; go_simp) <;> with_reducible rfl
  clear hS
  try simp only [Act.put, List.setIfInBounds_toArray, List.set_cons_zero, List.set_cons_succ]
  have hS := HSp.out _ bHD
  refine wpAnyH_take (i := 8) (oi := { dst := some 41, op := Go.Op.move (Go.Operand.tmp 5), type := 2, pos := "exact.go:3824", after := #[], guard := none }) (v := ?_) rfl (by kernel_rfl) (by kernel_rfl) (by kernel_rfl) (fun _ _ _ h => h) (Or.inl ⟨by rfl, ?_⟩) hS ?_
  rotate_left
  · (intro w hSw; have hSw := (HSd.out w).1 hSw; go_split_ands; go_simp) <;> with_reducible rfl
  clear hS
  try simp only [Act.put, List.setIfInBounds_toArray, List.set_cons_zero, List.set_cons_succ]
  have hS := HSp.out _ bHD
  refine wpAnyH_take (i := 9) (oi := { dst := some 42, op := Go.Op.move (Go.Operand.tmp 6), type := 2, pos := "exact.go:3824", after := #[], guard := none }) (v := ?_) rfl (by kernel_rfl) (by kernel_rfl) (by kernel_rfl) (fun _ _ _ h => h) (Or.inl ⟨by rfl, ?_⟩) hS ?_
  rotate_left
  · (intro w hSw; have hSw := (HSd.out w).1 hSw; go_split_ands; go_simp) <;> with_reducible rfl
  clear hS
  try simp only [Act.put, List.setIfInBounds_toArray, List.set_cons_zero, List.set_cons_succ]
  refine wpAnyH_ready (rs := [1]) (by kernel_rfl) (by simp) ?_
  refine AllReadyH.cons (o := { dst := some 34, op := Go.Op.call { callee := Go.Callee.value (Go.Operand.func 10), args := #[Go.Operand.tmp 33], argTypes := #[22] }, type := 22, pos := "exact.go:3824", after := #[{ on := 0, ground := Go.Ground.data }], guard := none }) rfl (fun Kn hK => ?_) AllReadyH.nil
  first | go_at_call 10 | (go_simp; go_at_call 10)
  refine (to_any _ _ _ ps (by omega) Hps.out.ints).mono ?_
  rintro e U1_1 ⟨gg2, rfl, hg, hr, hb⟩
  have Sps := Lib.hid (ownA_new hr hg (by omega))
  clear hr hg
  try dsimp only
  try simp only [Act.put, List.setIfInBounds_toArray, List.set_cons_zero, List.set_cons_succ]
  replace bHD := bHD.on hb
  replace Hps := Lib.hid (Hps.out.on hb)
  replace Hzs := Lib.hid (Hzs.out.on hb)
  have qq3 := hb.size
  replace HB := Lib.hid (bel_end HB.out hb)
  clear hb
  refine hK.out _ _ (HSp.out _ bHD) (fun _ => ?_)
  clear hK Kn
  refine wpAnyH_ready (rs := [3]) (by kernel_rfl) (by simp) ?_
  refine AllReadyH.cons (o := { dst := some 36, op := Go.Op.call { callee := Go.Callee.value (Go.Operand.func 10), args := #[Go.Operand.tmp 35], argTypes := #[22] }, type := 22, pos := "exact.go:3824", after := #[{ on := 2, ground := Go.Ground.data }, { on := 1, ground := Go.Ground.chain }], guard := none }) rfl (fun Kn hK => ?_) AllReadyH.nil
  first | go_at_call 10 | (go_simp; go_at_call 10)
  refine (to_any _ _ _ zs (by omega) Hzs.out.ints).mono ?_
  rintro e U1_2 ⟨gg4, rfl, hg, hr, hb⟩
  have Szs := Lib.hid (ownA_new hr hg (by omega))
  clear hr hg
  try dsimp only
  try simp only [Act.put, List.setIfInBounds_toArray, List.set_cons_zero, List.set_cons_succ]
  replace bHD := bHD.on hb
  replace Hps := Lib.hid (Hps.out.on hb)
  replace Hzs := Lib.hid (Hzs.out.on hb)
  replace Sps := Lib.hid (Sps.out.on hb)
  have qq5 := hb.size
  replace HB := Lib.hid (bel_end HB.out hb)
  clear hb
  refine hK.out _ _ (HSp.out _ bHD) (fun _ => ?_)
  clear hK Kn
  refine wpAnyH_ready (rs := [5]) (by kernel_rfl) (by simp) ?_
  refine AllReadyH.cons (o := { dst := some 38, op := Go.Op.call { callee := Go.Callee.value (Go.Operand.func 14), args := #[Go.Operand.tmp 37], argTypes := #[27] }, type := 30, pos := "exact.go:3824", after := #[{ on := 4, ground := Go.Ground.data }, { on := 3, ground := Go.Ground.chain }], guard := none }) rfl (fun Kn hK => ?_) AllReadyH.nil
  first | go_at_call 14 | (go_simp; go_at_call 14)
  (with_reducible refine Calls.mono (tod_any _ _ _ _) ?_)
  rintro e U1_3 ⟨rfl, hb⟩
  try dsimp only
  try simp only [Act.put, List.setIfInBounds_toArray, List.set_cons_zero, List.set_cons_succ]
  replace bHD := bHD.on hb
  replace Hps := Lib.hid (Hps.out.on hb)
  replace Hzs := Lib.hid (Hzs.out.on hb)
  replace Sps := Lib.hid (Sps.out.on hb)
  replace Szs := Lib.hid (Szs.out.on hb)
  have qq6 := hb.size
  replace HB := Lib.hid (bel_end HB.out hb)
  clear hb
  refine hK.out _ _ (HSp.out _ bHD) (fun _ => ?_)
  clear hK Kn
  refine wpAnyH_ready (rs := [10]) (by kernel_rfl) (by simp) ?_
  refine AllReadyH.cons (o := { dst := some 43, op := Go.Op.call { callee := Go.Callee.value (Go.Operand.func 20), args := #[Go.Operand.tmp 34, Go.Operand.tmp 36, Go.Operand.tmp 38, Go.Operand.tmp 39, Go.Operand.tmp 40, Go.Operand.tmp 41, Go.Operand.tmp 42], argTypes := #[22, 22, 30, 2, 2, 2, 2] }, type := 35, pos := "exact.go:3824", after := #[{ on := 1, ground := Go.Ground.data }, { on := 3, ground := Go.Ground.data }, { on := 5, ground := Go.Ground.data }, { on := 6, ground := Go.Ground.data }, { on := 7, ground := Go.Ground.data }, { on := 8, ground := Go.Ground.data }, { on := 9, ground := Go.Ground.data }, { on := 5, ground := Go.Ground.chain }], guard := none }) rfl (fun Kn hK => ?_) AllReadyH.nil
  first | go_at_call 20 | (go_simp; go_at_call 20)
  (with_reducible refine Calls.mono (S1.out _ _ _ _ _ Sps.out.ints Szs.out.ints) ?_)
  rintro e U1_4 ⟨RSa, RSc, RSq, rfl, ho, hb⟩
  have RS := Lib.hid ho
  clear ho
  try dsimp only
  try simp only [Act.put, List.setIfInBounds_toArray, List.set_cons_zero, List.set_cons_succ]
  replace bHD := bHD.on hb
  replace Hps := Lib.hid (Hps.out.on hb)
  replace Hzs := Lib.hid (Hzs.out.on hb)
  replace Sps := Lib.hid (Sps.out.on hb)
  replace Szs := Lib.hid (Szs.out.on hb)
  have qq7 := hb.size
  replace HB := Lib.hid (bel_end HB.out hb)
  clear hb
  refine hK.out _ _ (HSp.out _ bHD) (fun _ => ?_)
  clear hK Kn
  have hS := HSp.out _ bHD
  refine wpAnyH_take (i := 11) (oi := { dst := some 32, op := Go.Op.move (Go.Operand.tmp 43), type := 35, pos := "exact.go:3824", after := #[{ on := 10, ground := Go.Ground.data }], guard := none }) (v := ?_) rfl (by kernel_rfl) (by kernel_rfl) (by kernel_rfl) (fun _ _ _ h => h) (Or.inl ⟨by rfl, ?_⟩) hS ?_
  rotate_left
  · (intro w hSw; have hSw := (HSd.out w).1 hSw; go_split_ands; go_simp) <;> with_reducible rfl
  clear hS
  try simp only [Act.put, List.setIfInBounds_toArray, List.set_cons_zero, List.set_cons_succ]
  have hS := HSp.out _ bHD
  refine wpAnyH_take (i := 12) (oi := { dst := some 44, op := Go.Op.extract (Go.Operand.tmp 32) 0, type := 34, pos := "exact.go:3824", after := #[{ on := 11, ground := Go.Ground.data }], guard := none }) (v := ?_) rfl (by kernel_rfl) (by kernel_rfl) (by kernel_rfl) (fun _ _ _ h => h) (Or.inl ⟨by rfl, ?_⟩) hS ?_
  rotate_left
  · (intro w hSw; have hSw := (HSd.out w).1 hSw; go_split_ands; go_simp) <;> with_reducible rfl
  clear hS
  try simp only [Act.put, List.setIfInBounds_toArray, List.set_cons_zero, List.set_cons_succ]
  have hS := HSp.out _ bHD
  refine wpAnyH_take (i := 13) (oi := { dst := some 45, op := Go.Op.extract (Go.Operand.tmp 32) 1, type := 2, pos := "exact.go:3824", after := #[{ on := 11, ground := Go.Ground.data }, { on := 14, ground := Go.Ground.gcOnly Go.Departure.lateStores }], guard := none }) (v := ?_) rfl (by kernel_rfl) (by kernel_rfl) (by kernel_rfl) (fun _ _ _ h => h) (Or.inl ⟨by rfl, ?_⟩) hS ?_
  rotate_left
  · (intro w hSw; have hSw := (HSd.out w).1 hSw; go_split_ands; go_simp) <;> with_reducible rfl
  clear hS
  try simp only [Act.put, List.setIfInBounds_toArray, List.set_cons_zero, List.set_cons_succ]
  have hS := HSp.out _ bHD
  refine wpAnyH_take (i := 14) (oi := { dst := some 15, op := Go.Op.assign (Go.Operand.tmp 44), type := 34, pos := "exact.go:3824", after := #[{ on := 12, ground := Go.Ground.data }, { on := 10, ground := Go.Ground.chain }, { on := 0, ground := Go.Ground.phase }, { on := 1, ground := Go.Ground.phase }, { on := 2, ground := Go.Ground.phase }, { on := 3, ground := Go.Ground.phase }, { on := 4, ground := Go.Ground.phase }, { on := 5, ground := Go.Ground.phase }, { on := 6, ground := Go.Ground.phase }, { on := 7, ground := Go.Ground.phase }, { on := 8, ground := Go.Ground.phase }, { on := 9, ground := Go.Ground.phase }, { on := 10, ground := Go.Ground.phase }, { on := 11, ground := Go.Ground.phase }, { on := 12, ground := Go.Ground.phase }, { on := 13, ground := Go.Ground.textOnly Go.Departure.lateStores }], guard := none }) (v := ?_) rfl (by kernel_rfl) (by kernel_rfl) (by kernel_rfl) (fun _ _ _ h => h) (Or.inl ⟨by rfl, ?_⟩) hS ?_
  rotate_left
  · (intro w hSw; have hSw := (HSd.out w).1 hSw; go_split_ands; go_simp) <;> with_reducible rfl
  clear hS
  try simp only [Act.put, List.setIfInBounds_toArray, List.set_cons_zero, List.set_cons_succ]
  have hS := HSp.out _ bHD
  refine wpAnyH_take (i := 15) (oi := { dst := some 16, op := Go.Op.assign (Go.Operand.tmp 45), type := 2, pos := "exact.go:3824", after := #[{ on := 13, ground := Go.Ground.data }, { on := 14, ground := Go.Ground.chain }, { on := 0, ground := Go.Ground.phase }, { on := 1, ground := Go.Ground.phase }, { on := 2, ground := Go.Ground.phase }, { on := 3, ground := Go.Ground.phase }, { on := 4, ground := Go.Ground.phase }, { on := 5, ground := Go.Ground.phase }, { on := 6, ground := Go.Ground.phase }, { on := 7, ground := Go.Ground.phase }, { on := 8, ground := Go.Ground.phase }, { on := 9, ground := Go.Ground.phase }, { on := 10, ground := Go.Ground.phase }, { on := 11, ground := Go.Ground.phase }, { on := 12, ground := Go.Ground.phase }, { on := 13, ground := Go.Ground.phase }, { on := 14, ground := Go.Ground.phase }], guard := none }) (v := ?_) rfl (by kernel_rfl) (by kernel_rfl) (by kernel_rfl) (fun _ _ _ h => h) (Or.inl ⟨by rfl, ?_⟩) hS ?_
  rotate_left
  · (intro w hSw; have hSw := (HSd.out w).1 hSw; go_split_ands; go_simp) <;> with_reducible rfl
  clear hS
  try simp only [Act.put, List.setIfInBounds_toArray, List.set_cons_zero, List.set_cons_succ]
  refine wpAnyH_done (by kernel_rfl) ?_ _
  replace HD := Lib.hid bHD
  clear bHD
  clear Sps Szs
  go_wp2_with fail
  refine (to_any _ _ _ ps (by omega) Hps.out.ints).mono ?_
  rintro e w1 ⟨g1, rfl, hg, hr, hb⟩
  replace Hps := Lib.hid (Hps.out.on hb)
  replace Hzs := Lib.hid (Hzs.out.on hb)
  replace HD := Lib.hid (HD.out.on hb)
  replace RS := Lib.hid (RS.out.on hb)
  replace HB := Lib.hid (bel_end HB.out hb)
  have q1 := hb.size
  have Xps := Lib.hid (ownA_new hr hg (by omega))
  clear hb hg hr
  go_wp2_with fail
  refine (to_any _ _ _ zs (by omega) Hzs.out.ints).mono ?_
  rintro e w2 ⟨g2, rfl, hg, hr, hb⟩
  replace Hps := Lib.hid (Hps.out.on hb)
  replace Hzs := Lib.hid (Hzs.out.on hb)
  replace HD := Lib.hid (HD.out.on hb)
  replace RS := Lib.hid (RS.out.on hb)
  replace Xps := Lib.hid (Xps.out.on hb)
  replace HB := Lib.hid (bel_end HB.out hb)
  have q2 := hb.size
  have Xzs := Lib.hid (ownA_new hr hg (by omega))
  clear hb hg hr
  have cHD0 := HD.out.cell 0 rfl
  have cHD1 := HD.out.cell 1 rfl
  have cHD2 := HD.out.cell 2 rfl
  have cHDl := HD.out.lt
  go_wp2_with fail
  refine (tod_any _ _ _ _).mono ?_
  rintro e w3 ⟨rfl, hb⟩
  replace Hps := Lib.hid (Hps.out.on hb)
  replace Hzs := Lib.hid (Hzs.out.on hb)
  replace HD := Lib.hid (HD.out.on hb)
  replace RS := Lib.hid (RS.out.on hb)
  replace Xps := Lib.hid (Xps.out.on hb)
  replace Xzs := Lib.hid (Xzs.out.on hb)
  replace HB := Lib.hid (bel_end HB.out hb)
  have q3 := hb.size
  clear hb
  clear cHD0 cHD1 cHD2 cHDl
  go_wp2_with fail
  refine (S2.out _ _ _ _ _ Xps.out.ints Xzs.out.ints).mono ?_
  rintro e w4 ⟨RGa, RGc, RGq, rfl, ho, hb⟩
  replace Hps := Lib.hid (Hps.out.on hb)
  replace Hzs := Lib.hid (Hzs.out.on hb)
  replace HD := Lib.hid (HD.out.on hb)
  replace RS := Lib.hid (RS.out.on hb)
  replace Xps := Lib.hid (Xps.out.on hb)
  replace Xzs := Lib.hid (Xzs.out.on hb)
  replace HB := Lib.hid (bel_end HB.out hb)
  have q4 := hb.size
  have RG := Lib.hid ho
  clear ho hb
  go_wp2_with fail
  refine (eq2_any _ _ _ _ _ LL (by omega) HLR.out RG.out.rows RS.out.rows).mono ?_
  rintro e w5 ⟨rfl, hb⟩
  replace Hps := Lib.hid (Hps.out.on hb)
  replace Hzs := Lib.hid (Hzs.out.on hb)
  replace HD := Lib.hid (HD.out.on hb)
  replace RS := Lib.hid (RS.out.on hb)
  replace Xps := Lib.hid (Xps.out.on hb)
  replace Xzs := Lib.hid (Xzs.out.on hb)
  replace RG := Lib.hid (RG.out.on hb)
  replace HB := Lib.hid (bel_end HB.out hb)
  have q5 := hb.size
  clear hb
  go_wp2_with fail
  refine (to_any _ _ _ ps (by omega) Hps.out.ints).mono ?_
  rintro e w6 ⟨g6, rfl, hg, hr, hb⟩
  replace Hps := Lib.hid (Hps.out.on hb)
  replace Hzs := Lib.hid (Hzs.out.on hb)
  replace HD := Lib.hid (HD.out.on hb)
  replace RS := Lib.hid (RS.out.on hb)
  replace Xps := Lib.hid (Xps.out.on hb)
  replace Xzs := Lib.hid (Xzs.out.on hb)
  replace RG := Lib.hid (RG.out.on hb)
  replace HB := Lib.hid (bel_end HB.out hb)
  have q6 := hb.size
  have C := Lib.hid (ownA_new hr hg (by omega))
  clear hb hg hr
  go_wp2_with fail
  refine (eql_any _ _ _ _ _ ps (by omega) Xps.out.ints C.out.ints).mono ?_
  rintro e w7 ⟨rfl, hb⟩
  replace Hps := Lib.hid (Hps.out.on hb)
  replace Hzs := Lib.hid (Hzs.out.on hb)
  replace HD := Lib.hid (HD.out.on hb)
  replace RS := Lib.hid (RS.out.on hb)
  replace Xps := Lib.hid (Xps.out.on hb)
  replace Xzs := Lib.hid (Xzs.out.on hb)
  replace RG := Lib.hid (RG.out.on hb)
  replace C := Lib.hid (C.out.on hb)
  replace HB := Lib.hid (bel_end HB.out hb)
  have q7 := hb.size
  clear hb
  clear C
  go_wp2_with fail
  refine (to_any _ _ _ zs (by omega) Hzs.out.ints).mono ?_
  rintro e w8 ⟨g8, rfl, hg, hr, hb⟩
  replace Hps := Lib.hid (Hps.out.on hb)
  replace Hzs := Lib.hid (Hzs.out.on hb)
  replace HD := Lib.hid (HD.out.on hb)
  replace RS := Lib.hid (RS.out.on hb)
  replace Xps := Lib.hid (Xps.out.on hb)
  replace Xzs := Lib.hid (Xzs.out.on hb)
  replace RG := Lib.hid (RG.out.on hb)
  replace HB := Lib.hid (bel_end HB.out hb)
  have q8 := hb.size
  have C := Lib.hid (ownA_new hr hg (by omega))
  clear hb hg hr
  go_wp2_with fail
  refine (eql_any _ _ _ _ _ zs (by omega) Xzs.out.ints C.out.ints).mono ?_
  rintro e w9 ⟨rfl, hb⟩
  replace Hps := Lib.hid (Hps.out.on hb)
  replace Hzs := Lib.hid (Hzs.out.on hb)
  replace HD := Lib.hid (HD.out.on hb)
  replace RS := Lib.hid (RS.out.on hb)
  replace Xps := Lib.hid (Xps.out.on hb)
  replace Xzs := Lib.hid (Xzs.out.on hb)
  replace RG := Lib.hid (RG.out.on hb)
  replace C := Lib.hid (C.out.on hb)
  replace HB := Lib.hid (bel_end HB.out hb)
  have q9 := hb.size
  clear hb
  clear C
  go_wp2_with fail
  refine (mka_any _ _ _ _ _ ps 1 Xps.out (by omega) (by omega) (by omega)).mono ?_
  rintro e w10 ⟨rfl, ho, hk⟩
  replace Hps := Lib.hid (Hps.out.kept hk (by omega) (by omega))
  replace Hzs := Lib.hid (Hzs.out.kept hk (by omega) (by omega))
  replace HD := Lib.hid (HD.out.keptP hk (by omega))
  replace RS := Lib.hid (RS.out.kept hk (by omega))
  replace Xzs := Lib.hid (Xzs.out.kept hk (by omega))
  replace RG := Lib.hid (RG.out.kept hk (by omega))
  replace HB := Lib.hid (HB.out.trans ((hk.below (by omega)).mono (by omega)))
  replace Xps := Lib.hid ho
  have q10 := hk.size
  clear ho hk
  go_wp2_with fail
  refine (mka_any _ _ _ _ _ zs (1 + (ps.length : Int)) Xzs.out (by omega) (by omega) (by omega)).mono ?_
  rintro e w11 ⟨rfl, ho, hk⟩
  replace Hps := Lib.hid (Hps.out.kept hk (by omega) (by omega))
  replace Hzs := Lib.hid (Hzs.out.kept hk (by omega) (by omega))
  replace HD := Lib.hid (HD.out.keptP hk (by omega))
  replace RS := Lib.hid (RS.out.kept hk (by omega))
  replace Xps := Lib.hid (Xps.out.kept hk (by omega))
  replace RG := Lib.hid (RG.out.kept hk (by omega))
  replace HB := Lib.hid (HB.out.trans ((hk.below (by omega)).mono (by omega)))
  replace Xzs := Lib.hid ho
  have q11 := hk.size
  clear ho hk
  clear Xps Xzs
  go_wp2_with fail
  refine (eq2_any _ _ _ _ _ LL (by omega) HLR.out RG.out.rows RS.out.rows).mono ?_
  rintro e w12 ⟨rfl, hb⟩
  replace Hps := Lib.hid (Hps.out.on hb)
  replace Hzs := Lib.hid (Hzs.out.on hb)
  replace HD := Lib.hid (HD.out.on hb)
  replace RS := Lib.hid (RS.out.on hb)
  replace RG := Lib.hid (RG.out.on hb)
  replace HB := Lib.hid (bel_end HB.out hb)
  have q12 := hb.size
  clear hb
  go_wp2_with fail
  refine (mks_any _ _ _ _ _ _ LL 1 RG.out (by omega) (by omega) (by omega) (by omega)).mono ?_
  rintro e w13 ⟨rfl, ho, hk⟩
  replace Hps := Lib.hid (Hps.out.kept hk (by omega) (by omega))
  replace Hzs := Lib.hid (Hzs.out.kept hk (by omega) (by omega))
  replace HD := Lib.hid (HD.out.keptP hk (by omega))
  replace RS := Lib.hid (RS.out.kept hk (by omega))
  replace HB := Lib.hid (HB.out.trans ((hk.below (by omega)).mono (by omega)))
  replace RG := Lib.hid ho
  have q13 := hk.size
  clear ho hk
  go_wp2_with fail
  refine (hds_any _ _ _ _ LL.length LL 1 rfl RG.out.rows (by omega) (by omega) (by omega) (by omega)).mono ?_
  rintro e w_ ⟨rfl, rfl⟩
  go_wp2_with fail
  have bHD := HD.out
  obtain ⟨S, hSd⟩ : ∃ S : World → Prop, ∀ w', S w' ↔ (w'.cell? ⟨w.heap.size, 0, none⟩ = some (.int .i64 dx) ∧ w'.cell? ⟨w.heap.size, 1, none⟩ = some (.int .i64 dy) ∧ w'.cell? ⟨w.heap.size, 2, none⟩ = some (.int .i64 dz)) := ⟨_, fun _ => Iff.rfl⟩
  have HSp : Hid (∀ w' : World, Bk w' (w.heap.size) #[.int .i64 dx, .int .i64 dy, .int .i64 dz] 27 → S w') := Lib.hid (fun w' bHD => (hSd w').2 ⟨bHD.cell 0 rfl, bHD.cell 1 rfl, bHD.cell 2 rfl⟩)
  have HSd := Lib.hid hSd
  clear hSd
  refine wp_region_held_drew (S := S) (by kernel_rfl) ?_ (fun hH => ?_)
  · exact (HSp.out _ bHD : S (World.drew w13))
  clear hH
  generalize hX : World.drew w13 = U2_0
  replace bHD : Bk U2_0 (w.heap.size) #[.int .i64 dx, .int .i64 dy, .int .i64 dz] 27 := by rw [← hX]; exact bHD
  have hb : Below w13.heap.size w13 U2_0 := by rw [← hX]; exact (Below.refl _ _).drew
  clear hX
  replace Hps := Lib.hid (Hps.out.on hb)
  replace Hzs := Lib.hid (Hzs.out.on hb)
  replace RS := Lib.hid (RS.out.on hb)
  replace RG := Lib.hid (RG.out.on hb)
  have qq8 := hb.size
  replace HB := Lib.hid (bel_end HB.out hb)
  clear hb
  have hS := HSp.out _ bHD
  refine wpAnyH_take (i := 0) (oi := { dst := some 112, op := Go.Op.move (Go.Operand.tmp 0), type := 22, pos := "exact.go:3853", after := #[], guard := none }) (v := ?_) rfl (by kernel_rfl) (by kernel_rfl) (by kernel_rfl) (fun _ _ _ h => h) (Or.inl ⟨by rfl, ?_⟩) hS ?_
  rotate_left
  · (intro w hSw; have hSw := (HSd.out w).1 hSw; go_split_ands; go_simp) <;> with_reducible rfl
  clear hS
  try simp only [Act.put, List.setIfInBounds_toArray, List.set_cons_zero, List.set_cons_succ]
  have hS := HSp.out _ bHD
  refine wpAnyH_take (i := 2) (oi := { dst := some 114, op := Go.Op.move (Go.Operand.tmp 1), type := 22, pos := "exact.go:3853", after := #[], guard := none }) (v := ?_) rfl (by kernel_rfl) (by kernel_rfl) (by kernel_rfl) (fun _ _ _ h => h) (Or.inl ⟨by rfl, ?_⟩) hS ?_
  rotate_left
  · (intro w hSw; have hSw := (HSd.out w).1 hSw; go_split_ands; go_simp) <;> with_reducible rfl
  clear hS
  try simp only [Act.put, List.setIfInBounds_toArray, List.set_cons_zero, List.set_cons_succ]
  have hS := HSp.out _ bHD
  refine wpAnyH_take (i := 4) (oi := { dst := some 116, op := Go.Op.load 27 (Go.Operand.tmp 9), type := 27, pos := "exact.go:3853", after := #[], guard := none }) (v := ?_) rfl (by kernel_rfl) (by kernel_rfl) (by kernel_rfl) (fun _ _ _ h => h) (Or.inl ⟨by rfl, ?_⟩) hS ?_
  rotate_left
  · (intro w hSw; have hSw := (HSd.out w).1 hSw; go_split_ands; go_simp) <;> with_reducible rfl
  clear hS
  try simp only [Act.put, List.setIfInBounds_toArray, List.set_cons_zero, List.set_cons_succ]
  have hS := HSp.out _ bHD
  refine wpAnyH_take (i := 6) (oi := { dst := some 118, op := Go.Op.move (Go.Operand.tmp 3), type := 2, pos := "exact.go:3853", after := #[], guard := none }) (v := ?_) rfl (by kernel_rfl) (by kernel_rfl) (by kernel_rfl) (fun _ _ _ h => h) (Or.inl ⟨by rfl, ?_⟩) hS ?_
  rotate_left
  · (intro w hSw; have hSw := (HSd.out w).1 hSw; go_split_ands; go_simp) <;> with_reducible rfl
  clear hS
  try simp only [Act.put, List.setIfInBounds_toArray, List.set_cons_zero, List.set_cons_succ]
  have hS := HSp.out _ bHD
  refine wpAnyH_take (i := 7) (oi := { dst := some 119, op := Go.Op.move (Go.Operand.tmp 4), type := 2, pos := "exact.go:3853", after := #[], guard := none }) (v := ?_) rfl (by kernel_rfl) (by kernel_rfl) (by kernel_rfl) (fun _ _ _ h => h) (Or.inl ⟨by rfl, ?_⟩) hS ?_
  rotate_left
  · (intro w hSw; have hSw := (HSd.out w).1 hSw; go_split_ands; go_simp) <;> with_reducible rfl
  clear hS
  try simp only [Act.put, List.setIfInBounds_toArray, List.set_cons_zero, List.set_cons_succ]
  have hS := HSp.out _ bHD
  refine wpAnyH_take (i := 8) (oi := { dst := some 120, op := Go.Op.move (Go.Operand.tmp 5), type := 2, pos := "exact.go:3853", after := #[], guard := none }) (v := ?_) rfl (by kernel_rfl) (by kernel_rfl) (by kernel_rfl) (fun _ _ _ h => h) (Or.inl ⟨by rfl, ?_⟩) hS ?_
  rotate_left
  · (intro w hSw; have hSw := (HSd.out w).1 hSw; go_split_ands; go_simp) <;> with_reducible rfl
  clear hS
  try simp only [Act.put, List.setIfInBounds_toArray, List.set_cons_zero, List.set_cons_succ]
  have hS := HSp.out _ bHD
  refine wpAnyH_take (i := 9) (oi := { dst := some 121, op := Go.Op.move (Go.Operand.tmp 6), type := 2, pos := "exact.go:3853", after := #[], guard := none }) (v := ?_) rfl (by kernel_rfl) (by kernel_rfl) (by kernel_rfl) (fun _ _ _ h => h) (Or.inl ⟨by rfl, ?_⟩) hS ?_
  rotate_left
  · (intro w hSw; have hSw := (HSd.out w).1 hSw; go_split_ands; go_simp) <;> with_reducible rfl
  clear hS
  try simp only [Act.put, List.setIfInBounds_toArray, List.set_cons_zero, List.set_cons_succ]
  refine wpAnyH_ready (rs := [1]) (by kernel_rfl) (by simp) ?_
  refine AllReadyH.cons (o := { dst := some 113, op := Go.Op.call { callee := Go.Callee.value (Go.Operand.func 10), args := #[Go.Operand.tmp 112], argTypes := #[22] }, type := 22, pos := "exact.go:3853", after := #[{ on := 0, ground := Go.Ground.data }], guard := none }) rfl (fun Kn hK => ?_) AllReadyH.nil
  first | go_at_call 10 | (go_simp; go_at_call 10)
  refine (to_any _ _ _ ps (by omega) Hps.out.ints).mono ?_
  rintro e U2_1 ⟨gg9, rfl, hg, hr, hb⟩
  have Yps := Lib.hid (ownA_new hr hg (by omega))
  clear hr hg
  try dsimp only
  try simp only [Act.put, List.setIfInBounds_toArray, List.set_cons_zero, List.set_cons_succ]
  replace bHD := bHD.on hb
  replace Hps := Lib.hid (Hps.out.on hb)
  replace Hzs := Lib.hid (Hzs.out.on hb)
  replace RS := Lib.hid (RS.out.on hb)
  replace RG := Lib.hid (RG.out.on hb)
  have qq10 := hb.size
  replace HB := Lib.hid (bel_end HB.out hb)
  clear hb
  refine hK.out _ _ (HSp.out _ bHD) (fun _ => ?_)
  clear hK Kn
  refine wpAnyH_ready (rs := [3]) (by kernel_rfl) (by simp) ?_
  refine AllReadyH.cons (o := { dst := some 115, op := Go.Op.call { callee := Go.Callee.value (Go.Operand.func 10), args := #[Go.Operand.tmp 114], argTypes := #[22] }, type := 22, pos := "exact.go:3853", after := #[{ on := 2, ground := Go.Ground.data }, { on := 1, ground := Go.Ground.chain }], guard := none }) rfl (fun Kn hK => ?_) AllReadyH.nil
  first | go_at_call 10 | (go_simp; go_at_call 10)
  refine (to_any _ _ _ zs (by omega) Hzs.out.ints).mono ?_
  rintro e U2_2 ⟨gg11, rfl, hg, hr, hb⟩
  have Yzs := Lib.hid (ownA_new hr hg (by omega))
  clear hr hg
  try dsimp only
  try simp only [Act.put, List.setIfInBounds_toArray, List.set_cons_zero, List.set_cons_succ]
  replace bHD := bHD.on hb
  replace Hps := Lib.hid (Hps.out.on hb)
  replace Hzs := Lib.hid (Hzs.out.on hb)
  replace RS := Lib.hid (RS.out.on hb)
  replace RG := Lib.hid (RG.out.on hb)
  replace Yps := Lib.hid (Yps.out.on hb)
  have qq12 := hb.size
  replace HB := Lib.hid (bel_end HB.out hb)
  clear hb
  refine hK.out _ _ (HSp.out _ bHD) (fun _ => ?_)
  clear hK Kn
  refine wpAnyH_ready (rs := [5]) (by kernel_rfl) (by simp) ?_
  refine AllReadyH.cons (o := { dst := some 117, op := Go.Op.call { callee := Go.Callee.value (Go.Operand.func 14), args := #[Go.Operand.tmp 116], argTypes := #[27] }, type := 30, pos := "exact.go:3853", after := #[{ on := 4, ground := Go.Ground.data }, { on := 3, ground := Go.Ground.chain }], guard := none }) rfl (fun Kn hK => ?_) AllReadyH.nil
  first | go_at_call 14 | (go_simp; go_at_call 14)
  (with_reducible refine Calls.mono (tod_any _ _ _ _) ?_)
  rintro e U2_3 ⟨rfl, hb⟩
  try dsimp only
  try simp only [Act.put, List.setIfInBounds_toArray, List.set_cons_zero, List.set_cons_succ]
  replace bHD := bHD.on hb
  replace Hps := Lib.hid (Hps.out.on hb)
  replace Hzs := Lib.hid (Hzs.out.on hb)
  replace RS := Lib.hid (RS.out.on hb)
  replace RG := Lib.hid (RG.out.on hb)
  replace Yps := Lib.hid (Yps.out.on hb)
  replace Yzs := Lib.hid (Yzs.out.on hb)
  have qq13 := hb.size
  replace HB := Lib.hid (bel_end HB.out hb)
  clear hb
  refine hK.out _ _ (HSp.out _ bHD) (fun _ => ?_)
  clear hK Kn
  refine wpAnyH_ready (rs := [10]) (by kernel_rfl) (by simp) ?_
  refine AllReadyH.cons (o := { dst := some 122, op := Go.Op.call { callee := Go.Callee.value (Go.Operand.func 21), args := #[Go.Operand.tmp 113, Go.Operand.tmp 115, Go.Operand.tmp 117, Go.Operand.tmp 118, Go.Operand.tmp 119, Go.Operand.tmp 120, Go.Operand.tmp 121], argTypes := #[22, 22, 30, 2, 2, 2, 2] }, type := 35, pos := "exact.go:3853", after := #[{ on := 1, ground := Go.Ground.data }, { on := 3, ground := Go.Ground.data }, { on := 5, ground := Go.Ground.data }, { on := 6, ground := Go.Ground.data }, { on := 7, ground := Go.Ground.data }, { on := 8, ground := Go.Ground.data }, { on := 9, ground := Go.Ground.data }, { on := 5, ground := Go.Ground.chain }], guard := none }) rfl (fun Kn hK => ?_) AllReadyH.nil
  first | go_at_call 21 | (go_simp; go_at_call 21)
  (with_reducible refine Calls.mono (S2.out _ _ _ _ _ Yps.out.ints Yzs.out.ints) ?_)
  rintro e U2_4 ⟨RHa, RHc, RHq, rfl, ho, hb⟩
  have RH := Lib.hid ho
  clear ho
  try dsimp only
  try simp only [Act.put, List.setIfInBounds_toArray, List.set_cons_zero, List.set_cons_succ]
  replace bHD := bHD.on hb
  replace Hps := Lib.hid (Hps.out.on hb)
  replace Hzs := Lib.hid (Hzs.out.on hb)
  replace RS := Lib.hid (RS.out.on hb)
  replace RG := Lib.hid (RG.out.on hb)
  replace Yps := Lib.hid (Yps.out.on hb)
  replace Yzs := Lib.hid (Yzs.out.on hb)
  have qq14 := hb.size
  replace HB := Lib.hid (bel_end HB.out hb)
  clear hb
  refine hK.out _ _ (HSp.out _ bHD) (fun _ => ?_)
  clear hK Kn
  have hS := HSp.out _ bHD
  refine wpAnyH_take (i := 11) (oi := { dst := some 111, op := Go.Op.move (Go.Operand.tmp 122), type := 35, pos := "exact.go:3853", after := #[{ on := 10, ground := Go.Ground.data }], guard := none }) (v := ?_) rfl (by kernel_rfl) (by kernel_rfl) (by kernel_rfl) (fun _ _ _ h => h) (Or.inl ⟨by rfl, ?_⟩) hS ?_
  rotate_left
  · (intro w hSw; have hSw := (HSd.out w).1 hSw; go_split_ands; go_simp) <;> with_reducible rfl
  clear hS
  try simp only [Act.put, List.setIfInBounds_toArray, List.set_cons_zero, List.set_cons_succ]
  have hS := HSp.out _ bHD
  refine wpAnyH_take (i := 12) (oi := { dst := some 123, op := Go.Op.extract (Go.Operand.tmp 111) 0, type := 34, pos := "exact.go:3853", after := #[{ on := 11, ground := Go.Ground.data }], guard := none }) (v := ?_) rfl (by kernel_rfl) (by kernel_rfl) (by kernel_rfl) (fun _ _ _ h => h) (Or.inl ⟨by rfl, ?_⟩) hS ?_
  rotate_left
  · (intro w hSw; have hSw := (HSd.out w).1 hSw; go_split_ands; go_simp) <;> with_reducible rfl
  clear hS
  try simp only [Act.put, List.setIfInBounds_toArray, List.set_cons_zero, List.set_cons_succ]
  have hS := HSp.out _ bHD
  refine wpAnyH_take (i := 13) (oi := { dst := some 124, op := Go.Op.extract (Go.Operand.tmp 111) 1, type := 2, pos := "exact.go:3853", after := #[{ on := 11, ground := Go.Ground.data }, { on := 14, ground := Go.Ground.gcOnly Go.Departure.lateStores }], guard := none }) (v := ?_) rfl (by kernel_rfl) (by kernel_rfl) (by kernel_rfl) (fun _ _ _ h => h) (Or.inl ⟨by rfl, ?_⟩) hS ?_
  rotate_left
  · (intro w hSw; have hSw := (HSd.out w).1 hSw; go_split_ands; go_simp) <;> with_reducible rfl
  clear hS
  try simp only [Act.put, List.setIfInBounds_toArray, List.set_cons_zero, List.set_cons_succ]
  have hS := HSp.out _ bHD
  refine wpAnyH_take (i := 14) (oi := { dst := some 24, op := Go.Op.assign (Go.Operand.tmp 123), type := 34, pos := "exact.go:3853", after := #[{ on := 12, ground := Go.Ground.data }, { on := 10, ground := Go.Ground.chain }, { on := 0, ground := Go.Ground.phase }, { on := 1, ground := Go.Ground.phase }, { on := 2, ground := Go.Ground.phase }, { on := 3, ground := Go.Ground.phase }, { on := 4, ground := Go.Ground.phase }, { on := 5, ground := Go.Ground.phase }, { on := 6, ground := Go.Ground.phase }, { on := 7, ground := Go.Ground.phase }, { on := 8, ground := Go.Ground.phase }, { on := 9, ground := Go.Ground.phase }, { on := 10, ground := Go.Ground.phase }, { on := 11, ground := Go.Ground.phase }, { on := 12, ground := Go.Ground.phase }, { on := 13, ground := Go.Ground.textOnly Go.Departure.lateStores }], guard := none }) (v := ?_) rfl (by kernel_rfl) (by kernel_rfl) (by kernel_rfl) (fun _ _ _ h => h) (Or.inl ⟨by rfl, ?_⟩) hS ?_
  rotate_left
  · (intro w hSw; have hSw := (HSd.out w).1 hSw; go_split_ands; go_simp) <;> with_reducible rfl
  clear hS
  try simp only [Act.put, List.setIfInBounds_toArray, List.set_cons_zero, List.set_cons_succ]
  have hS := HSp.out _ bHD
  refine wpAnyH_take (i := 15) (oi := { dst := some 25, op := Go.Op.assign (Go.Operand.tmp 124), type := 2, pos := "exact.go:3853", after := #[{ on := 13, ground := Go.Ground.data }, { on := 14, ground := Go.Ground.chain }, { on := 0, ground := Go.Ground.phase }, { on := 1, ground := Go.Ground.phase }, { on := 2, ground := Go.Ground.phase }, { on := 3, ground := Go.Ground.phase }, { on := 4, ground := Go.Ground.phase }, { on := 5, ground := Go.Ground.phase }, { on := 6, ground := Go.Ground.phase }, { on := 7, ground := Go.Ground.phase }, { on := 8, ground := Go.Ground.phase }, { on := 9, ground := Go.Ground.phase }, { on := 10, ground := Go.Ground.phase }, { on := 11, ground := Go.Ground.phase }, { on := 12, ground := Go.Ground.phase }, { on := 13, ground := Go.Ground.phase }, { on := 14, ground := Go.Ground.phase }], guard := none }) (v := ?_) rfl (by kernel_rfl) (by kernel_rfl) (by kernel_rfl) (fun _ _ _ h => h) (Or.inl ⟨by rfl, ?_⟩) hS ?_
  rotate_left
  · (intro w hSw; have hSw := (HSd.out w).1 hSw; go_split_ands; go_simp) <;> with_reducible rfl
  clear hS
  try simp only [Act.put, List.setIfInBounds_toArray, List.set_cons_zero, List.set_cons_succ]
  refine wpAnyH_done (by kernel_rfl) ?_ _
  replace HD := Lib.hid bHD
  clear bHD
  clear Yps Yzs
  go_wp2_with fail
  refine (eq2_any _ _ _ _ _ LL (by omega) HLR.out RH.out.rows RS.out.rows).mono ?_
  rintro e w14 ⟨rfl, hb⟩
  replace Hps := Lib.hid (Hps.out.on hb)
  replace Hzs := Lib.hid (Hzs.out.on hb)
  replace HD := Lib.hid (HD.out.on hb)
  replace RS := Lib.hid (RS.out.on hb)
  replace RG := Lib.hid (RG.out.on hb)
  replace RH := Lib.hid (RH.out.on hb)
  replace HB := Lib.hid (bel_end HB.out hb)
  have q14 := hb.size
  clear hb
  clear RH
  go_wp2_with fail
  refine (hds_any _ _ _ _ LL.length LL 1 rfl RG.out.rows (by omega) (by omega) (by omega) (by omega)).mono ?_
  rintro e w_ ⟨rfl, rfl⟩
  go_wp2
  go_ret
  exact ⟨rfl, HB.out⟩
end Go.Proofs.Ythfaejhiabdkbaa
