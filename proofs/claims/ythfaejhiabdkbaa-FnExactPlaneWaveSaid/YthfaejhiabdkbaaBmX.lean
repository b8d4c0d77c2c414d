/- The walks of the exact laws of IsArray, DelaysOf, DelayErrors: each returns true and writes nothing that was there. -/
import Derived.Test.YthfaejhiabdkbaaBmD
import Derived.Test.YthfaejhiabdkbaaPuX
import Derived.Test.YthfaejhiabdkbaaLws
import Derived.Deep.RegionHeld3
namespace Go.Proofs.Ythfaejhiabdkbaa
open Go.ChangeShapes Go.WideShapes Go.ChangeAt Go.RowKit Go.Shelf Num
set_option linter.unusedVariables false
set_option linter.unusedSimpArgs false
theorem sar_b {w : World} (a : Option Addr) (cap : Nat) (zs : List Int) (hl : zs.length ≤ 1048576) (hz : Ints .i64 w w.heap.size a zs) : Calls Try.prog 9 #[.slice a zs.length cap] w fun e w' => e = .returned (.bool (arrB zs)) ∧ Below w.heap.size w w' := (sar_any w _ a cap zs (by omega) hz).mono (by rintro e w' ⟨rfl, n, rfl⟩; exact ⟨rfl, bel_drewN (Below.refl _ _) _⟩)
theorem iar_b {w : World} (a : Option Addr) (cap : Nat) (zs : List Int) (hl : zs.length ≤ 1048576) (hz : Ints .i64 w w.heap.size a zs) : Calls Try.prog 11 #[.slice a zs.length cap] w fun e w' => e = .returned (.bool (arrB zs)) ∧ Below w.heap.size w w' := (iar_any w _ a cap zs (by omega) hz).mono (by rintro e w' ⟨rfl, rfl⟩; exact ⟨rfl, Below.refl _ _⟩)

set_option maxRecDepth 100000 in
set_option maxHeartbeats 8000000 in
theorem lisa (a0 : Option Addr) (len0 cap0 : Nat) (z0 : List Int) (w : World) (w0 : IsRow .i64 w a0 len0 cap0 z0) :
    Calls Try.prog 3 #[.slice a0 len0 cap0] w fun e w' => e = .returned (.bool true) ∧ Below w.heap.size w w' := by
  obtain ⟨hm0, hlen, hz0, -⟩ := Ints.of_row w0
  obtain ⟨zs, hzs⟩ : ∃ zs, z0.take len0 = zs := ⟨_, rfl⟩
  rw [hzs] at hz0 hlen
  subst hlen
  clear hzs w0
  have Hzs := Lib.hid (IntL.of hz0)
  clear hz0
  have HB := Lib.hid (Below.refl w.heap.size w)
  by_cases hbzs : 1048576 < zs.length
  · go_enter Try.func3, Try.ntmps3
    go_wp2
    go_ret
    exact ⟨rfl, Below.refl _ _⟩
  go_enter Try.func3, Try.ntmps3
  go_wp2_with fail
  refine (to_any _ _ _ zs (by omega) Hzs.out.ints).mono ?_
  rintro e w1 ⟨g1, rfl, hg, hr, hb⟩
  replace Hzs := Lib.hid (Hzs.out.on hb)
  replace HB := Lib.hid (bel_end HB.out hb)
  have q1 := hb.size
  have Szs := Lib.hid (ownA_new hr hg (by omega))
  clear hb hg hr
  go_wp2_with fail
  refine (sar_b _ _ zs (by omega) Szs.out.ints).mono ?_
  rintro e w2 ⟨rfl, hb⟩
  replace Hzs := Lib.hid (Hzs.out.on hb)
  replace Szs := Lib.hid (Szs.out.on hb)
  replace HB := Lib.hid (bel_end HB.out hb)
  have q2 := hb.size
  clear hb
  clear Szs
  go_wp2_with fail
  refine (to_any _ _ _ zs (by omega) Hzs.out.ints).mono ?_
  rintro e w3 ⟨g3, rfl, hg, hr, hb⟩
  replace Hzs := Lib.hid (Hzs.out.on hb)
  replace HB := Lib.hid (bel_end HB.out hb)
  have q3 := hb.size
  have Xzs := Lib.hid (ownA_new hr hg (by omega))
  clear hb hg hr
  go_wp2_with fail
  refine (iar_b _ _ zs (by omega) Xzs.out.ints).mono ?_
  rintro e w4 ⟨rfl, hb⟩
  replace Hzs := Lib.hid (Hzs.out.on hb)
  replace Xzs := Lib.hid (Xzs.out.on hb)
  replace HB := Lib.hid (bel_end HB.out hb)
  have q4 := hb.size
  clear hb
  go_wp2_with fail
  refine (to_any _ _ _ zs (by omega) Hzs.out.ints).mono ?_
  rintro e w5 ⟨g5, rfl, hg, hr, hb⟩
  replace Hzs := Lib.hid (Hzs.out.on hb)
  replace Xzs := Lib.hid (Xzs.out.on hb)
  replace HB := Lib.hid (bel_end HB.out hb)
  have q5 := hb.size
  have C := Lib.hid (ownA_new hr hg (by omega))
  clear hb hg hr
  go_wp2_with fail
  refine (eql_any _ _ _ _ _ zs (by omega) Xzs.out.ints C.out.ints).mono ?_
  rintro e w6 ⟨rfl, hb⟩
  replace Hzs := Lib.hid (Hzs.out.on hb)
  replace Xzs := Lib.hid (Xzs.out.on hb)
  replace C := Lib.hid (C.out.on hb)
  replace HB := Lib.hid (bel_end HB.out hb)
  have q6 := hb.size
  clear hb
  clear C
  go_wp2
  go_ret
  exact ⟨rfl, HB.out⟩

set_option maxRecDepth 100000 in
set_option maxHeartbeats 8000000 in
theorem ldlo (a0 : Option Addr) (len0 cap0 : Nat) (z0 : List Int) (dx dy dz r v : Int) (w : World) (w0 : IsRow .i64 w a0 len0 cap0 z0) (w2 : (Lit.int .i64 r).wf = true) (w3 : (Lit.int .i64 v).wf = true) :
    Calls Try.prog 4 #[.slice a0 len0 cap0, .agg #[.int .i64 dx, .int .i64 dy, .int .i64 dz], .int .i64 r, .int .i64 v] w fun e w' => e = .returned (.bool true) ∧ Below w.heap.size w w' := by
  obtain ⟨hm0, hlen, hz0, -⟩ := Ints.of_row w0
  obtain ⟨zs, hzs⟩ : ∃ zs, z0.take len0 = zs := ⟨_, rfl⟩
  rw [hzs] at hz0 hlen
  subst hlen
  clear hzs w0
  clear w2 w3
  have Hzs := Lib.hid (IntL.of hz0)
  clear hz0
  have HB := Lib.hid (Below.refl w.heap.size w)
  by_cases hbzs : 1048576 < zs.length
  · go_enter Try.func4, Try.ntmps4
    go_wp2
    go_ret
    exact ⟨rfl, (by repeat (first | exact Below.refl _ _ | (refine Below.alloc ?_ (by simp <;> omega) _) | (refine Below.setCell ?_ (by simp <;> omega) _) | (refine Below.drew ?_) | (refine bel_drewN ?_ _)))⟩
  have l12 := dlR_len zs dx dy dz r v
  obtain ⟨LL, hL⟩ : ∃ u, dlR zs dx dy dz r v = u := ⟨_, rfl⟩
  rw [hL] at l12
  obtain ⟨qq, hqq⟩ : ∃ u, arC zs dx dy dz r v = u := ⟨_, rfl⟩
  have S1 : Hid (∀ (W : World) (a : Option Addr) (c : Nat), Ints .i64 W W.heap.size a zs → Calls Try.prog 13 #[.slice a zs.length c, .agg #[.int .i64 dx, .int .i64 dy, .int .i64 dz], .int .i64 r, .int .i64 v] W fun e w' => ∃ (b : Option Addr) (d : Nat), e = .returned (.tuple #[.slice b LL.length d, .int .i64 qq]) ∧ OwnA w' W.heap.size w'.heap.size b d LL ∧ Below W.heap.size W w') := Lib.hid (fun W a c hz => by have := sdl11_any W a c zs dx dy dz r v (by omega) hz; rwa [hL, hqq] at this)
  have S2 : Hid (∀ (W : World) (a : Option Addr) (c : Nat), Ints .i64 W W.heap.size a zs → Calls Try.prog 15 #[.slice a zs.length c, .agg #[.int .i64 dx, .int .i64 dy, .int .i64 dz], .int .i64 r, .int .i64 v] W fun e w' => ∃ (b : Option Addr) (d : Nat), e = .returned (.tuple #[.slice b LL.length d, .int .i64 qq]) ∧ OwnA w' W.heap.size w'.heap.size b d LL ∧ Below W.heap.size W w') := Lib.hid (fun W a c hz => by have := idl11_any W a c zs dx dy dz r v (by omega) hz; rwa [hL, hqq] at this)
  clear hL hqq
  go_enter Try.func4, Try.ntmps4
  go_wp2_with fail
  generalize hW : World.alloc _ _ = W0
  have HD_ : Bk W0 (w.heap.size) #[.int .i64 dx, .int .i64 dy, .int .i64 dz] 27 := by rw [← hW]; repeat (first | (refine Bk.new' ?_; (simp; done)) | refine Bk.alloc ?_ _)
  have hb : Below w.heap.size w W0 := by rw [← hW]; exact (by repeat (first | exact Below.refl _ _ | (refine Below.alloc ?_ (by simp <;> omega) _) | (refine Below.setCell ?_ (by simp <;> omega) _) | (refine Below.drew ?_) | (refine bel_drewN ?_ _)))
  clear hW
  have HD := Lib.hid HD_
  have ltHD := HD_.lt
  clear HD_
  replace Hzs := Lib.hid (Hzs.out.on hb)
  replace HB := Lib.hid (bel_end HB.out hb)
  have q0 := hb.size
  clear hb
  have bHD := HD.out
  obtain ⟨S, hSd⟩ : ∃ S : World → Prop, ∀ w', S w' ↔ (w'.cell? ⟨w.heap.size, 0, none⟩ = some (.int .i64 dx) ∧ w'.cell? ⟨w.heap.size, 1, none⟩ = some (.int .i64 dy) ∧ w'.cell? ⟨w.heap.size, 2, none⟩ = some (.int .i64 dz)) := ⟨_, fun _ => Iff.rfl⟩
  have HSp : Hid (∀ w' : World, Bk w' (w.heap.size) #[.int .i64 dx, .int .i64 dy, .int .i64 dz] 27 → S w') := Lib.hid (fun w' bHD => (hSd w').2 ⟨bHD.cell 0 rfl, bHD.cell 1 rfl, bHD.cell 2 rfl⟩)
  have HSd := Lib.hid hSd
  clear hSd
  refine wp_region_held_drew (S := S) (by kernel_rfl) ?_ (fun hH => ?_)
  · exact (HSp.out _ bHD : S (World.drew W0))
  clear hH
  generalize hX : World.drew W0 = U1_0
  replace bHD : Bk U1_0 (w.heap.size) #[.int .i64 dx, .int .i64 dy, .int .i64 dz] 27 := by rw [← hX]; exact bHD
  have hb : Below W0.heap.size W0 U1_0 := by rw [← hX]; exact (Below.refl _ _).drew
  clear hX
  replace Hzs := Lib.hid (Hzs.out.on hb)
  have qq1 := hb.size
  replace HB := Lib.hid (bel_end HB.out hb)
  clear hb
  have hS := HSp.out _ bHD
  refine wpAnyH_take (i := 0) (oi := { dst := some 23, op := Go.Op.move (Go.Operand.tmp 0), type := 22, pos := "exact.go:3733", after := #[], guard := none }) (v := ?_) rfl (by kernel_rfl) (by kernel_rfl) (by kernel_rfl) (fun _ _ _ h => h) (Or.inl ⟨by rfl, ?_⟩) hS ?_
  rotate_left
  · (intro w hSw; have hSw := (HSd.out w).1 hSw; go_split_ands; go_simp) <;> with_reducible rfl
  clear hS
  try simp only [Act.put, List.setIfInBounds_toArray, List.set_cons_zero, List.set_cons_succ]
  have hS := HSp.out _ bHD
  refine wpAnyH_take (i := 2) (oi := { dst := some 25, op := Go.Op.load 27 (Go.Operand.tmp 5), type := 27, pos := "exact.go:3733", after := #[], guard := none }) (v := ?_) rfl (by kernel_rfl) (by kernel_rfl) (by kernel_rfl) (fun _ _ _ h => h) (Or.inl ⟨by rfl, ?_⟩) hS ?_
  rotate_left
  · (intro w hSw; have hSw := (HSd.out w).1 hSw; go_split_ands; go_simp) <;> with_reducible rfl
  clear hS
  try simp only [Act.put, List.setIfInBounds_toArray, List.set_cons_zero, List.set_cons_succ]
  have hS := HSp.out _ bHD
  refine wpAnyH_take (i := 4) (oi := { dst := some 27, op := Go.Op.move (Go.Operand.tmp 2), type := 2, pos := "exact.go:3733", after := #[], guard := none }) (v := ?_) rfl (by kernel_rfl) (by kernel_rfl) (by kernel_rfl) (fun _ _ _ h => h) (Or.inl ⟨by rfl, ?_⟩) hS ?_
  rotate_left
  · (intro w hSw; have hSw := (HSd.out w).1 hSw; go_split_ands; go_simp) <;> with_reducible rfl
  clear hS
  try simp only [Act.put, List.setIfInBounds_toArray, List.set_cons_zero, List.set_cons_succ]
  have hS := HSp.out _ bHD
  refine wpAnyH_take (i := 5) (oi := { dst := some 28, op := Go.Op.move (Go.Operand.tmp 3), type := 2, pos := "exact.go:3733", after := #[], guard := none }) (v := ?_) rfl (by kernel_rfl) (by kernel_rfl) (by kernel_rfl) (fun _ _ _ h => h) (Or.inl ⟨by rfl, ?_⟩) hS ?_
  rotate_left
  · (intro w hSw; have hSw := (HSd.out w).1 hSw; go_split_ands; go_simp) <;> with_reducible rfl
  clear hS
  try simp only [Act.put, List.setIfInBounds_toArray, List.set_cons_zero, List.set_cons_succ]
  refine wpAnyH_ready (rs := [1]) (by kernel_rfl) (by simp) ?_
  refine AllReadyH.cons (o := { dst := some 24, op := Go.Op.call { callee := Go.Callee.value (Go.Operand.func 10), args := #[Go.Operand.tmp 23], argTypes := #[22] }, type := 22, pos := "exact.go:3733", after := #[{ on := 0, ground := Go.Ground.data }], guard := none }) rfl (fun Kn hK => ?_) AllReadyH.nil
  first | go_at_call 10 | (go_simp; go_at_call 10)
  refine (to_any _ _ _ zs (by omega) Hzs.out.ints).mono ?_
  rintro e U1_1 ⟨gg2, rfl, hg, hr, hb⟩
  have Szs := Lib.hid (ownA_new hr hg (by omega))
  clear hr hg
  try dsimp only
  try simp only [Act.put, List.setIfInBounds_toArray, List.set_cons_zero, List.set_cons_succ]
  replace bHD := bHD.on hb
  replace Hzs := Lib.hid (Hzs.out.on hb)
  have qq3 := hb.size
  replace HB := Lib.hid (bel_end HB.out hb)
  clear hb
  refine hK.out _ _ (HSp.out _ bHD) (fun _ => ?_)
  clear hK Kn
  refine wpAnyH_ready (rs := [3]) (by kernel_rfl) (by simp) ?_
  refine AllReadyH.cons (o := { dst := some 26, op := Go.Op.call { callee := Go.Callee.value (Go.Operand.func 14), args := #[Go.Operand.tmp 25], argTypes := #[27] }, type := 30, pos := "exact.go:3733", after := #[{ on := 2, ground := Go.Ground.data }, { on := 1, ground := Go.Ground.chain }], guard := none }) rfl (fun Kn hK => ?_) AllReadyH.nil
  first | go_at_call 14 | (go_simp; go_at_call 14)
  (with_reducible refine Calls.mono (tod_any _ _ _ _) ?_)
  rintro e U1_2 ⟨rfl, hb⟩
  try dsimp only
  try simp only [Act.put, List.setIfInBounds_toArray, List.set_cons_zero, List.set_cons_succ]
  replace bHD := bHD.on hb
  replace Hzs := Lib.hid (Hzs.out.on hb)
  replace Szs := Lib.hid (Szs.out.on hb)
  have qq4 := hb.size
  replace HB := Lib.hid (bel_end HB.out hb)
  clear hb
  refine hK.out _ _ (HSp.out _ bHD) (fun _ => ?_)
  clear hK Kn
  refine wpAnyH_ready (rs := [6]) (by kernel_rfl) (by simp) ?_
  refine AllReadyH.cons (o := { dst := some 29, op := Go.Op.call { callee := Go.Callee.value (Go.Operand.func 13), args := #[Go.Operand.tmp 24, Go.Operand.tmp 26, Go.Operand.tmp 27, Go.Operand.tmp 28], argTypes := #[22, 30, 2, 2] }, type := 28, pos := "exact.go:3733", after := #[{ on := 1, ground := Go.Ground.data }, { on := 3, ground := Go.Ground.data }, { on := 4, ground := Go.Ground.data }, { on := 5, ground := Go.Ground.data }, { on := 3, ground := Go.Ground.chain }], guard := none }) rfl (fun Kn hK => ?_) AllReadyH.nil
  first | go_at_call 13 | (go_simp; go_at_call 13)
  (with_reducible refine Calls.mono (S1.out _ _ _ Szs.out.ints) ?_)
  rintro e U1_3 ⟨RSa, RSc, rfl, ho, hb⟩
  have RS := Lib.hid ho
  clear ho
  try dsimp only
  try simp only [Act.put, List.setIfInBounds_toArray, List.set_cons_zero, List.set_cons_succ]
  replace bHD := bHD.on hb
  replace Hzs := Lib.hid (Hzs.out.on hb)
  replace Szs := Lib.hid (Szs.out.on hb)
  have qq5 := hb.size
  replace HB := Lib.hid (bel_end HB.out hb)
  clear hb
  refine hK.out _ _ (HSp.out _ bHD) (fun _ => ?_)
  clear hK Kn
  have hS := HSp.out _ bHD
  refine wpAnyH_take (i := 7) (oi := { dst := some 22, op := Go.Op.move (Go.Operand.tmp 29), type := 28, pos := "exact.go:3733", after := #[{ on := 6, ground := Go.Ground.data }], guard := none }) (v := ?_) rfl (by kernel_rfl) (by kernel_rfl) (by kernel_rfl) (fun _ _ _ h => h) (Or.inl ⟨by rfl, ?_⟩) hS ?_
  rotate_left
  · (intro w hSw; have hSw := (HSd.out w).1 hSw; go_split_ands; go_simp) <;> with_reducible rfl
  clear hS
  try simp only [Act.put, List.setIfInBounds_toArray, List.set_cons_zero, List.set_cons_succ]
  have hS := HSp.out _ bHD
  refine wpAnyH_take (i := 8) (oi := { dst := some 30, op := Go.Op.extract (Go.Operand.tmp 22) 0, type := 22, pos := "exact.go:3733", after := #[{ on := 7, ground := Go.Ground.data }], guard := none }) (v := ?_) rfl (by kernel_rfl) (by kernel_rfl) (by kernel_rfl) (fun _ _ _ h => h) (Or.inl ⟨by rfl, ?_⟩) hS ?_
  rotate_left
  · (intro w hSw; have hSw := (HSd.out w).1 hSw; go_split_ands; go_simp) <;> with_reducible rfl
  clear hS
  try simp only [Act.put, List.setIfInBounds_toArray, List.set_cons_zero, List.set_cons_succ]
  have hS := HSp.out _ bHD
  refine wpAnyH_take (i := 9) (oi := { dst := some 31, op := Go.Op.extract (Go.Operand.tmp 22) 1, type := 2, pos := "exact.go:3733", after := #[{ on := 7, ground := Go.Ground.data }, { on := 10, ground := Go.Ground.gcOnly Go.Departure.lateStores }], guard := none }) (v := ?_) rfl (by kernel_rfl) (by kernel_rfl) (by kernel_rfl) (fun _ _ _ h => h) (Or.inl ⟨by rfl, ?_⟩) hS ?_
  rotate_left
  · (intro w hSw; have hSw := (HSd.out w).1 hSw; go_split_ands; go_simp) <;> with_reducible rfl
  clear hS
  try simp only [Act.put, List.setIfInBounds_toArray, List.set_cons_zero, List.set_cons_succ]
  have hS := HSp.out _ bHD
  refine wpAnyH_take (i := 10) (oi := { dst := some 9, op := Go.Op.assign (Go.Operand.tmp 30), type := 22, pos := "exact.go:3733", after := #[{ on := 8, ground := Go.Ground.data }, { on := 6, ground := Go.Ground.chain }, { on := 0, ground := Go.Ground.phase }, { on := 1, ground := Go.Ground.phase }, { on := 2, ground := Go.Ground.phase }, { on := 3, ground := Go.Ground.phase }, { on := 4, ground := Go.Ground.phase }, { on := 5, ground := Go.Ground.phase }, { on := 6, ground := Go.Ground.phase }, { on := 7, ground := Go.Ground.phase }, { on := 8, ground := Go.Ground.phase }, { on := 9, ground := Go.Ground.textOnly Go.Departure.lateStores }], guard := none }) (v := ?_) rfl (by kernel_rfl) (by kernel_rfl) (by kernel_rfl) (fun _ _ _ h => h) (Or.inl ⟨by rfl, ?_⟩) hS ?_
  rotate_left
  · (intro w hSw; have hSw := (HSd.out w).1 hSw; go_split_ands; go_simp) <;> with_reducible rfl
  clear hS
  try simp only [Act.put, List.setIfInBounds_toArray, List.set_cons_zero, List.set_cons_succ]
  have hS := HSp.out _ bHD
  refine wpAnyH_take (i := 11) (oi := { dst := some 10, op := Go.Op.assign (Go.Operand.tmp 31), type := 2, pos := "exact.go:3733", after := #[{ on := 9, ground := Go.Ground.data }, { on := 10, ground := Go.Ground.chain }, { on := 0, ground := Go.Ground.phase }, { on := 1, ground := Go.Ground.phase }, { on := 2, ground := Go.Ground.phase }, { on := 3, ground := Go.Ground.phase }, { on := 4, ground := Go.Ground.phase }, { on := 5, ground := Go.Ground.phase }, { on := 6, ground := Go.Ground.phase }, { on := 7, ground := Go.Ground.phase }, { on := 8, ground := Go.Ground.phase }, { on := 9, ground := Go.Ground.phase }, { on := 10, ground := Go.Ground.phase }], guard := none }) (v := ?_) rfl (by kernel_rfl) (by kernel_rfl) (by kernel_rfl) (fun _ _ _ h => h) (Or.inl ⟨by rfl, ?_⟩) hS ?_
  rotate_left
  · (intro w hSw; have hSw := (HSd.out w).1 hSw; go_split_ands; go_simp) <;> with_reducible rfl
  clear hS
  try simp only [Act.put, List.setIfInBounds_toArray, List.set_cons_zero, List.set_cons_succ]
  refine wpAnyH_done (by kernel_rfl) ?_ _
  replace HD := Lib.hid bHD
  clear bHD
  clear Szs
  go_wp2_with fail
  refine (to_any _ _ _ zs (by omega) Hzs.out.ints).mono ?_
  rintro e w1 ⟨g1, rfl, hg, hr, hb⟩
  replace Hzs := Lib.hid (Hzs.out.on hb)
  replace HD := Lib.hid (HD.out.on hb)
  replace RS := Lib.hid (RS.out.on hb)
  replace HB := Lib.hid (bel_end HB.out hb)
  have q1 := hb.size
  have Xzs := Lib.hid (ownA_new hr hg (by omega))
  clear hb hg hr
  have cHD0 := HD.out.cell 0 rfl
  have cHD1 := HD.out.cell 1 rfl
  have cHD2 := HD.out.cell 2 rfl
  have cHDl := HD.out.lt
  go_wp2_with fail
  refine (tod_any _ _ _ _).mono ?_
  rintro e w2 ⟨rfl, hb⟩
  replace Hzs := Lib.hid (Hzs.out.on hb)
  replace HD := Lib.hid (HD.out.on hb)
  replace RS := Lib.hid (RS.out.on hb)
  replace Xzs := Lib.hid (Xzs.out.on hb)
  replace HB := Lib.hid (bel_end HB.out hb)
  have q2 := hb.size
  clear hb
  clear cHD0 cHD1 cHD2 cHDl
  go_wp2_with fail
  refine (S2.out _ _ _ Xzs.out.ints).mono ?_
  rintro e w3 ⟨RGa, RGc, rfl, ho, hb⟩
  replace Hzs := Lib.hid (Hzs.out.on hb)
  replace HD := Lib.hid (HD.out.on hb)
  replace RS := Lib.hid (RS.out.on hb)
  replace Xzs := Lib.hid (Xzs.out.on hb)
  replace HB := Lib.hid (bel_end HB.out hb)
  have q3 := hb.size
  have RG := Lib.hid ho
  clear ho hb
  go_wp2_with fail
  refine (eql_any _ _ _ _ _ LL (by omega) RG.out.ints RS.out.ints).mono ?_
  rintro e w4 ⟨rfl, hb⟩
  replace Hzs := Lib.hid (Hzs.out.on hb)
  replace HD := Lib.hid (HD.out.on hb)
  replace RS := Lib.hid (RS.out.on hb)
  replace Xzs := Lib.hid (Xzs.out.on hb)
  replace RG := Lib.hid (RG.out.on hb)
  replace HB := Lib.hid (bel_end HB.out hb)
  have q4 := hb.size
  clear hb
  go_wp2_with fail
  refine (to_any _ _ _ zs (by omega) Hzs.out.ints).mono ?_
  rintro e w5 ⟨g5, rfl, hg, hr, hb⟩
  replace Hzs := Lib.hid (Hzs.out.on hb)
  replace HD := Lib.hid (HD.out.on hb)
  replace RS := Lib.hid (RS.out.on hb)
  replace Xzs := Lib.hid (Xzs.out.on hb)
  replace RG := Lib.hid (RG.out.on hb)
  replace HB := Lib.hid (bel_end HB.out hb)
  have q5 := hb.size
  have Czs := Lib.hid (ownA_new hr hg (by omega))
  clear hb hg hr
  go_wp2_with fail
  refine (eql_any _ _ _ _ _ zs (by omega) Xzs.out.ints Czs.out.ints).mono ?_
  rintro e w6 ⟨rfl, hb⟩
  replace Hzs := Lib.hid (Hzs.out.on hb)
  replace HD := Lib.hid (HD.out.on hb)
  replace RS := Lib.hid (RS.out.on hb)
  replace Xzs := Lib.hid (Xzs.out.on hb)
  replace RG := Lib.hid (RG.out.on hb)
  replace Czs := Lib.hid (Czs.out.on hb)
  replace HB := Lib.hid (bel_end HB.out hb)
  have q6 := hb.size
  clear hb
  clear Czs
  go_wp2_with fail
  refine (mka_any _ _ _ _ _ zs 1 Xzs.out (by omega) (by omega) (by omega)).mono ?_
  rintro e w7 ⟨rfl, ho, hk⟩
  replace Hzs := Lib.hid (Hzs.out.kept hk (by omega) (by omega))
  replace HD := Lib.hid (HD.out.keptP hk (by omega))
  replace RS := Lib.hid (RS.out.kept hk (by omega))
  replace RG := Lib.hid (RG.out.kept hk (by omega))
  replace HB := Lib.hid (HB.out.trans ((hk.below (by omega)).mono (by omega)))
  replace Xzs := Lib.hid ho
  have q7 := hk.size
  clear ho hk
  clear Xzs
  go_wp2_with fail
  refine (eql_any _ _ _ _ _ LL (by omega) RG.out.ints RS.out.ints).mono ?_
  rintro e w8 ⟨rfl, hb⟩
  replace Hzs := Lib.hid (Hzs.out.on hb)
  replace HD := Lib.hid (HD.out.on hb)
  replace RS := Lib.hid (RS.out.on hb)
  replace RG := Lib.hid (RG.out.on hb)
  replace HB := Lib.hid (bel_end HB.out hb)
  have q8 := hb.size
  clear hb
  go_wp2_with fail
  refine (mka_any _ _ _ _ _ LL 1 RG.out (by omega) (by omega) (by omega)).mono ?_
  rintro e w9 ⟨rfl, ho, hk⟩
  replace Hzs := Lib.hid (Hzs.out.kept hk (by omega) (by omega))
  replace HD := Lib.hid (HD.out.keptP hk (by omega))
  replace RS := Lib.hid (RS.out.kept hk (by omega))
  replace HB := Lib.hid (HB.out.trans ((hk.below (by omega)).mono (by omega)))
  replace RG := Lib.hid ho
  have q9 := hk.size
  clear ho hk
  go_wp2_with fail
  refine (hdi_any _ _ _ _ LL.length 1 RG.out.ints (by omega) (by omega) (by omega)).mono ?_
  rintro e w_ ⟨rfl, rfl⟩
  go_wp2_with fail
  have bHD := HD.out
  obtain ⟨S, hSd⟩ : ∃ S : World → Prop, ∀ w', S w' ↔ (w'.cell? ⟨w.heap.size, 0, none⟩ = some (.int .i64 dx) ∧ w'.cell? ⟨w.heap.size, 1, none⟩ = some (.int .i64 dy) ∧ w'.cell? ⟨w.heap.size, 2, none⟩ = some (.int .i64 dz)) := ⟨_, fun _ => Iff.rfl⟩
  have HSp : Hid (∀ w' : World, Bk w' (w.heap.size) #[.int .i64 dx, .int .i64 dy, .int .i64 dz] 27 → S w') := Lib.hid (fun w' bHD => (hSd w').2 ⟨bHD.cell 0 rfl, bHD.cell 1 rfl, bHD.cell 2 rfl⟩)
  have HSd := Lib.hid hSd
  clear hSd
  refine wp_region_held_drew (S := S) (by kernel_rfl) ?_ (fun hH => ?_)
  · exact (HSp.out _ bHD : S (World.drew w9))
  clear hH
  generalize hX : World.drew w9 = U2_0
  replace bHD : Bk U2_0 (w.heap.size) #[.int .i64 dx, .int .i64 dy, .int .i64 dz] 27 := by rw [← hX]; exact bHD
  have hb : Below w9.heap.size w9 U2_0 := by rw [← hX]; exact (Below.refl _ _).drew
  clear hX
  replace Hzs := Lib.hid (Hzs.out.on hb)
  replace RS := Lib.hid (RS.out.on hb)
  replace RG := Lib.hid (RG.out.on hb)
  have qq6 := hb.size
  replace HB := Lib.hid (bel_end HB.out hb)
  clear hb
  have hS := HSp.out _ bHD
  refine wpAnyH_take (i := 0) (oi := { dst := some 85, op := Go.Op.move (Go.Operand.tmp 0), type := 22, pos := "exact.go:3757", after := #[], guard := none }) (v := ?_) rfl (by kernel_rfl) (by kernel_rfl) (by kernel_rfl) (fun _ _ _ h => h) (Or.inl ⟨by rfl, ?_⟩) hS ?_
  rotate_left
  · (intro w hSw; have hSw := (HSd.out w).1 hSw; go_split_ands; go_simp) <;> with_reducible rfl
  clear hS
  try simp only [Act.put, List.setIfInBounds_toArray, List.set_cons_zero, List.set_cons_succ]
  have hS := HSp.out _ bHD
  refine wpAnyH_take (i := 2) (oi := { dst := some 87, op := Go.Op.load 27 (Go.Operand.tmp 5), type := 27, pos := "exact.go:3757", after := #[], guard := none }) (v := ?_) rfl (by kernel_rfl) (by kernel_rfl) (by kernel_rfl) (fun _ _ _ h => h) (Or.inl ⟨by rfl, ?_⟩) hS ?_
  rotate_left
  · (intro w hSw; have hSw := (HSd.out w).1 hSw; go_split_ands; go_simp) <;> with_reducible rfl
  clear hS
  try simp only [Act.put, List.setIfInBounds_toArray, List.set_cons_zero, List.set_cons_succ]
  have hS := HSp.out _ bHD
  refine wpAnyH_take (i := 4) (oi := { dst := some 89, op := Go.Op.move (Go.Operand.tmp 2), type := 2, pos := "exact.go:3757", after := #[], guard := none }) (v := ?_) rfl (by kernel_rfl) (by kernel_rfl) (by kernel_rfl) (fun _ _ _ h => h) (Or.inl ⟨by rfl, ?_⟩) hS ?_
  rotate_left
  · (intro w hSw; have hSw := (HSd.out w).1 hSw; go_split_ands; go_simp) <;> with_reducible rfl
  clear hS
  try simp only [Act.put, List.setIfInBounds_toArray, List.set_cons_zero, List.set_cons_succ]
  have hS := HSp.out _ bHD
  refine wpAnyH_take (i := 5) (oi := { dst := some 90, op := Go.Op.move (Go.Operand.tmp 3), type := 2, pos := "exact.go:3757", after := #[], guard := none }) (v := ?_) rfl (by kernel_rfl) (by kernel_rfl) (by kernel_rfl) (fun _ _ _ h => h) (Or.inl ⟨by rfl, ?_⟩) hS ?_
  rotate_left
  · (intro w hSw; have hSw := (HSd.out w).1 hSw; go_split_ands; go_simp) <;> with_reducible rfl
  clear hS
  try simp only [Act.put, List.setIfInBounds_toArray, List.set_cons_zero, List.set_cons_succ]
  refine wpAnyH_ready (rs := [1]) (by kernel_rfl) (by simp) ?_
  refine AllReadyH.cons (o := { dst := some 86, op := Go.Op.call { callee := Go.Callee.value (Go.Operand.func 10), args := #[Go.Operand.tmp 85], argTypes := #[22] }, type := 22, pos := "exact.go:3757", after := #[{ on := 0, ground := Go.Ground.data }], guard := none }) rfl (fun Kn hK => ?_) AllReadyH.nil
  first | go_at_call 10 | (go_simp; go_at_call 10)
  refine (to_any _ _ _ zs (by omega) Hzs.out.ints).mono ?_
  rintro e U2_1 ⟨gg7, rfl, hg, hr, hb⟩
  have Yzs := Lib.hid (ownA_new hr hg (by omega))
  clear hr hg
  try dsimp only
  try simp only [Act.put, List.setIfInBounds_toArray, List.set_cons_zero, List.set_cons_succ]
  replace bHD := bHD.on hb
  replace Hzs := Lib.hid (Hzs.out.on hb)
  replace RS := Lib.hid (RS.out.on hb)
  replace RG := Lib.hid (RG.out.on hb)
  have qq8 := hb.size
  replace HB := Lib.hid (bel_end HB.out hb)
  clear hb
  refine hK.out _ _ (HSp.out _ bHD) (fun _ => ?_)
  clear hK Kn
  refine wpAnyH_ready (rs := [3]) (by kernel_rfl) (by simp) ?_
  refine AllReadyH.cons (o := { dst := some 88, op := Go.Op.call { callee := Go.Callee.value (Go.Operand.func 14), args := #[Go.Operand.tmp 87], argTypes := #[27] }, type := 30, pos := "exact.go:3757", after := #[{ on := 2, ground := Go.Ground.data }, { on := 1, ground := Go.Ground.chain }], guard := none }) rfl (fun Kn hK => ?_) AllReadyH.nil
  first | go_at_call 14 | (go_simp; go_at_call 14)
  (with_reducible refine Calls.mono (tod_any _ _ _ _) ?_)
  rintro e U2_2 ⟨rfl, hb⟩
  try dsimp only
  try simp only [Act.put, List.setIfInBounds_toArray, List.set_cons_zero, List.set_cons_succ]
  replace bHD := bHD.on hb
  replace Hzs := Lib.hid (Hzs.out.on hb)
  replace RS := Lib.hid (RS.out.on hb)
  replace RG := Lib.hid (RG.out.on hb)
  replace Yzs := Lib.hid (Yzs.out.on hb)
  have qq9 := hb.size
  replace HB := Lib.hid (bel_end HB.out hb)
  clear hb
  refine hK.out _ _ (HSp.out _ bHD) (fun _ => ?_)
  clear hK Kn
  refine wpAnyH_ready (rs := [6]) (by kernel_rfl) (by simp) ?_
  refine AllReadyH.cons (o := { dst := some 91, op := Go.Op.call { callee := Go.Callee.value (Go.Operand.func 15), args := #[Go.Operand.tmp 86, Go.Operand.tmp 88, Go.Operand.tmp 89, Go.Operand.tmp 90], argTypes := #[22, 30, 2, 2] }, type := 28, pos := "exact.go:3757", after := #[{ on := 1, ground := Go.Ground.data }, { on := 3, ground := Go.Ground.data }, { on := 4, ground := Go.Ground.data }, { on := 5, ground := Go.Ground.data }, { on := 3, ground := Go.Ground.chain }], guard := none }) rfl (fun Kn hK => ?_) AllReadyH.nil
  first | go_at_call 15 | (go_simp; go_at_call 15)
  (with_reducible refine Calls.mono (S2.out _ _ _ Yzs.out.ints) ?_)
  rintro e U2_3 ⟨RHa, RHc, rfl, ho, hb⟩
  have RH := Lib.hid ho
  clear ho
  try dsimp only
  try simp only [Act.put, List.setIfInBounds_toArray, List.set_cons_zero, List.set_cons_succ]
  replace bHD := bHD.on hb
  replace Hzs := Lib.hid (Hzs.out.on hb)
  replace RS := Lib.hid (RS.out.on hb)
  replace RG := Lib.hid (RG.out.on hb)
  replace Yzs := Lib.hid (Yzs.out.on hb)
  have qq10 := hb.size
  replace HB := Lib.hid (bel_end HB.out hb)
  clear hb
  refine hK.out _ _ (HSp.out _ bHD) (fun _ => ?_)
  clear hK Kn
  have hS := HSp.out _ bHD
  refine wpAnyH_take (i := 7) (oi := { dst := some 84, op := Go.Op.move (Go.Operand.tmp 91), type := 28, pos := "exact.go:3757", after := #[{ on := 6, ground := Go.Ground.data }], guard := none }) (v := ?_) rfl (by kernel_rfl) (by kernel_rfl) (by kernel_rfl) (fun _ _ _ h => h) (Or.inl ⟨by rfl, ?_⟩) hS ?_
  rotate_left
  · (intro w hSw; have hSw := (HSd.out w).1 hSw; go_split_ands; go_simp) <;> with_reducible rfl
  clear hS
  try simp only [Act.put, List.setIfInBounds_toArray, List.set_cons_zero, List.set_cons_succ]
  have hS := HSp.out _ bHD
  refine wpAnyH_take (i := 8) (oi := { dst := some 92, op := Go.Op.extract (Go.Operand.tmp 84) 0, type := 22, pos := "exact.go:3757", after := #[{ on := 7, ground := Go.Ground.data }], guard := none }) (v := ?_) rfl (by kernel_rfl) (by kernel_rfl) (by kernel_rfl) (fun _ _ _ h => h) (Or.inl ⟨by rfl, ?_⟩) hS ?_
  rotate_left
  · (intro w hSw; have hSw := (HSd.out w).1 hSw; go_split_ands; go_simp) <;> with_reducible rfl
  clear hS
  try simp only [Act.put, List.setIfInBounds_toArray, List.set_cons_zero, List.set_cons_succ]
  have hS := HSp.out _ bHD
  refine wpAnyH_take (i := 9) (oi := { dst := some 93, op := Go.Op.extract (Go.Operand.tmp 84) 1, type := 2, pos := "exact.go:3757", after := #[{ on := 7, ground := Go.Ground.data }, { on := 10, ground := Go.Ground.gcOnly Go.Departure.lateStores }], guard := none }) (v := ?_) rfl (by kernel_rfl) (by kernel_rfl) (by kernel_rfl) (fun _ _ _ h => h) (Or.inl ⟨by rfl, ?_⟩) hS ?_
  rotate_left
  · (intro w hSw; have hSw := (HSd.out w).1 hSw; go_split_ands; go_simp) <;> with_reducible rfl
  clear hS
  try simp only [Act.put, List.setIfInBounds_toArray, List.set_cons_zero, List.set_cons_succ]
  have hS := HSp.out _ bHD
  refine wpAnyH_take (i := 10) (oi := { dst := some 17, op := Go.Op.assign (Go.Operand.tmp 92), type := 22, pos := "exact.go:3757", after := #[{ on := 8, ground := Go.Ground.data }, { on := 6, ground := Go.Ground.chain }, { on := 0, ground := Go.Ground.phase }, { on := 1, ground := Go.Ground.phase }, { on := 2, ground := Go.Ground.phase }, { on := 3, ground := Go.Ground.phase }, { on := 4, ground := Go.Ground.phase }, { on := 5, ground := Go.Ground.phase }, { on := 6, ground := Go.Ground.phase }, { on := 7, ground := Go.Ground.phase }, { on := 8, ground := Go.Ground.phase }, { on := 9, ground := Go.Ground.textOnly Go.Departure.lateStores }], guard := none }) (v := ?_) rfl (by kernel_rfl) (by kernel_rfl) (by kernel_rfl) (fun _ _ _ h => h) (Or.inl ⟨by rfl, ?_⟩) hS ?_
  rotate_left
  · (intro w hSw; have hSw := (HSd.out w).1 hSw; go_split_ands; go_simp) <;> with_reducible rfl
  clear hS
  try simp only [Act.put, List.setIfInBounds_toArray, List.set_cons_zero, List.set_cons_succ]
  have hS := HSp.out _ bHD
  refine wpAnyH_take (i := 11) (oi := { dst := some 18, op := Go.Op.assign (Go.Operand.tmp 93), type := 2, pos := "exact.go:3757", after := #[{ on := 9, ground := Go.Ground.data }, { on := 10, ground := Go.Ground.chain }, { on := 0, ground := Go.Ground.phase }, { on := 1, ground := Go.Ground.phase }, { on := 2, ground := Go.Ground.phase }, { on := 3, ground := Go.Ground.phase }, { on := 4, ground := Go.Ground.phase }, { on := 5, ground := Go.Ground.phase }, { on := 6, ground := Go.Ground.phase }, { on := 7, ground := Go.Ground.phase }, { on := 8, ground := Go.Ground.phase }, { on := 9, ground := Go.Ground.phase }, { on := 10, ground := Go.Ground.phase }], guard := none }) (v := ?_) rfl (by kernel_rfl) (by kernel_rfl) (by kernel_rfl) (fun _ _ _ h => h) (Or.inl ⟨by rfl, ?_⟩) hS ?_
  rotate_left
  · (intro w hSw; have hSw := (HSd.out w).1 hSw; go_split_ands; go_simp) <;> with_reducible rfl
  clear hS
  try simp only [Act.put, List.setIfInBounds_toArray, List.set_cons_zero, List.set_cons_succ]
  refine wpAnyH_done (by kernel_rfl) ?_ _
  replace HD := Lib.hid bHD
  clear bHD
  clear Yzs
  go_wp2_with fail
  refine (eql_any _ _ _ _ _ LL (by omega) RH.out.ints RS.out.ints).mono ?_
  rintro e w10 ⟨rfl, hb⟩
  replace Hzs := Lib.hid (Hzs.out.on hb)
  replace HD := Lib.hid (HD.out.on hb)
  replace RS := Lib.hid (RS.out.on hb)
  replace RG := Lib.hid (RG.out.on hb)
  replace RH := Lib.hid (RH.out.on hb)
  replace HB := Lib.hid (bel_end HB.out hb)
  have q10 := hb.size
  clear hb
  clear RH
  go_wp2_with fail
  refine (hdi_any _ _ _ _ LL.length 1 RG.out.ints (by omega) (by omega) (by omega)).mono ?_
  rintro e w_ ⟨rfl, rfl⟩
  go_wp2
  go_ret
  exact ⟨rfl, HB.out⟩

set_option maxRecDepth 100000 in
set_option maxHeartbeats 8000000 in
theorem ldle (a0 : Option Addr) (len0 cap0 : Nat) (z0 : List Int) (dx dy dz r v : Int) (w : World) (w0 : IsRow .i64 w a0 len0 cap0 z0) (w2 : (Lit.int .i64 r).wf = true) (w3 : (Lit.int .i64 v).wf = true) :
    Calls Try.prog 5 #[.slice a0 len0 cap0, .agg #[.int .i64 dx, .int .i64 dy, .int .i64 dz], .int .i64 r, .int .i64 v] w fun e w' => e = .returned (.bool true) ∧ Below w.heap.size w w' := by
  obtain ⟨hm0, hlen, hz0, -⟩ := Ints.of_row w0
  obtain ⟨zs, hzs⟩ : ∃ zs, z0.take len0 = zs := ⟨_, rfl⟩
  rw [hzs] at hz0 hlen
  subst hlen
  clear hzs w0
  clear w2 w3
  have Hzs := Lib.hid (IntL.of hz0)
  clear hz0
  have HB := Lib.hid (Below.refl w.heap.size w)
  by_cases hbzs : 1048576 < zs.length
  · go_enter Try.func5, Try.ntmps5
    go_wp2
    go_ret
    exact ⟨rfl, (by repeat (first | exact Below.refl _ _ | (refine Below.alloc ?_ (by simp <;> omega) _) | (refine Below.setCell ?_ (by simp <;> omega) _) | (refine Below.drew ?_) | (refine bel_drewN ?_ _)))⟩
  have l12 := deR_len zs dx dy dz r v
  obtain ⟨LL, hL⟩ : ∃ u, deR zs dx dy dz r v = u := ⟨_, rfl⟩
  rw [hL] at l12
  obtain ⟨qq, hqq⟩ : ∃ u, arC zs dx dy dz r v = u := ⟨_, rfl⟩
  have S1 : Hid (∀ (W : World) (a : Option Addr) (c : Nat), Ints .i64 W W.heap.size a zs → Calls Try.prog 18 #[.slice a zs.length c, .agg #[.int .i64 dx, .int .i64 dy, .int .i64 dz], .int .i64 r, .int .i64 v] W fun e w' => ∃ (b : Option Addr) (d : Nat), e = .returned (.tuple #[.slice b LL.length d, .int .i64 qq]) ∧ OwnA w' W.heap.size w'.heap.size b d LL ∧ Below W.heap.size W w') := Lib.hid (fun W a c hz => by have := sde11_any W a c zs dx dy dz r v (by omega) hz; rwa [hL, hqq] at this)
  have S2 : Hid (∀ (W : World) (a : Option Addr) (c : Nat), Ints .i64 W W.heap.size a zs → Calls Try.prog 19 #[.slice a zs.length c, .agg #[.int .i64 dx, .int .i64 dy, .int .i64 dz], .int .i64 r, .int .i64 v] W fun e w' => ∃ (b : Option Addr) (d : Nat), e = .returned (.tuple #[.slice b LL.length d, .int .i64 qq]) ∧ OwnA w' W.heap.size w'.heap.size b d LL ∧ Below W.heap.size W w') := Lib.hid (fun W a c hz => by have := ide11_any W a c zs dx dy dz r v (by omega) hz; rwa [hL, hqq] at this)
  clear hL hqq
  go_enter Try.func5, Try.ntmps5
  go_wp2_with fail
  generalize hW : World.alloc _ _ = W0
  have HD_ : Bk W0 (w.heap.size) #[.int .i64 dx, .int .i64 dy, .int .i64 dz] 27 := by rw [← hW]; repeat (first | (refine Bk.new' ?_; (simp; done)) | refine Bk.alloc ?_ _)
  have hb : Below w.heap.size w W0 := by rw [← hW]; exact (by repeat (first | exact Below.refl _ _ | (refine Below.alloc ?_ (by simp <;> omega) _) | (refine Below.setCell ?_ (by simp <;> omega) _) | (refine Below.drew ?_) | (refine bel_drewN ?_ _)))
  clear hW
  have HD := Lib.hid HD_
  have ltHD := HD_.lt
  clear HD_
  replace Hzs := Lib.hid (Hzs.out.on hb)
  replace HB := Lib.hid (bel_end HB.out hb)
  have q0 := hb.size
  clear hb
  have bHD := HD.out
  obtain ⟨S, hSd⟩ : ∃ S : World → Prop, ∀ w', S w' ↔ (w'.cell? ⟨w.heap.size, 0, none⟩ = some (.int .i64 dx) ∧ w'.cell? ⟨w.heap.size, 1, none⟩ = some (.int .i64 dy) ∧ w'.cell? ⟨w.heap.size, 2, none⟩ = some (.int .i64 dz)) := ⟨_, fun _ => Iff.rfl⟩
  have HSp : Hid (∀ w' : World, Bk w' (w.heap.size) #[.int .i64 dx, .int .i64 dy, .int .i64 dz] 27 → S w') := Lib.hid (fun w' bHD => (hSd w').2 ⟨bHD.cell 0 rfl, bHD.cell 1 rfl, bHD.cell 2 rfl⟩)
  have HSd := Lib.hid hSd
  clear hSd
  refine wp_region_held_drew (S := S) (by kernel_rfl) ?_ (fun hH => ?_)
  · exact (HSp.out _ bHD : S (World.drew W0))
  clear hH
  generalize hX : World.drew W0 = U1_0
  replace bHD : Bk U1_0 (w.heap.size) #[.int .i64 dx, .int .i64 dy, .int .i64 dz] 27 := by rw [← hX]; exact bHD
  have hb : Below W0.heap.size W0 U1_0 := by rw [← hX]; exact (Below.refl _ _).drew
  clear hX
  replace Hzs := Lib.hid (Hzs.out.on hb)
  have qq1 := hb.size
  replace HB := Lib.hid (bel_end HB.out hb)
  clear hb
  have hS := HSp.out _ bHD
  refine wpAnyH_take (i := 0) (oi := { dst := some 23, op := Go.Op.move (Go.Operand.tmp 0), type := 22, pos := "exact.go:3777", after := #[], guard := none }) (v := ?_) rfl (by kernel_rfl) (by kernel_rfl) (by kernel_rfl) (fun _ _ _ h => h) (Or.inl ⟨by rfl, ?_⟩) hS ?_
  rotate_left
  · (intro w hSw; have hSw := (HSd.out w).1 hSw; go_split_ands; go_simp) <;> with_reducible rfl
  clear hS
  try simp only [Act.put, List.setIfInBounds_toArray, List.set_cons_zero, List.set_cons_succ]
  have hS := HSp.out _ bHD
  refine wpAnyH_take (i := 2) (oi := { dst := some 25, op := Go.Op.load 27 (Go.Operand.tmp 5), type := 27, pos := "exact.go:3777", after := #[], guard := none }) (v := ?_) rfl (by kernel_rfl) (by kernel_rfl) (by kernel_rfl) (fun _ _ _ h => h) (Or.inl ⟨by rfl, ?_⟩) hS ?_
  rotate_left
  · (intro w hSw; have hSw := (HSd.out w).1 hSw; go_split_ands; go_simp) <;> with_reducible rfl
  clear hS
  try simp only [Act.put, List.setIfInBounds_toArray, List.set_cons_zero, List.set_cons_succ]
  have hS := HSp.out _ bHD
  refine wpAnyH_take (i := 4) (oi := { dst := some 27, op := Go.Op.move (Go.Operand.tmp 2), type := 2, pos := "exact.go:3777", after := #[], guard := none }) (v := ?_) rfl (by kernel_rfl) (by kernel_rfl) (by kernel_rfl) (fun _ _ _ h => h) (Or.inl ⟨by rfl, ?_⟩) hS ?_
  rotate_left
  · (intro w hSw; have hSw := (HSd.out w).1 hSw; go_split_ands; go_simp) <;> with_reducible rfl
  clear hS
  try simp only [Act.put, List.setIfInBounds_toArray, List.set_cons_zero, List.set_cons_succ]
  have hS := HSp.out _ bHD
  refine wpAnyH_take (i := 5) (oi := { dst := some 28, op := Go.Op.move (Go.Operand.tmp 3), type := 2, pos := "exact.go:3777", after := #[], guard := none }) (v := ?_) rfl (by kernel_rfl) (by kernel_rfl) (by kernel_rfl) (fun _ _ _ h => h) (Or.inl ⟨by rfl, ?_⟩) hS ?_
  rotate_left
  · (intro w hSw; have hSw := (HSd.out w).1 hSw; go_split_ands; go_simp) <;> with_reducible rfl
  clear hS
  try simp only [Act.put, List.setIfInBounds_toArray, List.set_cons_zero, List.set_cons_succ]
  refine wpAnyH_ready (rs := [1]) (by kernel_rfl) (by simp) ?_
  refine AllReadyH.cons (o := { dst := some 24, op := Go.Op.call { callee := Go.Callee.value (Go.Operand.func 10), args := #[Go.Operand.tmp 23], argTypes := #[22] }, type := 22, pos := "exact.go:3777", after := #[{ on := 0, ground := Go.Ground.data }], guard := none }) rfl (fun Kn hK => ?_) AllReadyH.nil
  first | go_at_call 10 | (go_simp; go_at_call 10)
  refine (to_any _ _ _ zs (by omega) Hzs.out.ints).mono ?_
  rintro e U1_1 ⟨gg2, rfl, hg, hr, hb⟩
  have Szs := Lib.hid (ownA_new hr hg (by omega))
  clear hr hg
  try dsimp only
  try simp only [Act.put, List.setIfInBounds_toArray, List.set_cons_zero, List.set_cons_succ]
  replace bHD := bHD.on hb
  replace Hzs := Lib.hid (Hzs.out.on hb)
  have qq3 := hb.size
  replace HB := Lib.hid (bel_end HB.out hb)
  clear hb
  refine hK.out _ _ (HSp.out _ bHD) (fun _ => ?_)
  clear hK Kn
  refine wpAnyH_ready (rs := [3]) (by kernel_rfl) (by simp) ?_
  refine AllReadyH.cons (o := { dst := some 26, op := Go.Op.call { callee := Go.Callee.value (Go.Operand.func 14), args := #[Go.Operand.tmp 25], argTypes := #[27] }, type := 30, pos := "exact.go:3777", after := #[{ on := 2, ground := Go.Ground.data }, { on := 1, ground := Go.Ground.chain }], guard := none }) rfl (fun Kn hK => ?_) AllReadyH.nil
  first | go_at_call 14 | (go_simp; go_at_call 14)
  (with_reducible refine Calls.mono (tod_any _ _ _ _) ?_)
  rintro e U1_2 ⟨rfl, hb⟩
  try dsimp only
  try simp only [Act.put, List.setIfInBounds_toArray, List.set_cons_zero, List.set_cons_succ]
  replace bHD := bHD.on hb
  replace Hzs := Lib.hid (Hzs.out.on hb)
  replace Szs := Lib.hid (Szs.out.on hb)
  have qq4 := hb.size
  replace HB := Lib.hid (bel_end HB.out hb)
  clear hb
  refine hK.out _ _ (HSp.out _ bHD) (fun _ => ?_)
  clear hK Kn
  refine wpAnyH_ready (rs := [6]) (by kernel_rfl) (by simp) ?_
  refine AllReadyH.cons (o := { dst := some 29, op := Go.Op.call { callee := Go.Callee.value (Go.Operand.func 18), args := #[Go.Operand.tmp 24, Go.Operand.tmp 26, Go.Operand.tmp 27, Go.Operand.tmp 28], argTypes := #[22, 30, 2, 2] }, type := 28, pos := "exact.go:3777", after := #[{ on := 1, ground := Go.Ground.data }, { on := 3, ground := Go.Ground.data }, { on := 4, ground := Go.Ground.data }, { on := 5, ground := Go.Ground.data }, { on := 3, ground := Go.Ground.chain }], guard := none }) rfl (fun Kn hK => ?_) AllReadyH.nil
  first | go_at_call 18 | (go_simp; go_at_call 18)
  (with_reducible refine Calls.mono (S1.out _ _ _ Szs.out.ints) ?_)
  rintro e U1_3 ⟨RSa, RSc, rfl, ho, hb⟩
  have RS := Lib.hid ho
  clear ho
  try dsimp only
  try simp only [Act.put, List.setIfInBounds_toArray, List.set_cons_zero, List.set_cons_succ]
  replace bHD := bHD.on hb
  replace Hzs := Lib.hid (Hzs.out.on hb)
  replace Szs := Lib.hid (Szs.out.on hb)
  have qq5 := hb.size
  replace HB := Lib.hid (bel_end HB.out hb)
  clear hb
  refine hK.out _ _ (HSp.out _ bHD) (fun _ => ?_)
  clear hK Kn
  have hS := HSp.out _ bHD
  refine wpAnyH_take (i := 7) (oi := { dst := some 22, op := Go.Op.move (Go.Operand.tmp 29), type := 28, pos := "exact.go:3777", after := #[{ on := 6, ground := Go.Ground.data }], guard := none }) (v := ?_) rfl (by kernel_rfl) (by kernel_rfl) (by kernel_rfl) (fun _ _ _ h => h) (Or.inl ⟨by rfl, ?_⟩) hS ?_
  rotate_left
  · (intro w hSw; have hSw := (HSd.out w).1 hSw; go_split_ands; go_simp) <;> with_reducible rfl
  clear hS
  try simp only [Act.put, List.setIfInBounds_toArray, List.set_cons_zero, List.set_cons_succ]
  have hS := HSp.out _ bHD
  refine wpAnyH_take (i := 8) (oi := { dst := some 30, op := Go.Op.extract (Go.Operand.tmp 22) 0, type := 22, pos := "exact.go:3777", after := #[{ on := 7, ground := Go.Ground.data }], guard := none }) (v := ?_) rfl (by kernel_rfl) (by kernel_rfl) (by kernel_rfl) (fun _ _ _ h => h) (Or.inl ⟨by rfl, ?_⟩) hS ?_
  rotate_left
  · (intro w hSw; have hSw := (HSd.out w).1 hSw; go_split_ands; go_simp) <;> with_reducible rfl
  clear hS
  try simp only [Act.put, List.setIfInBounds_toArray, List.set_cons_zero, List.set_cons_succ]
  have hS := HSp.out _ bHD
  refine wpAnyH_take (i := 9) (oi := { dst := some 31, op := Go.Op.extract (Go.Operand.tmp 22) 1, type := 2, pos := "exact.go:3777", after := #[{ on := 7, ground := Go.Ground.data }, { on := 10, ground := Go.Ground.gcOnly Go.Departure.lateStores }], guard := none }) (v := ?_) rfl (by kernel_rfl) (by kernel_rfl) (by kernel_rfl) (fun _ _ _ h => h) (Or.inl ⟨by rfl, ?_⟩) hS ?_
  rotate_left
  · (intro w hSw; have hSw := (HSd.out w).1 hSw; go_split_ands; go_simp) <;> with_reducible rfl
  clear hS
  try simp only [Act.put, List.setIfInBounds_toArray, List.set_cons_zero, List.set_cons_succ]
  have hS := HSp.out _ bHD
  refine wpAnyH_take (i := 10) (oi := { dst := some 9, op := Go.Op.assign (Go.Operand.tmp 30), type := 22, pos := "exact.go:3777", after := #[{ on := 8, ground := Go.Ground.data }, { on := 6, ground := Go.Ground.chain }, { on := 0, ground := Go.Ground.phase }, { on := 1, ground := Go.Ground.phase }, { on := 2, ground := Go.Ground.phase }, { on := 3, ground := Go.Ground.phase }, { on := 4, ground := Go.Ground.phase }, { on := 5, ground := Go.Ground.phase }, { on := 6, ground := Go.Ground.phase }, { on := 7, ground := Go.Ground.phase }, { on := 8, ground := Go.Ground.phase }, { on := 9, ground := Go.Ground.textOnly Go.Departure.lateStores }], guard := none }) (v := ?_) rfl (by kernel_rfl) (by kernel_rfl) (by kernel_rfl) (fun _ _ _ h => h) (Or.inl ⟨by rfl, ?_⟩) hS ?_
  rotate_left
  · (intro w hSw; have hSw := (HSd.out w).1 hSw; go_split_ands; go_simp) <;> with_reducible rfl
  clear hS
  try simp only [Act.put, List.setIfInBounds_toArray, List.set_cons_zero, List.set_cons_succ]
  have hS := HSp.out _ bHD
  refine wpAnyH_take (i := 11) (oi := { dst := some 10, op := Go.Op.assign (Go.Operand.tmp 31), type := 2, pos := "exact.go:3777", after := #[{ on := 9, ground := Go.Ground.data }, { on := 10, ground := Go.Ground.chain }, { on := 0, ground := Go.Ground.phase }, { on := 1, ground := Go.Ground.phase }, { on := 2, ground := Go.Ground.phase }, { on := 3, ground := Go.Ground.phase }, { on := 4, ground := Go.Ground.phase }, { on := 5, ground := Go.Ground.phase }, { on := 6, ground := Go.Ground.phase }, { on := 7, ground := Go.Ground.phase }, { on := 8, ground := Go.Ground.phase }, { on := 9, ground := Go.Ground.phase }, { on := 10, ground := Go.Ground.phase }], guard := none }) (v := ?_) rfl (by kernel_rfl) (by kernel_rfl) (by kernel_rfl) (fun _ _ _ h => h) (Or.inl ⟨by rfl, ?_⟩) hS ?_
  rotate_left
  · (intro w hSw; have hSw := (HSd.out w).1 hSw; go_split_ands; go_simp) <;> with_reducible rfl
  clear hS
  try simp only [Act.put, List.setIfInBounds_toArray, List.set_cons_zero, List.set_cons_succ]
  refine wpAnyH_done (by kernel_rfl) ?_ _
  replace HD := Lib.hid bHD
  clear bHD
  clear Szs
  go_wp2_with fail
  refine (to_any _ _ _ zs (by omega) Hzs.out.ints).mono ?_
  rintro e w1 ⟨g1, rfl, hg, hr, hb⟩
  replace Hzs := Lib.hid (Hzs.out.on hb)
  replace HD := Lib.hid (HD.out.on hb)
  replace RS := Lib.hid (RS.out.on hb)
  replace HB := Lib.hid (bel_end HB.out hb)
  have q1 := hb.size
  have Xzs := Lib.hid (ownA_new hr hg (by omega))
  clear hb hg hr
  have cHD0 := HD.out.cell 0 rfl
  have cHD1 := HD.out.cell 1 rfl
  have cHD2 := HD.out.cell 2 rfl
  have cHDl := HD.out.lt
  go_wp2_with fail
  refine (tod_any _ _ _ _).mono ?_
  rintro e w2 ⟨rfl, hb⟩
  replace Hzs := Lib.hid (Hzs.out.on hb)
  replace HD := Lib.hid (HD.out.on hb)
  replace RS := Lib.hid (RS.out.on hb)
  replace Xzs := Lib.hid (Xzs.out.on hb)
  replace HB := Lib.hid (bel_end HB.out hb)
  have q2 := hb.size
  clear hb
  clear cHD0 cHD1 cHD2 cHDl
  go_wp2_with fail
  refine (S2.out _ _ _ Xzs.out.ints).mono ?_
  rintro e w3 ⟨RGa, RGc, rfl, ho, hb⟩
  replace Hzs := Lib.hid (Hzs.out.on hb)
  replace HD := Lib.hid (HD.out.on hb)
  replace RS := Lib.hid (RS.out.on hb)
  replace Xzs := Lib.hid (Xzs.out.on hb)
  replace HB := Lib.hid (bel_end HB.out hb)
  have q3 := hb.size
  have RG := Lib.hid ho
  clear ho hb
  go_wp2_with fail
  refine (eql_any _ _ _ _ _ LL (by omega) RG.out.ints RS.out.ints).mono ?_
  rintro e w4 ⟨rfl, hb⟩
  replace Hzs := Lib.hid (Hzs.out.on hb)
  replace HD := Lib.hid (HD.out.on hb)
  replace RS := Lib.hid (RS.out.on hb)
  replace Xzs := Lib.hid (Xzs.out.on hb)
  replace RG := Lib.hid (RG.out.on hb)
  replace HB := Lib.hid (bel_end HB.out hb)
  have q4 := hb.size
  clear hb
  go_wp2_with fail
  refine (to_any _ _ _ zs (by omega) Hzs.out.ints).mono ?_
  rintro e w5 ⟨g5, rfl, hg, hr, hb⟩
  replace Hzs := Lib.hid (Hzs.out.on hb)
  replace HD := Lib.hid (HD.out.on hb)
  replace RS := Lib.hid (RS.out.on hb)
  replace Xzs := Lib.hid (Xzs.out.on hb)
  replace RG := Lib.hid (RG.out.on hb)
  replace HB := Lib.hid (bel_end HB.out hb)
  have q5 := hb.size
  have Czs := Lib.hid (ownA_new hr hg (by omega))
  clear hb hg hr
  go_wp2_with fail
  refine (eql_any _ _ _ _ _ zs (by omega) Xzs.out.ints Czs.out.ints).mono ?_
  rintro e w6 ⟨rfl, hb⟩
  replace Hzs := Lib.hid (Hzs.out.on hb)
  replace HD := Lib.hid (HD.out.on hb)
  replace RS := Lib.hid (RS.out.on hb)
  replace Xzs := Lib.hid (Xzs.out.on hb)
  replace RG := Lib.hid (RG.out.on hb)
  replace Czs := Lib.hid (Czs.out.on hb)
  replace HB := Lib.hid (bel_end HB.out hb)
  have q6 := hb.size
  clear hb
  clear Czs
  go_wp2_with fail
  refine (mka_any _ _ _ _ _ zs 1 Xzs.out (by omega) (by omega) (by omega)).mono ?_
  rintro e w7 ⟨rfl, ho, hk⟩
  replace Hzs := Lib.hid (Hzs.out.kept hk (by omega) (by omega))
  replace HD := Lib.hid (HD.out.keptP hk (by omega))
  replace RS := Lib.hid (RS.out.kept hk (by omega))
  replace RG := Lib.hid (RG.out.kept hk (by omega))
  replace HB := Lib.hid (HB.out.trans ((hk.below (by omega)).mono (by omega)))
  replace Xzs := Lib.hid ho
  have q7 := hk.size
  clear ho hk
  clear Xzs
  go_wp2_with fail
  refine (eql_any _ _ _ _ _ LL (by omega) RG.out.ints RS.out.ints).mono ?_
  rintro e w8 ⟨rfl, hb⟩
  replace Hzs := Lib.hid (Hzs.out.on hb)
  replace HD := Lib.hid (HD.out.on hb)
  replace RS := Lib.hid (RS.out.on hb)
  replace RG := Lib.hid (RG.out.on hb)
  replace HB := Lib.hid (bel_end HB.out hb)
  have q8 := hb.size
  clear hb
  go_wp2_with fail
  refine (mka_any _ _ _ _ _ LL 1 RG.out (by omega) (by omega) (by omega)).mono ?_
  rintro e w9 ⟨rfl, ho, hk⟩
  replace Hzs := Lib.hid (Hzs.out.kept hk (by omega) (by omega))
  replace HD := Lib.hid (HD.out.keptP hk (by omega))
  replace RS := Lib.hid (RS.out.kept hk (by omega))
  replace HB := Lib.hid (HB.out.trans ((hk.below (by omega)).mono (by omega)))
  replace RG := Lib.hid ho
  have q9 := hk.size
  clear ho hk
  go_wp2_with fail
  refine (hdi_any _ _ _ _ LL.length 1 RG.out.ints (by omega) (by omega) (by omega)).mono ?_
  rintro e w_ ⟨rfl, rfl⟩
  go_wp2_with fail
  have bHD := HD.out
  obtain ⟨S, hSd⟩ : ∃ S : World → Prop, ∀ w', S w' ↔ (w'.cell? ⟨w.heap.size, 0, none⟩ = some (.int .i64 dx) ∧ w'.cell? ⟨w.heap.size, 1, none⟩ = some (.int .i64 dy) ∧ w'.cell? ⟨w.heap.size, 2, none⟩ = some (.int .i64 dz)) := ⟨_, fun _ => Iff.rfl⟩
  have HSp : Hid (∀ w' : World, Bk w' (w.heap.size) #[.int .i64 dx, .int .i64 dy, .int .i64 dz] 27 → S w') := Lib.hid (fun w' bHD => (hSd w').2 ⟨bHD.cell 0 rfl, bHD.cell 1 rfl, bHD.cell 2 rfl⟩)
  have HSd := Lib.hid hSd
  clear hSd
  refine wp_region_held_drew (S := S) (by kernel_rfl) ?_ (fun hH => ?_)
  · exact (HSp.out _ bHD : S (World.drew w9))
  clear hH
  generalize hX : World.drew w9 = U2_0
  replace bHD : Bk U2_0 (w.heap.size) #[.int .i64 dx, .int .i64 dy, .int .i64 dz] 27 := by rw [← hX]; exact bHD
  have hb : Below w9.heap.size w9 U2_0 := by rw [← hX]; exact (Below.refl _ _).drew
  clear hX
  replace Hzs := Lib.hid (Hzs.out.on hb)
  replace RS := Lib.hid (RS.out.on hb)
  replace RG := Lib.hid (RG.out.on hb)
  have qq6 := hb.size
  replace HB := Lib.hid (bel_end HB.out hb)
  clear hb
  have hS := HSp.out _ bHD
  refine wpAnyH_take (i := 0) (oi := { dst := some 85, op := Go.Op.move (Go.Operand.tmp 0), type := 22, pos := "exact.go:3801", after := #[], guard := none }) (v := ?_) rfl (by kernel_rfl) (by kernel_rfl) (by kernel_rfl) (fun _ _ _ h => h) (Or.inl ⟨by rfl, ?_⟩) hS ?_
  rotate_left
  · (intro w hSw; have hSw := (HSd.out w).1 hSw; go_split_ands; go_simp) <;> with_reducible rfl
  clear hS
  try simp only [Act.put, List.setIfInBounds_toArray, List.set_cons_zero, List.set_cons_succ]
  have hS := HSp.out _ bHD
  refine wpAnyH_take (i := 2) (oi := { dst := some 87, op := Go.Op.load 27 (Go.Operand.tmp 5), type := 27, pos := "exact.go:3801", after := #[], guard := none }) (v := ?_) rfl (by kernel_rfl) (by kernel_rfl) (by kernel_rfl) (fun _ _ _ h => h) (Or.inl ⟨by rfl, ?_⟩) hS ?_
  rotate_left
  · (intro w hSw; have hSw := (HSd.out w).1 hSw; go_split_ands; go_simp) <;> with_reducible rfl
  clear hS
  try simp only [Act.put, List.setIfInBounds_toArray, List.set_cons_zero, List.set_cons_succ]
  have hS := HSp.out _ bHD
  refine wpAnyH_take (i := 4) (oi := { dst := some 89, op := Go.Op.move (Go.Operand.tmp 2), type := 2, pos := "exact.go:3801", after := #[], guard := none }) (v := ?_) rfl (by kernel_rfl) (by kernel_rfl) (by kernel_rfl) (fun _ _ _ h => h) (Or.inl ⟨by rfl, ?_⟩) hS ?_
  rotate_left
  · (intro w hSw; have hSw := (HSd.out w).1 hSw; go_split_ands; go_simp) <;> with_reducible rfl
  clear hS
  try simp only [Act.put, List.setIfInBounds_toArray, List.set_cons_zero, List.set_cons_succ]
  have hS := HSp.out _ bHD
  refine wpAnyH_take (i := 5) (oi := { dst := some 90, op := Go.Op.move (Go.Operand.tmp 3), type := 2, pos := "exact.go:3801", after := #[], guard := none }) (v := ?_) rfl (by kernel_rfl) (by kernel_rfl) (by kernel_rfl) (fun _ _ _ h => h) (Or.inl ⟨by rfl, ?_⟩) hS ?_
  rotate_left
  · (intro w hSw; have hSw := (HSd.out w).1 hSw; go_split_ands; go_simp) <;> with_reducible rfl
  clear hS
  try simp only [Act.put, List.setIfInBounds_toArray, List.set_cons_zero, List.set_cons_succ]
  refine wpAnyH_ready (rs := [1]) (by kernel_rfl) (by simp) ?_
  refine AllReadyH.cons (o := { dst := some 86, op := Go.Op.call { callee := Go.Callee.value (Go.Operand.func 10), args := #[Go.Operand.tmp 85], argTypes := #[22] }, type := 22, pos := "exact.go:3801", after := #[{ on := 0, ground := Go.Ground.data }], guard := none }) rfl (fun Kn hK => ?_) AllReadyH.nil
  first | go_at_call 10 | (go_simp; go_at_call 10)
  refine (to_any _ _ _ zs (by omega) Hzs.out.ints).mono ?_
  rintro e U2_1 ⟨gg7, rfl, hg, hr, hb⟩
  have Yzs := Lib.hid (ownA_new hr hg (by omega))
  clear hr hg
  try dsimp only
  try simp only [Act.put, List.setIfInBounds_toArray, List.set_cons_zero, List.set_cons_succ]
  replace bHD := bHD.on hb
  replace Hzs := Lib.hid (Hzs.out.on hb)
  replace RS := Lib.hid (RS.out.on hb)
  replace RG := Lib.hid (RG.out.on hb)
  have qq8 := hb.size
  replace HB := Lib.hid (bel_end HB.out hb)
  clear hb
  refine hK.out _ _ (HSp.out _ bHD) (fun _ => ?_)
  clear hK Kn
  refine wpAnyH_ready (rs := [3]) (by kernel_rfl) (by simp) ?_
  refine AllReadyH.cons (o := { dst := some 88, op := Go.Op.call { callee := Go.Callee.value (Go.Operand.func 14), args := #[Go.Operand.tmp 87], argTypes := #[27] }, type := 30, pos := "exact.go:3801", after := #[{ on := 2, ground := Go.Ground.data }, { on := 1, ground := Go.Ground.chain }], guard := none }) rfl (fun Kn hK => ?_) AllReadyH.nil
  first | go_at_call 14 | (go_simp; go_at_call 14)
  (with_reducible refine Calls.mono (tod_any _ _ _ _) ?_)
  rintro e U2_2 ⟨rfl, hb⟩
  try dsimp only
  try simp only [Act.put, List.setIfInBounds_toArray, List.set_cons_zero, List.set_cons_succ]
  replace bHD := bHD.on hb
  replace Hzs := Lib.hid (Hzs.out.on hb)
  replace RS := Lib.hid (RS.out.on hb)
  replace RG := Lib.hid (RG.out.on hb)
  replace Yzs := Lib.hid (Yzs.out.on hb)
  have qq9 := hb.size
  replace HB := Lib.hid (bel_end HB.out hb)
  clear hb
  refine hK.out _ _ (HSp.out _ bHD) (fun _ => ?_)
  clear hK Kn
  refine wpAnyH_ready (rs := [6]) (by kernel_rfl) (by simp) ?_
  refine AllReadyH.cons (o := { dst := some 91, op := Go.Op.call { callee := Go.Callee.value (Go.Operand.func 19), args := #[Go.Operand.tmp 86, Go.Operand.tmp 88, Go.Operand.tmp 89, Go.Operand.tmp 90], argTypes := #[22, 30, 2, 2] }, type := 28, pos := "exact.go:3801", after := #[{ on := 1, ground := Go.Ground.data }, { on := 3, ground := Go.Ground.data }, { on := 4, ground := Go.Ground.data }, { on := 5, ground := Go.Ground.data }, { on := 3, ground := Go.Ground.chain }], guard := none }) rfl (fun Kn hK => ?_) AllReadyH.nil
  first | go_at_call 19 | (go_simp; go_at_call 19)
  (with_reducible refine Calls.mono (S2.out _ _ _ Yzs.out.ints) ?_)
  rintro e U2_3 ⟨RHa, RHc, rfl, ho, hb⟩
  have RH := Lib.hid ho
  clear ho
  try dsimp only
  try simp only [Act.put, List.setIfInBounds_toArray, List.set_cons_zero, List.set_cons_succ]
  replace bHD := bHD.on hb
  replace Hzs := Lib.hid (Hzs.out.on hb)
  replace RS := Lib.hid (RS.out.on hb)
  replace RG := Lib.hid (RG.out.on hb)
  replace Yzs := Lib.hid (Yzs.out.on hb)
  have qq10 := hb.size
  replace HB := Lib.hid (bel_end HB.out hb)
  clear hb
  refine hK.out _ _ (HSp.out _ bHD) (fun _ => ?_)
  clear hK Kn
  have hS := HSp.out _ bHD
  refine wpAnyH_take (i := 7) (oi := { dst := some 84, op := Go.Op.move (Go.Operand.tmp 91), type := 28, pos := "exact.go:3801", after := #[{ on := 6, ground := Go.Ground.data }], guard := none }) (v := ?_) rfl (by kernel_rfl) (by kernel_rfl) (by kernel_rfl) (fun _ _ _ h => h) (Or.inl ⟨by rfl, ?_⟩) hS ?_
  rotate_left
  · (intro w hSw; have hSw := (HSd.out w).1 hSw; go_split_ands; go_simp) <;> with_reducible rfl
  clear hS
  try simp only [Act.put, List.setIfInBounds_toArray, List.set_cons_zero, List.set_cons_succ]
  have hS := HSp.out _ bHD
  refine wpAnyH_take (i := 8) (oi := { dst := some 92, op := Go.Op.extract (Go.Operand.tmp 84) 0, type := 22, pos := "exact.go:3801", after := #[{ on := 7, ground := Go.Ground.data }], guard := none }) (v := ?_) rfl (by kernel_rfl) (by kernel_rfl) (by kernel_rfl) (fun _ _ _ h => h) (Or.inl ⟨by rfl, ?_⟩) hS ?_
  rotate_left
  · (intro w hSw; have hSw := (HSd.out w).1 hSw; go_split_ands; go_simp) <;> with_reducible rfl
  clear hS
  try simp only [Act.put, List.setIfInBounds_toArray, List.set_cons_zero, List.set_cons_succ]
  have hS := HSp.out _ bHD
  refine wpAnyH_take (i := 9) (oi := { dst := some 93, op := Go.Op.extract (Go.Operand.tmp 84) 1, type := 2, pos := "exact.go:3801", after := #[{ on := 7, ground := Go.Ground.data }, { on := 10, ground := Go.Ground.gcOnly Go.Departure.lateStores }], guard := none }) (v := ?_) rfl (by kernel_rfl) (by kernel_rfl) (by kernel_rfl) (fun _ _ _ h => h) (Or.inl ⟨by rfl, ?_⟩) hS ?_
  rotate_left
  · (intro w hSw; have hSw := (HSd.out w).1 hSw; go_split_ands; go_simp) <;> with_reducible rfl
  clear hS
  try simp only [Act.put, List.setIfInBounds_toArray, List.set_cons_zero, List.set_cons_succ]
  have hS := HSp.out _ bHD
  refine wpAnyH_take (i := 10) (oi := { dst := some 17, op := Go.Op.assign (Go.Operand.tmp 92), type := 22, pos := "exact.go:3801", after := #[{ on := 8, ground := Go.Ground.data }, { on := 6, ground := Go.Ground.chain }, { on := 0, ground := Go.Ground.phase }, { on := 1, ground := Go.Ground.phase }, { on := 2, ground := Go.Ground.phase }, { on := 3, ground := Go.Ground.phase }, { on := 4, ground := Go.Ground.phase }, { on := 5, ground := Go.Ground.phase }, { on := 6, ground := Go.Ground.phase }, { on := 7, ground := Go.Ground.phase }, { on := 8, ground := Go.Ground.phase }, { on := 9, ground := Go.Ground.textOnly Go.Departure.lateStores }], guard := none }) (v := ?_) rfl (by kernel_rfl) (by kernel_rfl) (by kernel_rfl) (fun _ _ _ h => h) (Or.inl ⟨by rfl, ?_⟩) hS ?_
  rotate_left
  · (intro w hSw; have hSw := (HSd.out w).1 hSw; go_split_ands; go_simp) <;> with_reducible rfl
  clear hS
  try simp only [Act.put, List.setIfInBounds_toArray, List.set_cons_zero, List.set_cons_succ]
  have hS := HSp.out _ bHD
  refine wpAnyH_take (i := 11) (oi := { dst := some 18, op := Go.Op.assign (Go.Operand.tmp 93), type := 2, pos := "exact.go:3801", after := #[{ on := 9, ground := Go.Ground.data }, { on := 10, ground := Go.Ground.chain }, { on := 0, ground := Go.Ground.phase }, { on := 1, ground := Go.Ground.phase }, { on := 2, ground := Go.Ground.phase }, { on := 3, ground := Go.Ground.phase }, { on := 4, ground := Go.Ground.phase }, { on := 5, ground := Go.Ground.phase }, { on := 6, ground := Go.Ground.phase }, { on := 7, ground := Go.Ground.phase }, { on := 8, ground := Go.Ground.phase }, { on := 9, ground := Go.Ground.phase }, { on := 10, ground := Go.Ground.phase }], guard := none }) (v := ?_) rfl (by kernel_rfl) (by kernel_rfl) (by kernel_rfl) (fun _ _ _ h => h) (Or.inl ⟨by rfl, ?_⟩) hS ?_
  rotate_left
  · (intro w hSw; have hSw := (HSd.out w).1 hSw; go_split_ands; go_simp) <;> with_reducible rfl
  clear hS
  try simp only [Act.put, List.setIfInBounds_toArray, List.set_cons_zero, List.set_cons_succ]
  refine wpAnyH_done (by kernel_rfl) ?_ _
  replace HD := Lib.hid bHD
  clear bHD
  clear Yzs
  go_wp2_with fail
  refine (eql_any _ _ _ _ _ LL (by omega) RH.out.ints RS.out.ints).mono ?_
  rintro e w10 ⟨rfl, hb⟩
  replace Hzs := Lib.hid (Hzs.out.on hb)
  replace HD := Lib.hid (HD.out.on hb)
  replace RS := Lib.hid (RS.out.on hb)
  replace RG := Lib.hid (RG.out.on hb)
  replace RH := Lib.hid (RH.out.on hb)
  replace HB := Lib.hid (bel_end HB.out hb)
  have q10 := hb.size
  clear hb
  clear RH
  go_wp2_with fail
  refine (hdi_any _ _ _ _ LL.length 1 RG.out.ints (by omega) (by omega) (by omega)).mono ?_
  rintro e w_ ⟨rfl, rfl⟩
  go_wp2
  go_ret
  exact ⟨rfl, HB.out⟩
end Go.Proofs.Ythfaejhiabdkbaa
