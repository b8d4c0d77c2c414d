import Derived.Test.YtgecbfbmmbfnmaaGreatRyP
import Derived.Handy
import Derived.Deep.RegionHeld3
import Derived.Deep.DeepCutAuto
import Derived.Deep.RegionWith
namespace Go.Proofs.YtgecbfbmmbfnmaaGreat
/- Contracts of the program's rays: what an event makes of a state, the step. -/
open Go.ChangeShapes Go.WideShapes Go.ChangeAt Go.RowKit Go.Shelf Num
set_option linter.unusedVariables false
set_option linter.unusedSimpArgs false

set_option maxRecDepth 100000 in
set_option maxHeartbeats 4000000 in
theorem bh1_any (w : World) (a b : Option Addr) (ca cb : Nat) (zs ys : List Int) (i k : Nat) (c s h lo hi : Int) (dn : Bool) (hp : Prof w w.heap.size a b zs ys) (r : RyOk zs ys i c s h) (o : SOk zs ys i c h ⟨k, dn, lo, hi⟩) (hin : inP zs.length k dn = true) (hc : crB ys (i : Int) c h (fk k dn : Nat) = true) :
    Calls Tryz.prog 110 #[.agg #[.slice a zs.length ca, .slice b ys.length cb, .int .i64 (i : Int), .int .i64 c, .int .i64 s, .int .i64 h, .int .i64 (k : Int), .int .i64 (fkI k dn)], .agg #[.int .i64 (k : Int), .bool dn, .int .i64 lo, .int .i64 hi]] w fun e w' => e = .returned (.agg #[.int .i64 (fkI k dn), .bool dn, .int .i64 (lo + crLo zs ys i c h (lk k dn)), .int .i64 (hi + crHi zs ys i c h (lk k dn))]) ∧ Below w.heap.size w w' := by
  have HP := Lib.hid hp
  obtain ⟨hl, hn, hf, hfl⟩ := inP_l o.kl hin
  have eF := fkI_n hin
  have q0 := o.l0
  have q1 := o.lh
  have q2 := o.h1
  dsimp only at hl hn hf hfl q0 q1 q2
  obtain ⟨b1, b2, b3⟩ := o.ad r
  unfold adLo at b1 b2
  unfold adHi at b2 b3
  dsimp only at b1 b2 b3
  rw [hin, hc] at b1 b2 b3
  simp only [if_true] at b1 b2 b3
  have KC : Hid (∀ W : World, Below w.heap.size w W → Calls Tryz.prog 111 #[.agg #[.slice a zs.length ca, .slice b ys.length cb, .int .i64 (i : Int), .int .i64 c, .int .i64 s, .int .i64 h, .int .i64 (k : Int), .int .i64 (fkI k dn)]] W fun e w' => e = .returned (.agg #[.int .i64 (crLo zs ys i c h (lk k dn)), .int .i64 (crHi zs ys i c h (lk k dn))]) ∧ Below W.heap.size W w') := Lib.hid (fun W hb => by have := acr_any W a b ca cb zs ys i k (fk k dn) c s h (HP.out.on hb) r o.kl hfl o.cr hc; have g := cr_near r hl dn; rw [hn, hf] at g; rwa [g.1, g.2, ← eF] at this)
  obtain ⟨X, hX⟩ : ∃ u, crLo zs ys i c h (lk k dn) = u := ⟨_, rfl⟩
  obtain ⟨Y, hY⟩ : ∃ u, crHi zs ys i c h (lk k dn) = u := ⟨_, rfl⟩
  rw [hX] at KC b1 b2 ⊢
  rw [hY] at KC b2 b3 ⊢
  have KP : Hid (∀ W : World, Calls Tryz.prog 52 #[.agg #[.int .i64 lo, .int .i64 hi], .agg #[.int .i64 X, .int .i64 Y]] W fun e w' => e = .returned (.agg #[.int .i64 (lo + X), .int .i64 (hi + Y)]) ∧ Below W.heap.size W w') := Lib.hid (fun W => pls_any lo hi X Y (by omega) (by omega) (by omega) (by omega) W)
  obtain ⟨F, hF⟩ : ∃ u, fkI k dn = u := ⟨_, rfl⟩
  rw [hF] at KC ⊢
  clear hX hY b1 b2 b3 q0 q1 q2 hl hn hf hfl eF hin hc hp r o hF
  go_enter Tryz.func110, Tryz.ntmps110
  go_wp2_with fail
  generalize hW : World.alloc _ _ = W
  have bE : Bk W (w.heap.size) #[.slice a zs.length ca, .slice b ys.length cb, .int .i64 (i : Int), .int .i64 c, .int .i64 s, .int .i64 h, .int .i64 (k : Int), .int .i64 F] 117 := by rw [← hW]; repeat (first | (refine Bk.new' ?_; (simp; done)) | refine Bk.alloc ?_ _)
  have bS : Bk W (w.heap.size + 1) #[.int .i64 (k : Int), .bool dn, .int .i64 lo, .int .i64 hi] 38 := by rw [← hW]; repeat (first | (refine Bk.new' ?_; (simp; done)) | refine Bk.alloc ?_ _)
  have bR : Bk W (w.heap.size + 1 + 1) #[.int .i64 0, .bool false, .int .i64 0, .int .i64 0] 38 := by rw [← hW]; repeat (first | (refine Bk.new' ?_; (simp; done)) | refine Bk.alloc ?_ _)
  have HB : Hid (Below w.heap.size w W) := Lib.hid (by rw [← hW]; exact (by repeat (first | exact Below.refl _ _ | (refine Below.alloc ?_ (by simp <;> omega) _) | (refine Below.setCell ?_ (by simp <;> omega) _) | (refine Below.drew ?_) | (refine bel_drewN ?_ _))))
  clear hW
  obtain ⟨S, hSd⟩ : ∃ S : World → Prop, ∀ w', S w' ↔ (w'.cell? ⟨w.heap.size, 0, none⟩ = some (.slice a zs.length ca) ∧ w'.cell? ⟨w.heap.size, 1, none⟩ = some (.slice b ys.length cb) ∧ w'.cell? ⟨w.heap.size, 2, none⟩ = some (.int .i64 (i : Int)) ∧ w'.cell? ⟨w.heap.size, 3, none⟩ = some (.int .i64 c) ∧ w'.cell? ⟨w.heap.size, 4, none⟩ = some (.int .i64 s) ∧ w'.cell? ⟨w.heap.size, 5, none⟩ = some (.int .i64 h) ∧ w'.cell? ⟨w.heap.size, 6, none⟩ = some (.int .i64 (k : Int)) ∧ w'.cell? ⟨w.heap.size, 7, none⟩ = some (.int .i64 F) ∧ w'.cell? ⟨w.heap.size + 1, 1, none⟩ = some (.bool dn) ∧ w'.cell? ⟨w.heap.size + 1, 2, none⟩ = some (.int .i64 lo) ∧ w'.cell? ⟨w.heap.size + 1, 3, none⟩ = some (.int .i64 hi)) := ⟨_, fun _ => Iff.rfl⟩
  have HSp : Hid (∀ w' : World, Bk w' (w.heap.size) #[.slice a zs.length ca, .slice b ys.length cb, .int .i64 (i : Int), .int .i64 c, .int .i64 s, .int .i64 h, .int .i64 (k : Int), .int .i64 F] 117 → Bk w' (w.heap.size + 1) #[.int .i64 (k : Int), .bool dn, .int .i64 lo, .int .i64 hi] 38 → S w') := Lib.hid (fun w' bE bS => (hSd w').2 ⟨bE.cell 0 rfl, bE.cell 1 rfl, bE.cell 2 rfl, bE.cell 3 rfl, bE.cell 4 rfl, bE.cell 5 rfl, bE.cell 6 rfl, bE.cell 7 rfl, bS.cell 1 rfl, bS.cell 2 rfl, bS.cell 3 rfl⟩)
  have HSd := Lib.hid hSd
  clear hSd
  refine wp_region_held_drew (S := S) (by kernel_rfl) ?_ (fun hH => ?_)
  · exact (HSp.out _ bE bS : S (World.drew W))
  clear hH
  generalize hX : World.drew W = V0
  replace bE : Bk V0 (w.heap.size) #[.slice a zs.length ca, .slice b ys.length cb, .int .i64 (i : Int), .int .i64 c, .int .i64 s, .int .i64 h, .int .i64 (k : Int), .int .i64 F] 117 := by rw [← hX]; exact bE
  replace bS : Bk V0 (w.heap.size + 1) #[.int .i64 (k : Int), .bool dn, .int .i64 lo, .int .i64 hi] 38 := by rw [← hX]; exact bS
  replace bR : Bk V0 (w.heap.size + 1 + 1) #[.int .i64 0, .bool false, .int .i64 0, .int .i64 0] 38 := by rw [← hX]; exact bR
  have hb : Below W.heap.size W V0 := by rw [← hX]; exact (Below.refl _ _).drew
  clear hX
  replace HB := Lib.hid (bel_end HB.out hb)
  clear hb
  have hS := HSp.out _ bE bS
  refine wpAnyH_take (i := 0) (oi := { dst := some 5, op := Go.Op.fieldAddr 117 (Go.Operand.tmp 2) 0, type := 0, pos := "l07_rays.go:162", after := #[], guard := none }) (v := ?_) rfl (by kernel_rfl) (by kernel_rfl) (by kernel_rfl) (fun _ _ _ h => h) (Or.inl ⟨by rfl, ?_⟩) hS ?_
  rotate_left
  · (intro w hSw; have hSw := (HSd.out w).1 hSw; go_split_ands; go_simp) <;> with_reducible rfl
  clear hS
  try simp only [Act.put, List.setIfInBounds_toArray, List.set_cons_zero, List.set_cons_succ]
  have hS := HSp.out _ bE bS
  refine wpAnyH_take (i := 1) (oi := { dst := some 6, op := Go.Op.fieldAddr 115 (Go.Operand.tmp 5) 2, type := 0, pos := "l07_rays.go:162", after := #[{ on := 0, ground := Go.Ground.data }], guard := none }) (v := ?_) rfl (by kernel_rfl) (by kernel_rfl) (by kernel_rfl) (fun _ _ _ h => h) (Or.inl ⟨by rfl, ?_⟩) hS ?_
  rotate_left
  · (intro w hSw; have hSw := (HSd.out w).1 hSw; go_split_ands; go_simp) <;> with_reducible rfl
  clear hS
  try simp only [Act.put, List.setIfInBounds_toArray, List.set_cons_zero, List.set_cons_succ]
  have hS := HSp.out _ bE bS
  refine wpAnyH_take (i := 2) (oi := { dst := some 7, op := Go.Op.load 2 (Go.Operand.tmp 6), type := 2, pos := "l07_rays.go:162", after := #[{ on := 1, ground := Go.Ground.data }], guard := none }) (v := ?_) rfl (by kernel_rfl) (by kernel_rfl) (by kernel_rfl) (fun _ _ _ h => h) (Or.inl ⟨by rfl, ?_⟩) hS ?_
  rotate_left
  · (intro w hSw; have hSw := (HSd.out w).1 hSw; go_split_ands; go_simp) <;> with_reducible rfl
  clear hS
  try simp only [Act.put, List.setIfInBounds_toArray, List.set_cons_zero, List.set_cons_succ]
  have hS := HSp.out _ bE bS
  refine wpAnyH_take (i := 3) (oi := { dst := some 8, op := Go.Op.fieldAddr 38 (Go.Operand.tmp 3) 1, type := 0, pos := "l07_rays.go:162", after := #[], guard := none }) (v := ?_) rfl (by kernel_rfl) (by kernel_rfl) (by kernel_rfl) (fun _ _ _ h => h) (Or.inl ⟨by rfl, ?_⟩) hS ?_
  rotate_left
  · (intro w hSw; have hSw := (HSd.out w).1 hSw; go_split_ands; go_simp) <;> with_reducible rfl
  clear hS
  try simp only [Act.put, List.setIfInBounds_toArray, List.set_cons_zero, List.set_cons_succ]
  have hS := HSp.out _ bE bS
  refine wpAnyH_take (i := 4) (oi := { dst := some 9, op := Go.Op.load 4 (Go.Operand.tmp 8), type := 4, pos := "l07_rays.go:162", after := #[{ on := 3, ground := Go.Ground.data }], guard := none }) (v := ?_) rfl (by kernel_rfl) (by kernel_rfl) (by kernel_rfl) (fun _ _ _ h => h) (Or.inl ⟨by rfl, ?_⟩) hS ?_
  rotate_left
  · (intro w hSw; have hSw := (HSd.out w).1 hSw; go_split_ands; go_simp) <;> with_reducible rfl
  clear hS
  try simp only [Act.put, List.setIfInBounds_toArray, List.set_cons_zero, List.set_cons_succ]
  have hS := HSp.out _ bE bS
  refine wpAnyH_take (i := 5) (oi := { dst := some 10, op := Go.Op.fieldAddr 38 (Go.Operand.tmp 3) 2, type := 0, pos := "l07_rays.go:162", after := #[], guard := none }) (v := ?_) rfl (by kernel_rfl) (by kernel_rfl) (by kernel_rfl) (fun _ _ _ h => h) (Or.inl ⟨by rfl, ?_⟩) hS ?_
  rotate_left
  · (intro w hSw; have hSw := (HSd.out w).1 hSw; go_split_ands; go_simp) <;> with_reducible rfl
  clear hS
  try simp only [Act.put, List.setIfInBounds_toArray, List.set_cons_zero, List.set_cons_succ]
  have hS := HSp.out _ bE bS
  refine wpAnyH_take (i := 6) (oi := { dst := some 11, op := Go.Op.load 34 (Go.Operand.tmp 10), type := 34, pos := "l07_rays.go:162", after := #[{ on := 5, ground := Go.Ground.data }], guard := none }) (v := ?_) rfl (by kernel_rfl) (by kernel_rfl) (by kernel_rfl) (fun _ _ _ h => h) (Or.inl ⟨by rfl, ?_⟩) hS ?_
  rotate_left
  · (intro w hSw; have hSw := (HSd.out w).1 hSw; go_split_ands; go_simp) <;> with_reducible rfl
  clear hS
  try simp only [Act.put, List.setIfInBounds_toArray, List.set_cons_zero, List.set_cons_succ]
  have hS := HSp.out _ bE bS
  refine wpAnyH_take (i := 7) (oi := { dst := some 12, op := Go.Op.fieldAddr 117 (Go.Operand.tmp 2) 0, type := 0, pos := "l07_rays.go:162", after := #[], guard := none }) (v := ?_) rfl (by kernel_rfl) (by kernel_rfl) (by kernel_rfl) (fun _ _ _ h => h) (Or.inl ⟨by rfl, ?_⟩) hS ?_
  rotate_left
  · (intro w hSw; have hSw := (HSd.out w).1 hSw; go_split_ands; go_simp) <;> with_reducible rfl
  clear hS
  try simp only [Act.put, List.setIfInBounds_toArray, List.set_cons_zero, List.set_cons_succ]
  have hS := HSp.out _ bE bS
  refine wpAnyH_take (i := 8) (oi := { dst := some 13, op := Go.Op.load 115 (Go.Operand.tmp 12), type := 115, pos := "l07_rays.go:162", after := #[{ on := 7, ground := Go.Ground.data }], guard := none }) (v := ?_) rfl (by kernel_rfl) (by kernel_rfl) (by kernel_rfl) (fun _ _ _ h => h) (Or.inl ⟨by rfl, ?_⟩) hS ?_
  rotate_left
  · (intro w hSw; have hSw := (HSd.out w).1 hSw; go_split_ands; go_simp) <;> with_reducible rfl
  clear hS
  try simp only [Act.put, List.setIfInBounds_toArray, List.set_cons_zero, List.set_cons_succ]
  refine wpAnyH_ready (rs := [9]) (by decide +kernel) (by simp) ?_
  refine AllReadyH.cons (o := { dst := some 14, op := Go.Op.call { callee := Go.Callee.value (Go.Operand.func 111), args := #[Go.Operand.tmp 13], argTypes := #[115] }, type := 34, pos := "l07_rays.go:162", after := #[{ on := 8, ground := Go.Ground.data }], guard := none }) rfl (fun Kn hK => ?_) AllReadyH.nil
  first | go_at_call 111 | (go_simp; go_at_call 111)
  (with_reducible refine Calls.mono (KC.out _ HB.out) ?_)
  rintro e V1 ⟨rfl, hb⟩
  try dsimp only
  try simp only [Act.put, List.setIfInBounds_toArray, List.set_cons_zero, List.set_cons_succ]
  replace bE := bE.on hb
  replace bS := bS.on hb
  replace bR := bR.on hb
  replace HB := Lib.hid (bel_end HB.out hb)
  clear hb
  refine hK.out _ _ (HSp.out _ bE bS) (fun _ => ?_)
  clear hK Kn
  refine wpAnyH_ready (rs := [10]) (by decide +kernel) (by simp) ?_
  refine AllReadyH.cons (o := { dst := some 15, op := Go.Op.call { callee := Go.Callee.value (Go.Operand.func 52), args := #[Go.Operand.tmp 11, Go.Operand.tmp 14], argTypes := #[34, 34] }, type := 34, pos := "l07_rays.go:162", after := #[{ on := 6, ground := Go.Ground.data }, { on := 9, ground := Go.Ground.data }, { on := 9, ground := Go.Ground.chain }], guard := none }) rfl (fun Kn hK => ?_) AllReadyH.nil
  first | go_at_call 52 | (go_simp; go_at_call 52)
  (with_reducible refine Calls.mono (KP.out _) ?_)
  rintro e V2 ⟨rfl, hb⟩
  try dsimp only
  try simp only [Act.put, List.setIfInBounds_toArray, List.set_cons_zero, List.set_cons_succ]
  replace bE := bE.on hb
  replace bS := bS.on hb
  replace bR := bR.on hb
  replace HB := Lib.hid (bel_end HB.out hb)
  clear hb
  refine hK.out _ _ (HSp.out _ bE bS) (fun _ => ?_)
  clear hK Kn
  have hS := HSp.out _ bE bS
  refine wpAnyH_take (i := 11) (oi := { dst := some 16, op := Go.Op.build 38 #[(0, Go.Operand.tmp 7), (1, Go.Operand.tmp 9), (2, Go.Operand.tmp 15)], type := 38, pos := "l07_rays.go:162", after := #[{ on := 2, ground := Go.Ground.data }, { on := 4, ground := Go.Ground.data }, { on := 10, ground := Go.Ground.data }], guard := none }) (v := ?_) rfl (by kernel_rfl) (by kernel_rfl) (by kernel_rfl) (fun _ _ _ h => h) (Or.inl ⟨by rfl, ?_⟩) hS ?_
  rotate_left
  · (intro w hSw; have hSw := (HSd.out w).1 hSw; go_split_ands; go_simp) <;> with_reducible rfl
  clear hS
  try simp only [Act.put, List.setIfInBounds_toArray, List.set_cons_zero, List.set_cons_succ]
  refine wpAnyH_ready (rs := [12]) (by decide +kernel) (by simp) ?_
  refine AllReadyH.cons (o := { dst := none, op := Go.Op.store 38 (Go.Operand.tmp 4) (Go.Operand.tmp 16), type := 0, pos := "l07_rays.go:162", after := #[{ on := 11, ground := Go.Ground.data }, { on := 10, ground := Go.Ground.chain }, { on := 0, ground := Go.Ground.phase }, { on := 1, ground := Go.Ground.phase }, { on := 2, ground := Go.Ground.phase }, { on := 3, ground := Go.Ground.phase }, { on := 4, ground := Go.Ground.phase }, { on := 5, ground := Go.Ground.phase }, { on := 6, ground := Go.Ground.phase }, { on := 7, ground := Go.Ground.phase }, { on := 8, ground := Go.Ground.phase }, { on := 9, ground := Go.Ground.phase }, { on := 10, ground := Go.Ground.phase }, { on := 11, ground := Go.Ground.phase }], guard := none }) rfl (fun Kn hK => ?_) AllReadyH.nil
  have bR_0 := bR.cell 0 rfl
  have bR_1 := bR.cell 1 rfl
  have bR_2 := bR.cell 2 rfl
  have bR_3 := bR.cell 3 rfl
  have bR_f0 := bR.frozen 0
  have bR_f1 := bR.frozen 1
  have bR_f2 := bR.frozen 2
  have bR_f3 := bR.frozen 3
  have bR_l := bR.lt
  go_simp
  clear bR_0 bR_f0 bR_1 bR_f1 bR_2 bR_f2 bR_3 bR_f3 bR_l
  generalize hX : World.setCell _ _ _ = V3
  have hb : Below w.heap.size w V3 := by rw [← hX]; exact ((((HB.out.setCell (p := ⟨w.heap.size + 1 + 1, 0, none⟩) (by first | omega | (dsimp only; omega)) _).setCell (p := ⟨w.heap.size + 1 + 1, 1, none⟩) (by first | omega | (dsimp only; omega)) _).setCell (p := ⟨w.heap.size + 1 + 1, 2, none⟩) (by first | omega | (dsimp only; omega)) _).setCell (p := ⟨w.heap.size + 1 + 1, 3, none⟩) (by first | omega | (dsimp only; omega)) _)
  replace bE : Bk V3 (w.heap.size) #[.slice a zs.length ca, .slice b ys.length cb, .int .i64 (i : Int), .int .i64 c, .int .i64 s, .int .i64 h, .int .i64 (k : Int), .int .i64 F] 117 := by rw [← hX]; exact (Bk.other (Bk.other (Bk.other (Bk.other bE (by omega) 0 _) (by omega) 1 _) (by omega) 2 _) (by omega) 3 _)
  replace bS : Bk V3 (w.heap.size + 1) #[.int .i64 (k : Int), .bool dn, .int .i64 lo, .int .i64 hi] 38 := by rw [← hX]; exact (Bk.other (Bk.other (Bk.other (Bk.other bS (by omega) 0 _) (by omega) 1 _) (by omega) 2 _) (by omega) 3 _)
  replace bR : Bk V3 (w.heap.size + 1 + 1) #[.int .i64 F, .bool dn, .int .i64 (lo + X), .int .i64 (hi + Y)] 38 := by rw [← hX]; exact (Bk.set (Bk.set (Bk.set (Bk.set bR 0 _ rfl) 1 _ rfl) 2 _ rfl) 3 _ rfl)
  clear hX
  replace HB := Lib.hid hb
  clear hb
  refine hK.out _ _ (HSp.out _ bE bS) (fun _ => ?_)
  clear hK Kn
  refine wpAnyH_done (by kernel_rfl) ?_ _
  have c0 := bR.cell 0 rfl
  have c1 := bR.cell 1 rfl
  have c2 := bR.cell 2 rfl
  have c3 := bR.cell 3 rfl
  go_wp2
  exact bodyPost_ret (v := .agg #[.int .i64 F, .bool dn, .int .i64 (lo + X), .int .i64 (hi + Y)]) (by simp [results, Tryz.results110, go_sem, c0, c1, c2, c3]) rfl ⟨rfl, HB.out⟩

set_option maxRecDepth 100000 in
set_option maxHeartbeats 4000000 in
theorem bh2_any (w : World) (a b : Option Addr) (ca cb : Nat) (zs ys : List Int) (i k : Nat) (c s h lo hi : Int) (dn : Bool) (hp : Prof w w.heap.size a b zs ys) (r : RyOk zs ys i c s h) (o : SOk zs ys i c h ⟨k, dn, lo, hi⟩) (hin : inP zs.length k dn = true) (hc : crB ys (i : Int) c h (fk k dn : Nat) = false) :
    Calls Tryz.prog 123 #[.agg #[.slice a zs.length ca, .slice b ys.length cb, .int .i64 (i : Int), .int .i64 c, .int .i64 s, .int .i64 h, .int .i64 (k : Int), .int .i64 (fkI k dn)], .agg #[.int .i64 (k : Int), .bool dn, .int .i64 lo, .int .i64 hi]] w fun e w' => e = .returned (.agg #[.int .i64 (k : Int), .bool (!dn), .int .i64 (lo + tnLo zs ys i c h (lk k dn) dn), .int .i64 (hi + tnHi zs ys i c h (lk k dn) dn)]) ∧ Below w.heap.size w w' := by
  have HP := Lib.hid hp
  obtain ⟨hl, hn, hf, hfl⟩ := inP_l o.kl hin
  have eF := fkI_n hin
  have q0 := o.l0
  have q1 := o.lh
  have q2 := o.h1
  dsimp only at hl hn hf hfl q0 q1 q2
  obtain ⟨b1, b2, b3⟩ := o.ad r
  unfold adLo at b1 b2
  unfold adHi at b2 b3
  dsimp only at b1 b2 b3
  rw [hin, hc] at b1 b2 b3
  simp only [if_true, Bool.false_eq_true, if_false] at b1 b2 b3
  have hpos : 0 < riS ys c k (fk k dn) := by have g := r.turn o.cr hc; dsimp only at g; omega
  have KC : Hid (∀ W : World, Below w.heap.size w W → Calls Tryz.prog 124 #[.agg #[.slice a zs.length ca, .slice b ys.length cb, .int .i64 (i : Int), .int .i64 c, .int .i64 s, .int .i64 h, .int .i64 (k : Int), .int .i64 (fkI k dn)]] W fun e w' => e = .returned (.agg #[.int .i64 (tnLo zs ys i c h (lk k dn) dn), .int .i64 (tnHi zs ys i c h (lk k dn) dn)]) ∧ Below W.heap.size W w') := Lib.hid (fun W hb => by have := atr_any W a b ca cb zs ys i k (fk k dn) c s h (HP.out.on hb) r o.kl hfl o.cr hpos; have g := tn_near (c := c) r hl dn; rw [hn, hf] at g; rwa [g.1, g.2, ← eF] at this)
  obtain ⟨X, hX⟩ : ∃ u, tnLo zs ys i c h (lk k dn) dn = u := ⟨_, rfl⟩
  obtain ⟨Y, hY⟩ : ∃ u, tnHi zs ys i c h (lk k dn) dn = u := ⟨_, rfl⟩
  rw [hX] at KC b1 b2 ⊢
  rw [hY] at KC b2 b3 ⊢
  have KP : Hid (∀ W : World, Calls Tryz.prog 52 #[.agg #[.int .i64 lo, .int .i64 hi], .agg #[.int .i64 X, .int .i64 Y]] W fun e w' => e = .returned (.agg #[.int .i64 (lo + X), .int .i64 (hi + Y)]) ∧ Below W.heap.size W w') := Lib.hid (fun W => pls_any lo hi X Y (by omega) (by omega) (by omega) (by omega) W)
  obtain ⟨F, hF⟩ : ∃ u, fkI k dn = u := ⟨_, rfl⟩
  rw [hF] at KC ⊢
  clear hX hY b1 b2 b3 q0 q1 q2 hl hn hf hfl eF hin hc hp r o hF hpos
  go_enter Tryz.func123, Tryz.ntmps123
  go_wp2_with fail
  generalize hW : World.alloc _ _ = W
  have bE : Bk W (w.heap.size) #[.slice a zs.length ca, .slice b ys.length cb, .int .i64 (i : Int), .int .i64 c, .int .i64 s, .int .i64 h, .int .i64 (k : Int), .int .i64 F] 118 := by rw [← hW]; repeat (first | (refine Bk.new' ?_; (simp; done)) | refine Bk.alloc ?_ _)
  have bS : Bk W (w.heap.size + 1) #[.int .i64 (k : Int), .bool dn, .int .i64 lo, .int .i64 hi] 38 := by rw [← hW]; repeat (first | (refine Bk.new' ?_; (simp; done)) | refine Bk.alloc ?_ _)
  have bR : Bk W (w.heap.size + 1 + 1) #[.int .i64 0, .bool false, .int .i64 0, .int .i64 0] 38 := by rw [← hW]; repeat (first | (refine Bk.new' ?_; (simp; done)) | refine Bk.alloc ?_ _)
  have HB : Hid (Below w.heap.size w W) := Lib.hid (by rw [← hW]; exact (by repeat (first | exact Below.refl _ _ | (refine Below.alloc ?_ (by simp <;> omega) _) | (refine Below.setCell ?_ (by simp <;> omega) _) | (refine Below.drew ?_) | (refine bel_drewN ?_ _))))
  clear hW
  obtain ⟨S, hSd⟩ : ∃ S : World → Prop, ∀ w', S w' ↔ (w'.cell? ⟨w.heap.size, 0, none⟩ = some (.slice a zs.length ca) ∧ w'.cell? ⟨w.heap.size, 1, none⟩ = some (.slice b ys.length cb) ∧ w'.cell? ⟨w.heap.size, 2, none⟩ = some (.int .i64 (i : Int)) ∧ w'.cell? ⟨w.heap.size, 3, none⟩ = some (.int .i64 c) ∧ w'.cell? ⟨w.heap.size, 4, none⟩ = some (.int .i64 s) ∧ w'.cell? ⟨w.heap.size, 5, none⟩ = some (.int .i64 h) ∧ w'.cell? ⟨w.heap.size, 6, none⟩ = some (.int .i64 (k : Int)) ∧ w'.cell? ⟨w.heap.size, 7, none⟩ = some (.int .i64 F) ∧ w'.cell? ⟨w.heap.size + 1, 0, none⟩ = some (.int .i64 (k : Int)) ∧ w'.cell? ⟨w.heap.size + 1, 1, none⟩ = some (.bool dn) ∧ w'.cell? ⟨w.heap.size + 1, 2, none⟩ = some (.int .i64 lo) ∧ w'.cell? ⟨w.heap.size + 1, 3, none⟩ = some (.int .i64 hi)) := ⟨_, fun _ => Iff.rfl⟩
  have HSp : Hid (∀ w' : World, Bk w' (w.heap.size) #[.slice a zs.length ca, .slice b ys.length cb, .int .i64 (i : Int), .int .i64 c, .int .i64 s, .int .i64 h, .int .i64 (k : Int), .int .i64 F] 118 → Bk w' (w.heap.size + 1) #[.int .i64 (k : Int), .bool dn, .int .i64 lo, .int .i64 hi] 38 → S w') := Lib.hid (fun w' bE bS => (hSd w').2 ⟨bE.cell 0 rfl, bE.cell 1 rfl, bE.cell 2 rfl, bE.cell 3 rfl, bE.cell 4 rfl, bE.cell 5 rfl, bE.cell 6 rfl, bE.cell 7 rfl, bS.cell 0 rfl, bS.cell 1 rfl, bS.cell 2 rfl, bS.cell 3 rfl⟩)
  have HSd := Lib.hid hSd
  clear hSd
  refine wp_region_held_drew (S := S) (by kernel_rfl) ?_ (fun hH => ?_)
  · exact (HSp.out _ bE bS : S (World.drew W))
  clear hH
  generalize hX : World.drew W = V0
  replace bE : Bk V0 (w.heap.size) #[.slice a zs.length ca, .slice b ys.length cb, .int .i64 (i : Int), .int .i64 c, .int .i64 s, .int .i64 h, .int .i64 (k : Int), .int .i64 F] 118 := by rw [← hX]; exact bE
  replace bS : Bk V0 (w.heap.size + 1) #[.int .i64 (k : Int), .bool dn, .int .i64 lo, .int .i64 hi] 38 := by rw [← hX]; exact bS
  replace bR : Bk V0 (w.heap.size + 1 + 1) #[.int .i64 0, .bool false, .int .i64 0, .int .i64 0] 38 := by rw [← hX]; exact bR
  have hb : Below W.heap.size W V0 := by rw [← hX]; exact (Below.refl _ _).drew
  clear hX
  replace HB := Lib.hid (bel_end HB.out hb)
  clear hb
  have hS := HSp.out _ bE bS
  refine wpAnyH_take (i := 0) (oi := { dst := some 5, op := Go.Op.fieldAddr 38 (Go.Operand.tmp 3) 0, type := 0, pos := "l07_rays.go:166", after := #[], guard := none }) (v := ?_) rfl (by kernel_rfl) (by kernel_rfl) (by kernel_rfl) (fun _ _ _ h => h) (Or.inl ⟨by rfl, ?_⟩) hS ?_
  rotate_left
  · (intro w hSw; have hSw := (HSd.out w).1 hSw; go_split_ands; go_simp) <;> with_reducible rfl
  clear hS
  try simp only [Act.put, List.setIfInBounds_toArray, List.set_cons_zero, List.set_cons_succ]
  have hS := HSp.out _ bE bS
  refine wpAnyH_take (i := 1) (oi := { dst := some 6, op := Go.Op.load 2 (Go.Operand.tmp 5), type := 2, pos := "l07_rays.go:166", after := #[{ on := 0, ground := Go.Ground.data }], guard := none }) (v := ?_) rfl (by kernel_rfl) (by kernel_rfl) (by kernel_rfl) (fun _ _ _ h => h) (Or.inl ⟨by rfl, ?_⟩) hS ?_
  rotate_left
  · (intro w hSw; have hSw := (HSd.out w).1 hSw; go_split_ands; go_simp) <;> with_reducible rfl
  clear hS
  try simp only [Act.put, List.setIfInBounds_toArray, List.set_cons_zero, List.set_cons_succ]
  have hS := HSp.out _ bE bS
  refine wpAnyH_take (i := 2) (oi := { dst := some 7, op := Go.Op.fieldAddr 38 (Go.Operand.tmp 3) 1, type := 0, pos := "l07_rays.go:166", after := #[], guard := none }) (v := ?_) rfl (by kernel_rfl) (by kernel_rfl) (by kernel_rfl) (fun _ _ _ h => h) (Or.inl ⟨by rfl, ?_⟩) hS ?_
  rotate_left
  · (intro w hSw; have hSw := (HSd.out w).1 hSw; go_split_ands; go_simp) <;> with_reducible rfl
  clear hS
  try simp only [Act.put, List.setIfInBounds_toArray, List.set_cons_zero, List.set_cons_succ]
  have hS := HSp.out _ bE bS
  refine wpAnyH_take (i := 3) (oi := { dst := some 8, op := Go.Op.load 4 (Go.Operand.tmp 7), type := 4, pos := "l07_rays.go:166", after := #[{ on := 2, ground := Go.Ground.data }], guard := none }) (v := ?_) rfl (by kernel_rfl) (by kernel_rfl) (by kernel_rfl) (fun _ _ _ h => h) (Or.inl ⟨by rfl, ?_⟩) hS ?_
  rotate_left
  · (intro w hSw; have hSw := (HSd.out w).1 hSw; go_split_ands; go_simp) <;> with_reducible rfl
  clear hS
  try simp only [Act.put, List.setIfInBounds_toArray, List.set_cons_zero, List.set_cons_succ]
  have hS := HSp.out _ bE bS
  refine wpAnyH_take (i := 4) (oi := { dst := some 9, op := Go.Op.unOp Go.UnOp.not 4 (Go.Operand.tmp 8), type := 4, pos := "l07_rays.go:166", after := #[{ on := 3, ground := Go.Ground.data }], guard := none }) (v := ?_) rfl (by kernel_rfl) (by kernel_rfl) (by kernel_rfl) (fun _ _ _ h => h) (Or.inl ⟨by rfl, ?_⟩) hS ?_
  rotate_left
  · (intro w hSw; have hSw := (HSd.out w).1 hSw; go_split_ands; go_simp) <;> with_reducible rfl
  clear hS
  try simp only [Act.put, List.setIfInBounds_toArray, List.set_cons_zero, List.set_cons_succ]
  have hS := HSp.out _ bE bS
  refine wpAnyH_take (i := 5) (oi := { dst := some 10, op := Go.Op.fieldAddr 38 (Go.Operand.tmp 3) 2, type := 0, pos := "l07_rays.go:166", after := #[], guard := none }) (v := ?_) rfl (by kernel_rfl) (by kernel_rfl) (by kernel_rfl) (fun _ _ _ h => h) (Or.inl ⟨by rfl, ?_⟩) hS ?_
  rotate_left
  · (intro w hSw; have hSw := (HSd.out w).1 hSw; go_split_ands; go_simp) <;> with_reducible rfl
  clear hS
  try simp only [Act.put, List.setIfInBounds_toArray, List.set_cons_zero, List.set_cons_succ]
  have hS := HSp.out _ bE bS
  refine wpAnyH_take (i := 6) (oi := { dst := some 11, op := Go.Op.load 34 (Go.Operand.tmp 10), type := 34, pos := "l07_rays.go:166", after := #[{ on := 5, ground := Go.Ground.data }], guard := none }) (v := ?_) rfl (by kernel_rfl) (by kernel_rfl) (by kernel_rfl) (fun _ _ _ h => h) (Or.inl ⟨by rfl, ?_⟩) hS ?_
  rotate_left
  · (intro w hSw; have hSw := (HSd.out w).1 hSw; go_split_ands; go_simp) <;> with_reducible rfl
  clear hS
  try simp only [Act.put, List.setIfInBounds_toArray, List.set_cons_zero, List.set_cons_succ]
  have hS := HSp.out _ bE bS
  refine wpAnyH_take (i := 7) (oi := { dst := some 12, op := Go.Op.fieldAddr 118 (Go.Operand.tmp 2) 0, type := 0, pos := "l07_rays.go:166", after := #[], guard := none }) (v := ?_) rfl (by kernel_rfl) (by kernel_rfl) (by kernel_rfl) (fun _ _ _ h => h) (Or.inl ⟨by rfl, ?_⟩) hS ?_
  rotate_left
  · (intro w hSw; have hSw := (HSd.out w).1 hSw; go_split_ands; go_simp) <;> with_reducible rfl
  clear hS
  try simp only [Act.put, List.setIfInBounds_toArray, List.set_cons_zero, List.set_cons_succ]
  have hS := HSp.out _ bE bS
  refine wpAnyH_take (i := 8) (oi := { dst := some 13, op := Go.Op.load 115 (Go.Operand.tmp 12), type := 115, pos := "l07_rays.go:166", after := #[{ on := 7, ground := Go.Ground.data }], guard := none }) (v := ?_) rfl (by kernel_rfl) (by kernel_rfl) (by kernel_rfl) (fun _ _ _ h => h) (Or.inl ⟨by rfl, ?_⟩) hS ?_
  rotate_left
  · (intro w hSw; have hSw := (HSd.out w).1 hSw; go_split_ands; go_simp) <;> with_reducible rfl
  clear hS
  try simp only [Act.put, List.setIfInBounds_toArray, List.set_cons_zero, List.set_cons_succ]
  refine wpAnyH_ready (rs := [9]) (by decide +kernel) (by simp) ?_
  refine AllReadyH.cons (o := { dst := some 14, op := Go.Op.call { callee := Go.Callee.value (Go.Operand.func 124), args := #[Go.Operand.tmp 13], argTypes := #[115] }, type := 34, pos := "l07_rays.go:166", after := #[{ on := 8, ground := Go.Ground.data }], guard := none }) rfl (fun Kn hK => ?_) AllReadyH.nil
  first | go_at_call 124 | (go_simp; go_at_call 124)
  (with_reducible refine Calls.mono (KC.out _ HB.out) ?_)
  rintro e V1 ⟨rfl, hb⟩
  try dsimp only
  try simp only [Act.put, List.setIfInBounds_toArray, List.set_cons_zero, List.set_cons_succ]
  replace bE := bE.on hb
  replace bS := bS.on hb
  replace bR := bR.on hb
  replace HB := Lib.hid (bel_end HB.out hb)
  clear hb
  refine hK.out _ _ (HSp.out _ bE bS) (fun _ => ?_)
  clear hK Kn
  refine wpAnyH_ready (rs := [10]) (by decide +kernel) (by simp) ?_
  refine AllReadyH.cons (o := { dst := some 15, op := Go.Op.call { callee := Go.Callee.value (Go.Operand.func 52), args := #[Go.Operand.tmp 11, Go.Operand.tmp 14], argTypes := #[34, 34] }, type := 34, pos := "l07_rays.go:166", after := #[{ on := 6, ground := Go.Ground.data }, { on := 9, ground := Go.Ground.data }, { on := 9, ground := Go.Ground.chain }], guard := none }) rfl (fun Kn hK => ?_) AllReadyH.nil
  first | go_at_call 52 | (go_simp; go_at_call 52)
  (with_reducible refine Calls.mono (KP.out _) ?_)
  rintro e V2 ⟨rfl, hb⟩
  try dsimp only
  try simp only [Act.put, List.setIfInBounds_toArray, List.set_cons_zero, List.set_cons_succ]
  replace bE := bE.on hb
  replace bS := bS.on hb
  replace bR := bR.on hb
  replace HB := Lib.hid (bel_end HB.out hb)
  clear hb
  refine hK.out _ _ (HSp.out _ bE bS) (fun _ => ?_)
  clear hK Kn
  have hS := HSp.out _ bE bS
  refine wpAnyH_take (i := 11) (oi := { dst := some 16, op := Go.Op.build 38 #[(0, Go.Operand.tmp 6), (1, Go.Operand.tmp 9), (2, Go.Operand.tmp 15)], type := 38, pos := "l07_rays.go:166", after := #[{ on := 1, ground := Go.Ground.data }, { on := 4, ground := Go.Ground.data }, { on := 10, ground := Go.Ground.data }], guard := none }) (v := ?_) rfl (by kernel_rfl) (by kernel_rfl) (by kernel_rfl) (fun _ _ _ h => h) (Or.inl ⟨by rfl, ?_⟩) hS ?_
  rotate_left
  · (intro w hSw; have hSw := (HSd.out w).1 hSw; go_split_ands; go_simp) <;> with_reducible rfl
  clear hS
  try simp only [Act.put, List.setIfInBounds_toArray, List.set_cons_zero, List.set_cons_succ]
  refine wpAnyH_ready (rs := [12]) (by decide +kernel) (by simp) ?_
  refine AllReadyH.cons (o := { dst := none, op := Go.Op.store 38 (Go.Operand.tmp 4) (Go.Operand.tmp 16), type := 0, pos := "l07_rays.go:166", after := #[{ on := 11, ground := Go.Ground.data }, { on := 10, ground := Go.Ground.chain }, { on := 0, ground := Go.Ground.phase }, { on := 1, ground := Go.Ground.phase }, { on := 2, ground := Go.Ground.phase }, { on := 3, ground := Go.Ground.phase }, { on := 4, ground := Go.Ground.phase }, { on := 5, ground := Go.Ground.phase }, { on := 6, ground := Go.Ground.phase }, { on := 7, ground := Go.Ground.phase }, { on := 8, ground := Go.Ground.phase }, { on := 9, ground := Go.Ground.phase }, { on := 10, ground := Go.Ground.phase }, { on := 11, ground := Go.Ground.phase }], guard := none }) rfl (fun Kn hK => ?_) AllReadyH.nil
  have bR_0 := bR.cell 0 rfl
  have bR_1 := bR.cell 1 rfl
  have bR_2 := bR.cell 2 rfl
  have bR_3 := bR.cell 3 rfl
  have bR_f0 := bR.frozen 0
  have bR_f1 := bR.frozen 1
  have bR_f2 := bR.frozen 2
  have bR_f3 := bR.frozen 3
  have bR_l := bR.lt
  go_simp
  clear bR_0 bR_f0 bR_1 bR_f1 bR_2 bR_f2 bR_3 bR_f3 bR_l
  generalize hX : World.setCell _ _ _ = V3
  have hb : Below w.heap.size w V3 := by rw [← hX]; exact ((((HB.out.setCell (p := ⟨w.heap.size + 1 + 1, 0, none⟩) (by first | omega | (dsimp only; omega)) _).setCell (p := ⟨w.heap.size + 1 + 1, 1, none⟩) (by first | omega | (dsimp only; omega)) _).setCell (p := ⟨w.heap.size + 1 + 1, 2, none⟩) (by first | omega | (dsimp only; omega)) _).setCell (p := ⟨w.heap.size + 1 + 1, 3, none⟩) (by first | omega | (dsimp only; omega)) _)
  replace bE : Bk V3 (w.heap.size) #[.slice a zs.length ca, .slice b ys.length cb, .int .i64 (i : Int), .int .i64 c, .int .i64 s, .int .i64 h, .int .i64 (k : Int), .int .i64 F] 118 := by rw [← hX]; exact (Bk.other (Bk.other (Bk.other (Bk.other bE (by omega) 0 _) (by omega) 1 _) (by omega) 2 _) (by omega) 3 _)
  replace bS : Bk V3 (w.heap.size + 1) #[.int .i64 (k : Int), .bool dn, .int .i64 lo, .int .i64 hi] 38 := by rw [← hX]; exact (Bk.other (Bk.other (Bk.other (Bk.other bS (by omega) 0 _) (by omega) 1 _) (by omega) 2 _) (by omega) 3 _)
  replace bR : Bk V3 (w.heap.size + 1 + 1) #[.int .i64 (k : Int), .bool (!dn), .int .i64 (lo + X), .int .i64 (hi + Y)] 38 := by rw [← hX]; exact (Bk.set (Bk.set (Bk.set (Bk.set bR 0 _ rfl) 1 _ rfl) 2 _ rfl) 3 _ rfl)
  clear hX
  replace HB := Lib.hid hb
  clear hb
  refine hK.out _ _ (HSp.out _ bE bS) (fun _ => ?_)
  clear hK Kn
  refine wpAnyH_done (by kernel_rfl) ?_ _
  have c0 := bR.cell 0 rfl
  have c1 := bR.cell 1 rfl
  have c2 := bR.cell 2 rfl
  have c3 := bR.cell 3 rfl
  go_wp2
  exact bodyPost_ret (v := .agg #[.int .i64 (k : Int), .bool (!dn), .int .i64 (lo + X), .int .i64 (hi + Y)]) (by simp [results, Tryz.results123, go_sem, c0, c1, c2, c3]) rfl ⟨rfl, HB.out⟩

set_option maxRecDepth 100000 in
set_option maxHeartbeats 2000000 in
theorem bh3_any (w : World) (K lo hi : Int) (dn : Bool) :
    Calls Tryz.prog 125 #[.agg #[], .agg #[.int .i64 K, .bool dn, .int .i64 lo, .int .i64 hi]] w fun e w' => e = .returned (.agg #[.int .i64 K, .bool true, .int .i64 lo, .int .i64 hi]) ∧ Below w.heap.size w w' := by
  go_enter Tryz.func125, Tryz.ntmps125
  go_wp2
  exact bodyPost_ret (v := .agg #[.int .i64 K, .bool true, .int .i64 lo, .int .i64 hi]) (by simp [results, Tryz.results125, go_sem]) rfl ⟨rfl, (by repeat (first | exact Below.refl _ _ | (refine Below.alloc ?_ (by simp <;> omega) _) | (refine Below.setCell ?_ (by simp <;> omega) _) | (refine Below.drew ?_) | (refine bel_drewN ?_ _)))⟩

set_option maxRecDepth 100000 in
set_option maxHeartbeats 2000000 in
theorem bh4_any (w : World) (K lo hi : Int) (dn : Bool) :
    Calls Tryz.prog 126 #[.agg #[], .agg #[.int .i64 K, .bool dn, .int .i64 lo, .int .i64 hi]] w fun e w' => e = .returned (.agg #[.int .i64 K, .bool false, .int .i64 lo, .int .i64 hi]) ∧ Below w.heap.size w w' := by
  go_enter Tryz.func126, Tryz.ntmps126
  go_wp2
  exact bodyPost_ret (v := .agg #[.int .i64 K, .bool false, .int .i64 lo, .int .i64 hi]) (by simp [results, Tryz.results126, go_sem]) rfl ⟨rfl, (by repeat (first | exact Below.refl _ _ | (refine Below.alloc ?_ (by simp <;> omega) _) | (refine Below.setCell ?_ (by simp <;> omega) _) | (refine Below.drew ?_) | (refine bel_drewN ?_ _)))⟩

set_option maxRecDepth 100000 in
set_option maxHeartbeats 2000000 in
theorem gdn_any (w : World) (c s h : Int) :
    Calls Tryz.prog 38 #[.agg #[.int .i64 c, .int .i64 s, .int .i64 h]] w fun e w' => e = .returned (.bool (decide (0 < s))) ∧ Below w.heap.size w w' := by
  by_cases g : 0 < s
  all_goals
    first | rw [decide_eq_true g] | rw [decide_eq_false g]
    go_enter Tryz.func38, Tryz.ntmps38
    go_wp2
    go_ret
    exact ⟨rfl, (by repeat (first | exact Below.refl _ _ | (refine Below.alloc ?_ (by simp <;> omega) _) | (refine Below.setCell ?_ (by simp <;> omega) _) | (refine Below.drew ?_) | (refine bel_drewN ?_ _)))⟩

set_option maxRecDepth 100000 in
set_option maxHeartbeats 1000000 in
theorem fs_any (w : World) (a b : Option Addr) (ca cb : Nat) (zs ys : List Int) (src c s h : Int) :
    Calls Tryz.prog 27 #[.agg #[.slice a zs.length ca, .slice b ys.length cb, .int .i64 src, .int .i64 c, .int .i64 s, .int .i64 h]] w fun e w' => e = .returned (.agg #[.int .i64 src, .bool (decide (0 < s)), .int .i64 0, .int .i64 0]) ∧ Below w.heap.size w w' := by
  obtain ⟨dd, hd⟩ : ∃ x, decide (0 < s) = x := ⟨_, rfl⟩
  have KG : Hid (∀ W : World, Calls Tryz.prog 38 #[.agg #[.int .i64 c, .int .i64 s, .int .i64 h]] W fun e w' => e = .returned (.bool dd) ∧ Below W.heap.size W w') := Lib.hid (fun W => by have := gdn_any W c s h; rwa [hd] at this)
  rw [hd]
  clear hd
  go_enter Tryz.func27, Tryz.ntmps27
  go_upto_region 1 with fail
  generalize hW : World.alloc _ _ = W
  have bX : Bk W (w.heap.size) #[.slice a zs.length ca, .slice b ys.length cb, .int .i64 src, .int .i64 c, .int .i64 s, .int .i64 h] 74 := by rw [← hW]; repeat (first | (refine Bk.new' ?_; (simp; done)) | refine Bk.alloc ?_ _)
  have bR : Bk W (w.heap.size + 1) #[.int .i64 0, .bool false, .int .i64 0, .int .i64 0] 38 := by rw [← hW]; repeat (first | (refine Bk.new' ?_; (simp; done)) | refine Bk.alloc ?_ _)
  have HB : Hid (Below w.heap.size w W) := Lib.hid (by rw [← hW]; exact (by repeat (first | exact Below.refl _ _ | (refine Below.alloc ?_ (by simp <;> omega) _) | (refine Below.setCell ?_ (by simp <;> omega) _) | (refine Below.drew ?_) | (refine bel_drewN ?_ _))))
  clear hW
  obtain ⟨S, hSd⟩ : ∃ S : World → Prop, ∀ w', S w' ↔ (w'.cell? ⟨w.heap.size, 0, none⟩ = some (.slice a zs.length ca) ∧ w'.cell? ⟨w.heap.size, 1, none⟩ = some (.slice b ys.length cb) ∧ w'.cell? ⟨w.heap.size, 2, none⟩ = some (.int .i64 src) ∧ w'.cell? ⟨w.heap.size, 3, none⟩ = some (.int .i64 c) ∧ w'.cell? ⟨w.heap.size, 4, none⟩ = some (.int .i64 s) ∧ w'.cell? ⟨w.heap.size, 5, none⟩ = some (.int .i64 h)) := ⟨_, fun _ => Iff.rfl⟩
  have HSp : Hid (∀ w' : World, Bk w' (w.heap.size) #[.slice a zs.length ca, .slice b ys.length cb, .int .i64 src, .int .i64 c, .int .i64 s, .int .i64 h] 74 → S w') := Lib.hid (fun w' bX => (hSd w').2 ⟨bX.cell 0 rfl, bX.cell 1 rfl, bX.cell 2 rfl, bX.cell 3 rfl, bX.cell 4 rfl, bX.cell 5 rfl⟩)
  have HSd := Lib.hid hSd
  clear hSd
  refine wp_region_held_drew (S := S) (by kernel_rfl) ?_ (fun hH => ?_)
  · exact (HSp.out _ bX : S (World.drew W))
  clear hH
  generalize hX : World.drew W = V0
  replace bX : Bk V0 (w.heap.size) #[.slice a zs.length ca, .slice b ys.length cb, .int .i64 src, .int .i64 c, .int .i64 s, .int .i64 h] 74 := by rw [← hX]; exact bX
  replace bR : Bk V0 (w.heap.size + 1) #[.int .i64 0, .bool false, .int .i64 0, .int .i64 0] 38 := by rw [← hX]; exact bR
  have hb : Below W.heap.size W V0 := by rw [← hX]; exact (Below.refl _ _).drew
  clear hX
  replace HB := Lib.hid (bel_end HB.out hb)
  clear hb
  have hS := HSp.out _ bX
  refine wpAnyH_take (i := 0) (oi := { dst := some 3, op := Go.Op.fieldAddr 74 (Go.Operand.tmp 1) 1, type := 0, pos := "l07_rays.go:203", after := #[], guard := none }) (v := ?_) rfl (by kernel_rfl) (by kernel_rfl) (by kernel_rfl) (fun _ _ _ h => h) (Or.inl ⟨by rfl, ?_⟩) hS ?_
  rotate_left
  · (intro w hSw; have hSw := (HSd.out w).1 hSw; go_split_ands; go_simp) <;> with_reducible rfl
  clear hS
  try simp only [Act.put, List.setIfInBounds_toArray, List.set_cons_zero, List.set_cons_succ]
  have hS := HSp.out _ bX
  refine wpAnyH_take (i := 1) (oi := { dst := some 4, op := Go.Op.load 2 (Go.Operand.tmp 3), type := 2, pos := "l07_rays.go:203", after := #[{ on := 0, ground := Go.Ground.data }], guard := none }) (v := ?_) rfl (by kernel_rfl) (by kernel_rfl) (by kernel_rfl) (fun _ _ _ h => h) (Or.inl ⟨by rfl, ?_⟩) hS ?_
  rotate_left
  · (intro w hSw; have hSw := (HSd.out w).1 hSw; go_split_ands; go_simp) <;> with_reducible rfl
  clear hS
  try simp only [Act.put, List.setIfInBounds_toArray, List.set_cons_zero, List.set_cons_succ]
  have hS := HSp.out _ bX
  refine wpAnyH_take (i := 2) (oi := { dst := some 5, op := Go.Op.fieldAddr 74 (Go.Operand.tmp 1) 2, type := 0, pos := "l07_rays.go:203", after := #[], guard := none }) (v := ?_) rfl (by kernel_rfl) (by kernel_rfl) (by kernel_rfl) (fun _ _ _ h => h) (Or.inl ⟨by rfl, ?_⟩) hS ?_
  rotate_left
  · (intro w hSw; have hSw := (HSd.out w).1 hSw; go_split_ands; go_simp) <;> with_reducible rfl
  clear hS
  try simp only [Act.put, List.setIfInBounds_toArray, List.set_cons_zero, List.set_cons_succ]
  have hS := HSp.out _ bX
  refine wpAnyH_take (i := 3) (oi := { dst := some 6, op := Go.Op.load 28 (Go.Operand.tmp 5), type := 28, pos := "l07_rays.go:203", after := #[{ on := 2, ground := Go.Ground.data }], guard := none }) (v := ?_) rfl (by kernel_rfl) (by kernel_rfl) (by kernel_rfl) (fun _ _ _ h => h) (Or.inl ⟨by rfl, ?_⟩) hS ?_
  rotate_left
  · (intro w hSw; have hSw := (HSd.out w).1 hSw; go_split_ands; go_simp) <;> with_reducible rfl
  clear hS
  try simp only [Act.put, List.setIfInBounds_toArray, List.set_cons_zero, List.set_cons_succ]
  refine wpAnyH_ready (rs := [4]) (by decide +kernel) (by simp) ?_
  refine AllReadyH.cons (o := { dst := some 7, op := Go.Op.call { callee := Go.Callee.value (Go.Operand.func 38), args := #[Go.Operand.tmp 6], argTypes := #[28] }, type := 4, pos := "l07_rays.go:203", after := #[{ on := 3, ground := Go.Ground.data }], guard := none }) rfl (fun Kn hK => ?_) AllReadyH.nil
  first | go_at_call 38 | (go_simp; go_at_call 38)
  (with_reducible refine Calls.mono (KG.out _) ?_)
  rintro e V1 ⟨rfl, hb⟩
  try dsimp only
  try simp only [Act.put, List.setIfInBounds_toArray, List.set_cons_zero, List.set_cons_succ]
  replace bX := bX.on hb
  replace bR := bR.on hb
  replace HB := Lib.hid (bel_end HB.out hb)
  clear hb
  refine hK.out _ _ (HSp.out _ bX) (fun _ => ?_)
  clear hK Kn
  have hS := HSp.out _ bX
  refine wpAnyH_take (i := 5) (oi := { dst := some 8, op := Go.Op.build 38 #[(0, Go.Operand.tmp 4), (1, Go.Operand.tmp 7)], type := 38, pos := "l07_rays.go:203", after := #[{ on := 1, ground := Go.Ground.data }, { on := 4, ground := Go.Ground.data }], guard := none }) (v := ?_) rfl (by kernel_rfl) (by kernel_rfl) (by kernel_rfl) (fun _ _ _ h => h) (Or.inl ⟨by rfl, ?_⟩) hS ?_
  rotate_left
  · (intro w hSw; have hSw := (HSd.out w).1 hSw; go_split_ands; go_simp) <;> with_reducible rfl
  clear hS
  try simp only [Act.put, List.setIfInBounds_toArray, List.set_cons_zero, List.set_cons_succ]
  refine wpAnyH_ready (rs := [6]) (by decide +kernel) (by simp) ?_
  refine AllReadyH.cons (o := { dst := none, op := Go.Op.store 38 (Go.Operand.tmp 2) (Go.Operand.tmp 8), type := 0, pos := "l07_rays.go:203", after := #[{ on := 5, ground := Go.Ground.data }, { on := 4, ground := Go.Ground.chain }, { on := 0, ground := Go.Ground.phase }, { on := 1, ground := Go.Ground.phase }, { on := 2, ground := Go.Ground.phase }, { on := 3, ground := Go.Ground.phase }, { on := 4, ground := Go.Ground.phase }, { on := 5, ground := Go.Ground.phase }], guard := none }) rfl (fun Kn hK => ?_) AllReadyH.nil
  have bR_0 := bR.cell 0 rfl
  have bR_1 := bR.cell 1 rfl
  have bR_2 := bR.cell 2 rfl
  have bR_3 := bR.cell 3 rfl
  have bR_f0 := bR.frozen 0
  have bR_f1 := bR.frozen 1
  have bR_f2 := bR.frozen 2
  have bR_f3 := bR.frozen 3
  have bR_l := bR.lt
  go_simp
  clear bR_0 bR_f0 bR_1 bR_f1 bR_2 bR_f2 bR_3 bR_f3 bR_l
  generalize hX : World.setCell _ _ _ = V2
  have hb : Below w.heap.size w V2 := by rw [← hX]; exact ((((HB.out.setCell (p := ⟨w.heap.size + 1, 0, none⟩) (by first | omega | (dsimp only; omega)) _).setCell (p := ⟨w.heap.size + 1, 1, none⟩) (by first | omega | (dsimp only; omega)) _).setCell (p := ⟨w.heap.size + 1, 2, none⟩) (by first | omega | (dsimp only; omega)) _).setCell (p := ⟨w.heap.size + 1, 3, none⟩) (by first | omega | (dsimp only; omega)) _)
  replace bX : Bk V2 (w.heap.size) #[.slice a zs.length ca, .slice b ys.length cb, .int .i64 src, .int .i64 c, .int .i64 s, .int .i64 h] 74 := by rw [← hX]; exact (Bk.other (Bk.other (Bk.other (Bk.other bX (by omega) 0 _) (by omega) 1 _) (by omega) 2 _) (by omega) 3 _)
  replace bR : Bk V2 (w.heap.size + 1) #[.int .i64 src, .bool dd, .int .i64 0, .int .i64 0] 38 := by rw [← hX]; exact (Bk.set (Bk.set (Bk.set (Bk.set bR 0 _ rfl) 1 _ rfl) 2 _ rfl) 3 _ rfl)
  clear hX
  replace HB := Lib.hid hb
  clear hb
  refine hK.out _ _ (HSp.out _ bX) (fun _ => ?_)
  clear hK Kn
  refine wpAnyH_done (by kernel_rfl) ?_ _
  have r0 := bR.cell 0 rfl
  have r1 := bR.cell 1 rfl
  have r2 := bR.cell 2 rfl
  have r3 := bR.cell 3 rfl
  go_wp2
  exact bodyPost_ret (v := .agg #[.int .i64 src, .bool dd, .int .i64 0, .int .i64 0]) (by simp [results, Tryz.results27, go_sem, r0, r1, r2, r3]) rfl ⟨rfl, HB.out⟩

set_option maxRecDepth 100000 in
set_option maxHeartbeats 8000000 in
theorem stf_any (w : World) (a b : Option Addr) (ca cb : Nat) (zs ys : List Int) (i k : Nat) (c s h lo hi : Int) (dn : Bool) (hp : Prof w w.heap.size a b zs ys) (r : RyOk zs ys i c s h) (o : SOk zs ys i c h ⟨k, dn, lo, hi⟩) :
    Calls Tryz.prog 57 #[.agg #[.slice a zs.length ca, .slice b ys.length cb, .int .i64 (i : Int), .int .i64 c, .int .i64 s, .int .i64 h], .agg #[.int .i64 (k : Int), .bool dn, .int .i64 lo, .int .i64 hi]] w fun e w' => e = .returned (if nxB zs ys i c h ⟨k, dn, lo, hi⟩ then .tuple #[.agg #[evW a b ca cb zs ys i c s h k dn, .int .i64 ((nxt zs ys i c h ⟨k, dn, lo, hi⟩).k : Int), .bool (nxt zs ys i c h ⟨k, dn, lo, hi⟩).dn, .int .i64 (nxt zs ys i c h ⟨k, dn, lo, hi⟩).lo, .int .i64 (nxt zs ys i c h ⟨k, dn, lo, hi⟩).hi], .int .i64 0] else .tuple #[.agg #[.nilIface, .int .i64 0, .bool false, .int .i64 0, .int .i64 0], .int .i64 3]) ∧ Below w.heap.size w w' := by
  have HP := Lib.hid hp
  obtain ⟨a1, a2, a3⟩ := o.ad r
  have q0 := o.l0
  have q1 := o.lh
  dsimp only at a1 a2 a3 q0 q1
  have HV0 : vldB (lo + adLo zs ys i c h k dn) (hi + adHi zs ys i c h k dn) = nxB zs ys i c h ⟨k, dn, lo, hi⟩ := by rw [vldB_le (by omega)]; rfl
  have KN0 : Hid (∀ W : World, Below w.heap.size w W → Calls Tryz.prog 72 #[.agg #[.slice a zs.length ca, .slice b ys.length cb, .int .i64 (i : Int), .int .i64 c, .int .i64 s, .int .i64 h], .agg #[.int .i64 (k : Int), .bool dn, .int .i64 lo, .int .i64 hi]] W fun e w' => e = .returned (evW a b ca cb zs ys i c s h k dn) ∧ Below W.heap.size W w') := Lib.hid (fun W hb => nev_any W a b ca cb zs ys i k c s h lo hi dn (HP.out.on hb) r o.kl o.cr)
  have EL : (nxt zs ys i c h ⟨k, dn, lo, hi⟩).lo = lo + adLo zs ys i c h k dn := rfl
  have EH : (nxt zs ys i c h ⟨k, dn, lo, hi⟩).hi = hi + adHi zs ys i c h k dn := rfl
  have EK : (nxt zs ys i c h ⟨k, dn, lo, hi⟩).k = if evV zs ys i c h k dn = 1 then fk k dn else k := rfl
  have ED : (nxt zs ys i c h ⟨k, dn, lo, hi⟩).dn = if evV zs ys i c h k dn = 1 then dn else !dn := rfl
  rw [EL, EH, EK, ED]
  clear EL EH EK ED
  have HV := Lib.hid HV0
  clear HV0
  obtain ⟨ok, hok⟩ : ∃ x, nxB zs ys i c h ⟨k, dn, lo, hi⟩ = x := ⟨_, rfl⟩
  rw [hok] at HV ⊢
  clear hok a1 a2 a3 q0 q1
  unfold evV adLo adHi evW
  unfold adLo adHi at HV
  unfold evW at KN0
  cases hin : inP zs.length k dn
  case true =>
    cases hc : crB ys (i : Int) c h (fk k dn : Nat)
    case true =>
      rw [hin, hc] at HV KN0
      simp only [if_true, if_false, Bool.false_eq_true] at HV KN0
      have KB : Hid (∀ W : World, Below w.heap.size w W → Calls Tryz.prog 110 #[.agg #[.slice a zs.length ca, .slice b ys.length cb, .int .i64 (i : Int), .int .i64 c, .int .i64 s, .int .i64 h, .int .i64 (k : Int), .int .i64 (fkI k dn)], .agg #[.int .i64 (k : Int), .bool dn, .int .i64 lo, .int .i64 hi]] W fun e w' => e = .returned (.agg #[.int .i64 (fkI k dn), .bool dn, .int .i64 (lo + crLo zs ys i c h (lk k dn)), .int .i64 (hi + crHi zs ys i c h (lk k dn))]) ∧ Below W.heap.size W w') := Lib.hid (fun W hb => bh1_any W a b ca cb zs ys i k c s h lo hi dn (HP.out.on hb) r o hin hc)
      have eF := fkI_n hin
      simp only [if_true]
      rw [← eF]
      obtain ⟨X, hX⟩ : ∃ u, (lo + crLo zs ys i c h (lk k dn)) = u := ⟨_, rfl⟩
      obtain ⟨Y, hY⟩ : ∃ u, (hi + crHi zs ys i c h (lk k dn)) = u := ⟨_, rfl⟩
      rw [hX, hY] at HV KB ⊢
      obtain ⟨F, hF⟩ : ∃ u, fkI k dn = u := ⟨_, rfl⟩
      rw [hF] at KN0 KB ⊢
      clear hX hY hF eF
      have KN := Lib.hid KN0.out
      clear KN0 hin hc hp r o
      cases ok
      case true =>
        simp only [if_true]
        go_enter Tryz.func57, Tryz.ntmps57
        go_wp2_with fail
        generalize hW : World.alloc _ _ = W
        have bX : Bk W (w.heap.size) #[.slice a zs.length ca, .slice b ys.length cb, .int .i64 (i : Int), .int .i64 c, .int .i64 s, .int .i64 h] 74 := by rw [← hW]; repeat (first | (refine Bk.new' ?_; (simp; done)) | refine Bk.alloc ?_ _)
        have bS : Bk W (w.heap.size + 1) #[.int .i64 (k : Int), .bool dn, .int .i64 lo, .int .i64 hi] 38 := by rw [← hW]; repeat (first | (refine Bk.new' ?_; (simp; done)) | refine Bk.alloc ?_ _)
        have bR : Bk W (w.heap.size + 1 + 1) #[.nilIface, .int .i64 0, .bool false, .int .i64 0, .int .i64 0] 81 := by rw [← hW]; repeat (first | (refine Bk.new' ?_; (simp; done)) | refine Bk.alloc ?_ _)
        have HB : Hid (Below w.heap.size w W) := Lib.hid (by rw [← hW]; exact (by repeat (first | exact Below.refl _ _ | (refine Below.alloc ?_ (by simp <;> omega) _) | (refine Below.setCell ?_ (by simp <;> omega) _) | (refine Below.drew ?_) | (refine bel_drewN ?_ _))))
        clear hW
        (with_reducible refine Calls.mono (KN.out _ HB.out) ?_)
        rintro e w1 ⟨rfl, hb⟩
        replace bX := bX.on hb
        replace bS := bS.on hb
        replace bR := bR.on hb
        replace HB := Lib.hid (bel_end HB.out hb)
        clear hb
        have bX_0 := bX.cell 0 rfl
        have bX_1 := bX.cell 1 rfl
        have bX_2 := bX.cell 2 rfl
        have bX_3 := bX.cell 3 rfl
        have bX_4 := bX.cell 4 rfl
        have bX_5 := bX.cell 5 rfl
        have bX_l := bX.lt
        have bS_0 := bS.cell 0 rfl
        have bS_1 := bS.cell 1 rfl
        have bS_2 := bS.cell 2 rfl
        have bS_3 := bS.cell 3 rfl
        have bS_l := bS.lt
        go_wp2_with fail
        clear bX_0 bX_1 bX_2 bX_3 bX_4 bX_5 bX_l
        clear bS_0 bS_1 bS_2 bS_3 bS_l
        (with_reducible refine Calls.mono (KB.out _ HB.out) ?_)
        rintro e w2 ⟨rfl, hb⟩
        replace bX := bX.on hb
        replace bS := bS.on hb
        replace bR := bR.on hb
        replace HB := Lib.hid (bel_end HB.out hb)
        clear hb
        have bX_0 := bX.cell 0 rfl
        have bX_1 := bX.cell 1 rfl
        have bX_2 := bX.cell 2 rfl
        have bX_3 := bX.cell 3 rfl
        have bX_4 := bX.cell 4 rfl
        have bX_5 := bX.cell 5 rfl
        have bX_l := bX.lt
        have bS_0 := bS.cell 0 rfl
        have bS_1 := bS.cell 1 rfl
        have bS_2 := bS.cell 2 rfl
        have bS_3 := bS.cell 3 rfl
        have bS_l := bS.lt
        go_upto_region 3 with fail
        clear bX_0 bX_1 bX_2 bX_3 bX_4 bX_5 bX_l
        clear bS_0 bS_1 bS_2 bS_3 bS_l
        generalize hW : World.alloc _ _ = W2
        obtain ⟨g, hg⟩ : ∃ g, g = w2.heap.size := ⟨_, rfl⟩
        have bN : Bk W2 g #[.int .i64 F, .bool dn, .int .i64 X, .int .i64 Y] 38 := by rw [← hW]; exact Bk.new' hg
        have hgl : w.heap.size + 1 + 1 < g := by have := bR.lt; omega
        have hb : Below w2.heap.size w2 W2 := by rw [← hW]; exact (Below.refl _ _).alloc (Nat.le_refl _) _
        try rw [← hg]
        clear hW hg
        replace bX := bX.on hb
        replace bS := bS.on hb
        replace bR := bR.on hb
        replace HB := Lib.hid (bel_end HB.out hb)
        clear hb
        have bN_0 := bN.cell 0 rfl
        have bN_1 := bN.cell 1 rfl
        have bN_2 := bN.cell 2 rfl
        have bN_3 := bN.cell 3 rfl
        have bN_l := bN.lt
        go_wp2_with fail
        refine (vld_any _ _ _).mono ?_
        rw [HV.out]
        rintro e w3 ⟨rfl, hw3⟩
        have hb : Below W2.heap.size W2 w3 := by rw [hw3]; exact (Below.refl _ _).alloc (Nat.le_refl _) _
        clear hw3
        clear bN_0 bN_1 bN_2 bN_3 bN_l
        replace bX := bX.on hb
        replace bS := bS.on hb
        replace bR := bR.on hb
        replace bN := bN.on hb
        replace HB := Lib.hid (bel_end HB.out hb)
        clear hb
        have bN_0 := bN.cell 0 rfl
        have bN_1 := bN.cell 1 rfl
        have bN_2 := bN.cell 2 rfl
        have bN_3 := bN.cell 3 rfl
        have bN_l := bN.lt
        have bR_0 := bR.cell 0 rfl
        have bR_1 := bR.cell 1 rfl
        have bR_2 := bR.cell 2 rfl
        have bR_3 := bR.cell 3 rfl
        have bR_4 := bR.cell 4 rfl
        have bR_f0 := bR.frozen 0
        have bR_f1 := bR.frozen 1
        have bR_f2 := bR.frozen 2
        have bR_f3 := bR.frozen 3
        have bR_f4 := bR.frozen 4
        have bR_l := bR.lt
        go_wp2
        exact bodyPost_ret (v := .tuple #[.agg #[.iface 117 (.agg #[.slice a zs.length ca, .slice b ys.length cb, .int .i64 (i : Int), .int .i64 c, .int .i64 s, .int .i64 h, .int .i64 (k : Int), .int .i64 F]), .int .i64 F, .bool dn, .int .i64 X, .int .i64 Y], .int .i64 0]) (by simp [results, Tryz.results57, go_sem, bR_0, bR_1, bR_2, bR_3, bR_4]) rfl ⟨rfl, by first | exact HB.out | exact (((((HB.out.setCell (p := ⟨w.heap.size + 1 + 1, 0, none⟩) (by dsimp only; omega) _).setCell (p := ⟨w.heap.size + 1 + 1, 1, none⟩) (by dsimp only; omega) _).setCell (p := ⟨w.heap.size + 1 + 1, 2, none⟩) (by dsimp only; omega) _).setCell (p := ⟨w.heap.size + 1 + 1, 3, none⟩) (by dsimp only; omega) _).setCell (p := ⟨w.heap.size + 1 + 1, 4, none⟩) (by dsimp only; omega) _)⟩
      case false =>
        simp only [Bool.false_eq_true, if_false]
        go_enter Tryz.func57, Tryz.ntmps57
        go_wp2_with fail
        generalize hW : World.alloc _ _ = W
        have bX : Bk W (w.heap.size) #[.slice a zs.length ca, .slice b ys.length cb, .int .i64 (i : Int), .int .i64 c, .int .i64 s, .int .i64 h] 74 := by rw [← hW]; repeat (first | (refine Bk.new' ?_; (simp; done)) | refine Bk.alloc ?_ _)
        have bS : Bk W (w.heap.size + 1) #[.int .i64 (k : Int), .bool dn, .int .i64 lo, .int .i64 hi] 38 := by rw [← hW]; repeat (first | (refine Bk.new' ?_; (simp; done)) | refine Bk.alloc ?_ _)
        have bR : Bk W (w.heap.size + 1 + 1) #[.nilIface, .int .i64 0, .bool false, .int .i64 0, .int .i64 0] 81 := by rw [← hW]; repeat (first | (refine Bk.new' ?_; (simp; done)) | refine Bk.alloc ?_ _)
        have HB : Hid (Below w.heap.size w W) := Lib.hid (by rw [← hW]; exact (by repeat (first | exact Below.refl _ _ | (refine Below.alloc ?_ (by simp <;> omega) _) | (refine Below.setCell ?_ (by simp <;> omega) _) | (refine Below.drew ?_) | (refine bel_drewN ?_ _))))
        clear hW
        (with_reducible refine Calls.mono (KN.out _ HB.out) ?_)
        rintro e w1 ⟨rfl, hb⟩
        replace bX := bX.on hb
        replace bS := bS.on hb
        replace bR := bR.on hb
        replace HB := Lib.hid (bel_end HB.out hb)
        clear hb
        have bX_0 := bX.cell 0 rfl
        have bX_1 := bX.cell 1 rfl
        have bX_2 := bX.cell 2 rfl
        have bX_3 := bX.cell 3 rfl
        have bX_4 := bX.cell 4 rfl
        have bX_5 := bX.cell 5 rfl
        have bX_l := bX.lt
        have bS_0 := bS.cell 0 rfl
        have bS_1 := bS.cell 1 rfl
        have bS_2 := bS.cell 2 rfl
        have bS_3 := bS.cell 3 rfl
        have bS_l := bS.lt
        go_wp2_with fail
        clear bX_0 bX_1 bX_2 bX_3 bX_4 bX_5 bX_l
        clear bS_0 bS_1 bS_2 bS_3 bS_l
        (with_reducible refine Calls.mono (KB.out _ HB.out) ?_)
        rintro e w2 ⟨rfl, hb⟩
        replace bX := bX.on hb
        replace bS := bS.on hb
        replace bR := bR.on hb
        replace HB := Lib.hid (bel_end HB.out hb)
        clear hb
        have bX_0 := bX.cell 0 rfl
        have bX_1 := bX.cell 1 rfl
        have bX_2 := bX.cell 2 rfl
        have bX_3 := bX.cell 3 rfl
        have bX_4 := bX.cell 4 rfl
        have bX_5 := bX.cell 5 rfl
        have bX_l := bX.lt
        have bS_0 := bS.cell 0 rfl
        have bS_1 := bS.cell 1 rfl
        have bS_2 := bS.cell 2 rfl
        have bS_3 := bS.cell 3 rfl
        have bS_l := bS.lt
        go_upto_region 3 with fail
        clear bX_0 bX_1 bX_2 bX_3 bX_4 bX_5 bX_l
        clear bS_0 bS_1 bS_2 bS_3 bS_l
        generalize hW : World.alloc _ _ = W2
        obtain ⟨g, hg⟩ : ∃ g, g = w2.heap.size := ⟨_, rfl⟩
        have bN : Bk W2 g #[.int .i64 F, .bool dn, .int .i64 X, .int .i64 Y] 38 := by rw [← hW]; exact Bk.new' hg
        have hgl : w.heap.size + 1 + 1 < g := by have := bR.lt; omega
        have hb : Below w2.heap.size w2 W2 := by rw [← hW]; exact (Below.refl _ _).alloc (Nat.le_refl _) _
        try rw [← hg]
        clear hW hg
        replace bX := bX.on hb
        replace bS := bS.on hb
        replace bR := bR.on hb
        replace HB := Lib.hid (bel_end HB.out hb)
        clear hb
        have bN_0 := bN.cell 0 rfl
        have bN_1 := bN.cell 1 rfl
        have bN_2 := bN.cell 2 rfl
        have bN_3 := bN.cell 3 rfl
        have bN_l := bN.lt
        go_wp2_with fail
        refine (vld_any _ _ _).mono ?_
        rw [HV.out]
        rintro e w3 ⟨rfl, hw3⟩
        have hb : Below W2.heap.size W2 w3 := by rw [hw3]; exact (Below.refl _ _).alloc (Nat.le_refl _) _
        clear hw3
        clear bN_0 bN_1 bN_2 bN_3 bN_l
        replace bX := bX.on hb
        replace bS := bS.on hb
        replace bR := bR.on hb
        replace bN := bN.on hb
        replace HB := Lib.hid (bel_end HB.out hb)
        clear hb
        have bN_0 := bN.cell 0 rfl
        have bN_1 := bN.cell 1 rfl
        have bN_2 := bN.cell 2 rfl
        have bN_3 := bN.cell 3 rfl
        have bN_l := bN.lt
        have bR_0 := bR.cell 0 rfl
        have bR_1 := bR.cell 1 rfl
        have bR_2 := bR.cell 2 rfl
        have bR_3 := bR.cell 3 rfl
        have bR_4 := bR.cell 4 rfl
        have bR_f0 := bR.frozen 0
        have bR_f1 := bR.frozen 1
        have bR_f2 := bR.frozen 2
        have bR_f3 := bR.frozen 3
        have bR_f4 := bR.frozen 4
        have bR_l := bR.lt
        go_wp2
        exact bodyPost_ret (v := .tuple #[.agg #[.nilIface, .int .i64 0, .bool false, .int .i64 0, .int .i64 0], .int .i64 3]) (by simp [results, Tryz.results57, go_sem, bR_0, bR_1, bR_2, bR_3, bR_4]) rfl ⟨rfl, by first | exact HB.out | exact (((((HB.out.setCell (p := ⟨w.heap.size + 1 + 1, 0, none⟩) (by dsimp only; omega) _).setCell (p := ⟨w.heap.size + 1 + 1, 1, none⟩) (by dsimp only; omega) _).setCell (p := ⟨w.heap.size + 1 + 1, 2, none⟩) (by dsimp only; omega) _).setCell (p := ⟨w.heap.size + 1 + 1, 3, none⟩) (by dsimp only; omega) _).setCell (p := ⟨w.heap.size + 1 + 1, 4, none⟩) (by dsimp only; omega) _)⟩
    case false =>
      rw [hin, hc] at HV KN0
      simp only [if_true, if_false, Bool.false_eq_true] at HV KN0
      have KB : Hid (∀ W : World, Below w.heap.size w W → Calls Tryz.prog 123 #[.agg #[.slice a zs.length ca, .slice b ys.length cb, .int .i64 (i : Int), .int .i64 c, .int .i64 s, .int .i64 h, .int .i64 (k : Int), .int .i64 (fkI k dn)], .agg #[.int .i64 (k : Int), .bool dn, .int .i64 lo, .int .i64 hi]] W fun e w' => e = .returned (.agg #[.int .i64 (k : Int), .bool (!dn), .int .i64 (lo + tnLo zs ys i c h (lk k dn) dn), .int .i64 (hi + tnHi zs ys i c h (lk k dn) dn)]) ∧ Below W.heap.size W w') := Lib.hid (fun W hb => bh2_any W a b ca cb zs ys i k c s h lo hi dn (HP.out.on hb) r o hin hc)
      have eF := fkI_n hin
      simp only [if_true, if_false, Bool.false_eq_true, show ((2 : Int) = 1) = False by simp]
      obtain ⟨X, hX⟩ : ∃ u, (lo + tnLo zs ys i c h (lk k dn) dn) = u := ⟨_, rfl⟩
      obtain ⟨Y, hY⟩ : ∃ u, (hi + tnHi zs ys i c h (lk k dn) dn) = u := ⟨_, rfl⟩
      rw [hX, hY] at HV KB ⊢
      obtain ⟨F, hF⟩ : ∃ u, fkI k dn = u := ⟨_, rfl⟩
      rw [hF] at KN0 KB ⊢
      clear hX hY hF eF
      have KN := Lib.hid KN0.out
      clear KN0 hin hc hp r o
      cases ok
      case true =>
        simp only [if_true]
        go_enter Tryz.func57, Tryz.ntmps57
        go_wp2_with fail
        generalize hW : World.alloc _ _ = W
        have bX : Bk W (w.heap.size) #[.slice a zs.length ca, .slice b ys.length cb, .int .i64 (i : Int), .int .i64 c, .int .i64 s, .int .i64 h] 74 := by rw [← hW]; repeat (first | (refine Bk.new' ?_; (simp; done)) | refine Bk.alloc ?_ _)
        have bS : Bk W (w.heap.size + 1) #[.int .i64 (k : Int), .bool dn, .int .i64 lo, .int .i64 hi] 38 := by rw [← hW]; repeat (first | (refine Bk.new' ?_; (simp; done)) | refine Bk.alloc ?_ _)
        have bR : Bk W (w.heap.size + 1 + 1) #[.nilIface, .int .i64 0, .bool false, .int .i64 0, .int .i64 0] 81 := by rw [← hW]; repeat (first | (refine Bk.new' ?_; (simp; done)) | refine Bk.alloc ?_ _)
        have HB : Hid (Below w.heap.size w W) := Lib.hid (by rw [← hW]; exact (by repeat (first | exact Below.refl _ _ | (refine Below.alloc ?_ (by simp <;> omega) _) | (refine Below.setCell ?_ (by simp <;> omega) _) | (refine Below.drew ?_) | (refine bel_drewN ?_ _))))
        clear hW
        (with_reducible refine Calls.mono (KN.out _ HB.out) ?_)
        rintro e w1 ⟨rfl, hb⟩
        replace bX := bX.on hb
        replace bS := bS.on hb
        replace bR := bR.on hb
        replace HB := Lib.hid (bel_end HB.out hb)
        clear hb
        have bX_0 := bX.cell 0 rfl
        have bX_1 := bX.cell 1 rfl
        have bX_2 := bX.cell 2 rfl
        have bX_3 := bX.cell 3 rfl
        have bX_4 := bX.cell 4 rfl
        have bX_5 := bX.cell 5 rfl
        have bX_l := bX.lt
        have bS_0 := bS.cell 0 rfl
        have bS_1 := bS.cell 1 rfl
        have bS_2 := bS.cell 2 rfl
        have bS_3 := bS.cell 3 rfl
        have bS_l := bS.lt
        go_wp2_with fail
        clear bX_0 bX_1 bX_2 bX_3 bX_4 bX_5 bX_l
        clear bS_0 bS_1 bS_2 bS_3 bS_l
        (with_reducible refine Calls.mono (KB.out _ HB.out) ?_)
        rintro e w2 ⟨rfl, hb⟩
        replace bX := bX.on hb
        replace bS := bS.on hb
        replace bR := bR.on hb
        replace HB := Lib.hid (bel_end HB.out hb)
        clear hb
        have bX_0 := bX.cell 0 rfl
        have bX_1 := bX.cell 1 rfl
        have bX_2 := bX.cell 2 rfl
        have bX_3 := bX.cell 3 rfl
        have bX_4 := bX.cell 4 rfl
        have bX_5 := bX.cell 5 rfl
        have bX_l := bX.lt
        have bS_0 := bS.cell 0 rfl
        have bS_1 := bS.cell 1 rfl
        have bS_2 := bS.cell 2 rfl
        have bS_3 := bS.cell 3 rfl
        have bS_l := bS.lt
        go_upto_region 3 with fail
        clear bX_0 bX_1 bX_2 bX_3 bX_4 bX_5 bX_l
        clear bS_0 bS_1 bS_2 bS_3 bS_l
        generalize hW : World.alloc _ _ = W2
        obtain ⟨g, hg⟩ : ∃ g, g = w2.heap.size := ⟨_, rfl⟩
        have bN : Bk W2 g #[.int .i64 (k : Int), .bool (!dn), .int .i64 X, .int .i64 Y] 38 := by rw [← hW]; exact Bk.new' hg
        have hgl : w.heap.size + 1 + 1 < g := by have := bR.lt; omega
        have hb : Below w2.heap.size w2 W2 := by rw [← hW]; exact (Below.refl _ _).alloc (Nat.le_refl _) _
        try rw [← hg]
        clear hW hg
        replace bX := bX.on hb
        replace bS := bS.on hb
        replace bR := bR.on hb
        replace HB := Lib.hid (bel_end HB.out hb)
        clear hb
        have bN_0 := bN.cell 0 rfl
        have bN_1 := bN.cell 1 rfl
        have bN_2 := bN.cell 2 rfl
        have bN_3 := bN.cell 3 rfl
        have bN_l := bN.lt
        go_wp2_with fail
        refine (vld_any _ _ _).mono ?_
        rw [HV.out]
        rintro e w3 ⟨rfl, hw3⟩
        have hb : Below W2.heap.size W2 w3 := by rw [hw3]; exact (Below.refl _ _).alloc (Nat.le_refl _) _
        clear hw3
        clear bN_0 bN_1 bN_2 bN_3 bN_l
        replace bX := bX.on hb
        replace bS := bS.on hb
        replace bR := bR.on hb
        replace bN := bN.on hb
        replace HB := Lib.hid (bel_end HB.out hb)
        clear hb
        have bN_0 := bN.cell 0 rfl
        have bN_1 := bN.cell 1 rfl
        have bN_2 := bN.cell 2 rfl
        have bN_3 := bN.cell 3 rfl
        have bN_l := bN.lt
        have bR_0 := bR.cell 0 rfl
        have bR_1 := bR.cell 1 rfl
        have bR_2 := bR.cell 2 rfl
        have bR_3 := bR.cell 3 rfl
        have bR_4 := bR.cell 4 rfl
        have bR_f0 := bR.frozen 0
        have bR_f1 := bR.frozen 1
        have bR_f2 := bR.frozen 2
        have bR_f3 := bR.frozen 3
        have bR_f4 := bR.frozen 4
        have bR_l := bR.lt
        go_wp2
        exact bodyPost_ret (v := .tuple #[.agg #[.iface 118 (.agg #[.slice a zs.length ca, .slice b ys.length cb, .int .i64 (i : Int), .int .i64 c, .int .i64 s, .int .i64 h, .int .i64 (k : Int), .int .i64 F]), .int .i64 (k : Int), .bool (!dn), .int .i64 X, .int .i64 Y], .int .i64 0]) (by simp [results, Tryz.results57, go_sem, bR_0, bR_1, bR_2, bR_3, bR_4]) rfl ⟨rfl, by first | exact HB.out | exact (((((HB.out.setCell (p := ⟨w.heap.size + 1 + 1, 0, none⟩) (by dsimp only; omega) _).setCell (p := ⟨w.heap.size + 1 + 1, 1, none⟩) (by dsimp only; omega) _).setCell (p := ⟨w.heap.size + 1 + 1, 2, none⟩) (by dsimp only; omega) _).setCell (p := ⟨w.heap.size + 1 + 1, 3, none⟩) (by dsimp only; omega) _).setCell (p := ⟨w.heap.size + 1 + 1, 4, none⟩) (by dsimp only; omega) _)⟩
      case false =>
        simp only [Bool.false_eq_true, if_false]
        go_enter Tryz.func57, Tryz.ntmps57
        go_wp2_with fail
        generalize hW : World.alloc _ _ = W
        have bX : Bk W (w.heap.size) #[.slice a zs.length ca, .slice b ys.length cb, .int .i64 (i : Int), .int .i64 c, .int .i64 s, .int .i64 h] 74 := by rw [← hW]; repeat (first | (refine Bk.new' ?_; (simp; done)) | refine Bk.alloc ?_ _)
        have bS : Bk W (w.heap.size + 1) #[.int .i64 (k : Int), .bool dn, .int .i64 lo, .int .i64 hi] 38 := by rw [← hW]; repeat (first | (refine Bk.new' ?_; (simp; done)) | refine Bk.alloc ?_ _)
        have bR : Bk W (w.heap.size + 1 + 1) #[.nilIface, .int .i64 0, .bool false, .int .i64 0, .int .i64 0] 81 := by rw [← hW]; repeat (first | (refine Bk.new' ?_; (simp; done)) | refine Bk.alloc ?_ _)
        have HB : Hid (Below w.heap.size w W) := Lib.hid (by rw [← hW]; exact (by repeat (first | exact Below.refl _ _ | (refine Below.alloc ?_ (by simp <;> omega) _) | (refine Below.setCell ?_ (by simp <;> omega) _) | (refine Below.drew ?_) | (refine bel_drewN ?_ _))))
        clear hW
        (with_reducible refine Calls.mono (KN.out _ HB.out) ?_)
        rintro e w1 ⟨rfl, hb⟩
        replace bX := bX.on hb
        replace bS := bS.on hb
        replace bR := bR.on hb
        replace HB := Lib.hid (bel_end HB.out hb)
        clear hb
        have bX_0 := bX.cell 0 rfl
        have bX_1 := bX.cell 1 rfl
        have bX_2 := bX.cell 2 rfl
        have bX_3 := bX.cell 3 rfl
        have bX_4 := bX.cell 4 rfl
        have bX_5 := bX.cell 5 rfl
        have bX_l := bX.lt
        have bS_0 := bS.cell 0 rfl
        have bS_1 := bS.cell 1 rfl
        have bS_2 := bS.cell 2 rfl
        have bS_3 := bS.cell 3 rfl
        have bS_l := bS.lt
        go_wp2_with fail
        clear bX_0 bX_1 bX_2 bX_3 bX_4 bX_5 bX_l
        clear bS_0 bS_1 bS_2 bS_3 bS_l
        (with_reducible refine Calls.mono (KB.out _ HB.out) ?_)
        rintro e w2 ⟨rfl, hb⟩
        replace bX := bX.on hb
        replace bS := bS.on hb
        replace bR := bR.on hb
        replace HB := Lib.hid (bel_end HB.out hb)
        clear hb
        have bX_0 := bX.cell 0 rfl
        have bX_1 := bX.cell 1 rfl
        have bX_2 := bX.cell 2 rfl
        have bX_3 := bX.cell 3 rfl
        have bX_4 := bX.cell 4 rfl
        have bX_5 := bX.cell 5 rfl
        have bX_l := bX.lt
        have bS_0 := bS.cell 0 rfl
        have bS_1 := bS.cell 1 rfl
        have bS_2 := bS.cell 2 rfl
        have bS_3 := bS.cell 3 rfl
        have bS_l := bS.lt
        go_upto_region 3 with fail
        clear bX_0 bX_1 bX_2 bX_3 bX_4 bX_5 bX_l
        clear bS_0 bS_1 bS_2 bS_3 bS_l
        generalize hW : World.alloc _ _ = W2
        obtain ⟨g, hg⟩ : ∃ g, g = w2.heap.size := ⟨_, rfl⟩
        have bN : Bk W2 g #[.int .i64 (k : Int), .bool (!dn), .int .i64 X, .int .i64 Y] 38 := by rw [← hW]; exact Bk.new' hg
        have hgl : w.heap.size + 1 + 1 < g := by have := bR.lt; omega
        have hb : Below w2.heap.size w2 W2 := by rw [← hW]; exact (Below.refl _ _).alloc (Nat.le_refl _) _
        try rw [← hg]
        clear hW hg
        replace bX := bX.on hb
        replace bS := bS.on hb
        replace bR := bR.on hb
        replace HB := Lib.hid (bel_end HB.out hb)
        clear hb
        have bN_0 := bN.cell 0 rfl
        have bN_1 := bN.cell 1 rfl
        have bN_2 := bN.cell 2 rfl
        have bN_3 := bN.cell 3 rfl
        have bN_l := bN.lt
        go_wp2_with fail
        refine (vld_any _ _ _).mono ?_
        rw [HV.out]
        rintro e w3 ⟨rfl, hw3⟩
        have hb : Below W2.heap.size W2 w3 := by rw [hw3]; exact (Below.refl _ _).alloc (Nat.le_refl _) _
        clear hw3
        clear bN_0 bN_1 bN_2 bN_3 bN_l
        replace bX := bX.on hb
        replace bS := bS.on hb
        replace bR := bR.on hb
        replace bN := bN.on hb
        replace HB := Lib.hid (bel_end HB.out hb)
        clear hb
        have bN_0 := bN.cell 0 rfl
        have bN_1 := bN.cell 1 rfl
        have bN_2 := bN.cell 2 rfl
        have bN_3 := bN.cell 3 rfl
        have bN_l := bN.lt
        have bR_0 := bR.cell 0 rfl
        have bR_1 := bR.cell 1 rfl
        have bR_2 := bR.cell 2 rfl
        have bR_3 := bR.cell 3 rfl
        have bR_4 := bR.cell 4 rfl
        have bR_f0 := bR.frozen 0
        have bR_f1 := bR.frozen 1
        have bR_f2 := bR.frozen 2
        have bR_f3 := bR.frozen 3
        have bR_f4 := bR.frozen 4
        have bR_l := bR.lt
        go_wp2
        exact bodyPost_ret (v := .tuple #[.agg #[.nilIface, .int .i64 0, .bool false, .int .i64 0, .int .i64 0], .int .i64 3]) (by simp [results, Tryz.results57, go_sem, bR_0, bR_1, bR_2, bR_3, bR_4]) rfl ⟨rfl, by first | exact HB.out | exact (((((HB.out.setCell (p := ⟨w.heap.size + 1 + 1, 0, none⟩) (by dsimp only; omega) _).setCell (p := ⟨w.heap.size + 1 + 1, 1, none⟩) (by dsimp only; omega) _).setCell (p := ⟨w.heap.size + 1 + 1, 2, none⟩) (by dsimp only; omega) _).setCell (p := ⟨w.heap.size + 1 + 1, 3, none⟩) (by dsimp only; omega) _).setCell (p := ⟨w.heap.size + 1 + 1, 4, none⟩) (by dsimp only; omega) _)⟩
  case false =>
    cases dn
    case true =>
      rw [hin] at HV KN0
      simp only [if_true, if_false, Bool.false_eq_true] at HV KN0
      have KB : Hid (∀ W : World, Below w.heap.size w W → Calls Tryz.prog 126 #[.agg #[], .agg #[.int .i64 (k : Int), .bool true, .int .i64 lo, .int .i64 hi]] W fun e w' => e = .returned (.agg #[.int .i64 (k : Int), .bool false, .int .i64 lo, .int .i64 hi]) ∧ Below W.heap.size W w') := Lib.hid (fun W hb => bh4_any W k lo hi _)
      simp only [if_true, if_false, Bool.false_eq_true, show ((4 : Int) = 1) = False by simp]
      simp only [Int.add_zero] at HV ⊢
      have KN := Lib.hid KN0.out
      clear KN0 hin hp r o
      cases ok
      case true =>
        simp only [if_true]
        go_enter Tryz.func57, Tryz.ntmps57
        go_wp2_with fail
        generalize hW : World.alloc _ _ = W
        have bX : Bk W (w.heap.size) #[.slice a zs.length ca, .slice b ys.length cb, .int .i64 (i : Int), .int .i64 c, .int .i64 s, .int .i64 h] 74 := by rw [← hW]; repeat (first | (refine Bk.new' ?_; (simp; done)) | refine Bk.alloc ?_ _)
        have bS : Bk W (w.heap.size + 1) #[.int .i64 (k : Int), .bool true, .int .i64 lo, .int .i64 hi] 38 := by rw [← hW]; repeat (first | (refine Bk.new' ?_; (simp; done)) | refine Bk.alloc ?_ _)
        have bR : Bk W (w.heap.size + 1 + 1) #[.nilIface, .int .i64 0, .bool false, .int .i64 0, .int .i64 0] 81 := by rw [← hW]; repeat (first | (refine Bk.new' ?_; (simp; done)) | refine Bk.alloc ?_ _)
        have HB : Hid (Below w.heap.size w W) := Lib.hid (by rw [← hW]; exact (by repeat (first | exact Below.refl _ _ | (refine Below.alloc ?_ (by simp <;> omega) _) | (refine Below.setCell ?_ (by simp <;> omega) _) | (refine Below.drew ?_) | (refine bel_drewN ?_ _))))
        clear hW
        (with_reducible refine Calls.mono (KN.out _ HB.out) ?_)
        rintro e w1 ⟨rfl, hb⟩
        replace bX := bX.on hb
        replace bS := bS.on hb
        replace bR := bR.on hb
        replace HB := Lib.hid (bel_end HB.out hb)
        clear hb
        have bX_0 := bX.cell 0 rfl
        have bX_1 := bX.cell 1 rfl
        have bX_2 := bX.cell 2 rfl
        have bX_3 := bX.cell 3 rfl
        have bX_4 := bX.cell 4 rfl
        have bX_5 := bX.cell 5 rfl
        have bX_l := bX.lt
        have bS_0 := bS.cell 0 rfl
        have bS_1 := bS.cell 1 rfl
        have bS_2 := bS.cell 2 rfl
        have bS_3 := bS.cell 3 rfl
        have bS_l := bS.lt
        go_wp2_with fail
        clear bX_0 bX_1 bX_2 bX_3 bX_4 bX_5 bX_l
        clear bS_0 bS_1 bS_2 bS_3 bS_l
        (with_reducible refine Calls.mono (KB.out _ HB.out) ?_)
        rintro e w2 ⟨rfl, hb⟩
        replace bX := bX.on hb
        replace bS := bS.on hb
        replace bR := bR.on hb
        replace HB := Lib.hid (bel_end HB.out hb)
        clear hb
        have bX_0 := bX.cell 0 rfl
        have bX_1 := bX.cell 1 rfl
        have bX_2 := bX.cell 2 rfl
        have bX_3 := bX.cell 3 rfl
        have bX_4 := bX.cell 4 rfl
        have bX_5 := bX.cell 5 rfl
        have bX_l := bX.lt
        have bS_0 := bS.cell 0 rfl
        have bS_1 := bS.cell 1 rfl
        have bS_2 := bS.cell 2 rfl
        have bS_3 := bS.cell 3 rfl
        have bS_l := bS.lt
        go_upto_region 3 with fail
        clear bX_0 bX_1 bX_2 bX_3 bX_4 bX_5 bX_l
        clear bS_0 bS_1 bS_2 bS_3 bS_l
        generalize hW : World.alloc _ _ = W2
        obtain ⟨g, hg⟩ : ∃ g, g = w2.heap.size := ⟨_, rfl⟩
        have bN : Bk W2 g #[.int .i64 (k : Int), .bool false, .int .i64 lo, .int .i64 hi] 38 := by rw [← hW]; exact Bk.new' hg
        have hgl : w.heap.size + 1 + 1 < g := by have := bR.lt; omega
        have hb : Below w2.heap.size w2 W2 := by rw [← hW]; exact (Below.refl _ _).alloc (Nat.le_refl _) _
        try rw [← hg]
        clear hW hg
        replace bX := bX.on hb
        replace bS := bS.on hb
        replace bR := bR.on hb
        replace HB := Lib.hid (bel_end HB.out hb)
        clear hb
        have bN_0 := bN.cell 0 rfl
        have bN_1 := bN.cell 1 rfl
        have bN_2 := bN.cell 2 rfl
        have bN_3 := bN.cell 3 rfl
        have bN_l := bN.lt
        go_wp2_with fail
        refine (vld_any _ _ _).mono ?_
        rw [HV.out]
        rintro e w3 ⟨rfl, hw3⟩
        have hb : Below W2.heap.size W2 w3 := by rw [hw3]; exact (Below.refl _ _).alloc (Nat.le_refl _) _
        clear hw3
        clear bN_0 bN_1 bN_2 bN_3 bN_l
        replace bX := bX.on hb
        replace bS := bS.on hb
        replace bR := bR.on hb
        replace bN := bN.on hb
        replace HB := Lib.hid (bel_end HB.out hb)
        clear hb
        have bN_0 := bN.cell 0 rfl
        have bN_1 := bN.cell 1 rfl
        have bN_2 := bN.cell 2 rfl
        have bN_3 := bN.cell 3 rfl
        have bN_l := bN.lt
        have bR_0 := bR.cell 0 rfl
        have bR_1 := bR.cell 1 rfl
        have bR_2 := bR.cell 2 rfl
        have bR_3 := bR.cell 3 rfl
        have bR_4 := bR.cell 4 rfl
        have bR_f0 := bR.frozen 0
        have bR_f1 := bR.frozen 1
        have bR_f2 := bR.frozen 2
        have bR_f3 := bR.frozen 3
        have bR_f4 := bR.frozen 4
        have bR_l := bR.lt
        go_wp2
        exact bodyPost_ret (v := .tuple #[.agg #[.iface 142 (.agg #[]), .int .i64 (k : Int), .bool false, .int .i64 lo, .int .i64 hi], .int .i64 0]) (by simp [results, Tryz.results57, go_sem, bR_0, bR_1, bR_2, bR_3, bR_4]) rfl ⟨rfl, by first | exact HB.out | exact (((((HB.out.setCell (p := ⟨w.heap.size + 1 + 1, 0, none⟩) (by dsimp only; omega) _).setCell (p := ⟨w.heap.size + 1 + 1, 1, none⟩) (by dsimp only; omega) _).setCell (p := ⟨w.heap.size + 1 + 1, 2, none⟩) (by dsimp only; omega) _).setCell (p := ⟨w.heap.size + 1 + 1, 3, none⟩) (by dsimp only; omega) _).setCell (p := ⟨w.heap.size + 1 + 1, 4, none⟩) (by dsimp only; omega) _)⟩
      case false =>
        simp only [Bool.false_eq_true, if_false]
        go_enter Tryz.func57, Tryz.ntmps57
        go_wp2_with fail
        generalize hW : World.alloc _ _ = W
        have bX : Bk W (w.heap.size) #[.slice a zs.length ca, .slice b ys.length cb, .int .i64 (i : Int), .int .i64 c, .int .i64 s, .int .i64 h] 74 := by rw [← hW]; repeat (first | (refine Bk.new' ?_; (simp; done)) | refine Bk.alloc ?_ _)
        have bS : Bk W (w.heap.size + 1) #[.int .i64 (k : Int), .bool true, .int .i64 lo, .int .i64 hi] 38 := by rw [← hW]; repeat (first | (refine Bk.new' ?_; (simp; done)) | refine Bk.alloc ?_ _)
        have bR : Bk W (w.heap.size + 1 + 1) #[.nilIface, .int .i64 0, .bool false, .int .i64 0, .int .i64 0] 81 := by rw [← hW]; repeat (first | (refine Bk.new' ?_; (simp; done)) | refine Bk.alloc ?_ _)
        have HB : Hid (Below w.heap.size w W) := Lib.hid (by rw [← hW]; exact (by repeat (first | exact Below.refl _ _ | (refine Below.alloc ?_ (by simp <;> omega) _) | (refine Below.setCell ?_ (by simp <;> omega) _) | (refine Below.drew ?_) | (refine bel_drewN ?_ _))))
        clear hW
        (with_reducible refine Calls.mono (KN.out _ HB.out) ?_)
        rintro e w1 ⟨rfl, hb⟩
        replace bX := bX.on hb
        replace bS := bS.on hb
        replace bR := bR.on hb
        replace HB := Lib.hid (bel_end HB.out hb)
        clear hb
        have bX_0 := bX.cell 0 rfl
        have bX_1 := bX.cell 1 rfl
        have bX_2 := bX.cell 2 rfl
        have bX_3 := bX.cell 3 rfl
        have bX_4 := bX.cell 4 rfl
        have bX_5 := bX.cell 5 rfl
        have bX_l := bX.lt
        have bS_0 := bS.cell 0 rfl
        have bS_1 := bS.cell 1 rfl
        have bS_2 := bS.cell 2 rfl
        have bS_3 := bS.cell 3 rfl
        have bS_l := bS.lt
        go_wp2_with fail
        clear bX_0 bX_1 bX_2 bX_3 bX_4 bX_5 bX_l
        clear bS_0 bS_1 bS_2 bS_3 bS_l
        (with_reducible refine Calls.mono (KB.out _ HB.out) ?_)
        rintro e w2 ⟨rfl, hb⟩
        replace bX := bX.on hb
        replace bS := bS.on hb
        replace bR := bR.on hb
        replace HB := Lib.hid (bel_end HB.out hb)
        clear hb
        have bX_0 := bX.cell 0 rfl
        have bX_1 := bX.cell 1 rfl
        have bX_2 := bX.cell 2 rfl
        have bX_3 := bX.cell 3 rfl
        have bX_4 := bX.cell 4 rfl
        have bX_5 := bX.cell 5 rfl
        have bX_l := bX.lt
        have bS_0 := bS.cell 0 rfl
        have bS_1 := bS.cell 1 rfl
        have bS_2 := bS.cell 2 rfl
        have bS_3 := bS.cell 3 rfl
        have bS_l := bS.lt
        go_upto_region 3 with fail
        clear bX_0 bX_1 bX_2 bX_3 bX_4 bX_5 bX_l
        clear bS_0 bS_1 bS_2 bS_3 bS_l
        generalize hW : World.alloc _ _ = W2
        obtain ⟨g, hg⟩ : ∃ g, g = w2.heap.size := ⟨_, rfl⟩
        have bN : Bk W2 g #[.int .i64 (k : Int), .bool false, .int .i64 lo, .int .i64 hi] 38 := by rw [← hW]; exact Bk.new' hg
        have hgl : w.heap.size + 1 + 1 < g := by have := bR.lt; omega
        have hb : Below w2.heap.size w2 W2 := by rw [← hW]; exact (Below.refl _ _).alloc (Nat.le_refl _) _
        try rw [← hg]
        clear hW hg
        replace bX := bX.on hb
        replace bS := bS.on hb
        replace bR := bR.on hb
        replace HB := Lib.hid (bel_end HB.out hb)
        clear hb
        have bN_0 := bN.cell 0 rfl
        have bN_1 := bN.cell 1 rfl
        have bN_2 := bN.cell 2 rfl
        have bN_3 := bN.cell 3 rfl
        have bN_l := bN.lt
        go_wp2_with fail
        refine (vld_any _ _ _).mono ?_
        rw [HV.out]
        rintro e w3 ⟨rfl, hw3⟩
        have hb : Below W2.heap.size W2 w3 := by rw [hw3]; exact (Below.refl _ _).alloc (Nat.le_refl _) _
        clear hw3
        clear bN_0 bN_1 bN_2 bN_3 bN_l
        replace bX := bX.on hb
        replace bS := bS.on hb
        replace bR := bR.on hb
        replace bN := bN.on hb
        replace HB := Lib.hid (bel_end HB.out hb)
        clear hb
        have bN_0 := bN.cell 0 rfl
        have bN_1 := bN.cell 1 rfl
        have bN_2 := bN.cell 2 rfl
        have bN_3 := bN.cell 3 rfl
        have bN_l := bN.lt
        have bR_0 := bR.cell 0 rfl
        have bR_1 := bR.cell 1 rfl
        have bR_2 := bR.cell 2 rfl
        have bR_3 := bR.cell 3 rfl
        have bR_4 := bR.cell 4 rfl
        have bR_f0 := bR.frozen 0
        have bR_f1 := bR.frozen 1
        have bR_f2 := bR.frozen 2
        have bR_f3 := bR.frozen 3
        have bR_f4 := bR.frozen 4
        have bR_l := bR.lt
        go_wp2
        exact bodyPost_ret (v := .tuple #[.agg #[.nilIface, .int .i64 0, .bool false, .int .i64 0, .int .i64 0], .int .i64 3]) (by simp [results, Tryz.results57, go_sem, bR_0, bR_1, bR_2, bR_3, bR_4]) rfl ⟨rfl, by first | exact HB.out | exact (((((HB.out.setCell (p := ⟨w.heap.size + 1 + 1, 0, none⟩) (by dsimp only; omega) _).setCell (p := ⟨w.heap.size + 1 + 1, 1, none⟩) (by dsimp only; omega) _).setCell (p := ⟨w.heap.size + 1 + 1, 2, none⟩) (by dsimp only; omega) _).setCell (p := ⟨w.heap.size + 1 + 1, 3, none⟩) (by dsimp only; omega) _).setCell (p := ⟨w.heap.size + 1 + 1, 4, none⟩) (by dsimp only; omega) _)⟩
    case false =>
      rw [hin] at HV KN0
      simp only [if_true, if_false, Bool.false_eq_true] at HV KN0
      have KB : Hid (∀ W : World, Below w.heap.size w W → Calls Tryz.prog 125 #[.agg #[], .agg #[.int .i64 (k : Int), .bool false, .int .i64 lo, .int .i64 hi]] W fun e w' => e = .returned (.agg #[.int .i64 (k : Int), .bool true, .int .i64 lo, .int .i64 hi]) ∧ Below W.heap.size W w') := Lib.hid (fun W hb => bh3_any W k lo hi _)
      simp only [if_true, if_false, Bool.false_eq_true, show ((3 : Int) = 1) = False by simp]
      simp only [Int.add_zero] at HV ⊢
      have KN := Lib.hid KN0.out
      clear KN0 hin hp r o
      cases ok
      case true =>
        simp only [if_true]
        go_enter Tryz.func57, Tryz.ntmps57
        go_wp2_with fail
        generalize hW : World.alloc _ _ = W
        have bX : Bk W (w.heap.size) #[.slice a zs.length ca, .slice b ys.length cb, .int .i64 (i : Int), .int .i64 c, .int .i64 s, .int .i64 h] 74 := by rw [← hW]; repeat (first | (refine Bk.new' ?_; (simp; done)) | refine Bk.alloc ?_ _)
        have bS : Bk W (w.heap.size + 1) #[.int .i64 (k : Int), .bool false, .int .i64 lo, .int .i64 hi] 38 := by rw [← hW]; repeat (first | (refine Bk.new' ?_; (simp; done)) | refine Bk.alloc ?_ _)
        have bR : Bk W (w.heap.size + 1 + 1) #[.nilIface, .int .i64 0, .bool false, .int .i64 0, .int .i64 0] 81 := by rw [← hW]; repeat (first | (refine Bk.new' ?_; (simp; done)) | refine Bk.alloc ?_ _)
        have HB : Hid (Below w.heap.size w W) := Lib.hid (by rw [← hW]; exact (by repeat (first | exact Below.refl _ _ | (refine Below.alloc ?_ (by simp <;> omega) _) | (refine Below.setCell ?_ (by simp <;> omega) _) | (refine Below.drew ?_) | (refine bel_drewN ?_ _))))
        clear hW
        (with_reducible refine Calls.mono (KN.out _ HB.out) ?_)
        rintro e w1 ⟨rfl, hb⟩
        replace bX := bX.on hb
        replace bS := bS.on hb
        replace bR := bR.on hb
        replace HB := Lib.hid (bel_end HB.out hb)
        clear hb
        have bX_0 := bX.cell 0 rfl
        have bX_1 := bX.cell 1 rfl
        have bX_2 := bX.cell 2 rfl
        have bX_3 := bX.cell 3 rfl
        have bX_4 := bX.cell 4 rfl
        have bX_5 := bX.cell 5 rfl
        have bX_l := bX.lt
        have bS_0 := bS.cell 0 rfl
        have bS_1 := bS.cell 1 rfl
        have bS_2 := bS.cell 2 rfl
        have bS_3 := bS.cell 3 rfl
        have bS_l := bS.lt
        go_wp2_with fail
        clear bX_0 bX_1 bX_2 bX_3 bX_4 bX_5 bX_l
        clear bS_0 bS_1 bS_2 bS_3 bS_l
        (with_reducible refine Calls.mono (KB.out _ HB.out) ?_)
        rintro e w2 ⟨rfl, hb⟩
        replace bX := bX.on hb
        replace bS := bS.on hb
        replace bR := bR.on hb
        replace HB := Lib.hid (bel_end HB.out hb)
        clear hb
        have bX_0 := bX.cell 0 rfl
        have bX_1 := bX.cell 1 rfl
        have bX_2 := bX.cell 2 rfl
        have bX_3 := bX.cell 3 rfl
        have bX_4 := bX.cell 4 rfl
        have bX_5 := bX.cell 5 rfl
        have bX_l := bX.lt
        have bS_0 := bS.cell 0 rfl
        have bS_1 := bS.cell 1 rfl
        have bS_2 := bS.cell 2 rfl
        have bS_3 := bS.cell 3 rfl
        have bS_l := bS.lt
        go_upto_region 3 with fail
        clear bX_0 bX_1 bX_2 bX_3 bX_4 bX_5 bX_l
        clear bS_0 bS_1 bS_2 bS_3 bS_l
        generalize hW : World.alloc _ _ = W2
        obtain ⟨g, hg⟩ : ∃ g, g = w2.heap.size := ⟨_, rfl⟩
        have bN : Bk W2 g #[.int .i64 (k : Int), .bool true, .int .i64 lo, .int .i64 hi] 38 := by rw [← hW]; exact Bk.new' hg
        have hgl : w.heap.size + 1 + 1 < g := by have := bR.lt; omega
        have hb : Below w2.heap.size w2 W2 := by rw [← hW]; exact (Below.refl _ _).alloc (Nat.le_refl _) _
        try rw [← hg]
        clear hW hg
        replace bX := bX.on hb
        replace bS := bS.on hb
        replace bR := bR.on hb
        replace HB := Lib.hid (bel_end HB.out hb)
        clear hb
        have bN_0 := bN.cell 0 rfl
        have bN_1 := bN.cell 1 rfl
        have bN_2 := bN.cell 2 rfl
        have bN_3 := bN.cell 3 rfl
        have bN_l := bN.lt
        go_wp2_with fail
        refine (vld_any _ _ _).mono ?_
        rw [HV.out]
        rintro e w3 ⟨rfl, hw3⟩
        have hb : Below W2.heap.size W2 w3 := by rw [hw3]; exact (Below.refl _ _).alloc (Nat.le_refl _) _
        clear hw3
        clear bN_0 bN_1 bN_2 bN_3 bN_l
        replace bX := bX.on hb
        replace bS := bS.on hb
        replace bR := bR.on hb
        replace bN := bN.on hb
        replace HB := Lib.hid (bel_end HB.out hb)
        clear hb
        have bN_0 := bN.cell 0 rfl
        have bN_1 := bN.cell 1 rfl
        have bN_2 := bN.cell 2 rfl
        have bN_3 := bN.cell 3 rfl
        have bN_l := bN.lt
        have bR_0 := bR.cell 0 rfl
        have bR_1 := bR.cell 1 rfl
        have bR_2 := bR.cell 2 rfl
        have bR_3 := bR.cell 3 rfl
        have bR_4 := bR.cell 4 rfl
        have bR_f0 := bR.frozen 0
        have bR_f1 := bR.frozen 1
        have bR_f2 := bR.frozen 2
        have bR_f3 := bR.frozen 3
        have bR_f4 := bR.frozen 4
        have bR_l := bR.lt
        go_wp2
        exact bodyPost_ret (v := .tuple #[.agg #[.iface 120 (.agg #[]), .int .i64 (k : Int), .bool true, .int .i64 lo, .int .i64 hi], .int .i64 0]) (by simp [results, Tryz.results57, go_sem, bR_0, bR_1, bR_2, bR_3, bR_4]) rfl ⟨rfl, by first | exact HB.out | exact (((((HB.out.setCell (p := ⟨w.heap.size + 1 + 1, 0, none⟩) (by dsimp only; omega) _).setCell (p := ⟨w.heap.size + 1 + 1, 1, none⟩) (by dsimp only; omega) _).setCell (p := ⟨w.heap.size + 1 + 1, 2, none⟩) (by dsimp only; omega) _).setCell (p := ⟨w.heap.size + 1 + 1, 3, none⟩) (by dsimp only; omega) _).setCell (p := ⟨w.heap.size + 1 + 1, 4, none⟩) (by dsimp only; omega) _)⟩
      case false =>
        simp only [Bool.false_eq_true, if_false]
        go_enter Tryz.func57, Tryz.ntmps57
        go_wp2_with fail
        generalize hW : World.alloc _ _ = W
        have bX : Bk W (w.heap.size) #[.slice a zs.length ca, .slice b ys.length cb, .int .i64 (i : Int), .int .i64 c, .int .i64 s, .int .i64 h] 74 := by rw [← hW]; repeat (first | (refine Bk.new' ?_; (simp; done)) | refine Bk.alloc ?_ _)
        have bS : Bk W (w.heap.size + 1) #[.int .i64 (k : Int), .bool false, .int .i64 lo, .int .i64 hi] 38 := by rw [← hW]; repeat (first | (refine Bk.new' ?_; (simp; done)) | refine Bk.alloc ?_ _)
        have bR : Bk W (w.heap.size + 1 + 1) #[.nilIface, .int .i64 0, .bool false, .int .i64 0, .int .i64 0] 81 := by rw [← hW]; repeat (first | (refine Bk.new' ?_; (simp; done)) | refine Bk.alloc ?_ _)
        have HB : Hid (Below w.heap.size w W) := Lib.hid (by rw [← hW]; exact (by repeat (first | exact Below.refl _ _ | (refine Below.alloc ?_ (by simp <;> omega) _) | (refine Below.setCell ?_ (by simp <;> omega) _) | (refine Below.drew ?_) | (refine bel_drewN ?_ _))))
        clear hW
        (with_reducible refine Calls.mono (KN.out _ HB.out) ?_)
        rintro e w1 ⟨rfl, hb⟩
        replace bX := bX.on hb
        replace bS := bS.on hb
        replace bR := bR.on hb
        replace HB := Lib.hid (bel_end HB.out hb)
        clear hb
        have bX_0 := bX.cell 0 rfl
        have bX_1 := bX.cell 1 rfl
        have bX_2 := bX.cell 2 rfl
        have bX_3 := bX.cell 3 rfl
        have bX_4 := bX.cell 4 rfl
        have bX_5 := bX.cell 5 rfl
        have bX_l := bX.lt
        have bS_0 := bS.cell 0 rfl
        have bS_1 := bS.cell 1 rfl
        have bS_2 := bS.cell 2 rfl
        have bS_3 := bS.cell 3 rfl
        have bS_l := bS.lt
        go_wp2_with fail
        clear bX_0 bX_1 bX_2 bX_3 bX_4 bX_5 bX_l
        clear bS_0 bS_1 bS_2 bS_3 bS_l
        (with_reducible refine Calls.mono (KB.out _ HB.out) ?_)
        rintro e w2 ⟨rfl, hb⟩
        replace bX := bX.on hb
        replace bS := bS.on hb
        replace bR := bR.on hb
        replace HB := Lib.hid (bel_end HB.out hb)
        clear hb
        have bX_0 := bX.cell 0 rfl
        have bX_1 := bX.cell 1 rfl
        have bX_2 := bX.cell 2 rfl
        have bX_3 := bX.cell 3 rfl
        have bX_4 := bX.cell 4 rfl
        have bX_5 := bX.cell 5 rfl
        have bX_l := bX.lt
        have bS_0 := bS.cell 0 rfl
        have bS_1 := bS.cell 1 rfl
        have bS_2 := bS.cell 2 rfl
        have bS_3 := bS.cell 3 rfl
        have bS_l := bS.lt
        go_upto_region 3 with fail
        clear bX_0 bX_1 bX_2 bX_3 bX_4 bX_5 bX_l
        clear bS_0 bS_1 bS_2 bS_3 bS_l
        generalize hW : World.alloc _ _ = W2
        obtain ⟨g, hg⟩ : ∃ g, g = w2.heap.size := ⟨_, rfl⟩
        have bN : Bk W2 g #[.int .i64 (k : Int), .bool true, .int .i64 lo, .int .i64 hi] 38 := by rw [← hW]; exact Bk.new' hg
        have hgl : w.heap.size + 1 + 1 < g := by have := bR.lt; omega
        have hb : Below w2.heap.size w2 W2 := by rw [← hW]; exact (Below.refl _ _).alloc (Nat.le_refl _) _
        try rw [← hg]
        clear hW hg
        replace bX := bX.on hb
        replace bS := bS.on hb
        replace bR := bR.on hb
        replace HB := Lib.hid (bel_end HB.out hb)
        clear hb
        have bN_0 := bN.cell 0 rfl
        have bN_1 := bN.cell 1 rfl
        have bN_2 := bN.cell 2 rfl
        have bN_3 := bN.cell 3 rfl
        have bN_l := bN.lt
        go_wp2_with fail
        refine (vld_any _ _ _).mono ?_
        rw [HV.out]
        rintro e w3 ⟨rfl, hw3⟩
        have hb : Below W2.heap.size W2 w3 := by rw [hw3]; exact (Below.refl _ _).alloc (Nat.le_refl _) _
        clear hw3
        clear bN_0 bN_1 bN_2 bN_3 bN_l
        replace bX := bX.on hb
        replace bS := bS.on hb
        replace bR := bR.on hb
        replace bN := bN.on hb
        replace HB := Lib.hid (bel_end HB.out hb)
        clear hb
        have bN_0 := bN.cell 0 rfl
        have bN_1 := bN.cell 1 rfl
        have bN_2 := bN.cell 2 rfl
        have bN_3 := bN.cell 3 rfl
        have bN_l := bN.lt
        have bR_0 := bR.cell 0 rfl
        have bR_1 := bR.cell 1 rfl
        have bR_2 := bR.cell 2 rfl
        have bR_3 := bR.cell 3 rfl
        have bR_4 := bR.cell 4 rfl
        have bR_f0 := bR.frozen 0
        have bR_f1 := bR.frozen 1
        have bR_f2 := bR.frozen 2
        have bR_f3 := bR.frozen 3
        have bR_f4 := bR.frozen 4
        have bR_l := bR.lt
        go_wp2
        exact bodyPost_ret (v := .tuple #[.agg #[.nilIface, .int .i64 0, .bool false, .int .i64 0, .int .i64 0], .int .i64 3]) (by simp [results, Tryz.results57, go_sem, bR_0, bR_1, bR_2, bR_3, bR_4]) rfl ⟨rfl, by first | exact HB.out | exact (((((HB.out.setCell (p := ⟨w.heap.size + 1 + 1, 0, none⟩) (by dsimp only; omega) _).setCell (p := ⟨w.heap.size + 1 + 1, 1, none⟩) (by dsimp only; omega) _).setCell (p := ⟨w.heap.size + 1 + 1, 2, none⟩) (by dsimp only; omega) _).setCell (p := ⟨w.heap.size + 1 + 1, 3, none⟩) (by dsimp only; omega) _).setCell (p := ⟨w.heap.size + 1 + 1, 4, none⟩) (by dsimp only; omega) _)⟩
end Go.Proofs.YtgecbfbmmbfnmaaGreat
