import Derived.Test.YtgecbfbmmbfnmaaGreatRyW
import Derived.Handy
import Derived.Outline
import Derived.LoopTactic
import Derived.Deep.RegionHeld3
import Derived.Deep.DeepCutAuto
import Derived.Deep.RegionWith
namespace Go.Proofs.YtgecbfbmmbfnmaaGreat
/- Contracts of the program's cells: what an event adds, whether two rays have one history. -/
open Go.ChangeShapes Go.WideShapes Go.ChangeAt Go.RowKit Go.Shelf Num
set_option linter.unusedVariables false
set_option linter.unusedSimpArgs false

set_option maxRecDepth 100000 in
set_option maxHeartbeats 4000000 in
theorem bz1_any (w : World) (a b : Option Addr) (ca cb : Nat) (zs ys : List Int) (i k : Nat) (c s h lo hi : Int) (dn : Bool) (hp : Prof w w.heap.size a b zs ys) (r : RyOk zs ys i c s h) (o : SOk zs ys i c h ⟨k, dn, lo, hi⟩) (hin : inP zs.length k dn = true) (hc : crB ys (i : Int) c h (fk k dn : Nat) = true) :
    Calls Tryz.prog 110 #[.agg #[.slice a zs.length ca, .slice b ys.length cb, .int .i64 (i : Int), .int .i64 c, .int .i64 s, .int .i64 h, .int .i64 (k : Int), .int .i64 (fkI k dn)], .agg #[.int .i64 0, .bool false, .int .i64 0, .int .i64 0]] w fun e w' => e = .returned (.agg #[.int .i64 (fkI k dn), .bool false, .int .i64 (crLo zs ys i c h (lk k dn)), .int .i64 (crHi zs ys i c h (lk k dn))]) ∧ Below w.heap.size w w' := by
  have HP := Lib.hid hp
  obtain ⟨hl, hn, hf, hfl⟩ := inP_l o.kl hin
  have eF := fkI_n hin
  dsimp only at hl hn hf hfl
  obtain ⟨b1, b2, b3⟩ := o.ad r
  unfold adLo at b1 b2
  unfold adHi at b2 b3
  dsimp only at b1 b2 b3
  rw [hin, hc] at b1 b2 b3
  simp only [if_true] at b1 b2 b3
  have KC : Hid (∀ W : World, Below w.heap.size w W → Calls Tryz.prog 111 #[.agg #[.slice a zs.length ca, .slice b ys.length cb, .int .i64 (i : Int), .int .i64 c, .int .i64 s, .int .i64 h, .int .i64 (k : Int), .int .i64 (fkI k dn)]] W fun e w' => e = .returned (.agg #[.int .i64 (crLo zs ys i c h (lk k dn)), .int .i64 (crHi zs ys i c h (lk k dn))]) ∧ Below W.heap.size W w') := Lib.hid (fun W hb => by have := acr_any W a b ca cb zs ys i k (fk k dn) c s h (HP.out.on hb) r o.kl hfl o.cr hc; have g := cr_near r hl dn; rw [hn, hf] at g; rwa [g.1, g.2, ← eF] at this)
  obtain ⟨X, hX⟩ : ∃ u, crLo zs ys i c h (lk k dn) = u := ⟨_, rfl⟩
  obtain ⟨Y, hY⟩ : ∃ u, crHi zs ys i c h (lk k dn) = u := ⟨_, rfl⟩
  rw [hX] at KC b1 b2 ⊢
  rw [hY] at KC b2 b3 ⊢
  have KP : Hid (∀ W : World, Calls Tryz.prog 52 #[.agg #[.int .i64 0, .int .i64 0], .agg #[.int .i64 X, .int .i64 Y]] W fun e w' => e = .returned (.agg #[.int .i64 X, .int .i64 Y]) ∧ Below W.heap.size W w') := Lib.hid (fun W => by have := pls_any 0 0 X Y (by omega) (by omega) (by omega) (by omega) W; rwa [Int.zero_add, Int.zero_add] at this)
  obtain ⟨F, hF⟩ : ∃ u, fkI k dn = u := ⟨_, rfl⟩
  rw [hF] at KC ⊢
  clear hX hY b1 b2 b3 hl hn hf hfl eF hin hc hp r o hF
  go_enter Tryz.func110, Tryz.ntmps110
  go_wp2_with fail
  generalize hW : World.alloc _ _ = W
  have bE : Bk W (w.heap.size) #[.slice a zs.length ca, .slice b ys.length cb, .int .i64 (i : Int), .int .i64 c, .int .i64 s, .int .i64 h, .int .i64 (k : Int), .int .i64 F] 117 := by rw [← hW]; repeat (first | (refine Bk.new' ?_; (simp; done)) | refine Bk.alloc ?_ _)
  have bS : Bk W (w.heap.size + 1) #[.int .i64 0, .bool false, .int .i64 0, .int .i64 0] 38 := by rw [← hW]; repeat (first | (refine Bk.new' ?_; (simp; done)) | refine Bk.alloc ?_ _)
  have bR : Bk W (w.heap.size + 1 + 1) #[.int .i64 0, .bool false, .int .i64 0, .int .i64 0] 38 := by rw [← hW]; repeat (first | (refine Bk.new' ?_; (simp; done)) | refine Bk.alloc ?_ _)
  have HB : Hid (Below w.heap.size w W) := Lib.hid (by rw [← hW]; exact (by repeat (first | exact Below.refl _ _ | (refine Below.alloc ?_ (by simp <;> omega) _) | (refine Below.setCell ?_ (by simp <;> omega) _) | (refine Below.drew ?_) | (refine bel_drewN ?_ _))))
  clear hW
  obtain ⟨S, hSd⟩ : ∃ S : World → Prop, ∀ w', S w' ↔ (w'.cell? ⟨w.heap.size, 0, none⟩ = some (.slice a zs.length ca) ∧ w'.cell? ⟨w.heap.size, 1, none⟩ = some (.slice b ys.length cb) ∧ w'.cell? ⟨w.heap.size, 2, none⟩ = some (.int .i64 (i : Int)) ∧ w'.cell? ⟨w.heap.size, 3, none⟩ = some (.int .i64 c) ∧ w'.cell? ⟨w.heap.size, 4, none⟩ = some (.int .i64 s) ∧ w'.cell? ⟨w.heap.size, 5, none⟩ = some (.int .i64 h) ∧ w'.cell? ⟨w.heap.size, 6, none⟩ = some (.int .i64 (k : Int)) ∧ w'.cell? ⟨w.heap.size, 7, none⟩ = some (.int .i64 F) ∧ w'.cell? ⟨w.heap.size + 1, 1, none⟩ = some (.bool false) ∧ w'.cell? ⟨w.heap.size + 1, 2, none⟩ = some (.int .i64 0) ∧ w'.cell? ⟨w.heap.size + 1, 3, none⟩ = some (.int .i64 0)) := ⟨_, fun _ => Iff.rfl⟩
  have HSp : Hid (∀ w' : World, Bk w' (w.heap.size) #[.slice a zs.length ca, .slice b ys.length cb, .int .i64 (i : Int), .int .i64 c, .int .i64 s, .int .i64 h, .int .i64 (k : Int), .int .i64 F] 117 → Bk w' (w.heap.size + 1) #[.int .i64 0, .bool false, .int .i64 0, .int .i64 0] 38 → S w') := Lib.hid (fun w' bE bS => (hSd w').2 ⟨bE.cell 0 rfl, bE.cell 1 rfl, bE.cell 2 rfl, bE.cell 3 rfl, bE.cell 4 rfl, bE.cell 5 rfl, bE.cell 6 rfl, bE.cell 7 rfl, bS.cell 1 rfl, bS.cell 2 rfl, bS.cell 3 rfl⟩)
  have HSd := Lib.hid hSd
  clear hSd
  refine wp_region_held_drew (S := S) (by kernel_rfl) ?_ (fun hH => ?_)
  · exact (HSp.out _ bE bS : S (World.drew W))
  clear hH
  generalize hX : World.drew W = V0
  replace bE : Bk V0 (w.heap.size) #[.slice a zs.length ca, .slice b ys.length cb, .int .i64 (i : Int), .int .i64 c, .int .i64 s, .int .i64 h, .int .i64 (k : Int), .int .i64 F] 117 := by rw [← hX]; exact bE
  replace bS : Bk V0 (w.heap.size + 1) #[.int .i64 0, .bool false, .int .i64 0, .int .i64 0] 38 := by rw [← hX]; exact bS
  replace bR : Bk V0 (w.heap.size + 1 + 1) #[.int .i64 0, .bool false, .int .i64 0, .int .i64 0] 38 := by rw [← hX]; exact bR
  have hb : Below W.heap.size W V0 := by rw [← hX]; exact (Below.refl _ _).drew
  clear hX
  replace HB := Lib.hid (bel_end HB.out hb)
  clear hb
  have hS := HSp.out _ bE bS
  refine wpAnyH_take (i := 0) (oi := { dst := some 5, op := Go.Op.fieldAddr 117 (Go.Operand.tmp 2) 0, type := 0, pos := "l07_rays.go:162", after := #[], guard := none }) (v := ?_) rfl (by kernel_rfl) (by kernel_rfl) (by kernel_rfl) (fun _ _ _ h => h) (Or.inl ⟨by rfl, ?_⟩) hS ?_
  rotate_left
  · (intro w hSw; have hSw := (HSd.out w).1 hSw; go_split_ands; go_simp) <;> with_reducible rfl
  clear hS
  try simp only [Act.put, List.setIfInBounds_toArray, List.set_cons_zero, List.set_cons_succ]
  have hS := HSp.out _ bE bS
  refine wpAnyH_take (i := 1) (oi := { dst := some 6, op := Go.Op.fieldAddr 115 (Go.Operand.tmp 5) 2, type := 0, pos := "l07_rays.go:162", after := #[{ on := 0, ground := Go.Ground.data }], guard := none }) (v := ?_) rfl (by kernel_rfl) (by kernel_rfl) (by kernel_rfl) (fun _ _ _ h => h) (Or.inl ⟨by rfl, ?_⟩) hS ?_
  rotate_left
  · (intro w hSw; have hSw := (HSd.out w).1 hSw; go_split_ands; go_simp) <;> with_reducible rfl
  clear hS
  try simp only [Act.put, List.setIfInBounds_toArray, List.set_cons_zero, List.set_cons_succ]
  have hS := HSp.out _ bE bS
  refine wpAnyH_take (i := 2) (oi := { dst := some 7, op := Go.Op.load 2 (Go.Operand.tmp 6), type := 2, pos := "l07_rays.go:162", after := #[{ on := 1, ground := Go.Ground.data }], guard := none }) (v := ?_) rfl (by kernel_rfl) (by kernel_rfl) (by kernel_rfl) (fun _ _ _ h => h) (Or.inl ⟨by rfl, ?_⟩) hS ?_
  rotate_left
  · (intro w hSw; have hSw := (HSd.out w).1 hSw; go_split_ands; go_simp) <;> with_reducible rfl
  clear hS
  try simp only [Act.put, List.setIfInBounds_toArray, List.set_cons_zero, List.set_cons_succ]
  have hS := HSp.out _ bE bS
  refine wpAnyH_take (i := 3) (oi := { dst := some 8, op := Go.Op.fieldAddr 38 (Go.Operand.tmp 3) 1, type := 0, pos := "l07_rays.go:162", after := #[], guard := none }) (v := ?_) rfl (by kernel_rfl) (by kernel_rfl) (by kernel_rfl) (fun _ _ _ h => h) (Or.inl ⟨by rfl, ?_⟩) hS ?_
  rotate_left
  · (intro w hSw; have hSw := (HSd.out w).1 hSw; go_split_ands; go_simp) <;> with_reducible rfl
  clear hS
  try simp only [Act.put, List.setIfInBounds_toArray, List.set_cons_zero, List.set_cons_succ]
  have hS := HSp.out _ bE bS
  refine wpAnyH_take (i := 4) (oi := { dst := some 9, op := Go.Op.load 4 (Go.Operand.tmp 8), type := 4, pos := "l07_rays.go:162", after := #[{ on := 3, ground := Go.Ground.data }], guard := none }) (v := ?_) rfl (by kernel_rfl) (by kernel_rfl) (by kernel_rfl) (fun _ _ _ h => h) (Or.inl ⟨by rfl, ?_⟩) hS ?_
  rotate_left
  · (intro w hSw; have hSw := (HSd.out w).1 hSw; go_split_ands; go_simp) <;> with_reducible rfl
  clear hS
  try simp only [Act.put, List.setIfInBounds_toArray, List.set_cons_zero, List.set_cons_succ]
  have hS := HSp.out _ bE bS
  refine wpAnyH_take (i := 5) (oi := { dst := some 10, op := Go.Op.fieldAddr 38 (Go.Operand.tmp 3) 2, type := 0, pos := "l07_rays.go:162", after := #[], guard := none }) (v := ?_) rfl (by kernel_rfl) (by kernel_rfl) (by kernel_rfl) (fun _ _ _ h => h) (Or.inl ⟨by rfl, ?_⟩) hS ?_
  rotate_left
  · (intro w hSw; have hSw := (HSd.out w).1 hSw; go_split_ands; go_simp) <;> with_reducible rfl
  clear hS
  try simp only [Act.put, List.setIfInBounds_toArray, List.set_cons_zero, List.set_cons_succ]
  have hS := HSp.out _ bE bS
  refine wpAnyH_take (i := 6) (oi := { dst := some 11, op := Go.Op.load 34 (Go.Operand.tmp 10), type := 34, pos := "l07_rays.go:162", after := #[{ on := 5, ground := Go.Ground.data }], guard := none }) (v := ?_) rfl (by kernel_rfl) (by kernel_rfl) (by kernel_rfl) (fun _ _ _ h => h) (Or.inl ⟨by rfl, ?_⟩) hS ?_
  rotate_left
  · (intro w hSw; have hSw := (HSd.out w).1 hSw; go_split_ands; go_simp) <;> with_reducible rfl
  clear hS
  try simp only [Act.put, List.setIfInBounds_toArray, List.set_cons_zero, List.set_cons_succ]
  have hS := HSp.out _ bE bS
  refine wpAnyH_take (i := 7) (oi := { dst := some 12, op := Go.Op.fieldAddr 117 (Go.Operand.tmp 2) 0, type := 0, pos := "l07_rays.go:162", after := #[], guard := none }) (v := ?_) rfl (by kernel_rfl) (by kernel_rfl) (by kernel_rfl) (fun _ _ _ h => h) (Or.inl ⟨by rfl, ?_⟩) hS ?_
  rotate_left
  · (intro w hSw; have hSw := (HSd.out w).1 hSw; go_split_ands; go_simp) <;> with_reducible rfl
  clear hS
  try simp only [Act.put, List.setIfInBounds_toArray, List.set_cons_zero, List.set_cons_succ]
  have hS := HSp.out _ bE bS
  refine wpAnyH_take (i := 8) (oi := { dst := some 13, op := Go.Op.load 115 (Go.Operand.tmp 12), type := 115, pos := "l07_rays.go:162", after := #[{ on := 7, ground := Go.Ground.data }], guard := none }) (v := ?_) rfl (by kernel_rfl) (by kernel_rfl) (by kernel_rfl) (fun _ _ _ h => h) (Or.inl ⟨by rfl, ?_⟩) hS ?_
  rotate_left
  · (intro w hSw; have hSw := (HSd.out w).1 hSw; go_split_ands; go_simp) <;> with_reducible rfl
  clear hS
  try simp only [Act.put, List.setIfInBounds_toArray, List.set_cons_zero, List.set_cons_succ]
  refine wpAnyH_ready (rs := [9]) (by decide +kernel) (by simp) ?_
  refine AllReadyH.cons (o := { dst := some 14, op := Go.Op.call { callee := Go.Callee.value (Go.Operand.func 111), args := #[Go.Operand.tmp 13], argTypes := #[115] }, type := 34, pos := "l07_rays.go:162", after := #[{ on := 8, ground := Go.Ground.data }], guard := none }) rfl (fun Kn hK => ?_) AllReadyH.nil
  first | go_at_call 111 | (go_simp; go_at_call 111)
  (with_reducible refine Calls.mono (KC.out _ HB.out) ?_)
  rintro e V1 ⟨rfl, hb⟩
  try dsimp only
  try simp only [Act.put, List.setIfInBounds_toArray, List.set_cons_zero, List.set_cons_succ]
  replace bE := bE.on hb
  replace bS := bS.on hb
  replace bR := bR.on hb
  replace HB := Lib.hid (bel_end HB.out hb)
  clear hb
  refine hK.out _ _ (HSp.out _ bE bS) (fun _ => ?_)
  clear hK Kn
  refine wpAnyH_ready (rs := [10]) (by decide +kernel) (by simp) ?_
  refine AllReadyH.cons (o := { dst := some 15, op := Go.Op.call { callee := Go.Callee.value (Go.Operand.func 52), args := #[Go.Operand.tmp 11, Go.Operand.tmp 14], argTypes := #[34, 34] }, type := 34, pos := "l07_rays.go:162", after := #[{ on := 6, ground := Go.Ground.data }, { on := 9, ground := Go.Ground.data }, { on := 9, ground := Go.Ground.chain }], guard := none }) rfl (fun Kn hK => ?_) AllReadyH.nil
  first | go_at_call 52 | (go_simp; go_at_call 52)
  (with_reducible refine Calls.mono (KP.out _) ?_)
  rintro e V2 ⟨rfl, hb⟩
  try dsimp only
  try simp only [Act.put, List.setIfInBounds_toArray, List.set_cons_zero, List.set_cons_succ]
  replace bE := bE.on hb
  replace bS := bS.on hb
  replace bR := bR.on hb
  replace HB := Lib.hid (bel_end HB.out hb)
  clear hb
  refine hK.out _ _ (HSp.out _ bE bS) (fun _ => ?_)
  clear hK Kn
  have hS := HSp.out _ bE bS
  refine wpAnyH_take (i := 11) (oi := { dst := some 16, op := Go.Op.build 38 #[(0, Go.Operand.tmp 7), (1, Go.Operand.tmp 9), (2, Go.Operand.tmp 15)], type := 38, pos := "l07_rays.go:162", after := #[{ on := 2, ground := Go.Ground.data }, { on := 4, ground := Go.Ground.data }, { on := 10, ground := Go.Ground.data }], guard := none }) (v := ?_) rfl (by kernel_rfl) (by kernel_rfl) (by kernel_rfl) (fun _ _ _ h => h) (Or.inl ⟨by rfl, ?_⟩) hS ?_
  rotate_left
  · (intro w hSw; have hSw := (HSd.out w).1 hSw; go_split_ands; go_simp) <;> with_reducible rfl
  clear hS
  try simp only [Act.put, List.setIfInBounds_toArray, List.set_cons_zero, List.set_cons_succ]
  refine wpAnyH_ready (rs := [12]) (by decide +kernel) (by simp) ?_
  refine AllReadyH.cons (o := { dst := none, op := Go.Op.store 38 (Go.Operand.tmp 4) (Go.Operand.tmp 16), type := 0, pos := "l07_rays.go:162", after := #[{ on := 11, ground := Go.Ground.data }, { on := 10, ground := Go.Ground.chain }, { on := 0, ground := Go.Ground.phase }, { on := 1, ground := Go.Ground.phase }, { on := 2, ground := Go.Ground.phase }, { on := 3, ground := Go.Ground.phase }, { on := 4, ground := Go.Ground.phase }, { on := 5, ground := Go.Ground.phase }, { on := 6, ground := Go.Ground.phase }, { on := 7, ground := Go.Ground.phase }, { on := 8, ground := Go.Ground.phase }, { on := 9, ground := Go.Ground.phase }, { on := 10, ground := Go.Ground.phase }, { on := 11, ground := Go.Ground.phase }], guard := none }) rfl (fun Kn hK => ?_) AllReadyH.nil
  have bR_0 := bR.cell 0 rfl
  have bR_1 := bR.cell 1 rfl
  have bR_2 := bR.cell 2 rfl
  have bR_3 := bR.cell 3 rfl
  have bR_f0 := bR.frozen 0
  have bR_f1 := bR.frozen 1
  have bR_f2 := bR.frozen 2
  have bR_f3 := bR.frozen 3
  have bR_l := bR.lt
  go_simp
  clear bR_0 bR_f0 bR_1 bR_f1 bR_2 bR_f2 bR_3 bR_f3 bR_l
  generalize hX : World.setCell _ _ _ = V3
  have hb : Below w.heap.size w V3 := by rw [← hX]; exact ((((HB.out.setCell (p := ⟨w.heap.size + 1 + 1, 0, none⟩) (by first | omega | (dsimp only; omega)) _).setCell (p := ⟨w.heap.size + 1 + 1, 1, none⟩) (by first | omega | (dsimp only; omega)) _).setCell (p := ⟨w.heap.size + 1 + 1, 2, none⟩) (by first | omega | (dsimp only; omega)) _).setCell (p := ⟨w.heap.size + 1 + 1, 3, none⟩) (by first | omega | (dsimp only; omega)) _)
  replace bE : Bk V3 (w.heap.size) #[.slice a zs.length ca, .slice b ys.length cb, .int .i64 (i : Int), .int .i64 c, .int .i64 s, .int .i64 h, .int .i64 (k : Int), .int .i64 F] 117 := by rw [← hX]; exact (Bk.other (Bk.other (Bk.other (Bk.other bE (by omega) 0 _) (by omega) 1 _) (by omega) 2 _) (by omega) 3 _)
  replace bS : Bk V3 (w.heap.size + 1) #[.int .i64 0, .bool false, .int .i64 0, .int .i64 0] 38 := by rw [← hX]; exact (Bk.other (Bk.other (Bk.other (Bk.other bS (by omega) 0 _) (by omega) 1 _) (by omega) 2 _) (by omega) 3 _)
  replace bR : Bk V3 (w.heap.size + 1 + 1) #[.int .i64 F, .bool false, .int .i64 X, .int .i64 Y] 38 := by rw [← hX]; exact (Bk.set (Bk.set (Bk.set (Bk.set bR 0 _ rfl) 1 _ rfl) 2 _ rfl) 3 _ rfl)
  clear hX
  replace HB := Lib.hid hb
  clear hb
  refine hK.out _ _ (HSp.out _ bE bS) (fun _ => ?_)
  clear hK Kn
  refine wpAnyH_done (by kernel_rfl) ?_ _
  have c0 := bR.cell 0 rfl
  have c1 := bR.cell 1 rfl
  have c2 := bR.cell 2 rfl
  have c3 := bR.cell 3 rfl
  go_wp2
  exact bodyPost_ret (v := .agg #[.int .i64 F, .bool false, .int .i64 X, .int .i64 Y]) (by simp [results, Tryz.results110, go_sem, c0, c1, c2, c3]) rfl ⟨rfl, HB.out⟩

set_option maxRecDepth 100000 in
set_option maxHeartbeats 4000000 in
theorem bz2_any (w : World) (a b : Option Addr) (ca cb : Nat) (zs ys : List Int) (i k : Nat) (c s h lo hi : Int) (dn : Bool) (hp : Prof w w.heap.size a b zs ys) (r : RyOk zs ys i c s h) (o : SOk zs ys i c h ⟨k, dn, lo, hi⟩) (hin : inP zs.length k dn = true) (hc : crB ys (i : Int) c h (fk k dn : Nat) = false) :
    Calls Tryz.prog 123 #[.agg #[.slice a zs.length ca, .slice b ys.length cb, .int .i64 (i : Int), .int .i64 c, .int .i64 s, .int .i64 h, .int .i64 (k : Int), .int .i64 (fkI k dn)], .agg #[.int .i64 0, .bool false, .int .i64 0, .int .i64 0]] w fun e w' => e = .returned (.agg #[.int .i64 0, .bool true, .int .i64 (tnLo zs ys i c h (lk k dn) dn), .int .i64 (tnHi zs ys i c h (lk k dn) dn)]) ∧ Below w.heap.size w w' := by
  have HP := Lib.hid hp
  obtain ⟨hl, hn, hf, hfl⟩ := inP_l o.kl hin
  have eF := fkI_n hin
  dsimp only at hl hn hf hfl
  obtain ⟨b1, b2, b3⟩ := o.ad r
  unfold adLo at b1 b2
  unfold adHi at b2 b3
  dsimp only at b1 b2 b3
  rw [hin, hc] at b1 b2 b3
  simp only [if_true, Bool.false_eq_true, if_false] at b1 b2 b3
  have hpos : 0 < riS ys c k (fk k dn) := by have g := r.turn o.cr hc; dsimp only at g; omega
  have KC : Hid (∀ W : World, Below w.heap.size w W → Calls Tryz.prog 124 #[.agg #[.slice a zs.length ca, .slice b ys.length cb, .int .i64 (i : Int), .int .i64 c, .int .i64 s, .int .i64 h, .int .i64 (k : Int), .int .i64 (fkI k dn)]] W fun e w' => e = .returned (.agg #[.int .i64 (tnLo zs ys i c h (lk k dn) dn), .int .i64 (tnHi zs ys i c h (lk k dn) dn)]) ∧ Below W.heap.size W w') := Lib.hid (fun W hb => by have := atr_any W a b ca cb zs ys i k (fk k dn) c s h (HP.out.on hb) r o.kl hfl o.cr hpos; have g := tn_near (c := c) r hl dn; rw [hn, hf] at g; rwa [g.1, g.2, ← eF] at this)
  obtain ⟨X, hX⟩ : ∃ u, tnLo zs ys i c h (lk k dn) dn = u := ⟨_, rfl⟩
  obtain ⟨Y, hY⟩ : ∃ u, tnHi zs ys i c h (lk k dn) dn = u := ⟨_, rfl⟩
  rw [hX] at KC b1 b2 ⊢
  rw [hY] at KC b2 b3 ⊢
  have KP : Hid (∀ W : World, Calls Tryz.prog 52 #[.agg #[.int .i64 0, .int .i64 0], .agg #[.int .i64 X, .int .i64 Y]] W fun e w' => e = .returned (.agg #[.int .i64 X, .int .i64 Y]) ∧ Below W.heap.size W w') := Lib.hid (fun W => by have := pls_any 0 0 X Y (by omega) (by omega) (by omega) (by omega) W; rwa [Int.zero_add, Int.zero_add] at this)
  obtain ⟨F, hF⟩ : ∃ u, fkI k dn = u := ⟨_, rfl⟩
  rw [hF] at KC ⊢
  clear hX hY b1 b2 b3 hl hn hf hfl eF hin hc hp r o hF hpos
  go_enter Tryz.func123, Tryz.ntmps123
  go_wp2_with fail
  generalize hW : World.alloc _ _ = W
  have bE : Bk W (w.heap.size) #[.slice a zs.length ca, .slice b ys.length cb, .int .i64 (i : Int), .int .i64 c, .int .i64 s, .int .i64 h, .int .i64 (k : Int), .int .i64 F] 118 := by rw [← hW]; repeat (first | (refine Bk.new' ?_; (simp; done)) | refine Bk.alloc ?_ _)
  have bS : Bk W (w.heap.size + 1) #[.int .i64 0, .bool false, .int .i64 0, .int .i64 0] 38 := by rw [← hW]; repeat (first | (refine Bk.new' ?_; (simp; done)) | refine Bk.alloc ?_ _)
  have bR : Bk W (w.heap.size + 1 + 1) #[.int .i64 0, .bool false, .int .i64 0, .int .i64 0] 38 := by rw [← hW]; repeat (first | (refine Bk.new' ?_; (simp; done)) | refine Bk.alloc ?_ _)
  have HB : Hid (Below w.heap.size w W) := Lib.hid (by rw [← hW]; exact (by repeat (first | exact Below.refl _ _ | (refine Below.alloc ?_ (by simp <;> omega) _) | (refine Below.setCell ?_ (by simp <;> omega) _) | (refine Below.drew ?_) | (refine bel_drewN ?_ _))))
  clear hW
  obtain ⟨S, hSd⟩ : ∃ S : World → Prop, ∀ w', S w' ↔ (w'.cell? ⟨w.heap.size, 0, none⟩ = some (.slice a zs.length ca) ∧ w'.cell? ⟨w.heap.size, 1, none⟩ = some (.slice b ys.length cb) ∧ w'.cell? ⟨w.heap.size, 2, none⟩ = some (.int .i64 (i : Int)) ∧ w'.cell? ⟨w.heap.size, 3, none⟩ = some (.int .i64 c) ∧ w'.cell? ⟨w.heap.size, 4, none⟩ = some (.int .i64 s) ∧ w'.cell? ⟨w.heap.size, 5, none⟩ = some (.int .i64 h) ∧ w'.cell? ⟨w.heap.size, 6, none⟩ = some (.int .i64 (k : Int)) ∧ w'.cell? ⟨w.heap.size, 7, none⟩ = some (.int .i64 F) ∧ w'.cell? ⟨w.heap.size + 1, 0, none⟩ = some (.int .i64 0) ∧ w'.cell? ⟨w.heap.size + 1, 1, none⟩ = some (.bool false) ∧ w'.cell? ⟨w.heap.size + 1, 2, none⟩ = some (.int .i64 0) ∧ w'.cell? ⟨w.heap.size + 1, 3, none⟩ = some (.int .i64 0)) := ⟨_, fun _ => Iff.rfl⟩
  have HSp : Hid (∀ w' : World, Bk w' (w.heap.size) #[.slice a zs.length ca, .slice b ys.length cb, .int .i64 (i : Int), .int .i64 c, .int .i64 s, .int .i64 h, .int .i64 (k : Int), .int .i64 F] 118 → Bk w' (w.heap.size + 1) #[.int .i64 0, .bool false, .int .i64 0, .int .i64 0] 38 → S w') := Lib.hid (fun w' bE bS => (hSd w').2 ⟨bE.cell 0 rfl, bE.cell 1 rfl, bE.cell 2 rfl, bE.cell 3 rfl, bE.cell 4 rfl, bE.cell 5 rfl, bE.cell 6 rfl, bE.cell 7 rfl, bS.cell 0 rfl, bS.cell 1 rfl, bS.cell 2 rfl, bS.cell 3 rfl⟩)
  have HSd := Lib.hid hSd
  clear hSd
  refine wp_region_held_drew (S := S) (by kernel_rfl) ?_ (fun hH => ?_)
  · exact (HSp.out _ bE bS : S (World.drew W))
  clear hH
  generalize hX : World.drew W = V0
  replace bE : Bk V0 (w.heap.size) #[.slice a zs.length ca, .slice b ys.length cb, .int .i64 (i : Int), .int .i64 c, .int .i64 s, .int .i64 h, .int .i64 (k : Int), .int .i64 F] 118 := by rw [← hX]; exact bE
  replace bS : Bk V0 (w.heap.size + 1) #[.int .i64 0, .bool false, .int .i64 0, .int .i64 0] 38 := by rw [← hX]; exact bS
  replace bR : Bk V0 (w.heap.size + 1 + 1) #[.int .i64 0, .bool false, .int .i64 0, .int .i64 0] 38 := by rw [← hX]; exact bR
  have hb : Below W.heap.size W V0 := by rw [← hX]; exact (Below.refl _ _).drew
  clear hX
  replace HB := Lib.hid (bel_end HB.out hb)
  clear hb
  have hS := HSp.out _ bE bS
  refine wpAnyH_take (i := 0) (oi := { dst := some 5, op := Go.Op.fieldAddr 38 (Go.Operand.tmp 3) 0, type := 0, pos := "l07_rays.go:166", after := #[], guard := none }) (v := ?_) rfl (by kernel_rfl) (by kernel_rfl) (by kernel_rfl) (fun _ _ _ h => h) (Or.inl ⟨by rfl, ?_⟩) hS ?_
  rotate_left
  · (intro w hSw; have hSw := (HSd.out w).1 hSw; go_split_ands; go_simp) <;> with_reducible rfl
  clear hS
  try simp only [Act.put, List.setIfInBounds_toArray, List.set_cons_zero, List.set_cons_succ]
  have hS := HSp.out _ bE bS
  refine wpAnyH_take (i := 1) (oi := { dst := some 6, op := Go.Op.load 2 (Go.Operand.tmp 5), type := 2, pos := "l07_rays.go:166", after := #[{ on := 0, ground := Go.Ground.data }], guard := none }) (v := ?_) rfl (by kernel_rfl) (by kernel_rfl) (by kernel_rfl) (fun _ _ _ h => h) (Or.inl ⟨by rfl, ?_⟩) hS ?_
  rotate_left
  · (intro w hSw; have hSw := (HSd.out w).1 hSw; go_split_ands; go_simp) <;> with_reducible rfl
  clear hS
  try simp only [Act.put, List.setIfInBounds_toArray, List.set_cons_zero, List.set_cons_succ]
  have hS := HSp.out _ bE bS
  refine wpAnyH_take (i := 2) (oi := { dst := some 7, op := Go.Op.fieldAddr 38 (Go.Operand.tmp 3) 1, type := 0, pos := "l07_rays.go:166", after := #[], guard := none }) (v := ?_) rfl (by kernel_rfl) (by kernel_rfl) (by kernel_rfl) (fun _ _ _ h => h) (Or.inl ⟨by rfl, ?_⟩) hS ?_
  rotate_left
  · (intro w hSw; have hSw := (HSd.out w).1 hSw; go_split_ands; go_simp) <;> with_reducible rfl
  clear hS
  try simp only [Act.put, List.setIfInBounds_toArray, List.set_cons_zero, List.set_cons_succ]
  have hS := HSp.out _ bE bS
  refine wpAnyH_take (i := 3) (oi := { dst := some 8, op := Go.Op.load 4 (Go.Operand.tmp 7), type := 4, pos := "l07_rays.go:166", after := #[{ on := 2, ground := Go.Ground.data }], guard := none }) (v := ?_) rfl (by kernel_rfl) (by kernel_rfl) (by kernel_rfl) (fun _ _ _ h => h) (Or.inl ⟨by rfl, ?_⟩) hS ?_
  rotate_left
  · (intro w hSw; have hSw := (HSd.out w).1 hSw; go_split_ands; go_simp) <;> with_reducible rfl
  clear hS
  try simp only [Act.put, List.setIfInBounds_toArray, List.set_cons_zero, List.set_cons_succ]
  have hS := HSp.out _ bE bS
  refine wpAnyH_take (i := 4) (oi := { dst := some 9, op := Go.Op.unOp Go.UnOp.not 4 (Go.Operand.tmp 8), type := 4, pos := "l07_rays.go:166", after := #[{ on := 3, ground := Go.Ground.data }], guard := none }) (v := ?_) rfl (by kernel_rfl) (by kernel_rfl) (by kernel_rfl) (fun _ _ _ h => h) (Or.inl ⟨by rfl, ?_⟩) hS ?_
  rotate_left
  · (intro w hSw; have hSw := (HSd.out w).1 hSw; go_split_ands; go_simp) <;> with_reducible rfl
  clear hS
  try simp only [Act.put, List.setIfInBounds_toArray, List.set_cons_zero, List.set_cons_succ]
  have hS := HSp.out _ bE bS
  refine wpAnyH_take (i := 5) (oi := { dst := some 10, op := Go.Op.fieldAddr 38 (Go.Operand.tmp 3) 2, type := 0, pos := "l07_rays.go:166", after := #[], guard := none }) (v := ?_) rfl (by kernel_rfl) (by kernel_rfl) (by kernel_rfl) (fun _ _ _ h => h) (Or.inl ⟨by rfl, ?_⟩) hS ?_
  rotate_left
  · (intro w hSw; have hSw := (HSd.out w).1 hSw; go_split_ands; go_simp) <;> with_reducible rfl
  clear hS
  try simp only [Act.put, List.setIfInBounds_toArray, List.set_cons_zero, List.set_cons_succ]
  have hS := HSp.out _ bE bS
  refine wpAnyH_take (i := 6) (oi := { dst := some 11, op := Go.Op.load 34 (Go.Operand.tmp 10), type := 34, pos := "l07_rays.go:166", after := #[{ on := 5, ground := Go.Ground.data }], guard := none }) (v := ?_) rfl (by kernel_rfl) (by kernel_rfl) (by kernel_rfl) (fun _ _ _ h => h) (Or.inl ⟨by rfl, ?_⟩) hS ?_
  rotate_left
  · (intro w hSw; have hSw := (HSd.out w).1 hSw; go_split_ands; go_simp) <;> with_reducible rfl
  clear hS
  try simp only [Act.put, List.setIfInBounds_toArray, List.set_cons_zero, List.set_cons_succ]
  have hS := HSp.out _ bE bS
  refine wpAnyH_take (i := 7) (oi := { dst := some 12, op := Go.Op.fieldAddr 118 (Go.Operand.tmp 2) 0, type := 0, pos := "l07_rays.go:166", after := #[], guard := none }) (v := ?_) rfl (by kernel_rfl) (by kernel_rfl) (by kernel_rfl) (fun _ _ _ h => h) (Or.inl ⟨by rfl, ?_⟩) hS ?_
  rotate_left
  · (intro w hSw; have hSw := (HSd.out w).1 hSw; go_split_ands; go_simp) <;> with_reducible rfl
  clear hS
  try simp only [Act.put, List.setIfInBounds_toArray, List.set_cons_zero, List.set_cons_succ]
  have hS := HSp.out _ bE bS
  refine wpAnyH_take (i := 8) (oi := { dst := some 13, op := Go.Op.load 115 (Go.Operand.tmp 12), type := 115, pos := "l07_rays.go:166", after := #[{ on := 7, ground := Go.Ground.data }], guard := none }) (v := ?_) rfl (by kernel_rfl) (by kernel_rfl) (by kernel_rfl) (fun _ _ _ h => h) (Or.inl ⟨by rfl, ?_⟩) hS ?_
  rotate_left
  · (intro w hSw; have hSw := (HSd.out w).1 hSw; go_split_ands; go_simp) <;> with_reducible rfl
  clear hS
  try simp only [Act.put, List.setIfInBounds_toArray, List.set_cons_zero, List.set_cons_succ]
  refine wpAnyH_ready (rs := [9]) (by decide +kernel) (by simp) ?_
  refine AllReadyH.cons (o := { dst := some 14, op := Go.Op.call { callee := Go.Callee.value (Go.Operand.func 124), args := #[Go.Operand.tmp 13], argTypes := #[115] }, type := 34, pos := "l07_rays.go:166", after := #[{ on := 8, ground := Go.Ground.data }], guard := none }) rfl (fun Kn hK => ?_) AllReadyH.nil
  first | go_at_call 124 | (go_simp; go_at_call 124)
  (with_reducible refine Calls.mono (KC.out _ HB.out) ?_)
  rintro e V1 ⟨rfl, hb⟩
  try dsimp only
  try simp only [Act.put, List.setIfInBounds_toArray, List.set_cons_zero, List.set_cons_succ]
  replace bE := bE.on hb
  replace bS := bS.on hb
  replace bR := bR.on hb
  replace HB := Lib.hid (bel_end HB.out hb)
  clear hb
  refine hK.out _ _ (HSp.out _ bE bS) (fun _ => ?_)
  clear hK Kn
  refine wpAnyH_ready (rs := [10]) (by decide +kernel) (by simp) ?_
  refine AllReadyH.cons (o := { dst := some 15, op := Go.Op.call { callee := Go.Callee.value (Go.Operand.func 52), args := #[Go.Operand.tmp 11, Go.Operand.tmp 14], argTypes := #[34, 34] }, type := 34, pos := "l07_rays.go:166", after := #[{ on := 6, ground := Go.Ground.data }, { on := 9, ground := Go.Ground.data }, { on := 9, ground := Go.Ground.chain }], guard := none }) rfl (fun Kn hK => ?_) AllReadyH.nil
  first | go_at_call 52 | (go_simp; go_at_call 52)
  (with_reducible refine Calls.mono (KP.out _) ?_)
  rintro e V2 ⟨rfl, hb⟩
  try dsimp only
  try simp only [Act.put, List.setIfInBounds_toArray, List.set_cons_zero, List.set_cons_succ]
  replace bE := bE.on hb
  replace bS := bS.on hb
  replace bR := bR.on hb
  replace HB := Lib.hid (bel_end HB.out hb)
  clear hb
  refine hK.out _ _ (HSp.out _ bE bS) (fun _ => ?_)
  clear hK Kn
  have hS := HSp.out _ bE bS
  refine wpAnyH_take (i := 11) (oi := { dst := some 16, op := Go.Op.build 38 #[(0, Go.Operand.tmp 6), (1, Go.Operand.tmp 9), (2, Go.Operand.tmp 15)], type := 38, pos := "l07_rays.go:166", after := #[{ on := 1, ground := Go.Ground.data }, { on := 4, ground := Go.Ground.data }, { on := 10, ground := Go.Ground.data }], guard := none }) (v := ?_) rfl (by kernel_rfl) (by kernel_rfl) (by kernel_rfl) (fun _ _ _ h => h) (Or.inl ⟨by rfl, ?_⟩) hS ?_
  rotate_left
  · (intro w hSw; have hSw := (HSd.out w).1 hSw; go_split_ands; go_simp) <;> with_reducible rfl
  clear hS
  try simp only [Act.put, List.setIfInBounds_toArray, List.set_cons_zero, List.set_cons_succ]
  refine wpAnyH_ready (rs := [12]) (by decide +kernel) (by simp) ?_
  refine AllReadyH.cons (o := { dst := none, op := Go.Op.store 38 (Go.Operand.tmp 4) (Go.Operand.tmp 16), type := 0, pos := "l07_rays.go:166", after := #[{ on := 11, ground := Go.Ground.data }, { on := 10, ground := Go.Ground.chain }, { on := 0, ground := Go.Ground.phase }, { on := 1, ground := Go.Ground.phase }, { on := 2, ground := Go.Ground.phase }, { on := 3, ground := Go.Ground.phase }, { on := 4, ground := Go.Ground.phase }, { on := 5, ground := Go.Ground.phase }, { on := 6, ground := Go.Ground.phase }, { on := 7, ground := Go.Ground.phase }, { on := 8, ground := Go.Ground.phase }, { on := 9, ground := Go.Ground.phase }, { on := 10, ground := Go.Ground.phase }, { on := 11, ground := Go.Ground.phase }], guard := none }) rfl (fun Kn hK => ?_) AllReadyH.nil
  have bR_0 := bR.cell 0 rfl
  have bR_1 := bR.cell 1 rfl
  have bR_2 := bR.cell 2 rfl
  have bR_3 := bR.cell 3 rfl
  have bR_f0 := bR.frozen 0
  have bR_f1 := bR.frozen 1
  have bR_f2 := bR.frozen 2
  have bR_f3 := bR.frozen 3
  have bR_l := bR.lt
  go_simp
  clear bR_0 bR_f0 bR_1 bR_f1 bR_2 bR_f2 bR_3 bR_f3 bR_l
  generalize hX : World.setCell _ _ _ = V3
  have hb : Below w.heap.size w V3 := by rw [← hX]; exact ((((HB.out.setCell (p := ⟨w.heap.size + 1 + 1, 0, none⟩) (by first | omega | (dsimp only; omega)) _).setCell (p := ⟨w.heap.size + 1 + 1, 1, none⟩) (by first | omega | (dsimp only; omega)) _).setCell (p := ⟨w.heap.size + 1 + 1, 2, none⟩) (by first | omega | (dsimp only; omega)) _).setCell (p := ⟨w.heap.size + 1 + 1, 3, none⟩) (by first | omega | (dsimp only; omega)) _)
  replace bE : Bk V3 (w.heap.size) #[.slice a zs.length ca, .slice b ys.length cb, .int .i64 (i : Int), .int .i64 c, .int .i64 s, .int .i64 h, .int .i64 (k : Int), .int .i64 F] 118 := by rw [← hX]; exact (Bk.other (Bk.other (Bk.other (Bk.other bE (by omega) 0 _) (by omega) 1 _) (by omega) 2 _) (by omega) 3 _)
  replace bS : Bk V3 (w.heap.size + 1) #[.int .i64 0, .bool false, .int .i64 0, .int .i64 0] 38 := by rw [← hX]; exact (Bk.other (Bk.other (Bk.other (Bk.other bS (by omega) 0 _) (by omega) 1 _) (by omega) 2 _) (by omega) 3 _)
  replace bR : Bk V3 (w.heap.size + 1 + 1) #[.int .i64 0, .bool true, .int .i64 X, .int .i64 Y] 38 := by rw [← hX]; exact (Bk.set (Bk.set (Bk.set (Bk.set bR 0 _ rfl) 1 _ rfl) 2 _ rfl) 3 _ rfl)
  clear hX
  replace HB := Lib.hid hb
  clear hb
  refine hK.out _ _ (HSp.out _ bE bS) (fun _ => ?_)
  clear hK Kn
  refine wpAnyH_done (by kernel_rfl) ?_ _
  have c0 := bR.cell 0 rfl
  have c1 := bR.cell 1 rfl
  have c2 := bR.cell 2 rfl
  have c3 := bR.cell 3 rfl
  go_wp2
  exact bodyPost_ret (v := .agg #[.int .i64 0, .bool true, .int .i64 X, .int .i64 Y]) (by simp [results, Tryz.results123, go_sem, c0, c1, c2, c3]) rfl ⟨rfl, HB.out⟩

theorem fld_rs (w : World) (a c d : Int) (b : Bool) : (Instr.field 38 (.agg #[.int .i64 a, .bool b, .int .i64 c, .int .i64 d]) 2).run Tryz.prog w = .ok (.agg #[.int .i64 c, .int .i64 d]) w := by kernel_rfl

set_option maxRecDepth 100000 in
set_option maxHeartbeats 4000000 in
theorem ady_any (w : World) (a b : Option Addr) (ca cb : Nat) (zs ys : List Int) (i k : Nat) (c s h lo hi : Int) (dn : Bool) (hp : Prof w w.heap.size a b zs ys) (r : RyOk zs ys i c s h) (o : SOk zs ys i c h ⟨k, dn, lo, hi⟩) :
    Calls Tryz.prog 53 #[evW a b ca cb zs ys i c s h k dn] w fun e w' => e = .returned (.agg #[.int .i64 (adLo zs ys i c h k dn), .int .i64 (adHi zs ys i c h k dn)]) ∧ Below w.heap.size w w' := by
  have HP := Lib.hid hp
  cases hin : inP zs.length k dn
  case false =>
    have H1 : Hid (adLo zs ys i c h k dn = 0) := Lib.hid (by unfold adLo; rw [hin]; rfl)
    have H2 : Hid (adHi zs ys i c h k dn = 0) := Lib.hid (by unfold adHi; rw [hin]; rfl)
    unfold evW
    rw [hin]
    clear hin r o hp
    cases dn
    case false =>
      simp only [if_false, Bool.false_eq_true]
      have hfl := fld_rs
      go_enter Tryz.func53, Tryz.ntmps53
      go_wp2_with fail
      generalize hW : World.alloc _ _ = W
      have bR : Bk W (w.heap.size) #[.int .i64 0, .int .i64 0] 34 := by rw [← hW]; repeat (first | (refine Bk.new' ?_; (simp; done)) | refine Bk.alloc ?_ _)
      have HB : Hid (Below w.heap.size w W) := Lib.hid (by rw [← hW]; exact (by repeat (first | exact Below.refl _ _ | (refine Below.alloc ?_ (by simp <;> omega) _) | (refine Below.setCell ?_ (by simp <;> omega) _) | (refine Below.drew ?_) | (refine bel_drewN ?_ _))))
      clear hW
      refine (bh3_any _ _ _ _ _).mono ?_
      rintro e w1 ⟨rfl, hb⟩
      replace bR := bR.on hb
      replace HB := Lib.hid (bel_end HB.out hb)
      clear hb
      have bR_0 := bR.cell 0 rfl
      have bR_1 := bR.cell 1 rfl
      have bR_f0 := bR.frozen 0
      have bR_f1 := bR.frozen 1
      have bR_l := bR.lt
      go_wp2
      exact bodyPost_ret (v := .agg #[.int .i64 0, .int .i64 0]) (by simp [results, Tryz.results53, go_sem, bR_0, bR_1]) rfl ⟨by rw [H1.out, H2.out], ((HB.out.setCell (p := ⟨w.heap.size, 0, none⟩) (by dsimp only; omega) _).setCell (p := ⟨w.heap.size, 1, none⟩) (by dsimp only; omega) _)⟩
    case true =>
      simp only [if_true, if_false, Bool.false_eq_true]
      have hfl := fld_rs
      go_enter Tryz.func53, Tryz.ntmps53
      go_wp2_with fail
      generalize hW : World.alloc _ _ = W
      have bR : Bk W (w.heap.size) #[.int .i64 0, .int .i64 0] 34 := by rw [← hW]; repeat (first | (refine Bk.new' ?_; (simp; done)) | refine Bk.alloc ?_ _)
      have HB : Hid (Below w.heap.size w W) := Lib.hid (by rw [← hW]; exact (by repeat (first | exact Below.refl _ _ | (refine Below.alloc ?_ (by simp <;> omega) _) | (refine Below.setCell ?_ (by simp <;> omega) _) | (refine Below.drew ?_) | (refine bel_drewN ?_ _))))
      clear hW
      refine (bh4_any _ _ _ _ _).mono ?_
      rintro e w1 ⟨rfl, hb⟩
      replace bR := bR.on hb
      replace HB := Lib.hid (bel_end HB.out hb)
      clear hb
      have bR_0 := bR.cell 0 rfl
      have bR_1 := bR.cell 1 rfl
      have bR_f0 := bR.frozen 0
      have bR_f1 := bR.frozen 1
      have bR_l := bR.lt
      go_wp2
      exact bodyPost_ret (v := .agg #[.int .i64 0, .int .i64 0]) (by simp [results, Tryz.results53, go_sem, bR_0, bR_1]) rfl ⟨by rw [H1.out, H2.out], ((HB.out.setCell (p := ⟨w.heap.size, 0, none⟩) (by dsimp only; omega) _).setCell (p := ⟨w.heap.size, 1, none⟩) (by dsimp only; omega) _)⟩
  case true =>
    cases hc : crB ys (i : Int) c h (fk k dn : Nat)
    case false =>
      have H1 : Hid (adLo zs ys i c h k dn = tnLo zs ys i c h (lk k dn) dn) := Lib.hid (by unfold adLo; rw [hin, hc]; rfl)
      have H2 : Hid (adHi zs ys i c h k dn = tnHi zs ys i c h (lk k dn) dn) := Lib.hid (by unfold adHi; rw [hin, hc]; rfl)
      have KB : Hid (∀ W : World, Below w.heap.size w W → Calls Tryz.prog 123 #[.agg #[.slice a zs.length ca, .slice b ys.length cb, .int .i64 (i : Int), .int .i64 c, .int .i64 s, .int .i64 h, .int .i64 (k : Int), .int .i64 (fkI k dn)], .agg #[.int .i64 0, .bool false, .int .i64 0, .int .i64 0]] W fun e w' => e = .returned (.agg #[.int .i64 0, .bool true, .int .i64 (tnLo zs ys i c h (lk k dn) dn), .int .i64 (tnHi zs ys i c h (lk k dn) dn)]) ∧ Below W.heap.size W w') := Lib.hid (fun W hb => bz2_any W a b ca cb zs ys i k c s h lo hi dn (HP.out.on hb) r o hin hc)
      unfold evW
      rw [hin, hc]
      simp only [if_true, if_false, Bool.false_eq_true]
      obtain ⟨X, hX⟩ : ∃ u, tnLo zs ys i c h (lk k dn) dn = u := ⟨_, rfl⟩
      obtain ⟨Y, hY⟩ : ∃ u, tnHi zs ys i c h (lk k dn) dn = u := ⟨_, rfl⟩
      obtain ⟨F, hF⟩ : ∃ u, fkI k dn = u := ⟨_, rfl⟩
      rw [hX] at KB H1
      rw [hY] at KB H2
      rw [hF] at KB ⊢
      clear hX hY hF hin hc r o hp
      have hfl := fld_rs
      go_enter Tryz.func53, Tryz.ntmps53
      go_wp2_with fail
      generalize hW : World.alloc _ _ = W
      have bR : Bk W (w.heap.size) #[.int .i64 0, .int .i64 0] 34 := by rw [← hW]; repeat (first | (refine Bk.new' ?_; (simp; done)) | refine Bk.alloc ?_ _)
      have HB : Hid (Below w.heap.size w W) := Lib.hid (by rw [← hW]; exact (by repeat (first | exact Below.refl _ _ | (refine Below.alloc ?_ (by simp <;> omega) _) | (refine Below.setCell ?_ (by simp <;> omega) _) | (refine Below.drew ?_) | (refine bel_drewN ?_ _))))
      clear hW
      (with_reducible refine Calls.mono (KB.out _ HB.out) ?_)
      rintro e w1 ⟨rfl, hb⟩
      replace bR := bR.on hb
      replace HB := Lib.hid (bel_end HB.out hb)
      clear hb
      have bR_0 := bR.cell 0 rfl
      have bR_1 := bR.cell 1 rfl
      have bR_f0 := bR.frozen 0
      have bR_f1 := bR.frozen 1
      have bR_l := bR.lt
      go_wp2
      exact bodyPost_ret (v := .agg #[.int .i64 X, .int .i64 Y]) (by simp [results, Tryz.results53, go_sem, bR_0, bR_1]) rfl ⟨by rw [H1.out, H2.out], ((HB.out.setCell (p := ⟨w.heap.size, 0, none⟩) (by dsimp only; omega) _).setCell (p := ⟨w.heap.size, 1, none⟩) (by dsimp only; omega) _)⟩
    case true =>
      have H1 : Hid (adLo zs ys i c h k dn = crLo zs ys i c h (lk k dn)) := Lib.hid (by unfold adLo; rw [hin, hc]; rfl)
      have H2 : Hid (adHi zs ys i c h k dn = crHi zs ys i c h (lk k dn)) := Lib.hid (by unfold adHi; rw [hin, hc]; rfl)
      have KB : Hid (∀ W : World, Below w.heap.size w W → Calls Tryz.prog 110 #[.agg #[.slice a zs.length ca, .slice b ys.length cb, .int .i64 (i : Int), .int .i64 c, .int .i64 s, .int .i64 h, .int .i64 (k : Int), .int .i64 (fkI k dn)], .agg #[.int .i64 0, .bool false, .int .i64 0, .int .i64 0]] W fun e w' => e = .returned (.agg #[.int .i64 (fkI k dn), .bool false, .int .i64 (crLo zs ys i c h (lk k dn)), .int .i64 (crHi zs ys i c h (lk k dn))]) ∧ Below W.heap.size W w') := Lib.hid (fun W hb => bz1_any W a b ca cb zs ys i k c s h lo hi dn (HP.out.on hb) r o hin hc)
      unfold evW
      rw [hin, hc]
      simp only [if_true, if_false, Bool.false_eq_true]
      obtain ⟨X, hX⟩ : ∃ u, crLo zs ys i c h (lk k dn) = u := ⟨_, rfl⟩
      obtain ⟨Y, hY⟩ : ∃ u, crHi zs ys i c h (lk k dn) = u := ⟨_, rfl⟩
      obtain ⟨F, hF⟩ : ∃ u, fkI k dn = u := ⟨_, rfl⟩
      rw [hX] at KB H1
      rw [hY] at KB H2
      rw [hF] at KB ⊢
      clear hX hY hF hin hc r o hp
      have hfl := fld_rs
      go_enter Tryz.func53, Tryz.ntmps53
      go_wp2_with fail
      generalize hW : World.alloc _ _ = W
      have bR : Bk W (w.heap.size) #[.int .i64 0, .int .i64 0] 34 := by rw [← hW]; repeat (first | (refine Bk.new' ?_; (simp; done)) | refine Bk.alloc ?_ _)
      have HB : Hid (Below w.heap.size w W) := Lib.hid (by rw [← hW]; exact (by repeat (first | exact Below.refl _ _ | (refine Below.alloc ?_ (by simp <;> omega) _) | (refine Below.setCell ?_ (by simp <;> omega) _) | (refine Below.drew ?_) | (refine bel_drewN ?_ _))))
      clear hW
      (with_reducible refine Calls.mono (KB.out _ HB.out) ?_)
      rintro e w1 ⟨rfl, hb⟩
      replace bR := bR.on hb
      replace HB := Lib.hid (bel_end HB.out hb)
      clear hb
      have bR_0 := bR.cell 0 rfl
      have bR_1 := bR.cell 1 rfl
      have bR_f0 := bR.frozen 0
      have bR_f1 := bR.frozen 1
      have bR_l := bR.lt
      go_wp2
      exact bodyPost_ret (v := .agg #[.int .i64 X, .int .i64 Y]) (by simp [results, Tryz.results53, go_sem, bR_0, bR_1]) rfl ⟨by rw [H1.out, H2.out], ((HB.out.setCell (p := ⟨w.heap.size, 0, none⟩) (by dsimp only; omega) _).setCell (p := ⟨w.heap.size, 1, none⟩) (by dsimp only; omega) _)⟩

set_option maxRecDepth 100000 in
set_option maxHeartbeats 2000000 in
theorem hoc_any (w : World) (a b : Option Addr) (ca cb : Nat) (zs ys : List Int) (i k m : Nat) (c s h x y z : Int) (dn dm : Bool) (pk pl ph qk ql qh : Int) (pd qd : Bool) :
    Calls Tryz.prog 51 #[.agg #[evW a b ca cb zs ys i c s h k dn, .int .i64 pk, .bool pd, .int .i64 pl, .int .i64 ph], .agg #[evW a b ca cb zs ys i x y z m dm, .int .i64 qk, .bool qd, .int .i64 ql, .int .i64 qh]] w fun e w' => e = .returned (.bool (evV zs ys i c h k dn == evV zs ys i x z m dm)) ∧ Below w.heap.size w w' := by
  have K1 : Hid (∀ W : World, Calls Tryz.prog 28 #[evW a b ca cb zs ys i c s h k dn] W fun e w' => e = .returned (.int .i64 (evV zs ys i c h k dn)) ∧ Below W.heap.size W w') := Lib.hid (fun W => kin_any W a b ca cb zs ys i c s h k dn)
  have K2 : Hid (∀ W : World, Calls Tryz.prog 28 #[evW a b ca cb zs ys i x y z m dm] W fun e w' => e = .returned (.int .i64 (evV zs ys i x z m dm)) ∧ Below W.heap.size W w') := Lib.hid (fun W => kin_any W a b ca cb zs ys i x y z m dm)
  obtain ⟨et, ev, hE⟩ := evW_iface a b ca cb zs ys i c s h k dn
  obtain ⟨ft, fv, hF⟩ := evW_iface a b ca cb zs ys i x y z m dm
  obtain ⟨u, hu⟩ : ∃ u, evV zs ys i c h k dn = u := ⟨_, rfl⟩
  obtain ⟨v, hv⟩ : ∃ u, evV zs ys i x z m dm = u := ⟨_, rfl⟩
  rw [hE, hu] at K1
  rw [hF, hv] at K2
  rw [hE, hF, hu, hv]
  clear hE hF hu hv
  go_enter Tryz.func51, Tryz.ntmps51
  go_upto_region 1 with fail
  generalize hW : World.alloc _ _ = W
  have bX : Bk W (w.heap.size) #[.iface et ev, .int .i64 pk, .bool pd, .int .i64 pl, .int .i64 ph] 81 := by rw [← hW]; repeat (first | (refine Bk.new' ?_; (simp; done)) | refine Bk.alloc ?_ _)
  have bY : Bk W (w.heap.size + 1) #[.iface ft fv, .int .i64 qk, .bool qd, .int .i64 ql, .int .i64 qh] 81 := by rw [← hW]; repeat (first | (refine Bk.new' ?_; (simp; done)) | refine Bk.alloc ?_ _)
  have HB : Hid (Below w.heap.size w W) := Lib.hid (by rw [← hW]; exact (by repeat (first | exact Below.refl _ _ | (refine Below.alloc ?_ (by simp <;> omega) _) | (refine Below.setCell ?_ (by simp <;> omega) _) | (refine Below.drew ?_) | (refine bel_drewN ?_ _))))
  clear hW
  have HW : Hid (Below W.heap.size W W) := Lib.hid (Below.refl _ _)
  obtain ⟨S, hSd⟩ : ∃ S : World → Prop, ∀ w', S w' ↔ (w'.cell? ⟨w.heap.size, 0, none⟩ = some (.iface et ev) ∧ w'.cell? ⟨w.heap.size + 1, 0, none⟩ = some (.iface ft fv)) := ⟨_, fun _ => Iff.rfl⟩
  have HSp : Hid (∀ w' : World, Bk w' (w.heap.size) #[.iface et ev, .int .i64 pk, .bool pd, .int .i64 pl, .int .i64 ph] 81 → Bk w' (w.heap.size + 1) #[.iface ft fv, .int .i64 qk, .bool qd, .int .i64 ql, .int .i64 qh] 81 → S w') := Lib.hid (fun w' bX bY => (hSd w').2 ⟨bX.cell 0 rfl, bY.cell 0 rfl⟩)
  have HSd := Lib.hid hSd
  clear hSd
  refine wp_region_held_drew (S := S) (by kernel_rfl) ?_ (fun hH => ?_)
  · exact (HSp.out _ bX bY : S (World.drew W))
  clear hH
  generalize hX : World.drew W = V0
  replace bX : Bk V0 (w.heap.size) #[.iface et ev, .int .i64 pk, .bool pd, .int .i64 pl, .int .i64 ph] 81 := by rw [← hX]; exact bX
  replace bY : Bk V0 (w.heap.size + 1) #[.iface ft fv, .int .i64 qk, .bool qd, .int .i64 ql, .int .i64 qh] 81 := by rw [← hX]; exact bY
  have hb : Below W.heap.size W V0 := by rw [← hX]; exact (Below.refl _ _).drew
  clear hX
  replace HW := Lib.hid (bel_end HW.out hb)
  clear hb
  have hS := HSp.out _ bX bY
  refine wpAnyH_take (i := 0) (oi := { dst := some 5, op := Go.Op.fieldAddr 81 (Go.Operand.tmp 2) 0, type := 0, pos := "l08_sectors.go:304", after := #[], guard := none }) (v := ?_) rfl (by kernel_rfl) (by kernel_rfl) (by kernel_rfl) (fun _ _ _ h => h) (Or.inl ⟨by rfl, ?_⟩) hS ?_
  rotate_left
  · (intro w hSw; have hSw := (HSd.out w).1 hSw; go_split_ands; go_simp) <;> with_reducible rfl
  clear hS
  try simp only [Act.put, List.setIfInBounds_toArray, List.set_cons_zero, List.set_cons_succ]
  have hS := HSp.out _ bX bY
  refine wpAnyH_take (i := 1) (oi := { dst := some 6, op := Go.Op.load 79 (Go.Operand.tmp 5), type := 79, pos := "l08_sectors.go:304", after := #[{ on := 0, ground := Go.Ground.data }], guard := none }) (v := ?_) rfl (by kernel_rfl) (by kernel_rfl) (by kernel_rfl) (fun _ _ _ h => h) (Or.inl ⟨by rfl, ?_⟩) hS ?_
  rotate_left
  · (intro w hSw; have hSw := (HSd.out w).1 hSw; go_split_ands; go_simp) <;> with_reducible rfl
  clear hS
  try simp only [Act.put, List.setIfInBounds_toArray, List.set_cons_zero, List.set_cons_succ]
  have hS := HSp.out _ bX bY
  refine wpAnyH_take (i := 3) (oi := { dst := some 8, op := Go.Op.fieldAddr 81 (Go.Operand.tmp 3) 0, type := 0, pos := "l08_sectors.go:304", after := #[], guard := none }) (v := ?_) rfl (by kernel_rfl) (by kernel_rfl) (by kernel_rfl) (fun _ _ _ h => h) (Or.inl ⟨by rfl, ?_⟩) hS ?_
  rotate_left
  · (intro w hSw; have hSw := (HSd.out w).1 hSw; go_split_ands; go_simp) <;> with_reducible rfl
  clear hS
  try simp only [Act.put, List.setIfInBounds_toArray, List.set_cons_zero, List.set_cons_succ]
  have hS := HSp.out _ bX bY
  refine wpAnyH_take (i := 4) (oi := { dst := some 9, op := Go.Op.load 79 (Go.Operand.tmp 8), type := 79, pos := "l08_sectors.go:304", after := #[{ on := 3, ground := Go.Ground.data }], guard := none }) (v := ?_) rfl (by kernel_rfl) (by kernel_rfl) (by kernel_rfl) (fun _ _ _ h => h) (Or.inl ⟨by rfl, ?_⟩) hS ?_
  rotate_left
  · (intro w hSw; have hSw := (HSd.out w).1 hSw; go_split_ands; go_simp) <;> with_reducible rfl
  clear hS
  try simp only [Act.put, List.setIfInBounds_toArray, List.set_cons_zero, List.set_cons_succ]
  refine wpAnyH_ready (rs := [2]) (by decide +kernel) (by simp) ?_
  refine AllReadyH.cons (o := { dst := some 7, op := Go.Op.call { callee := Go.Callee.value (Go.Operand.func 28), args := #[Go.Operand.tmp 6], argTypes := #[79] }, type := 2, pos := "l08_sectors.go:304", after := #[{ on := 1, ground := Go.Ground.data }], guard := none }) rfl (fun Kn hK => ?_) AllReadyH.nil
  first | go_at_call 28 | (go_simp; go_at_call 28)
  (with_reducible refine Calls.mono (K1.out _) ?_)
  rintro e V1 ⟨rfl, hb⟩
  try dsimp only
  try simp only [Act.put, List.setIfInBounds_toArray, List.set_cons_zero, List.set_cons_succ]
  replace bX := bX.on hb
  replace bY := bY.on hb
  replace HW := Lib.hid (bel_end HW.out hb)
  clear hb
  refine hK.out _ _ (HSp.out _ bX bY) (fun _ => ?_)
  clear hK Kn
  refine wpAnyH_ready (rs := [5]) (by decide +kernel) (by simp) ?_
  refine AllReadyH.cons (o := { dst := some 10, op := Go.Op.call { callee := Go.Callee.value (Go.Operand.func 28), args := #[Go.Operand.tmp 9], argTypes := #[79] }, type := 2, pos := "l08_sectors.go:304", after := #[{ on := 4, ground := Go.Ground.data }, { on := 2, ground := Go.Ground.chain }], guard := none }) rfl (fun Kn hK => ?_) AllReadyH.nil
  first | go_at_call 28 | (go_simp; go_at_call 28)
  (with_reducible refine Calls.mono (K2.out _) ?_)
  rintro e V2 ⟨rfl, hb⟩
  try dsimp only
  try simp only [Act.put, List.setIfInBounds_toArray, List.set_cons_zero, List.set_cons_succ]
  replace bX := bX.on hb
  replace bY := bY.on hb
  replace HW := Lib.hid (bel_end HW.out hb)
  clear hb
  refine hK.out _ _ (HSp.out _ bX bY) (fun _ => ?_)
  clear hK Kn
  have hS := HSp.out _ bX bY
  refine wpAnyH_take (i := 6) (oi := { dst := some 11, op := Go.Op.binOp Go.BinOp.eql 2 (Go.Operand.tmp 7) (Go.Operand.tmp 10) 2, type := 4, pos := "l08_sectors.go:304", after := #[{ on := 2, ground := Go.Ground.data }, { on := 5, ground := Go.Ground.data }], guard := none }) (v := ?_) rfl (by kernel_rfl) (by kernel_rfl) (by kernel_rfl) (fun _ _ _ h => h) (Or.inl ⟨by rfl, ?_⟩) hS ?_
  rotate_left
  · (intro w hSw; have hSw := (HSd.out w).1 hSw; go_split_ands; go_simp) <;> with_reducible rfl
  clear hS
  try simp only [Act.put, List.setIfInBounds_toArray, List.set_cons_zero, List.set_cons_succ]
  have hS := HSp.out _ bX bY
  refine wpAnyH_take (i := 7) (oi := { dst := some 4, op := Go.Op.assign (Go.Operand.tmp 11), type := 4, pos := "l08_sectors.go:304", after := #[{ on := 6, ground := Go.Ground.data }, { on := 5, ground := Go.Ground.chain }, { on := 0, ground := Go.Ground.phase }, { on := 1, ground := Go.Ground.phase }, { on := 2, ground := Go.Ground.phase }, { on := 3, ground := Go.Ground.phase }, { on := 4, ground := Go.Ground.phase }, { on := 5, ground := Go.Ground.phase }, { on := 6, ground := Go.Ground.phase }], guard := none }) (v := ?_) rfl (by kernel_rfl) (by kernel_rfl) (by kernel_rfl) (fun _ _ _ h => h) (Or.inl ⟨by rfl, ?_⟩) hS ?_
  rotate_left
  · (intro w hSw; have hSw := (HSd.out w).1 hSw; go_split_ands; go_simp) <;> with_reducible rfl
  clear hS
  try simp only [Act.put, List.setIfInBounds_toArray, List.set_cons_zero, List.set_cons_succ]
  refine wpAnyH_done (by kernel_rfl) ?_ _
  go_wp2
  go_ret
  exact ⟨rfl, bel_end HB.out HW.out⟩
end Go.Proofs.YtgecbfbmmbfnmaaGreat
