/- The model's draw of the arguments of GatesMeet. -/
import Derived.Test.YtlahgdhofakinaaGtT
namespace Go.Proofs.Ytlahgdhofakinaa
open Go.ChangeShapes Go.WideShapes Go.ChangeAt Go.RowKit Go.Shelf Num
set_option linter.unusedVariables false
set_option linter.unusedSimpArgs false

def GmD (w : World) (e : Ending) (w' : World) : Prop := ∃ x y u v t p q a b r : Int, e = .returned (.tuple #[.agg #[.int .i64 x, .int .i64 y, .int .i64 u, .int .i64 v, .int .i64 t], .agg #[.int .i64 p, .int .i64 q, .int .i64 a, .int .i64 b, .int .i64 r]]) ∧ Below w.heap.size w w'

set_option maxRecDepth 100000 in
set_option maxHeartbeats 8000000 in
theorem dgm_any (w : World) (a0 : Option Addr) (cap : Nat) (zs : List Int) (h : Code8 w w.heap.size a0 zs) :
    Calls Try.prog 20 #[.slice a0 zs.length cap] w (GmD w) := by
  have HC := Lib.hid h
  clear h
  go_enter Try.func20, Try.ntmps20
  go_wp2_with fail
  generalize hW : World.alloc _ _ = W
  have bR1 : Bk W (w.heap.size) #[.int .i64 0, .int .i64 0, .int .i64 0, .int .i64 0, .int .i64 0] 32 := by rw [← hW]; repeat (first | (refine Bk.new' ?_; (simp; done)) | refine Bk.alloc ?_ _)
  have bR2 : Bk W (w.heap.size + 1) #[.int .i64 0, .int .i64 0, .int .i64 0, .int .i64 0, .int .i64 0] 32 := by rw [← hW]; repeat (first | (refine Bk.new' ?_; (simp; done)) | refine Bk.alloc ?_ _)
  have hb : Below w.heap.size w W := by rw [← hW]; exact (by repeat (first | exact Below.refl _ _ | (refine Below.alloc ?_ (by simp <;> omega) _) | (refine Below.setCell ?_ (by simp <;> omega) _) | (refine Below.drew ?_) | (refine bel_drewN ?_ _)))
  clear hW
  have hlT := bR2.lt
  refine (from_any _ _ _ zs ((HC.out.below hb (Nat.le_refl _)).more hb.size)).mono ?_
  rintro e w1 ⟨s, rfl, hs, hsrc, hb1⟩
  replace bR1 := bR1.on hb1
  replace bR2 := bR2.on hb1
  have HB := Lib.hid (bel_end hb hb1)
  have HS := Lib.hid hsrc
  have hls := HS.out.lt
  have hR : w.heap.size + 2 ≤ s := by omega
  clear hs hsrc hb hb1 HC hlT
  have bR1_0 := bR1.cell 0 rfl
  have bR1_1 := bR1.cell 1 rfl
  have bR1_2 := bR1.cell 2 rfl
  have bR1_3 := bR1.cell 3 rfl
  have bR1_4 := bR1.cell 4 rfl
  have bR1_l := bR1.lt
  have bR2_0 := bR2.cell 0 rfl
  have bR2_1 := bR2.cell 1 rfl
  have bR2_2 := bR2.cell 2 rfl
  have bR2_3 := bR2.cell 3 rfl
  have bR2_4 := bR2.cell 4 rfl
  have bR2_l := bR2.lt
  go_wp2_with fail
  refine (dmo_any _ s HS.out).mono ?_
  rintro e ws2 ⟨x, y, u, v, t, rfl, hs, hg⟩
  replace bR1 := bR1.kept hg (by simp; omega)
  replace bR2 := bR2.kept hg (by simp; omega)
  have hz2 := hg.size
  replace HB := Lib.hid (HB.out.trans (below_of_grown hg (by omega) (by have := HB.out.size; omega)))
  replace HS := Lib.hid hs
  replace hls := HS.out.lt
  clear hs hg
  clear bR1_0 bR1_1 bR1_2 bR1_3 bR1_4 bR1_l bR2_0 bR2_1 bR2_2 bR2_3 bR2_4 bR2_l
  have bR1_0 := bR1.cell 0 rfl
  have bR1_1 := bR1.cell 1 rfl
  have bR1_2 := bR1.cell 2 rfl
  have bR1_3 := bR1.cell 3 rfl
  have bR1_4 := bR1.cell 4 rfl
  have bR1_l := bR1.lt
  have bR2_0 := bR2.cell 0 rfl
  have bR2_1 := bR2.cell 1 rfl
  have bR2_2 := bR2.cell 2 rfl
  have bR2_3 := bR2.cell 3 rfl
  have bR2_4 := bR2.cell 4 rfl
  have bR2_l := bR2.lt
  go_upto_region 3 with fail
  clear bR1_0 bR1_1 bR1_2 bR1_3 bR1_4 bR1_l bR2_0 bR2_1 bR2_2 bR2_3 bR2_4 bR2_l
  generalize hW : World.alloc _ _ = wn3
  have hb : Below ws2.heap.size ws2 wn3 := by rw [← hW]; exact (by repeat (first | exact Below.refl _ _ | (refine Below.alloc ?_ (by simp <;> omega) _) | (refine Below.setCell ?_ (by simp <;> omega) _) | (refine Below.drew ?_) | (refine bel_drewN ?_ _)))
  obtain ⟨gA, hg0⟩ : ∃ g, g = ws2.heap.size := ⟨_, rfl⟩
  obtain ⟨x, y, u, v, t, bA⟩ : ∃ x y u v t, Bk wn3 gA #[.int .i64 x, .int .i64 y, .int .i64 u, .int .i64 v, .int .i64 t] 32 := ⟨_, _, _, _, _, by rw [← hW, hg0]; repeat (first | (refine Bk.new' ?_; (simp; done)) | refine Bk.alloc ?_ _)⟩
  have lsbA : s < gA := by omega
  have nebA_bR1 : gA ≠ w.heap.size := by have := bR1.lt; omega
  have nebA_bR2 : gA ≠ w.heap.size + 1 := by have := bR2.lt; omega
  have lwbA : w.heap.size ≤ gA := by have := HB.out.size; omega
  try rw [← hg0]
  clear hW hg0
  replace bR1 := bR1.on hb
  replace bR2 := bR2.on hb
  replace HB := Lib.hid (bel_end HB.out hb)
  replace HS := Lib.hid (HS.out.bel hb)
  replace hls := HS.out.lt
  clear hb
  have bR1_0 := bR1.cell 0 rfl
  have bR1_1 := bR1.cell 1 rfl
  have bR1_2 := bR1.cell 2 rfl
  have bR1_3 := bR1.cell 3 rfl
  have bR1_4 := bR1.cell 4 rfl
  have bR1_l := bR1.lt
  have bR2_0 := bR2.cell 0 rfl
  have bR2_1 := bR2.cell 1 rfl
  have bR2_2 := bR2.cell 2 rfl
  have bR2_3 := bR2.cell 3 rfl
  have bR2_4 := bR2.cell 4 rfl
  have bR2_l := bR2.lt
  have bA_0 := bA.cell 0 rfl
  have bA_1 := bA.cell 1 rfl
  have bA_2 := bA.cell 2 rfl
  have bA_3 := bA.cell 3 rfl
  have bA_4 := bA.cell 4 rfl
  have bA_l := bA.lt
  go_wp2_with fail
  refine (dmo_any _ s HS.out).mono ?_
  rintro e ws4 ⟨p, q, a, b, r, rfl, hs, hg⟩
  replace bR1 := bR1.kept hg (by simp; omega)
  replace bR2 := bR2.kept hg (by simp; omega)
  replace bA := bA.kept hg (by simp; omega)
  have hz4 := hg.size
  replace HB := Lib.hid (HB.out.trans (below_of_grown hg (by omega) (by have := HB.out.size; omega)))
  replace HS := Lib.hid hs
  replace hls := HS.out.lt
  clear hs hg
  clear bR1_0 bR1_1 bR1_2 bR1_3 bR1_4 bR1_l bR2_0 bR2_1 bR2_2 bR2_3 bR2_4 bR2_l bA_0 bA_1 bA_2 bA_3 bA_4 bA_l
  have bR1_0 := bR1.cell 0 rfl
  have bR1_1 := bR1.cell 1 rfl
  have bR1_2 := bR1.cell 2 rfl
  have bR1_3 := bR1.cell 3 rfl
  have bR1_4 := bR1.cell 4 rfl
  have bR1_l := bR1.lt
  have bR2_0 := bR2.cell 0 rfl
  have bR2_1 := bR2.cell 1 rfl
  have bR2_2 := bR2.cell 2 rfl
  have bR2_3 := bR2.cell 3 rfl
  have bR2_4 := bR2.cell 4 rfl
  have bR2_l := bR2.lt
  have bA_0 := bA.cell 0 rfl
  have bA_1 := bA.cell 1 rfl
  have bA_2 := bA.cell 2 rfl
  have bA_3 := bA.cell 3 rfl
  have bA_4 := bA.cell 4 rfl
  have bA_l := bA.lt
  go_upto_region 4 with fail
  clear bR1_0 bR1_1 bR1_2 bR1_3 bR1_4 bR1_l bR2_0 bR2_1 bR2_2 bR2_3 bR2_4 bR2_l bA_0 bA_1 bA_2 bA_3 bA_4 bA_l
  generalize hW : World.alloc _ _ = wn5
  have hb : Below ws4.heap.size ws4 wn5 := by rw [← hW]; exact (by repeat (first | exact Below.refl _ _ | (refine Below.alloc ?_ (by simp <;> omega) _) | (refine Below.setCell ?_ (by simp <;> omega) _) | (refine Below.drew ?_) | (refine bel_drewN ?_ _)))
  obtain ⟨gB, hg0⟩ : ∃ g, g = ws4.heap.size := ⟨_, rfl⟩
  obtain ⟨p, q, a, b, r, bB⟩ : ∃ p q a b r, Bk wn5 gB #[.int .i64 p, .int .i64 q, .int .i64 a, .int .i64 b, .int .i64 r] 32 := ⟨_, _, _, _, _, by rw [← hW, hg0]; repeat (first | (refine Bk.new' ?_; (simp; done)) | refine Bk.alloc ?_ _)⟩
  have lsbB : s < gB := by omega
  have nebB_bR1 : gB ≠ w.heap.size := by have := bR1.lt; omega
  have nebB_bR2 : gB ≠ w.heap.size + 1 := by have := bR2.lt; omega
  have nebB_bA : gB ≠ gA := by have := bA.lt; omega
  have lwbB : w.heap.size ≤ gB := by have := HB.out.size; omega
  try rw [← hg0]
  clear hW hg0
  replace bR1 := bR1.on hb
  replace bR2 := bR2.on hb
  replace bA := bA.on hb
  replace HB := Lib.hid (bel_end HB.out hb)
  replace HS := Lib.hid (HS.out.bel hb)
  replace hls := HS.out.lt
  clear hb
  have bR1_0 := bR1.cell 0 rfl
  have bR1_1 := bR1.cell 1 rfl
  have bR1_2 := bR1.cell 2 rfl
  have bR1_3 := bR1.cell 3 rfl
  have bR1_4 := bR1.cell 4 rfl
  have bR1_l := bR1.lt
  have bR2_0 := bR2.cell 0 rfl
  have bR2_1 := bR2.cell 1 rfl
  have bR2_2 := bR2.cell 2 rfl
  have bR2_3 := bR2.cell 3 rfl
  have bR2_4 := bR2.cell 4 rfl
  have bR2_l := bR2.lt
  have bA_0 := bA.cell 0 rfl
  have bA_1 := bA.cell 1 rfl
  have bA_2 := bA.cell 2 rfl
  have bA_3 := bA.cell 3 rfl
  have bA_4 := bA.cell 4 rfl
  have bA_l := bA.lt
  have bB_0 := bB.cell 0 rfl
  have bB_1 := bB.cell 1 rfl
  have bB_2 := bB.cell 2 rfl
  have bB_3 := bB.cell 3 rfl
  have bB_4 := bB.cell 4 rfl
  have bB_l := bB.lt
  go_wp2_with fail
  refine (nxt_any _ _ _ HS.out).mono ?_
  rintro e ws6 ⟨k, rfl, -, -, -, hs, hg⟩
  replace bR1 := bR1.kept hg (by simp; omega)
  replace bR2 := bR2.kept hg (by simp; omega)
  replace bA := bA.kept hg (by simp; omega)
  replace bB := bB.kept hg (by simp; omega)
  have hz6 := hg.size
  replace HB := Lib.hid (HB.out.trans (below_of_grown hg (by omega) (by have := HB.out.size; omega)))
  replace HS := Lib.hid hs
  replace hls := HS.out.lt
  clear hs hg
  clear bR1_0 bR1_1 bR1_2 bR1_3 bR1_4 bR1_l bR2_0 bR2_1 bR2_2 bR2_3 bR2_4 bR2_l bA_0 bA_1 bA_2 bA_3 bA_4 bA_l bB_0 bB_1 bB_2 bB_3 bB_4 bB_l
  by_cases h0 : k = 0
  case pos =>
    subst h0
    have bR1_0 := bR1.cell 0 rfl
    have bR1_1 := bR1.cell 1 rfl
    have bR1_2 := bR1.cell 2 rfl
    have bR1_3 := bR1.cell 3 rfl
    have bR1_4 := bR1.cell 4 rfl
    have bR1_l := bR1.lt
    have bR2_0 := bR2.cell 0 rfl
    have bR2_1 := bR2.cell 1 rfl
    have bR2_2 := bR2.cell 2 rfl
    have bR2_3 := bR2.cell 3 rfl
    have bR2_4 := bR2.cell 4 rfl
    have bR2_l := bR2.lt
    have bA_0 := bA.cell 0 rfl
    have bA_1 := bA.cell 1 rfl
    have bA_2 := bA.cell 2 rfl
    have bA_3 := bA.cell 3 rfl
    have bA_4 := bA.cell 4 rfl
    have bA_l := bA.lt
    have bB_0 := bB.cell 0 rfl
    have bB_1 := bB.cell 1 rfl
    have bB_2 := bB.cell 2 rfl
    have bB_3 := bB.cell 3 rfl
    have bB_4 := bB.cell 4 rfl
    have bB_l := bB.lt
    go_upto_region 5 with fail
    clear bR1_0 bR1_1 bR1_2 bR1_3 bR1_4 bR1_l bR2_0 bR2_1 bR2_2 bR2_3 bR2_4 bR2_l bA_0 bA_1 bA_2 bA_3 bA_4 bA_l bB_0 bB_1 bB_2 bB_3 bB_4 bB_l
    obtain ⟨A, eA⟩ : ∃ q, IntKind.wrap .i64 (x + 3) = q := ⟨_, rfl⟩
    obtain ⟨B, eB⟩ : ∃ q, IntKind.wrap .i64 (y - 4) = q := ⟨_, rfl⟩
    obtain ⟨S, hSd⟩ : ∃ S : World → Prop, ∀ w', S w' ↔ (w'.cell? ⟨gA, 0, none⟩ = some (.int .i64 x) ∧ w'.cell? ⟨gA, 1, none⟩ = some (.int .i64 y)) := ⟨_, fun _ => Iff.rfl⟩
    have HSp : Hid (∀ w' : World, Bk w' (gA) #[.int .i64 x, .int .i64 y, .int .i64 u, .int .i64 v, .int .i64 t] 32 → S w') := Lib.hid (fun w' bA => (hSd w').2 ⟨bA.cell 0 rfl, bA.cell 1 rfl⟩)
    have HSd := Lib.hid hSd
    clear hSd
    refine wp_region_held_drew (S := S) (by kernel_rfl) ?_ (fun hH => ?_)
    · exact (HSp.out _ bA : S (World.drew ws6))
    clear hH
    generalize hX : World.drew ws6 = V0
    replace bR1 : Bk V0 (w.heap.size) #[.int .i64 0, .int .i64 0, .int .i64 0, .int .i64 0, .int .i64 0] 32 := by rw [← hX]; exact bR1
    replace bR2 : Bk V0 (w.heap.size + 1) #[.int .i64 0, .int .i64 0, .int .i64 0, .int .i64 0, .int .i64 0] 32 := by rw [← hX]; exact bR2
    replace bA : Bk V0 (gA) #[.int .i64 x, .int .i64 y, .int .i64 u, .int .i64 v, .int .i64 t] 32 := by rw [← hX]; exact bA
    replace bB : Bk V0 (gB) #[.int .i64 p, .int .i64 q, .int .i64 a, .int .i64 b, .int .i64 r] 32 := by rw [← hX]; exact bB
    have hb : Below ws6.heap.size ws6 V0 := by rw [← hX]; exact (Below.refl _ _).drew
    clear hX
    replace HS := Lib.hid (HS.out.bel hb)
    replace HB := Lib.hid (bel_end HB.out hb)
    clear hb
    have hS := HSp.out _ bA
    refine wpAnyH_take (i := 0) (oi := { dst := some 16, op := Go.Op.fieldAddr 32 (Go.Operand.tmp 5) 0, type := 0, pos := "l14_gating.go:248", after := #[], guard := none }) (v := ?_) rfl (by kernel_rfl) (by kernel_rfl) (by kernel_rfl) (fun _ _ _ h => h) (Or.inl ⟨by rfl, ?_⟩) hS ?_
    rotate_left
    · (intro w hSw; have hSw := (HSd.out w).1 hSw; go_split_ands; go_simp) <;> with_reducible rfl
    clear hS
    try simp only [Act.put, List.setIfInBounds_toArray, List.set_cons_zero, List.set_cons_succ]
    have hS := HSp.out _ bA
    refine wpAnyH_take (i := 1) (oi := { dst := some 17, op := Go.Op.load 2 (Go.Operand.tmp 16), type := 2, pos := "l14_gating.go:248", after := #[{ on := 0, ground := Go.Ground.data }], guard := none }) (v := ?_) rfl (by kernel_rfl) (by kernel_rfl) (by kernel_rfl) (fun _ _ _ h => h) (Or.inl ⟨by rfl, ?_⟩) hS ?_
    rotate_left
    · (intro w hSw; have hSw := (HSd.out w).1 hSw; go_split_ands; go_simp) <;> with_reducible rfl
    clear hS
    try simp only [Act.put, List.setIfInBounds_toArray, List.set_cons_zero, List.set_cons_succ]
    have hS := HSp.out _ bA
    refine wpAnyH_take (i := 2) (oi := { dst := some 18, op := Go.Op.binOp Go.BinOp.add 2 (Go.Operand.tmp 17) (Go.Operand.const (Go.Value.int Go.IntKind.i64 3)) 2, type := 2, pos := "l14_gating.go:248", after := #[{ on := 1, ground := Go.Ground.data }], guard := none }) (v := ?_) rfl (by kernel_rfl) (by kernel_rfl) (by kernel_rfl) (fun _ _ _ h => h) (Or.inl ⟨by rfl, ?_⟩) hS ?_
    rotate_left
    · (intro w hSw; have hSw := (HSd.out w).1 hSw; go_split_ands; go_simp) <;> with_reducible rfl
    clear hS
    try simp only [Act.put, List.setIfInBounds_toArray, List.set_cons_zero, List.set_cons_succ]
    have hS := HSp.out _ bA
    refine wpAnyH_take (i := 3) (oi := { dst := some 19, op := Go.Op.fieldAddr 32 (Go.Operand.tmp 5) 1, type := 0, pos := "l14_gating.go:248", after := #[], guard := none }) (v := ?_) rfl (by kernel_rfl) (by kernel_rfl) (by kernel_rfl) (fun _ _ _ h => h) (Or.inl ⟨by rfl, ?_⟩) hS ?_
    rotate_left
    · (intro w hSw; have hSw := (HSd.out w).1 hSw; go_split_ands; go_simp) <;> with_reducible rfl
    clear hS
    try simp only [Act.put, List.setIfInBounds_toArray, List.set_cons_zero, List.set_cons_succ]
    have hS := HSp.out _ bA
    refine wpAnyH_take (i := 4) (oi := { dst := some 20, op := Go.Op.load 2 (Go.Operand.tmp 19), type := 2, pos := "l14_gating.go:248", after := #[{ on := 3, ground := Go.Ground.data }], guard := none }) (v := ?_) rfl (by kernel_rfl) (by kernel_rfl) (by kernel_rfl) (fun _ _ _ h => h) (Or.inl ⟨by rfl, ?_⟩) hS ?_
    rotate_left
    · (intro w hSw; have hSw := (HSd.out w).1 hSw; go_split_ands; go_simp) <;> with_reducible rfl
    clear hS
    try simp only [Act.put, List.setIfInBounds_toArray, List.set_cons_zero, List.set_cons_succ]
    have hS := HSp.out _ bA
    refine wpAnyH_take (i := 5) (oi := { dst := some 21, op := Go.Op.binOp Go.BinOp.sub 2 (Go.Operand.tmp 20) (Go.Operand.const (Go.Value.int Go.IntKind.i64 4)) 2, type := 2, pos := "l14_gating.go:248", after := #[{ on := 4, ground := Go.Ground.data }], guard := none }) (v := ?_) rfl (by kernel_rfl) (by kernel_rfl) (by kernel_rfl) (fun _ _ _ h => h) (Or.inl ⟨by rfl, ?_⟩) hS ?_
    rotate_left
    · (intro w hSw; have hSw := (HSd.out w).1 hSw; go_split_ands; go_simp) <;> with_reducible rfl
    clear hS
    try simp only [Act.put, List.setIfInBounds_toArray, List.set_cons_zero, List.set_cons_succ]
    have hS := HSp.out _ bA
    refine wpAnyH_take (i := 6) (oi := { dst := some 22, op := Go.Op.move (Go.Operand.tmp 4), type := 63, pos := "l14_gating.go:248", after := #[], guard := none }) (v := ?_) rfl (by kernel_rfl) (by kernel_rfl) (by kernel_rfl) (fun _ _ _ h => h) (Or.inl ⟨by rfl, ?_⟩) hS ?_
    rotate_left
    · (intro w hSw; have hSw := (HSd.out w).1 hSw; go_split_ands; go_simp) <;> with_reducible rfl
    clear hS
    try simp only [Act.put, List.setIfInBounds_toArray, List.set_cons_zero, List.set_cons_succ]
    refine wpAnyH_ready (rs := [7]) (by decide +kernel) (by simp) ?_
    refine AllReadyH.cons (o := { dst := some 23, op := Go.Op.call { callee := Go.Callee.value (Go.Operand.func 59), args := #[Go.Operand.tmp 22, Go.Operand.const (Go.Value.int Go.IntKind.i64 6)], argTypes := #[63, 2] }, type := 2, pos := "l14_gating.go:248", after := #[{ on := 6, ground := Go.Ground.data }], guard := none }) rfl (fun Kn hK => ?_) AllReadyH.nil
    first | go_at_call 59 | (go_simp; go_at_call 59)
    refine (nxt_any _ _ _ HS.out).mono ?_
    rintro e V1 ⟨z1, rfl, -, -, -, hs, hg⟩
    try dsimp only
    try simp only [Act.put, List.setIfInBounds_toArray, List.set_cons_zero, List.set_cons_succ]
    replace bR1 := bR1.kept hg (by simp; omega)
    replace bR2 := bR2.kept hg (by simp; omega)
    replace bA := bA.kept hg (by simp; omega)
    replace bB := bB.kept hg (by simp; omega)
    replace HB := Lib.hid (HB.out.trans (below_of_grown hg (by omega) (by have := HB.out.size; omega)))
    replace HS := Lib.hid hs
    clear hs hg
    refine hK.out _ _ (HSp.out _ bA) (fun _ => ?_)
    clear hK Kn
    have hS := HSp.out _ bA
    refine wpAnyH_take (i := 8) (oi := { dst := some 24, op := Go.Op.build 32 #[(0, Go.Operand.tmp 18), (1, Go.Operand.tmp 21), (4, Go.Operand.tmp 23)], type := 32, pos := "l14_gating.go:248", after := #[{ on := 2, ground := Go.Ground.data }, { on := 5, ground := Go.Ground.data }, { on := 7, ground := Go.Ground.data }], guard := none }) (v := ?_) rfl (by kernel_rfl) (by kernel_rfl) (by kernel_rfl) (fun _ _ _ h => h) (Or.inl ⟨by rfl, ?_⟩) hS ?_
    rotate_left
    · (intro w hSw; have hSw := (HSd.out w).1 hSw; go_split_ands; go_simp) <;> with_reducible rfl
    clear hS
    try simp only [Act.put, List.setIfInBounds_toArray, List.set_cons_zero, List.set_cons_succ]
    refine wpAnyH_ready (rs := [9]) (by decide +kernel) (by simp) ?_
    refine AllReadyH.cons (o := { dst := none, op := Go.Op.store 32 (Go.Operand.tmp 6) (Go.Operand.tmp 24), type := 0, pos := "l14_gating.go:248", after := #[{ on := 8, ground := Go.Ground.data }, { on := 7, ground := Go.Ground.chain }, { on := 0, ground := Go.Ground.phase }, { on := 1, ground := Go.Ground.phase }, { on := 2, ground := Go.Ground.phase }, { on := 3, ground := Go.Ground.phase }, { on := 4, ground := Go.Ground.phase }, { on := 5, ground := Go.Ground.phase }, { on := 6, ground := Go.Ground.phase }, { on := 7, ground := Go.Ground.phase }, { on := 8, ground := Go.Ground.phase }], guard := none }) rfl (fun Kn hK => ?_) AllReadyH.nil
    have bB_0 := bB.cell 0 rfl
    have bB_1 := bB.cell 1 rfl
    have bB_2 := bB.cell 2 rfl
    have bB_3 := bB.cell 3 rfl
    have bB_4 := bB.cell 4 rfl
    have bB_f0 := bB.frozen 0
    have bB_f1 := bB.frozen 1
    have bB_f2 := bB.frozen 2
    have bB_f3 := bB.frozen 3
    have bB_f4 := bB.frozen 4
    have bB_l := bB.lt
    go_simp
    clear bB_0 bB_f0 bB_1 bB_f1 bB_2 bB_f2 bB_3 bB_f3 bB_4 bB_f4 bB_l
    generalize hX : World.setCell _ _ _ = V2
    have hb : Below w.heap.size w V2 := by rw [← hX]; exact (((((HB.out.setCell (p := ⟨gB, 0, none⟩) (by first | omega | (dsimp only; omega)) _).setCell (p := ⟨gB, 1, none⟩) (by first | omega | (dsimp only; omega)) _).setCell (p := ⟨gB, 2, none⟩) (by first | omega | (dsimp only; omega)) _).setCell (p := ⟨gB, 3, none⟩) (by first | omega | (dsimp only; omega)) _).setCell (p := ⟨gB, 4, none⟩) (by first | omega | (dsimp only; omega)) _)
    replace HS := Lib.hid (show Src V2 s by rw [← hX]; exact (Src.set_far (p := ⟨gB, 4, none⟩) (Src.set_far (p := ⟨gB, 3, none⟩) (Src.set_far (p := ⟨gB, 2, none⟩) (Src.set_far (p := ⟨gB, 1, none⟩) (Src.set_far (p := ⟨gB, 0, none⟩) HS.out (by dsimp only; omega) _) (by dsimp only; omega) _) (by dsimp only; omega) _) (by dsimp only; omega) _) (by dsimp only; omega) _))
    replace bR1 : Bk V2 (w.heap.size) #[.int .i64 0, .int .i64 0, .int .i64 0, .int .i64 0, .int .i64 0] 32 := by rw [← hX]; exact (Bk.other (Bk.other (Bk.other (Bk.other (Bk.other bR1 (by omega) 0 _) (by omega) 1 _) (by omega) 2 _) (by omega) 3 _) (by omega) 4 _)
    replace bR2 : Bk V2 (w.heap.size + 1) #[.int .i64 0, .int .i64 0, .int .i64 0, .int .i64 0, .int .i64 0] 32 := by rw [← hX]; exact (Bk.other (Bk.other (Bk.other (Bk.other (Bk.other bR2 (by omega) 0 _) (by omega) 1 _) (by omega) 2 _) (by omega) 3 _) (by omega) 4 _)
    replace bA : Bk V2 (gA) #[.int .i64 x, .int .i64 y, .int .i64 u, .int .i64 v, .int .i64 t] 32 := by rw [← hX]; exact (Bk.other (Bk.other (Bk.other (Bk.other (Bk.other bA (by omega) 0 _) (by omega) 1 _) (by omega) 2 _) (by omega) 3 _) (by omega) 4 _)
    replace bB : Bk V2 (gB) #[.int .i64 A, .int .i64 B, .int .i64 0, .int .i64 0, .int .i64 z1] 32 := by rw [← hX]; exact (Bk.set (Bk.set (Bk.set (Bk.set (Bk.set bB 0 _ rfl) 1 _ rfl) 2 _ rfl) 3 _ rfl) 4 _ rfl)
    clear hX
    replace HB := Lib.hid hb
    clear hb
    refine hK.out _ _ (HSp.out _ bA) (fun _ => ?_)
    clear hK Kn
    refine wpAnyH_done (by kernel_rfl) ?_ _
    have bR1_0 := bR1.cell 0 rfl
    have bR1_1 := bR1.cell 1 rfl
    have bR1_2 := bR1.cell 2 rfl
    have bR1_3 := bR1.cell 3 rfl
    have bR1_4 := bR1.cell 4 rfl
    have bR1_l := bR1.lt
    have bR2_0 := bR2.cell 0 rfl
    have bR2_1 := bR2.cell 1 rfl
    have bR2_2 := bR2.cell 2 rfl
    have bR2_3 := bR2.cell 3 rfl
    have bR2_4 := bR2.cell 4 rfl
    have bR2_l := bR2.lt
    have bA_0 := bA.cell 0 rfl
    have bA_1 := bA.cell 1 rfl
    have bA_2 := bA.cell 2 rfl
    have bA_3 := bA.cell 3 rfl
    have bA_4 := bA.cell 4 rfl
    have bA_l := bA.lt
    have bB_0 := bB.cell 0 rfl
    have bB_1 := bB.cell 1 rfl
    have bB_2 := bB.cell 2 rfl
    have bB_3 := bB.cell 3 rfl
    have bB_4 := bB.cell 4 rfl
    have bB_l := bB.lt
    go_wp2_with fail
    refine (nxt_any _ _ _ HS.out).mono ?_
    rintro e ws21 ⟨z2, rfl, -, -, -, hs, hg⟩
    replace bR1 := bR1.kept hg (by simp; omega)
    replace bR2 := bR2.kept hg (by simp; omega)
    replace bA := bA.kept hg (by simp; omega)
    replace bB := bB.kept hg (by simp; omega)
    have hz21 := hg.size
    replace HB := Lib.hid (HB.out.trans (below_of_grown hg (by omega) (by have := HB.out.size; omega)))
    replace HS := Lib.hid hs
    replace hls := HS.out.lt
    clear hs hg
    clear bR1_0 bR1_1 bR1_2 bR1_3 bR1_4 bR1_l bR2_0 bR2_1 bR2_2 bR2_3 bR2_4 bR2_l bA_0 bA_1 bA_2 bA_3 bA_4 bA_l bB_0 bB_1 bB_2 bB_3 bB_4 bB_l
    have bR1_0 := bR1.cell 0 rfl
    have bR1_1 := bR1.cell 1 rfl
    have bR1_2 := bR1.cell 2 rfl
    have bR1_3 := bR1.cell 3 rfl
    have bR1_4 := bR1.cell 4 rfl
    have bR1_l := bR1.lt
    have bR2_0 := bR2.cell 0 rfl
    have bR2_1 := bR2.cell 1 rfl
    have bR2_2 := bR2.cell 2 rfl
    have bR2_3 := bR2.cell 3 rfl
    have bR2_4 := bR2.cell 4 rfl
    have bR2_l := bR2.lt
    have bA_0 := bA.cell 0 rfl
    have bA_1 := bA.cell 1 rfl
    have bA_2 := bA.cell 2 rfl
    have bA_3 := bA.cell 3 rfl
    have bA_4 := bA.cell 4 rfl
    have bA_l := bA.lt
    have bB_0 := bB.cell 0 rfl
    have bB_1 := bB.cell 1 rfl
    have bB_2 := bB.cell 2 rfl
    have bB_3 := bB.cell 3 rfl
    have bB_4 := bB.cell 4 rfl
    have bB_l := bB.lt
    have bA_f0 := bA.frozen 0
    have bA_f1 := bA.frozen 1
    have bA_f2 := bA.frozen 2
    have bA_f3 := bA.frozen 3
    have bA_f4 := bA.frozen 4
    go_upto_region 7 with fail
    clear bR1_0 bR1_1 bR1_2 bR1_3 bR1_4 bR1_l bR2_0 bR2_1 bR2_2 bR2_3 bR2_4 bR2_l bA_0 bA_1 bA_2 bA_3 bA_4 bA_l bB_0 bB_1 bB_2 bB_3 bB_4 bB_l
    clear bA_f0 bA_f1 bA_f2 bA_f3 bA_f4
    generalize hW : World.setCell _ _ _ = W9
    obtain ⟨X9, b9⟩ : ∃ q : Int, Bk W9 gA #[.int .i64 x, .int .i64 y, .int .i64 u, .int .i64 v, .int .i64 q] 32 := ⟨_, by rw [← hW]; exact bA.set 4 _ rfl⟩
    replace bR1 : Bk W9 (w.heap.size) #[.int .i64 0, .int .i64 0, .int .i64 0, .int .i64 0, .int .i64 0] 32 := by rw [← hW]; exact bR1.other (by omega) 4 _
    replace bR2 : Bk W9 (w.heap.size + 1) #[.int .i64 0, .int .i64 0, .int .i64 0, .int .i64 0, .int .i64 0] 32 := by rw [← hW]; exact bR2.other (by omega) 4 _
    replace bB : Bk W9 (gB) #[.int .i64 A, .int .i64 B, .int .i64 0, .int .i64 0, .int .i64 z1] 32 := by rw [← hW]; exact bB.other (by omega) 4 _
    replace HB : Hid (Below w.heap.size w W9) := Lib.hid (by rw [← hW]; exact HB.out.setCell (by dsimp only; omega) _)
    replace HS : Hid (Src W9 s) := Lib.hid (by rw [← hW]; exact HS.out.set_far (by dsimp only; omega) _)
    clear hW bA
    have bA := b9
    clear b9
    have bR1_0 := bR1.cell 0 rfl
    have bR1_1 := bR1.cell 1 rfl
    have bR1_2 := bR1.cell 2 rfl
    have bR1_3 := bR1.cell 3 rfl
    have bR1_4 := bR1.cell 4 rfl
    have bR1_l := bR1.lt
    have bR2_0 := bR2.cell 0 rfl
    have bR2_1 := bR2.cell 1 rfl
    have bR2_2 := bR2.cell 2 rfl
    have bR2_3 := bR2.cell 3 rfl
    have bR2_4 := bR2.cell 4 rfl
    have bR2_l := bR2.lt
    have bA_0 := bA.cell 0 rfl
    have bA_1 := bA.cell 1 rfl
    have bA_2 := bA.cell 2 rfl
    have bA_3 := bA.cell 3 rfl
    have bA_4 := bA.cell 4 rfl
    have bA_l := bA.lt
    have bB_0 := bB.cell 0 rfl
    have bB_1 := bB.cell 1 rfl
    have bB_2 := bB.cell 2 rfl
    have bB_3 := bB.cell 3 rfl
    have bB_4 := bB.cell 4 rfl
    have bB_l := bB.lt
    go_upto_region 7 with fail
    clear bR1_0 bR1_1 bR1_2 bR1_3 bR1_4 bR1_l bR2_0 bR2_1 bR2_2 bR2_3 bR2_4 bR2_l bA_0 bA_1 bA_2 bA_3 bA_4 bA_l bB_0 bB_1 bB_2 bB_3 bB_4 bB_l
    obtain ⟨S, hSd⟩ : ∃ S : World → Prop, ∀ w', S w' ↔ (w'.cell? ⟨gA, 0, none⟩ = some (.int .i64 x) ∧ w'.cell? ⟨gA, 1, none⟩ = some (.int .i64 y) ∧ w'.cell? ⟨gA, 2, none⟩ = some (.int .i64 u) ∧ w'.cell? ⟨gA, 3, none⟩ = some (.int .i64 v) ∧ w'.cell? ⟨gA, 4, none⟩ = some (.int .i64 X9) ∧ w'.cell? ⟨gB, 0, none⟩ = some (.int .i64 A) ∧ w'.cell? ⟨gB, 1, none⟩ = some (.int .i64 B) ∧ w'.cell? ⟨gB, 2, none⟩ = some (.int .i64 0) ∧ w'.cell? ⟨gB, 3, none⟩ = some (.int .i64 0) ∧ w'.cell? ⟨gB, 4, none⟩ = some (.int .i64 z1)) := ⟨_, fun _ => Iff.rfl⟩
    have HSp : Hid (∀ w' : World, Bk w' (gA) #[.int .i64 x, .int .i64 y, .int .i64 u, .int .i64 v, .int .i64 X9] 32 → Bk w' (gB) #[.int .i64 A, .int .i64 B, .int .i64 0, .int .i64 0, .int .i64 z1] 32 → S w') := Lib.hid (fun w' bA bB => (hSd w').2 ⟨bA.cell 0 rfl, bA.cell 1 rfl, bA.cell 2 rfl, bA.cell 3 rfl, bA.cell 4 rfl, bB.cell 0 rfl, bB.cell 1 rfl, bB.cell 2 rfl, bB.cell 3 rfl, bB.cell 4 rfl⟩)
    have HSd := Lib.hid hSd
    clear hSd
    refine wp_region_held_drew (S := S) (by kernel_rfl) ?_ (fun hH => ?_)
    · exact (HSp.out _ bA bB : S (World.drew W9))
    clear hH
    generalize hX : World.drew W9 = V0
    replace bR1 : Bk V0 (w.heap.size) #[.int .i64 0, .int .i64 0, .int .i64 0, .int .i64 0, .int .i64 0] 32 := by rw [← hX]; exact bR1
    replace bR2 : Bk V0 (w.heap.size + 1) #[.int .i64 0, .int .i64 0, .int .i64 0, .int .i64 0, .int .i64 0] 32 := by rw [← hX]; exact bR2
    replace bA : Bk V0 (gA) #[.int .i64 x, .int .i64 y, .int .i64 u, .int .i64 v, .int .i64 X9] 32 := by rw [← hX]; exact bA
    replace bB : Bk V0 (gB) #[.int .i64 A, .int .i64 B, .int .i64 0, .int .i64 0, .int .i64 z1] 32 := by rw [← hX]; exact bB
    have hb : Below W9.heap.size W9 V0 := by rw [← hX]; exact (Below.refl _ _).drew
    clear hX
    replace HS := Lib.hid (HS.out.bel hb)
    replace HB := Lib.hid (bel_end HB.out hb)
    clear hb
    have hS := HSp.out _ bA bB
    refine wpAnyH_take (i := 0) (oi := { dst := some 28, op := Go.Op.load 32 (Go.Operand.tmp 5), type := 32, pos := "l14_gating.go:251", after := #[], guard := none }) (v := ?_) rfl (by kernel_rfl) (by kernel_rfl) (by kernel_rfl) (fun _ _ _ h => h) (Or.inl ⟨by rfl, ?_⟩) hS ?_
    rotate_left
    · (intro w hSw; have hSw := (HSd.out w).1 hSw; go_split_ands; go_simp) <;> with_reducible rfl
    clear hS
    try simp only [Act.put, List.setIfInBounds_toArray, List.set_cons_zero, List.set_cons_succ]
    have hS := HSp.out _ bA bB
    refine wpAnyH_take (i := 1) (oi := { dst := some 29, op := Go.Op.load 32 (Go.Operand.tmp 6), type := 32, pos := "l14_gating.go:251", after := #[{ on := 2, ground := Go.Ground.gcOnly Go.Departure.lateStores }], guard := none }) (v := ?_) rfl (by kernel_rfl) (by kernel_rfl) (by kernel_rfl) (fun _ _ _ h => h) (Or.inl ⟨by rfl, ?_⟩) hS ?_
    rotate_left
    · (intro w hSw; have hSw := (HSd.out w).1 hSw; go_split_ands; go_simp) <;> with_reducible rfl
    clear hS
    try simp only [Act.put, List.setIfInBounds_toArray, List.set_cons_zero, List.set_cons_succ]
    refine wpAnyH_ready (rs := [2]) (by decide +kernel) (by simp) ?_
    refine AllReadyH.cons (o := { dst := none, op := Go.Op.store 32 (Go.Operand.tmp 2) (Go.Operand.tmp 28), type := 0, pos := "l14_gating.go:251", after := #[{ on := 0, ground := Go.Ground.data }, { on := 0, ground := Go.Ground.phase }, { on := 1, ground := Go.Ground.textOnly Go.Departure.lateStores }], guard := none }) rfl (fun Kn hK => ?_) AllReadyH.nil
    have bR1_0 := bR1.cell 0 rfl
    have bR1_1 := bR1.cell 1 rfl
    have bR1_2 := bR1.cell 2 rfl
    have bR1_3 := bR1.cell 3 rfl
    have bR1_4 := bR1.cell 4 rfl
    have bR1_f0 := bR1.frozen 0
    have bR1_f1 := bR1.frozen 1
    have bR1_f2 := bR1.frozen 2
    have bR1_f3 := bR1.frozen 3
    have bR1_f4 := bR1.frozen 4
    have bR1_l := bR1.lt
    go_simp
    clear bR1_0 bR1_f0 bR1_1 bR1_f1 bR1_2 bR1_f2 bR1_3 bR1_f3 bR1_4 bR1_f4 bR1_l
    generalize hX : World.setCell _ _ _ = V1
    have hb : Below w.heap.size w V1 := by rw [← hX]; exact (((((HB.out.setCell (p := ⟨w.heap.size, 0, none⟩) (by first | omega | (dsimp only; omega)) _).setCell (p := ⟨w.heap.size, 1, none⟩) (by first | omega | (dsimp only; omega)) _).setCell (p := ⟨w.heap.size, 2, none⟩) (by first | omega | (dsimp only; omega)) _).setCell (p := ⟨w.heap.size, 3, none⟩) (by first | omega | (dsimp only; omega)) _).setCell (p := ⟨w.heap.size, 4, none⟩) (by first | omega | (dsimp only; omega)) _)
    replace bR2 : Bk V1 (w.heap.size + 1) #[.int .i64 0, .int .i64 0, .int .i64 0, .int .i64 0, .int .i64 0] 32 := by rw [← hX]; exact (Bk.other (Bk.other (Bk.other (Bk.other (Bk.other bR2 (by omega) 0 _) (by omega) 1 _) (by omega) 2 _) (by omega) 3 _) (by omega) 4 _)
    replace bA : Bk V1 (gA) #[.int .i64 x, .int .i64 y, .int .i64 u, .int .i64 v, .int .i64 X9] 32 := by rw [← hX]; exact (Bk.other (Bk.other (Bk.other (Bk.other (Bk.other bA (by omega) 0 _) (by omega) 1 _) (by omega) 2 _) (by omega) 3 _) (by omega) 4 _)
    replace bB : Bk V1 (gB) #[.int .i64 A, .int .i64 B, .int .i64 0, .int .i64 0, .int .i64 z1] 32 := by rw [← hX]; exact (Bk.other (Bk.other (Bk.other (Bk.other (Bk.other bB (by omega) 0 _) (by omega) 1 _) (by omega) 2 _) (by omega) 3 _) (by omega) 4 _)
    replace bR1 : Bk V1 (w.heap.size) #[.int .i64 x, .int .i64 y, .int .i64 u, .int .i64 v, .int .i64 X9] 32 := by rw [← hX]; exact (Bk.set (Bk.set (Bk.set (Bk.set (Bk.set bR1 0 _ rfl) 1 _ rfl) 2 _ rfl) 3 _ rfl) 4 _ rfl)
    clear hX
    replace HB := Lib.hid hb
    clear hb
    refine hK.out _ _ (HSp.out _ bA bB) (fun _ => ?_)
    clear hK Kn
    refine wpAnyH_ready (rs := [3]) (by decide +kernel) (by simp) ?_
    refine AllReadyH.cons (o := { dst := none, op := Go.Op.store 32 (Go.Operand.tmp 3) (Go.Operand.tmp 29), type := 0, pos := "l14_gating.go:251", after := #[{ on := 1, ground := Go.Ground.data }, { on := 2, ground := Go.Ground.chain }, { on := 0, ground := Go.Ground.phase }, { on := 1, ground := Go.Ground.phase }, { on := 2, ground := Go.Ground.phase }], guard := none }) rfl (fun Kn hK => ?_) AllReadyH.nil
    have bR2_0 := bR2.cell 0 rfl
    have bR2_1 := bR2.cell 1 rfl
    have bR2_2 := bR2.cell 2 rfl
    have bR2_3 := bR2.cell 3 rfl
    have bR2_4 := bR2.cell 4 rfl
    have bR2_f0 := bR2.frozen 0
    have bR2_f1 := bR2.frozen 1
    have bR2_f2 := bR2.frozen 2
    have bR2_f3 := bR2.frozen 3
    have bR2_f4 := bR2.frozen 4
    have bR2_l := bR2.lt
    go_simp
    clear bR2_0 bR2_f0 bR2_1 bR2_f1 bR2_2 bR2_f2 bR2_3 bR2_f3 bR2_4 bR2_f4 bR2_l
    generalize hX : World.setCell _ _ _ = V2
    have hb : Below w.heap.size w V2 := by rw [← hX]; exact (((((HB.out.setCell (p := ⟨w.heap.size + 1, 0, none⟩) (by first | omega | (dsimp only; omega)) _).setCell (p := ⟨w.heap.size + 1, 1, none⟩) (by first | omega | (dsimp only; omega)) _).setCell (p := ⟨w.heap.size + 1, 2, none⟩) (by first | omega | (dsimp only; omega)) _).setCell (p := ⟨w.heap.size + 1, 3, none⟩) (by first | omega | (dsimp only; omega)) _).setCell (p := ⟨w.heap.size + 1, 4, none⟩) (by first | omega | (dsimp only; omega)) _)
    replace bR1 : Bk V2 (w.heap.size) #[.int .i64 x, .int .i64 y, .int .i64 u, .int .i64 v, .int .i64 X9] 32 := by rw [← hX]; exact (Bk.other (Bk.other (Bk.other (Bk.other (Bk.other bR1 (by omega) 0 _) (by omega) 1 _) (by omega) 2 _) (by omega) 3 _) (by omega) 4 _)
    replace bA : Bk V2 (gA) #[.int .i64 x, .int .i64 y, .int .i64 u, .int .i64 v, .int .i64 X9] 32 := by rw [← hX]; exact (Bk.other (Bk.other (Bk.other (Bk.other (Bk.other bA (by omega) 0 _) (by omega) 1 _) (by omega) 2 _) (by omega) 3 _) (by omega) 4 _)
    replace bB : Bk V2 (gB) #[.int .i64 A, .int .i64 B, .int .i64 0, .int .i64 0, .int .i64 z1] 32 := by rw [← hX]; exact (Bk.other (Bk.other (Bk.other (Bk.other (Bk.other bB (by omega) 0 _) (by omega) 1 _) (by omega) 2 _) (by omega) 3 _) (by omega) 4 _)
    replace bR2 : Bk V2 (w.heap.size + 1) #[.int .i64 A, .int .i64 B, .int .i64 0, .int .i64 0, .int .i64 z1] 32 := by rw [← hX]; exact (Bk.set (Bk.set (Bk.set (Bk.set (Bk.set bR2 0 _ rfl) 1 _ rfl) 2 _ rfl) 3 _ rfl) 4 _ rfl)
    clear hX
    replace HB := Lib.hid hb
    clear hb
    refine hK.out _ _ (HSp.out _ bA bB) (fun _ => ?_)
    clear hK Kn
    refine wpAnyH_done (by kernel_rfl) ?_ _
    have cbR10 := bR1.cell 0 rfl
    have cbR11 := bR1.cell 1 rfl
    have cbR12 := bR1.cell 2 rfl
    have cbR13 := bR1.cell 3 rfl
    have cbR14 := bR1.cell 4 rfl
    have cbR20 := bR2.cell 0 rfl
    have cbR21 := bR2.cell 1 rfl
    have cbR22 := bR2.cell 2 rfl
    have cbR23 := bR2.cell 3 rfl
    have cbR24 := bR2.cell 4 rfl
    repeat (first | go_values | go_skip | go_guarded | go_step | go_upon | (dsimp only))
    exact bodyPost_ret (v := .tuple #[.agg #[.int .i64 x, .int .i64 y, .int .i64 u, .int .i64 v, .int .i64 X9], .agg #[.int .i64 A, .int .i64 B, .int .i64 0, .int .i64 0, .int .i64 z1]]) (by simp [results, Try.results20, go_sem, cbR10, cbR11, cbR12, cbR13, cbR14, cbR20, cbR21, cbR22, cbR23, cbR24]) rfl ⟨x, y, u, v, X9, A, B, 0, 0, z1, rfl, HB.out⟩
  case neg =>
    have h0b : (k == 0) = false := by simpa using h0
    clear h0
    have bR1_0 := bR1.cell 0 rfl
    have bR1_1 := bR1.cell 1 rfl
    have bR1_2 := bR1.cell 2 rfl
    have bR1_3 := bR1.cell 3 rfl
    have bR1_4 := bR1.cell 4 rfl
    have bR1_l := bR1.lt
    have bR2_0 := bR2.cell 0 rfl
    have bR2_1 := bR2.cell 1 rfl
    have bR2_2 := bR2.cell 2 rfl
    have bR2_3 := bR2.cell 3 rfl
    have bR2_4 := bR2.cell 4 rfl
    have bR2_l := bR2.lt
    have bA_0 := bA.cell 0 rfl
    have bA_1 := bA.cell 1 rfl
    have bA_2 := bA.cell 2 rfl
    have bA_3 := bA.cell 3 rfl
    have bA_4 := bA.cell 4 rfl
    have bA_l := bA.lt
    have bB_0 := bB.cell 0 rfl
    have bB_1 := bB.cell 1 rfl
    have bB_2 := bB.cell 2 rfl
    have bB_3 := bB.cell 3 rfl
    have bB_4 := bB.cell 4 rfl
    have bB_l := bB.lt
    go_upto_region 7 with fail
    clear bR1_0 bR1_1 bR1_2 bR1_3 bR1_4 bR1_l bR2_0 bR2_1 bR2_2 bR2_3 bR2_4 bR2_l bA_0 bA_1 bA_2 bA_3 bA_4 bA_l bB_0 bB_1 bB_2 bB_3 bB_4 bB_l
    obtain ⟨S, hSd⟩ : ∃ S : World → Prop, ∀ w', S w' ↔ (w'.cell? ⟨gA, 0, none⟩ = some (.int .i64 x) ∧ w'.cell? ⟨gA, 1, none⟩ = some (.int .i64 y) ∧ w'.cell? ⟨gA, 2, none⟩ = some (.int .i64 u) ∧ w'.cell? ⟨gA, 3, none⟩ = some (.int .i64 v) ∧ w'.cell? ⟨gA, 4, none⟩ = some (.int .i64 t) ∧ w'.cell? ⟨gB, 0, none⟩ = some (.int .i64 p) ∧ w'.cell? ⟨gB, 1, none⟩ = some (.int .i64 q) ∧ w'.cell? ⟨gB, 2, none⟩ = some (.int .i64 a) ∧ w'.cell? ⟨gB, 3, none⟩ = some (.int .i64 b) ∧ w'.cell? ⟨gB, 4, none⟩ = some (.int .i64 r)) := ⟨_, fun _ => Iff.rfl⟩
    have HSp : Hid (∀ w' : World, Bk w' (gA) #[.int .i64 x, .int .i64 y, .int .i64 u, .int .i64 v, .int .i64 t] 32 → Bk w' (gB) #[.int .i64 p, .int .i64 q, .int .i64 a, .int .i64 b, .int .i64 r] 32 → S w') := Lib.hid (fun w' bA bB => (hSd w').2 ⟨bA.cell 0 rfl, bA.cell 1 rfl, bA.cell 2 rfl, bA.cell 3 rfl, bA.cell 4 rfl, bB.cell 0 rfl, bB.cell 1 rfl, bB.cell 2 rfl, bB.cell 3 rfl, bB.cell 4 rfl⟩)
    have HSd := Lib.hid hSd
    clear hSd
    refine wp_region_held_drew (S := S) (by kernel_rfl) ?_ (fun hH => ?_)
    · exact (HSp.out _ bA bB : S (World.drew ws6))
    clear hH
    generalize hX : World.drew ws6 = V0
    replace bR1 : Bk V0 (w.heap.size) #[.int .i64 0, .int .i64 0, .int .i64 0, .int .i64 0, .int .i64 0] 32 := by rw [← hX]; exact bR1
    replace bR2 : Bk V0 (w.heap.size + 1) #[.int .i64 0, .int .i64 0, .int .i64 0, .int .i64 0, .int .i64 0] 32 := by rw [← hX]; exact bR2
    replace bA : Bk V0 (gA) #[.int .i64 x, .int .i64 y, .int .i64 u, .int .i64 v, .int .i64 t] 32 := by rw [← hX]; exact bA
    replace bB : Bk V0 (gB) #[.int .i64 p, .int .i64 q, .int .i64 a, .int .i64 b, .int .i64 r] 32 := by rw [← hX]; exact bB
    have hb : Below ws6.heap.size ws6 V0 := by rw [← hX]; exact (Below.refl _ _).drew
    clear hX
    replace HS := Lib.hid (HS.out.bel hb)
    replace HB := Lib.hid (bel_end HB.out hb)
    clear hb
    have hS := HSp.out _ bA bB
    refine wpAnyH_take (i := 0) (oi := { dst := some 28, op := Go.Op.load 32 (Go.Operand.tmp 5), type := 32, pos := "l14_gating.go:251", after := #[], guard := none }) (v := ?_) rfl (by kernel_rfl) (by kernel_rfl) (by kernel_rfl) (fun _ _ _ h => h) (Or.inl ⟨by rfl, ?_⟩) hS ?_
    rotate_left
    · (intro w hSw; have hSw := (HSd.out w).1 hSw; go_split_ands; go_simp) <;> with_reducible rfl
    clear hS
    try simp only [Act.put, List.setIfInBounds_toArray, List.set_cons_zero, List.set_cons_succ]
    have hS := HSp.out _ bA bB
    refine wpAnyH_take (i := 1) (oi := { dst := some 29, op := Go.Op.load 32 (Go.Operand.tmp 6), type := 32, pos := "l14_gating.go:251", after := #[{ on := 2, ground := Go.Ground.gcOnly Go.Departure.lateStores }], guard := none }) (v := ?_) rfl (by kernel_rfl) (by kernel_rfl) (by kernel_rfl) (fun _ _ _ h => h) (Or.inl ⟨by rfl, ?_⟩) hS ?_
    rotate_left
    · (intro w hSw; have hSw := (HSd.out w).1 hSw; go_split_ands; go_simp) <;> with_reducible rfl
    clear hS
    try simp only [Act.put, List.setIfInBounds_toArray, List.set_cons_zero, List.set_cons_succ]
    refine wpAnyH_ready (rs := [2]) (by decide +kernel) (by simp) ?_
    refine AllReadyH.cons (o := { dst := none, op := Go.Op.store 32 (Go.Operand.tmp 2) (Go.Operand.tmp 28), type := 0, pos := "l14_gating.go:251", after := #[{ on := 0, ground := Go.Ground.data }, { on := 0, ground := Go.Ground.phase }, { on := 1, ground := Go.Ground.textOnly Go.Departure.lateStores }], guard := none }) rfl (fun Kn hK => ?_) AllReadyH.nil
    have bR1_0 := bR1.cell 0 rfl
    have bR1_1 := bR1.cell 1 rfl
    have bR1_2 := bR1.cell 2 rfl
    have bR1_3 := bR1.cell 3 rfl
    have bR1_4 := bR1.cell 4 rfl
    have bR1_f0 := bR1.frozen 0
    have bR1_f1 := bR1.frozen 1
    have bR1_f2 := bR1.frozen 2
    have bR1_f3 := bR1.frozen 3
    have bR1_f4 := bR1.frozen 4
    have bR1_l := bR1.lt
    go_simp
    clear bR1_0 bR1_f0 bR1_1 bR1_f1 bR1_2 bR1_f2 bR1_3 bR1_f3 bR1_4 bR1_f4 bR1_l
    generalize hX : World.setCell _ _ _ = V1
    have hb : Below w.heap.size w V1 := by rw [← hX]; exact (((((HB.out.setCell (p := ⟨w.heap.size, 0, none⟩) (by first | omega | (dsimp only; omega)) _).setCell (p := ⟨w.heap.size, 1, none⟩) (by first | omega | (dsimp only; omega)) _).setCell (p := ⟨w.heap.size, 2, none⟩) (by first | omega | (dsimp only; omega)) _).setCell (p := ⟨w.heap.size, 3, none⟩) (by first | omega | (dsimp only; omega)) _).setCell (p := ⟨w.heap.size, 4, none⟩) (by first | omega | (dsimp only; omega)) _)
    replace bR2 : Bk V1 (w.heap.size + 1) #[.int .i64 0, .int .i64 0, .int .i64 0, .int .i64 0, .int .i64 0] 32 := by rw [← hX]; exact (Bk.other (Bk.other (Bk.other (Bk.other (Bk.other bR2 (by omega) 0 _) (by omega) 1 _) (by omega) 2 _) (by omega) 3 _) (by omega) 4 _)
    replace bA : Bk V1 (gA) #[.int .i64 x, .int .i64 y, .int .i64 u, .int .i64 v, .int .i64 t] 32 := by rw [← hX]; exact (Bk.other (Bk.other (Bk.other (Bk.other (Bk.other bA (by omega) 0 _) (by omega) 1 _) (by omega) 2 _) (by omega) 3 _) (by omega) 4 _)
    replace bB : Bk V1 (gB) #[.int .i64 p, .int .i64 q, .int .i64 a, .int .i64 b, .int .i64 r] 32 := by rw [← hX]; exact (Bk.other (Bk.other (Bk.other (Bk.other (Bk.other bB (by omega) 0 _) (by omega) 1 _) (by omega) 2 _) (by omega) 3 _) (by omega) 4 _)
    replace bR1 : Bk V1 (w.heap.size) #[.int .i64 x, .int .i64 y, .int .i64 u, .int .i64 v, .int .i64 t] 32 := by rw [← hX]; exact (Bk.set (Bk.set (Bk.set (Bk.set (Bk.set bR1 0 _ rfl) 1 _ rfl) 2 _ rfl) 3 _ rfl) 4 _ rfl)
    clear hX
    replace HB := Lib.hid hb
    clear hb
    refine hK.out _ _ (HSp.out _ bA bB) (fun _ => ?_)
    clear hK Kn
    refine wpAnyH_ready (rs := [3]) (by decide +kernel) (by simp) ?_
    refine AllReadyH.cons (o := { dst := none, op := Go.Op.store 32 (Go.Operand.tmp 3) (Go.Operand.tmp 29), type := 0, pos := "l14_gating.go:251", after := #[{ on := 1, ground := Go.Ground.data }, { on := 2, ground := Go.Ground.chain }, { on := 0, ground := Go.Ground.phase }, { on := 1, ground := Go.Ground.phase }, { on := 2, ground := Go.Ground.phase }], guard := none }) rfl (fun Kn hK => ?_) AllReadyH.nil
    have bR2_0 := bR2.cell 0 rfl
    have bR2_1 := bR2.cell 1 rfl
    have bR2_2 := bR2.cell 2 rfl
    have bR2_3 := bR2.cell 3 rfl
    have bR2_4 := bR2.cell 4 rfl
    have bR2_f0 := bR2.frozen 0
    have bR2_f1 := bR2.frozen 1
    have bR2_f2 := bR2.frozen 2
    have bR2_f3 := bR2.frozen 3
    have bR2_f4 := bR2.frozen 4
    have bR2_l := bR2.lt
    go_simp
    clear bR2_0 bR2_f0 bR2_1 bR2_f1 bR2_2 bR2_f2 bR2_3 bR2_f3 bR2_4 bR2_f4 bR2_l
    generalize hX : World.setCell _ _ _ = V2
    have hb : Below w.heap.size w V2 := by rw [← hX]; exact (((((HB.out.setCell (p := ⟨w.heap.size + 1, 0, none⟩) (by first | omega | (dsimp only; omega)) _).setCell (p := ⟨w.heap.size + 1, 1, none⟩) (by first | omega | (dsimp only; omega)) _).setCell (p := ⟨w.heap.size + 1, 2, none⟩) (by first | omega | (dsimp only; omega)) _).setCell (p := ⟨w.heap.size + 1, 3, none⟩) (by first | omega | (dsimp only; omega)) _).setCell (p := ⟨w.heap.size + 1, 4, none⟩) (by first | omega | (dsimp only; omega)) _)
    replace bR1 : Bk V2 (w.heap.size) #[.int .i64 x, .int .i64 y, .int .i64 u, .int .i64 v, .int .i64 t] 32 := by rw [← hX]; exact (Bk.other (Bk.other (Bk.other (Bk.other (Bk.other bR1 (by omega) 0 _) (by omega) 1 _) (by omega) 2 _) (by omega) 3 _) (by omega) 4 _)
    replace bA : Bk V2 (gA) #[.int .i64 x, .int .i64 y, .int .i64 u, .int .i64 v, .int .i64 t] 32 := by rw [← hX]; exact (Bk.other (Bk.other (Bk.other (Bk.other (Bk.other bA (by omega) 0 _) (by omega) 1 _) (by omega) 2 _) (by omega) 3 _) (by omega) 4 _)
    replace bB : Bk V2 (gB) #[.int .i64 p, .int .i64 q, .int .i64 a, .int .i64 b, .int .i64 r] 32 := by rw [← hX]; exact (Bk.other (Bk.other (Bk.other (Bk.other (Bk.other bB (by omega) 0 _) (by omega) 1 _) (by omega) 2 _) (by omega) 3 _) (by omega) 4 _)
    replace bR2 : Bk V2 (w.heap.size + 1) #[.int .i64 p, .int .i64 q, .int .i64 a, .int .i64 b, .int .i64 r] 32 := by rw [← hX]; exact (Bk.set (Bk.set (Bk.set (Bk.set (Bk.set bR2 0 _ rfl) 1 _ rfl) 2 _ rfl) 3 _ rfl) 4 _ rfl)
    clear hX
    replace HB := Lib.hid hb
    clear hb
    refine hK.out _ _ (HSp.out _ bA bB) (fun _ => ?_)
    clear hK Kn
    refine wpAnyH_done (by kernel_rfl) ?_ _
    have cbR10 := bR1.cell 0 rfl
    have cbR11 := bR1.cell 1 rfl
    have cbR12 := bR1.cell 2 rfl
    have cbR13 := bR1.cell 3 rfl
    have cbR14 := bR1.cell 4 rfl
    have cbR20 := bR2.cell 0 rfl
    have cbR21 := bR2.cell 1 rfl
    have cbR22 := bR2.cell 2 rfl
    have cbR23 := bR2.cell 3 rfl
    have cbR24 := bR2.cell 4 rfl
    repeat (first | go_values | go_skip | go_guarded | go_step | go_upon | (dsimp only))
    exact bodyPost_ret (v := .tuple #[.agg #[.int .i64 x, .int .i64 y, .int .i64 u, .int .i64 v, .int .i64 t], .agg #[.int .i64 p, .int .i64 q, .int .i64 a, .int .i64 b, .int .i64 r]]) (by simp [results, Try.results20, go_sem, cbR10, cbR11, cbR12, cbR13, cbR14, cbR20, cbR21, cbR22, cbR23, cbR24]) rfl ⟨x, y, u, v, t, p, q, a, b, r, rfl, HB.out⟩
end Go.Proofs.Ytlahgdhofakinaa
