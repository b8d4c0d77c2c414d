/- The model's draws of the arguments of bearings and tracks. -/
import Derived.Test.YtkjpjhklnaehbaaBrS
namespace Go.Proofs.Ytkjpjhklnaehbaa
open Go.ChangeShapes Go.WideShapes Go.ChangeAt Go.RowKit Go.Shelf Num
set_option linter.unusedVariables false
set_option linter.unusedSimpArgs false
def Pt2 (w : World) (e : Ending) (w' : World) : Prop := ∃ z0 z1 z2 z3 : Int, e = .returned (.tuple #[.agg #[.int .i64 z0, .int .i64 z1], .agg #[.int .i64 z2, .int .i64 z3]]) ∧ Below w.heap.size w w'
def Pt3 (w : World) (e : Ending) (w' : World) : Prop := ∃ z0 z1 z2 z3 z4 z5 : Int, e = .returned (.tuple #[.agg #[.int .i64 z0, .int .i64 z1], .agg #[.int .i64 z2, .int .i64 z3], .agg #[.int .i64 z4, .int .i64 z5]]) ∧ Below w.heap.size w w'
def Pt4 (w : World) (e : Ending) (w' : World) : Prop := ∃ z0 z1 z2 z3 z4 z5 z6 z7 : Int, e = .returned (.tuple #[.agg #[.int .i64 z0, .int .i64 z1], .agg #[.int .i64 z2, .int .i64 z3], .agg #[.int .i64 z4, .int .i64 z5], .agg #[.int .i64 z6, .int .i64 z7]]) ∧ Below w.heap.size w w'
def TkT (w : World) (e : Ending) (w' : World) : Prop := ∃ z0 z1 z2 z3 z4 : Int, e = .returned (.tuple #[.agg #[.int .i64 z0, .int .i64 z1, .int .i64 z2, .int .i64 z3], .int .i64 z4]) ∧ Below w.heap.size w w'
def TwT (w : World) (e : Ending) (w' : World) : Prop := ∃ z0 z1 z2 z3 z4 z5 z6 z7 z8 : Int, e = .returned (.tuple #[.agg #[.int .i64 z0, .int .i64 z1, .int .i64 z2, .int .i64 z3], .agg #[.int .i64 z4, .int .i64 z5, .int .i64 z6, .int .i64 z7], .int .i64 z8]) ∧ Below w.heap.size w w'
def Tw2 (w : World) (e : Ending) (w' : World) : Prop := ∃ z0 z1 z2 z3 z4 z5 z6 z7 : Int, e = .returned (.tuple #[.agg #[.int .i64 z0, .int .i64 z1, .int .i64 z2, .int .i64 z3], .agg #[.int .i64 z4, .int .i64 z5, .int .i64 z6, .int .i64 z7]]) ∧ Below w.heap.size w w'

set_option maxRecDepth 100000 in
set_option maxHeartbeats 8000000 in
theorem dso_any (w : World) (a0 : Option Addr) (cap : Nat) (zs : List Int) (h : Code8 w w.heap.size a0 zs) :
    Calls Try.prog 39 #[.slice a0 zs.length cap] w (Pt3 w) := by
  have HC := Lib.hid h
  clear h
  go_enter Try.func39, Try.ntmps39
  go_wp2_with fail
  generalize hW : World.alloc _ _ = W
  have bR1 : Bk W (w.heap.size) #[.int .i64 0, .int .i64 0] 25 := by rw [← hW]; repeat (first | (refine Bk.new' ?_; (simp; done)) | refine Bk.alloc ?_ _)
  have bR2 : Bk W (w.heap.size + 1) #[.int .i64 0, .int .i64 0] 25 := by rw [← hW]; repeat (first | (refine Bk.new' ?_; (simp; done)) | refine Bk.alloc ?_ _)
  have bR3 : Bk W (w.heap.size + 1 + 1) #[.int .i64 0, .int .i64 0] 25 := by rw [← hW]; repeat (first | (refine Bk.new' ?_; (simp; done)) | refine Bk.alloc ?_ _)
  have hb : Below w.heap.size w W := by rw [← hW]; exact (by repeat (first | exact Below.refl _ _ | (refine Below.alloc ?_ (by simp <;> omega) _) | (refine Below.setCell ?_ (by simp <;> omega) _) | (refine Below.drew ?_) | (refine bel_drewN ?_ _)))
  clear hW
  have hlT := bR3.lt
  refine (from_any _ _ _ zs ((HC.out.below hb (Nat.le_refl _)).more hb.size)).mono ?_
  rintro e w1 ⟨s, rfl, hs, hsrc, hb1⟩
  replace bR1 := bR1.on hb1
  replace bR2 := bR2.on hb1
  replace bR3 := bR3.on hb1
  have HB := Lib.hid (bel_end hb hb1)
  have HS := Lib.hid hsrc
  have hls := HS.out.lt
  have hR : w.heap.size + 3 ≤ s := by omega
  clear hs hsrc hb hb1 HC hlT
  have bR1_0 := bR1.cell 0 rfl
  have bR1_1 := bR1.cell 1 rfl
  have bR1_l := bR1.lt
  have bR2_0 := bR2.cell 0 rfl
  have bR2_1 := bR2.cell 1 rfl
  have bR2_l := bR2.lt
  have bR3_0 := bR3.cell 0 rfl
  have bR3_1 := bR3.cell 1 rfl
  have bR3_l := bR3.lt
  go_wp2_with fail
  refine (dpt_any _ s _ _ HS.out).mono ?_
  rintro e ws2 ⟨px, py, rfl, hs, hg⟩
  replace bR1 := bR1.kept hg (by simp; omega)
  replace bR2 := bR2.kept hg (by simp; omega)
  replace bR3 := bR3.kept hg (by simp; omega)
  have hz2 := hg.size
  replace HB := Lib.hid (HB.out.trans (below_of_grown hg (by omega) (by have := HB.out.size; omega)))
  replace HS := Lib.hid hs
  replace hls := HS.out.lt
  clear hs hg
  clear bR1_0 bR1_1 bR1_l bR2_0 bR2_1 bR2_l bR3_0 bR3_1 bR3_l
  have bR1_0 := bR1.cell 0 rfl
  have bR1_1 := bR1.cell 1 rfl
  have bR1_l := bR1.lt
  have bR2_0 := bR2.cell 0 rfl
  have bR2_1 := bR2.cell 1 rfl
  have bR2_l := bR2.lt
  have bR3_0 := bR3.cell 0 rfl
  have bR3_1 := bR3.cell 1 rfl
  have bR3_l := bR3.lt
  go_wp2_with fail
  refine (dbr_any _ s HS.out).mono ?_
  rintro e ws3 ⟨ux, uy, rfl, hs, hg⟩
  replace bR1 := bR1.kept hg (by simp; omega)
  replace bR2 := bR2.kept hg (by simp; omega)
  replace bR3 := bR3.kept hg (by simp; omega)
  have hz3 := hg.size
  replace HB := Lib.hid (HB.out.trans (below_of_grown hg (by omega) (by have := HB.out.size; omega)))
  replace HS := Lib.hid hs
  replace hls := HS.out.lt
  clear hs hg
  clear bR1_0 bR1_1 bR1_l bR2_0 bR2_1 bR2_l bR3_0 bR3_1 bR3_l
  have bR1_0 := bR1.cell 0 rfl
  have bR1_1 := bR1.cell 1 rfl
  have bR1_l := bR1.lt
  have bR2_0 := bR2.cell 0 rfl
  have bR2_1 := bR2.cell 1 rfl
  have bR2_l := bR2.lt
  have bR3_0 := bR3.cell 0 rfl
  have bR3_1 := bR3.cell 1 rfl
  have bR3_l := bR3.lt
  go_upto_region 3 with fail
  clear bR1_0 bR1_1 bR1_l bR2_0 bR2_1 bR2_l bR3_0 bR3_1 bR3_l
  generalize hW : World.alloc _ _ = wn4
  have hb : Below ws3.heap.size ws3 wn4 := by rw [← hW]; exact (by repeat (first | exact Below.refl _ _ | (refine Below.alloc ?_ (by simp <;> omega) _) | (refine Below.setCell ?_ (by simp <;> omega) _) | (refine Below.drew ?_) | (refine bel_drewN ?_ _)))
  obtain ⟨gP, hg0⟩ : ∃ g, g = ws3.heap.size := ⟨_, rfl⟩
  obtain ⟨px, py, bP⟩ : ∃ px py, Bk wn4 gP #[.int .i64 px, .int .i64 py] 25 := ⟨_, _, by rw [← hW, hg0]; repeat (first | (refine Bk.new' ?_; (simp; done)) | refine Bk.alloc ?_ _)⟩
  have lsbP : s < gP := by omega
  have nebP_bR1 : gP ≠ w.heap.size := by have := bR1.lt; omega
  have nebP_bR2 : gP ≠ w.heap.size + 1 := by have := bR2.lt; omega
  have nebP_bR3 : gP ≠ w.heap.size + 1 + 1 := by have := bR3.lt; omega
  have lwbP : w.heap.size ≤ gP := by have := HB.out.size; omega
  obtain ⟨gU, hg1⟩ : ∃ g, g = ws3.heap.size + 1 := ⟨_, rfl⟩
  obtain ⟨ux, uy, bU⟩ : ∃ ux uy, Bk wn4 gU #[.int .i64 ux, .int .i64 uy] 25 := ⟨_, _, by rw [← hW, hg1]; repeat (first | (refine Bk.new' ?_; (simp; done)) | refine Bk.alloc ?_ _)⟩
  have lsbU : s < gU := by omega
  have nebU_bP : gU ≠ gP := by omega
  have nebU_bR1 : gU ≠ w.heap.size := by have := bR1.lt; omega
  have nebU_bR2 : gU ≠ w.heap.size + 1 := by have := bR2.lt; omega
  have nebU_bR3 : gU ≠ w.heap.size + 1 + 1 := by have := bR3.lt; omega
  have lwbU : w.heap.size ≤ gU := by have := HB.out.size; omega
  try rw [← hg1]
  try rw [← hg0]
  clear hW hg0 hg1
  replace bR1 := bR1.on hb
  replace bR2 := bR2.on hb
  replace bR3 := bR3.on hb
  replace HB := Lib.hid (bel_end HB.out hb)
  replace HS := Lib.hid (HS.out.bel hb)
  replace hls := HS.out.lt
  clear hb
  have bR1_0 := bR1.cell 0 rfl
  have bR1_1 := bR1.cell 1 rfl
  have bR1_l := bR1.lt
  have bR2_0 := bR2.cell 0 rfl
  have bR2_1 := bR2.cell 1 rfl
  have bR2_l := bR2.lt
  have bR3_0 := bR3.cell 0 rfl
  have bR3_1 := bR3.cell 1 rfl
  have bR3_l := bR3.lt
  have bP_0 := bP.cell 0 rfl
  have bP_1 := bP.cell 1 rfl
  have bP_l := bP.lt
  have bU_0 := bU.cell 0 rfl
  have bU_1 := bU.cell 1 rfl
  have bU_l := bU.lt
  go_wp2_with fail
  refine (nxt_any _ _ _ HS.out).mono ?_
  rintro e ws5 ⟨q, rfl, -, -, -, hs, hg⟩
  replace bR1 := bR1.kept hg (by simp; omega)
  replace bR2 := bR2.kept hg (by simp; omega)
  replace bR3 := bR3.kept hg (by simp; omega)
  replace bP := bP.kept hg (by simp; omega)
  replace bU := bU.kept hg (by simp; omega)
  have hz5 := hg.size
  replace HB := Lib.hid (HB.out.trans (below_of_grown hg (by omega) (by have := HB.out.size; omega)))
  replace HS := Lib.hid hs
  replace hls := HS.out.lt
  clear hs hg
  clear bR1_0 bR1_1 bR1_l bR2_0 bR2_1 bR2_l bR3_0 bR3_1 bR3_l bP_0 bP_1 bP_l bU_0 bU_1 bU_l
  by_cases h0 : q = 0
  case pos =>
    subst h0
    have bR1_0 := bR1.cell 0 rfl
    have bR1_1 := bR1.cell 1 rfl
    have bR1_l := bR1.lt
    have bR2_0 := bR2.cell 0 rfl
    have bR2_1 := bR2.cell 1 rfl
    have bR2_l := bR2.lt
    have bR3_0 := bR3.cell 0 rfl
    have bR3_1 := bR3.cell 1 rfl
    have bR3_l := bR3.lt
    have bP_0 := bP.cell 0 rfl
    have bP_1 := bP.cell 1 rfl
    have bP_l := bP.lt
    have bU_0 := bU.cell 0 rfl
    have bU_1 := bU.cell 1 rfl
    have bU_l := bU.lt
    go_wp2_with fail
    refine (nxt_any _ _ _ HS.out).mono ?_
    rintro e ws6 ⟨k, rfl, -, -, -, hs, hg⟩
    replace bR1 := bR1.kept hg (by simp; omega)
    replace bR2 := bR2.kept hg (by simp; omega)
    replace bR3 := bR3.kept hg (by simp; omega)
    replace bP := bP.kept hg (by simp; omega)
    replace bU := bU.kept hg (by simp; omega)
    have hz6 := hg.size
    replace HB := Lib.hid (HB.out.trans (below_of_grown hg (by omega) (by have := HB.out.size; omega)))
    replace HS := Lib.hid hs
    replace hls := HS.out.lt
    clear hs hg
    clear bR1_0 bR1_1 bR1_l bR2_0 bR2_1 bR2_l bR3_0 bR3_1 bR3_l bP_0 bP_1 bP_l bU_0 bU_1 bU_l
    obtain ⟨K, eK⟩ : ∃ q, IntKind.wrap .i64 (k - 4) = q := ⟨_, rfl⟩
    obtain ⟨A, eA⟩ : ∃ q, IntKind.wrap .i64 (K * ux) = q := ⟨_, rfl⟩
    obtain ⟨X, eX⟩ : ∃ q, IntKind.wrap .i64 (px + A) = q := ⟨_, rfl⟩
    obtain ⟨B, eB⟩ : ∃ q, IntKind.wrap .i64 (K * uy) = q := ⟨_, rfl⟩
    obtain ⟨Y, eY⟩ : ∃ q, IntKind.wrap .i64 (py + B) = q := ⟨_, rfl⟩
    have bR1_0 := bR1.cell 0 rfl
    have bR1_1 := bR1.cell 1 rfl
    have bR1_l := bR1.lt
    have bR2_0 := bR2.cell 0 rfl
    have bR2_1 := bR2.cell 1 rfl
    have bR2_l := bR2.lt
    have bR3_0 := bR3.cell 0 rfl
    have bR3_1 := bR3.cell 1 rfl
    have bR3_l := bR3.lt
    have bP_0 := bP.cell 0 rfl
    have bP_1 := bP.cell 1 rfl
    have bP_l := bP.lt
    have bU_0 := bU.cell 0 rfl
    have bU_1 := bU.cell 1 rfl
    have bU_l := bU.lt
    go_upto_region 5 with fail
    clear bR1_0 bR1_1 bR1_l bR2_0 bR2_1 bR2_l bR3_0 bR3_1 bR3_l bP_0 bP_1 bP_l bU_0 bU_1 bU_l
    obtain ⟨S, hSd⟩ : ∃ S : World → Prop, ∀ w', S w' ↔ (w'.cell? ⟨gP, 0, none⟩ = some (.int .i64 px) ∧ w'.cell? ⟨gP, 1, none⟩ = some (.int .i64 py) ∧ w'.cell? ⟨gU, 0, none⟩ = some (.int .i64 ux) ∧ w'.cell? ⟨gU, 1, none⟩ = some (.int .i64 uy)) := ⟨_, fun _ => Iff.rfl⟩
    have HSp : Hid (∀ w' : World, Bk w' (gP) #[.int .i64 px, .int .i64 py] 25 → Bk w' (gU) #[.int .i64 ux, .int .i64 uy] 25 → S w') := Lib.hid (fun w' bP bU => (hSd w').2 ⟨bP.cell 0 rfl, bP.cell 1 rfl, bU.cell 0 rfl, bU.cell 1 rfl⟩)
    have HSd := Lib.hid hSd
    clear hSd
    refine wp_region_held_drew (S := S) (by kernel_rfl) ?_ (fun hH => ?_)
    · exact (HSp.out _ bP bU : S (World.drew ws6))
    clear hH
    generalize hX : World.drew ws6 = V0
    replace bR1 : Bk V0 (w.heap.size) #[.int .i64 0, .int .i64 0] 25 := by rw [← hX]; exact bR1
    replace bR2 : Bk V0 (w.heap.size + 1) #[.int .i64 0, .int .i64 0] 25 := by rw [← hX]; exact bR2
    replace bR3 : Bk V0 (w.heap.size + 1 + 1) #[.int .i64 0, .int .i64 0] 25 := by rw [← hX]; exact bR3
    replace bP : Bk V0 (gP) #[.int .i64 px, .int .i64 py] 25 := by rw [← hX]; exact bP
    replace bU : Bk V0 (gU) #[.int .i64 ux, .int .i64 uy] 25 := by rw [← hX]; exact bU
    have hb : Below ws6.heap.size ws6 V0 := by rw [← hX]; exact (Below.refl _ _).drew
    clear hX
    replace HS := Lib.hid (HS.out.bel hb)
    replace HB := Lib.hid (bel_end HB.out hb)
    clear hb
    have hS := HSp.out _ bP bU
    refine wpAnyH_take (i := 0) (oi := { dst := some 21, op := Go.Op.load 25 (Go.Operand.tmp 6), type := 25, pos := "l12_bearings.go:177", after := #[], guard := none }) (v := ?_) rfl (by kernel_rfl) (by kernel_rfl) (by kernel_rfl) (fun _ _ _ h => h) (Or.inl ⟨by rfl, ?_⟩) hS ?_
    rotate_left
    · (intro w hSw; have hSw := (HSd.out w).1 hSw; go_split_ands; go_simp) <;> with_reducible rfl
    clear hS
    try simp only [Act.put, List.setIfInBounds_toArray, List.set_cons_zero, List.set_cons_succ]
    have hS := HSp.out _ bP bU
    refine wpAnyH_take (i := 1) (oi := { dst := some 22, op := Go.Op.load 25 (Go.Operand.tmp 7), type := 25, pos := "l12_bearings.go:177", after := #[{ on := 17, ground := Go.Ground.gcOnly Go.Departure.lateStores }], guard := none }) (v := ?_) rfl (by kernel_rfl) (by kernel_rfl) (by kernel_rfl) (fun _ _ _ h => h) (Or.inl ⟨by rfl, ?_⟩) hS ?_
    rotate_left
    · (intro w hSw; have hSw := (HSd.out w).1 hSw; go_split_ands; go_simp) <;> with_reducible rfl
    clear hS
    try simp only [Act.put, List.setIfInBounds_toArray, List.set_cons_zero, List.set_cons_succ]
    have hS := HSp.out _ bP bU
    refine wpAnyH_take (i := 2) (oi := { dst := some 23, op := Go.Op.fieldAddr 25 (Go.Operand.tmp 6) 0, type := 0, pos := "l12_bearings.go:177", after := #[{ on := 18, ground := Go.Ground.gcOnly Go.Departure.lateStores }], guard := none }) (v := ?_) rfl (by kernel_rfl) (by kernel_rfl) (by kernel_rfl) (fun _ _ _ h => h) (Or.inl ⟨by rfl, ?_⟩) hS ?_
    rotate_left
    · (intro w hSw; have hSw := (HSd.out w).1 hSw; go_split_ands; go_simp) <;> with_reducible rfl
    clear hS
    try simp only [Act.put, List.setIfInBounds_toArray, List.set_cons_zero, List.set_cons_succ]
    have hS := HSp.out _ bP bU
    refine wpAnyH_take (i := 3) (oi := { dst := some 24, op := Go.Op.load 2 (Go.Operand.tmp 23), type := 2, pos := "l12_bearings.go:177", after := #[{ on := 2, ground := Go.Ground.data }, { on := 18, ground := Go.Ground.gcOnly Go.Departure.lateStores }], guard := none }) (v := ?_) rfl (by kernel_rfl) (by kernel_rfl) (by kernel_rfl) (fun _ _ _ h => h) (Or.inl ⟨by rfl, ?_⟩) hS ?_
    rotate_left
    · (intro w hSw; have hSw := (HSd.out w).1 hSw; go_split_ands; go_simp) <;> with_reducible rfl
    clear hS
    try simp only [Act.put, List.setIfInBounds_toArray, List.set_cons_zero, List.set_cons_succ]
    have hS := HSp.out _ bP bU
    refine wpAnyH_take (i := 4) (oi := { dst := some 25, op := Go.Op.move (Go.Operand.tmp 8), type := 2, pos := "l12_bearings.go:177", after := #[{ on := 18, ground := Go.Ground.gcOnly Go.Departure.lateStores }], guard := none }) (v := ?_) rfl (by kernel_rfl) (by kernel_rfl) (by kernel_rfl) (fun _ _ _ h => h) (Or.inl ⟨by rfl, ?_⟩) hS ?_
    rotate_left
    · (intro w hSw; have hSw := (HSd.out w).1 hSw; go_split_ands; go_simp) <;> with_reducible rfl
    clear hS
    try simp only [Act.put, List.setIfInBounds_toArray, List.set_cons_zero, List.set_cons_succ]
    have hS := HSp.out _ bP bU
    refine wpAnyH_take (i := 5) (oi := { dst := some 26, op := Go.Op.fieldAddr 25 (Go.Operand.tmp 7) 0, type := 0, pos := "l12_bearings.go:177", after := #[{ on := 18, ground := Go.Ground.gcOnly Go.Departure.lateStores }], guard := none }) (v := ?_) rfl (by kernel_rfl) (by kernel_rfl) (by kernel_rfl) (fun _ _ _ h => h) (Or.inl ⟨by rfl, ?_⟩) hS ?_
    rotate_left
    · (intro w hSw; have hSw := (HSd.out w).1 hSw; go_split_ands; go_simp) <;> with_reducible rfl
    clear hS
    try simp only [Act.put, List.setIfInBounds_toArray, List.set_cons_zero, List.set_cons_succ]
    have hS := HSp.out _ bP bU
    refine wpAnyH_take (i := 6) (oi := { dst := some 27, op := Go.Op.load 2 (Go.Operand.tmp 26), type := 2, pos := "l12_bearings.go:177", after := #[{ on := 5, ground := Go.Ground.data }, { on := 18, ground := Go.Ground.gcOnly Go.Departure.lateStores }], guard := none }) (v := ?_) rfl (by kernel_rfl) (by kernel_rfl) (by kernel_rfl) (fun _ _ _ h => h) (Or.inl ⟨by rfl, ?_⟩) hS ?_
    rotate_left
    · (intro w hSw; have hSw := (HSd.out w).1 hSw; go_split_ands; go_simp) <;> with_reducible rfl
    clear hS
    try simp only [Act.put, List.setIfInBounds_toArray, List.set_cons_zero, List.set_cons_succ]
    have hS := HSp.out _ bP bU
    refine wpAnyH_take (i := 7) (oi := { dst := some 28, op := Go.Op.binOp Go.BinOp.mul 2 (Go.Operand.tmp 25) (Go.Operand.tmp 27) 2, type := 2, pos := "l12_bearings.go:177", after := #[{ on := 4, ground := Go.Ground.data }, { on := 6, ground := Go.Ground.data }, { on := 18, ground := Go.Ground.gcOnly Go.Departure.lateStores }], guard := none }) (v := ?_) rfl (by kernel_rfl) (by kernel_rfl) (by kernel_rfl) (fun _ _ _ h => h) (Or.inl ⟨by rfl, ?_⟩) hS ?_
    rotate_left
    · (intro w hSw; have hSw := (HSd.out w).1 hSw; go_split_ands; go_simp) <;> with_reducible rfl
    clear hS
    try simp only [Act.put, List.setIfInBounds_toArray, List.set_cons_zero, List.set_cons_succ]
    have hS := HSp.out _ bP bU
    refine wpAnyH_take (i := 8) (oi := { dst := some 29, op := Go.Op.binOp Go.BinOp.add 2 (Go.Operand.tmp 24) (Go.Operand.tmp 28) 2, type := 2, pos := "l12_bearings.go:177", after := #[{ on := 3, ground := Go.Ground.data }, { on := 7, ground := Go.Ground.data }, { on := 18, ground := Go.Ground.gcOnly Go.Departure.lateStores }], guard := none }) (v := ?_) rfl (by kernel_rfl) (by kernel_rfl) (by kernel_rfl) (fun _ _ _ h => h) (Or.inl ⟨by rfl, ?_⟩) hS ?_
    rotate_left
    · (intro w hSw; have hSw := (HSd.out w).1 hSw; go_split_ands; go_simp) <;> with_reducible rfl
    clear hS
    try simp only [Act.put, List.setIfInBounds_toArray, List.set_cons_zero, List.set_cons_succ]
    have hS := HSp.out _ bP bU
    refine wpAnyH_take (i := 9) (oi := { dst := some 30, op := Go.Op.fieldAddr 25 (Go.Operand.tmp 6) 1, type := 0, pos := "l12_bearings.go:177", after := #[{ on := 18, ground := Go.Ground.gcOnly Go.Departure.lateStores }], guard := none }) (v := ?_) rfl (by kernel_rfl) (by kernel_rfl) (by kernel_rfl) (fun _ _ _ h => h) (Or.inl ⟨by rfl, ?_⟩) hS ?_
    rotate_left
    · (intro w hSw; have hSw := (HSd.out w).1 hSw; go_split_ands; go_simp) <;> with_reducible rfl
    clear hS
    try simp only [Act.put, List.setIfInBounds_toArray, List.set_cons_zero, List.set_cons_succ]
    have hS := HSp.out _ bP bU
    refine wpAnyH_take (i := 10) (oi := { dst := some 31, op := Go.Op.load 2 (Go.Operand.tmp 30), type := 2, pos := "l12_bearings.go:177", after := #[{ on := 9, ground := Go.Ground.data }, { on := 18, ground := Go.Ground.gcOnly Go.Departure.lateStores }], guard := none }) (v := ?_) rfl (by kernel_rfl) (by kernel_rfl) (by kernel_rfl) (fun _ _ _ h => h) (Or.inl ⟨by rfl, ?_⟩) hS ?_
    rotate_left
    · (intro w hSw; have hSw := (HSd.out w).1 hSw; go_split_ands; go_simp) <;> with_reducible rfl
    clear hS
    try simp only [Act.put, List.setIfInBounds_toArray, List.set_cons_zero, List.set_cons_succ]
    have hS := HSp.out _ bP bU
    refine wpAnyH_take (i := 11) (oi := { dst := some 32, op := Go.Op.move (Go.Operand.tmp 8), type := 2, pos := "l12_bearings.go:177", after := #[{ on := 18, ground := Go.Ground.gcOnly Go.Departure.lateStores }], guard := none }) (v := ?_) rfl (by kernel_rfl) (by kernel_rfl) (by kernel_rfl) (fun _ _ _ h => h) (Or.inl ⟨by rfl, ?_⟩) hS ?_
    rotate_left
    · (intro w hSw; have hSw := (HSd.out w).1 hSw; go_split_ands; go_simp) <;> with_reducible rfl
    clear hS
    try simp only [Act.put, List.setIfInBounds_toArray, List.set_cons_zero, List.set_cons_succ]
    have hS := HSp.out _ bP bU
    refine wpAnyH_take (i := 12) (oi := { dst := some 33, op := Go.Op.fieldAddr 25 (Go.Operand.tmp 7) 1, type := 0, pos := "l12_bearings.go:177", after := #[{ on := 18, ground := Go.Ground.gcOnly Go.Departure.lateStores }], guard := none }) (v := ?_) rfl (by kernel_rfl) (by kernel_rfl) (by kernel_rfl) (fun _ _ _ h => h) (Or.inl ⟨by rfl, ?_⟩) hS ?_
    rotate_left
    · (intro w hSw; have hSw := (HSd.out w).1 hSw; go_split_ands; go_simp) <;> with_reducible rfl
    clear hS
    try simp only [Act.put, List.setIfInBounds_toArray, List.set_cons_zero, List.set_cons_succ]
    have hS := HSp.out _ bP bU
    refine wpAnyH_take (i := 13) (oi := { dst := some 34, op := Go.Op.load 2 (Go.Operand.tmp 33), type := 2, pos := "l12_bearings.go:177", after := #[{ on := 12, ground := Go.Ground.data }, { on := 18, ground := Go.Ground.gcOnly Go.Departure.lateStores }], guard := none }) (v := ?_) rfl (by kernel_rfl) (by kernel_rfl) (by kernel_rfl) (fun _ _ _ h => h) (Or.inl ⟨by rfl, ?_⟩) hS ?_
    rotate_left
    · (intro w hSw; have hSw := (HSd.out w).1 hSw; go_split_ands; go_simp) <;> with_reducible rfl
    clear hS
    try simp only [Act.put, List.setIfInBounds_toArray, List.set_cons_zero, List.set_cons_succ]
    have hS := HSp.out _ bP bU
    refine wpAnyH_take (i := 14) (oi := { dst := some 35, op := Go.Op.binOp Go.BinOp.mul 2 (Go.Operand.tmp 32) (Go.Operand.tmp 34) 2, type := 2, pos := "l12_bearings.go:177", after := #[{ on := 11, ground := Go.Ground.data }, { on := 13, ground := Go.Ground.data }, { on := 18, ground := Go.Ground.gcOnly Go.Departure.lateStores }], guard := none }) (v := ?_) rfl (by kernel_rfl) (by kernel_rfl) (by kernel_rfl) (fun _ _ _ h => h) (Or.inl ⟨by rfl, ?_⟩) hS ?_
    rotate_left
    · (intro w hSw; have hSw := (HSd.out w).1 hSw; go_split_ands; go_simp) <;> with_reducible rfl
    clear hS
    try simp only [Act.put, List.setIfInBounds_toArray, List.set_cons_zero, List.set_cons_succ]
    have hS := HSp.out _ bP bU
    refine wpAnyH_take (i := 15) (oi := { dst := some 36, op := Go.Op.binOp Go.BinOp.add 2 (Go.Operand.tmp 31) (Go.Operand.tmp 35) 2, type := 2, pos := "l12_bearings.go:177", after := #[{ on := 10, ground := Go.Ground.data }, { on := 14, ground := Go.Ground.data }, { on := 18, ground := Go.Ground.gcOnly Go.Departure.lateStores }], guard := none }) (v := ?_) rfl (by kernel_rfl) (by kernel_rfl) (by kernel_rfl) (fun _ _ _ h => h) (Or.inl ⟨by rfl, ?_⟩) hS ?_
    rotate_left
    · (intro w hSw; have hSw := (HSd.out w).1 hSw; go_split_ands; go_simp) <;> with_reducible rfl
    clear hS
    try simp only [Act.put, List.setIfInBounds_toArray, List.set_cons_zero, List.set_cons_succ]
    have hS := HSp.out _ bP bU
    refine wpAnyH_take (i := 16) (oi := { dst := some 37, op := Go.Op.build 25 #[(0, Go.Operand.tmp 29), (1, Go.Operand.tmp 36)], type := 25, pos := "l12_bearings.go:177", after := #[{ on := 8, ground := Go.Ground.data }, { on := 15, ground := Go.Ground.data }, { on := 18, ground := Go.Ground.gcOnly Go.Departure.lateStores }], guard := none }) (v := ?_) rfl (by kernel_rfl) (by kernel_rfl) (by kernel_rfl) (fun _ _ _ h => h) (Or.inl ⟨by rfl, ?_⟩) hS ?_
    rotate_left
    · (intro w hSw; have hSw := (HSd.out w).1 hSw; go_split_ands; go_simp) <;> with_reducible rfl
    clear hS
    try simp only [Act.put, List.setIfInBounds_toArray, List.set_cons_zero, List.set_cons_succ]
    refine wpAnyH_ready (rs := [17]) (by decide +kernel) (by simp) ?_
    refine AllReadyH.cons (o := { dst := none, op := Go.Op.store 25 (Go.Operand.tmp 2) (Go.Operand.tmp 21), type := 0, pos := "l12_bearings.go:177", after := #[{ on := 0, ground := Go.Ground.data }, { on := 0, ground := Go.Ground.phase }, { on := 1, ground := Go.Ground.textOnly Go.Departure.lateStores }, { on := 2, ground := Go.Ground.textOnly Go.Departure.lateStores }, { on := 3, ground := Go.Ground.textOnly Go.Departure.lateStores }, { on := 4, ground := Go.Ground.textOnly Go.Departure.lateStores }, { on := 5, ground := Go.Ground.textOnly Go.Departure.lateStores }, { on := 6, ground := Go.Ground.textOnly Go.Departure.lateStores }, { on := 7, ground := Go.Ground.textOnly Go.Departure.lateStores }, { on := 8, ground := Go.Ground.textOnly Go.Departure.lateStores }, { on := 9, ground := Go.Ground.textOnly Go.Departure.lateStores }, { on := 10, ground := Go.Ground.textOnly Go.Departure.lateStores }, { on := 11, ground := Go.Ground.textOnly Go.Departure.lateStores }, { on := 12, ground := Go.Ground.textOnly Go.Departure.lateStores }, { on := 13, ground := Go.Ground.textOnly Go.Departure.lateStores }, { on := 14, ground := Go.Ground.textOnly Go.Departure.lateStores }, { on := 15, ground := Go.Ground.textOnly Go.Departure.lateStores }, { on := 16, ground := Go.Ground.textOnly Go.Departure.lateStores }], guard := none }) rfl (fun Kn hK => ?_) AllReadyH.nil
    have bR1_0 := bR1.cell 0 rfl
    have bR1_1 := bR1.cell 1 rfl
    have bR1_f0 := bR1.frozen 0
    have bR1_f1 := bR1.frozen 1
    have bR1_l := bR1.lt
    go_simp
    clear bR1_0 bR1_f0 bR1_1 bR1_f1 bR1_l
    generalize hX : World.setCell _ _ _ = V1
    have hb : Below w.heap.size w V1 := by rw [← hX]; exact ((HB.out.setCell (p := ⟨w.heap.size, 0, none⟩) (by first | omega | (dsimp only; omega)) _).setCell (p := ⟨w.heap.size, 1, none⟩) (by first | omega | (dsimp only; omega)) _)
    replace bR2 : Bk V1 (w.heap.size + 1) #[.int .i64 0, .int .i64 0] 25 := by rw [← hX]; exact (Bk.other (Bk.other bR2 (by omega) 0 _) (by omega) 1 _)
    replace bR3 : Bk V1 (w.heap.size + 1 + 1) #[.int .i64 0, .int .i64 0] 25 := by rw [← hX]; exact (Bk.other (Bk.other bR3 (by omega) 0 _) (by omega) 1 _)
    replace bP : Bk V1 (gP) #[.int .i64 px, .int .i64 py] 25 := by rw [← hX]; exact (Bk.other (Bk.other bP (by omega) 0 _) (by omega) 1 _)
    replace bU : Bk V1 (gU) #[.int .i64 ux, .int .i64 uy] 25 := by rw [← hX]; exact (Bk.other (Bk.other bU (by omega) 0 _) (by omega) 1 _)
    replace bR1 : Bk V1 (w.heap.size) #[.int .i64 px, .int .i64 py] 25 := by rw [← hX]; exact (Bk.set (Bk.set bR1 0 _ rfl) 1 _ rfl)
    clear hX
    replace HB := Lib.hid hb
    clear hb
    refine hK.out _ _ (HSp.out _ bP bU) (fun _ => ?_)
    clear hK Kn
    refine wpAnyH_ready (rs := [18]) (by decide +kernel) (by simp) ?_
    refine AllReadyH.cons (o := { dst := none, op := Go.Op.store 25 (Go.Operand.tmp 3) (Go.Operand.tmp 22), type := 0, pos := "l12_bearings.go:177", after := #[{ on := 1, ground := Go.Ground.data }, { on := 17, ground := Go.Ground.chain }, { on := 0, ground := Go.Ground.phase }, { on := 1, ground := Go.Ground.phase }, { on := 2, ground := Go.Ground.textOnly Go.Departure.lateStores }, { on := 3, ground := Go.Ground.textOnly Go.Departure.lateStores }, { on := 4, ground := Go.Ground.textOnly Go.Departure.lateStores }, { on := 5, ground := Go.Ground.textOnly Go.Departure.lateStores }, { on := 6, ground := Go.Ground.textOnly Go.Departure.lateStores }, { on := 7, ground := Go.Ground.textOnly Go.Departure.lateStores }, { on := 8, ground := Go.Ground.textOnly Go.Departure.lateStores }, { on := 9, ground := Go.Ground.textOnly Go.Departure.lateStores }, { on := 10, ground := Go.Ground.textOnly Go.Departure.lateStores }, { on := 11, ground := Go.Ground.textOnly Go.Departure.lateStores }, { on := 12, ground := Go.Ground.textOnly Go.Departure.lateStores }, { on := 13, ground := Go.Ground.textOnly Go.Departure.lateStores }, { on := 14, ground := Go.Ground.textOnly Go.Departure.lateStores }, { on := 15, ground := Go.Ground.textOnly Go.Departure.lateStores }, { on := 16, ground := Go.Ground.textOnly Go.Departure.lateStores }, { on := 17, ground := Go.Ground.phase }], guard := none }) rfl (fun Kn hK => ?_) AllReadyH.nil
    have bR2_0 := bR2.cell 0 rfl
    have bR2_1 := bR2.cell 1 rfl
    have bR2_f0 := bR2.frozen 0
    have bR2_f1 := bR2.frozen 1
    have bR2_l := bR2.lt
    go_simp
    clear bR2_0 bR2_f0 bR2_1 bR2_f1 bR2_l
    generalize hX : World.setCell _ _ _ = V2
    have hb : Below w.heap.size w V2 := by rw [← hX]; exact ((HB.out.setCell (p := ⟨w.heap.size + 1, 0, none⟩) (by first | omega | (dsimp only; omega)) _).setCell (p := ⟨w.heap.size + 1, 1, none⟩) (by first | omega | (dsimp only; omega)) _)
    replace bR1 : Bk V2 (w.heap.size) #[.int .i64 px, .int .i64 py] 25 := by rw [← hX]; exact (Bk.other (Bk.other bR1 (by omega) 0 _) (by omega) 1 _)
    replace bR3 : Bk V2 (w.heap.size + 1 + 1) #[.int .i64 0, .int .i64 0] 25 := by rw [← hX]; exact (Bk.other (Bk.other bR3 (by omega) 0 _) (by omega) 1 _)
    replace bP : Bk V2 (gP) #[.int .i64 px, .int .i64 py] 25 := by rw [← hX]; exact (Bk.other (Bk.other bP (by omega) 0 _) (by omega) 1 _)
    replace bU : Bk V2 (gU) #[.int .i64 ux, .int .i64 uy] 25 := by rw [← hX]; exact (Bk.other (Bk.other bU (by omega) 0 _) (by omega) 1 _)
    replace bR2 : Bk V2 (w.heap.size + 1) #[.int .i64 ux, .int .i64 uy] 25 := by rw [← hX]; exact (Bk.set (Bk.set bR2 0 _ rfl) 1 _ rfl)
    clear hX
    replace HB := Lib.hid hb
    clear hb
    refine hK.out _ _ (HSp.out _ bP bU) (fun _ => ?_)
    clear hK Kn
    refine wpAnyH_ready (rs := [19]) (by decide +kernel) (by simp) ?_
    refine AllReadyH.cons (o := { dst := none, op := Go.Op.store 25 (Go.Operand.tmp 4) (Go.Operand.tmp 37), type := 0, pos := "l12_bearings.go:177", after := #[{ on := 16, ground := Go.Ground.data }, { on := 18, ground := Go.Ground.chain }, { on := 0, ground := Go.Ground.phase }, { on := 1, ground := Go.Ground.phase }, { on := 2, ground := Go.Ground.phase }, { on := 3, ground := Go.Ground.phase }, { on := 4, ground := Go.Ground.phase }, { on := 5, ground := Go.Ground.phase }, { on := 6, ground := Go.Ground.phase }, { on := 7, ground := Go.Ground.phase }, { on := 8, ground := Go.Ground.phase }, { on := 9, ground := Go.Ground.phase }, { on := 10, ground := Go.Ground.phase }, { on := 11, ground := Go.Ground.phase }, { on := 12, ground := Go.Ground.phase }, { on := 13, ground := Go.Ground.phase }, { on := 14, ground := Go.Ground.phase }, { on := 15, ground := Go.Ground.phase }, { on := 16, ground := Go.Ground.phase }, { on := 17, ground := Go.Ground.phase }, { on := 18, ground := Go.Ground.phase }], guard := none }) rfl (fun Kn hK => ?_) AllReadyH.nil
    have bR3_0 := bR3.cell 0 rfl
    have bR3_1 := bR3.cell 1 rfl
    have bR3_f0 := bR3.frozen 0
    have bR3_f1 := bR3.frozen 1
    have bR3_l := bR3.lt
    go_simp
    clear bR3_0 bR3_f0 bR3_1 bR3_f1 bR3_l
    generalize hX : World.setCell _ _ _ = V3
    have hb : Below w.heap.size w V3 := by rw [← hX]; exact ((HB.out.setCell (p := ⟨w.heap.size + 1 + 1, 0, none⟩) (by first | omega | (dsimp only; omega)) _).setCell (p := ⟨w.heap.size + 1 + 1, 1, none⟩) (by first | omega | (dsimp only; omega)) _)
    replace bR1 : Bk V3 (w.heap.size) #[.int .i64 px, .int .i64 py] 25 := by rw [← hX]; exact (Bk.other (Bk.other bR1 (by omega) 0 _) (by omega) 1 _)
    replace bR2 : Bk V3 (w.heap.size + 1) #[.int .i64 ux, .int .i64 uy] 25 := by rw [← hX]; exact (Bk.other (Bk.other bR2 (by omega) 0 _) (by omega) 1 _)
    replace bP : Bk V3 (gP) #[.int .i64 px, .int .i64 py] 25 := by rw [← hX]; exact (Bk.other (Bk.other bP (by omega) 0 _) (by omega) 1 _)
    replace bU : Bk V3 (gU) #[.int .i64 ux, .int .i64 uy] 25 := by rw [← hX]; exact (Bk.other (Bk.other bU (by omega) 0 _) (by omega) 1 _)
    replace bR3 : Bk V3 (w.heap.size + 1 + 1) #[.int .i64 X, .int .i64 Y] 25 := by rw [← hX]; exact (Bk.set (Bk.set bR3 0 _ rfl) 1 _ rfl)
    clear hX
    replace HB := Lib.hid hb
    clear hb
    refine hK.out _ _ (HSp.out _ bP bU) (fun _ => ?_)
    clear hK Kn
    refine wpAnyH_done (by kernel_rfl) ?_ _
    have cbR10 := bR1.cell 0 rfl
    have cbR11 := bR1.cell 1 rfl
    have cbR20 := bR2.cell 0 rfl
    have cbR21 := bR2.cell 1 rfl
    have cbR30 := bR3.cell 0 rfl
    have cbR31 := bR3.cell 1 rfl
    repeat (first | go_values | go_skip | go_guarded | go_step | go_upon | (dsimp only))
    exact bodyPost_ret (v := .tuple #[.agg #[.int .i64 px, .int .i64 py], .agg #[.int .i64 ux, .int .i64 uy], .agg #[.int .i64 X, .int .i64 Y]]) (by simp [results, Try.results39, go_sem, cbR10, cbR11, cbR20, cbR21, cbR30, cbR31]) rfl ⟨px, py, ux, uy, X, Y, rfl, HB.out⟩
  case neg =>
    have h0b : (q == 0) = false := by simpa using h0
    clear h0
    have bR1_0 := bR1.cell 0 rfl
    have bR1_1 := bR1.cell 1 rfl
    have bR1_l := bR1.lt
    have bR2_0 := bR2.cell 0 rfl
    have bR2_1 := bR2.cell 1 rfl
    have bR2_l := bR2.lt
    have bR3_0 := bR3.cell 0 rfl
    have bR3_1 := bR3.cell 1 rfl
    have bR3_l := bR3.lt
    have bP_0 := bP.cell 0 rfl
    have bP_1 := bP.cell 1 rfl
    have bP_l := bP.lt
    have bU_0 := bU.cell 0 rfl
    have bU_1 := bU.cell 1 rfl
    have bU_l := bU.lt
    go_upto_region 6 with fail
    clear bR1_0 bR1_1 bR1_l bR2_0 bR2_1 bR2_l bR3_0 bR3_1 bR3_l bP_0 bP_1 bP_l bU_0 bU_1 bU_l
    obtain ⟨S, hSd⟩ : ∃ S : World → Prop, ∀ w', S w' ↔ (w'.cell? ⟨gP, 0, none⟩ = some (.int .i64 px) ∧ w'.cell? ⟨gP, 1, none⟩ = some (.int .i64 py) ∧ w'.cell? ⟨gU, 0, none⟩ = some (.int .i64 ux) ∧ w'.cell? ⟨gU, 1, none⟩ = some (.int .i64 uy)) := ⟨_, fun _ => Iff.rfl⟩
    have HSp : Hid (∀ w' : World, Bk w' (gP) #[.int .i64 px, .int .i64 py] 25 → Bk w' (gU) #[.int .i64 ux, .int .i64 uy] 25 → S w') := Lib.hid (fun w' bP bU => (hSd w').2 ⟨bP.cell 0 rfl, bP.cell 1 rfl, bU.cell 0 rfl, bU.cell 1 rfl⟩)
    have HSd := Lib.hid hSd
    clear hSd
    refine wp_region_held_drew (S := S) (by kernel_rfl) ?_ (fun hH => ?_)
    · exact (HSp.out _ bP bU : S (World.drew ws5))
    clear hH
    generalize hX : World.drew ws5 = V0
    replace bR1 : Bk V0 (w.heap.size) #[.int .i64 0, .int .i64 0] 25 := by rw [← hX]; exact bR1
    replace bR2 : Bk V0 (w.heap.size + 1) #[.int .i64 0, .int .i64 0] 25 := by rw [← hX]; exact bR2
    replace bR3 : Bk V0 (w.heap.size + 1 + 1) #[.int .i64 0, .int .i64 0] 25 := by rw [← hX]; exact bR3
    replace bP : Bk V0 (gP) #[.int .i64 px, .int .i64 py] 25 := by rw [← hX]; exact bP
    replace bU : Bk V0 (gU) #[.int .i64 ux, .int .i64 uy] 25 := by rw [← hX]; exact bU
    have hb : Below ws5.heap.size ws5 V0 := by rw [← hX]; exact (Below.refl _ _).drew
    clear hX
    replace HS := Lib.hid (HS.out.bel hb)
    replace HB := Lib.hid (bel_end HB.out hb)
    clear hb
    have hS := HSp.out _ bP bU
    refine wpAnyH_take (i := 0) (oi := { dst := some 38, op := Go.Op.load 25 (Go.Operand.tmp 6), type := 25, pos := "l12_bearings.go:179", after := #[], guard := none }) (v := ?_) rfl (by kernel_rfl) (by kernel_rfl) (by kernel_rfl) (fun _ _ _ h => h) (Or.inl ⟨by rfl, ?_⟩) hS ?_
    rotate_left
    · (intro w hSw; have hSw := (HSd.out w).1 hSw; go_split_ands; go_simp) <;> with_reducible rfl
    clear hS
    try simp only [Act.put, List.setIfInBounds_toArray, List.set_cons_zero, List.set_cons_succ]
    have hS := HSp.out _ bP bU
    refine wpAnyH_take (i := 1) (oi := { dst := some 39, op := Go.Op.load 25 (Go.Operand.tmp 7), type := 25, pos := "l12_bearings.go:179", after := #[{ on := 4, ground := Go.Ground.gcOnly Go.Departure.lateStores }], guard := none }) (v := ?_) rfl (by kernel_rfl) (by kernel_rfl) (by kernel_rfl) (fun _ _ _ h => h) (Or.inl ⟨by rfl, ?_⟩) hS ?_
    rotate_left
    · (intro w hSw; have hSw := (HSd.out w).1 hSw; go_split_ands; go_simp) <;> with_reducible rfl
    clear hS
    try simp only [Act.put, List.setIfInBounds_toArray, List.set_cons_zero, List.set_cons_succ]
    have hS := HSp.out _ bP bU
    refine wpAnyH_take (i := 2) (oi := { dst := some 40, op := Go.Op.move (Go.Operand.tmp 5), type := 89, pos := "l12_bearings.go:179", after := #[], guard := none }) (v := ?_) rfl (by kernel_rfl) (by kernel_rfl) (by kernel_rfl) (fun _ _ _ h => h) (Or.inl ⟨by rfl, ?_⟩) hS ?_
    rotate_left
    · (intro w hSw; have hSw := (HSd.out w).1 hSw; go_split_ands; go_simp) <;> with_reducible rfl
    clear hS
    try simp only [Act.put, List.setIfInBounds_toArray, List.set_cons_zero, List.set_cons_succ]
    refine wpAnyH_ready (rs := [3]) (by decide +kernel) (by simp) ?_
    refine AllReadyH.cons (o := { dst := some 41, op := Go.Op.call { callee := Go.Callee.value (Go.Operand.func 72), args := #[Go.Operand.tmp 40, Go.Operand.const (Go.Value.int Go.IntKind.i64 20), Go.Operand.const (Go.Value.int Go.IntKind.i64 100000)], argTypes := #[89, 2, 2] }, type := 25, pos := "l12_bearings.go:179", after := #[{ on := 2, ground := Go.Ground.data }], guard := none }) rfl (fun Kn hK => ?_) AllReadyH.nil
    first | go_at_call 72 | (go_simp; go_at_call 72)
    refine (dpt_any _ s _ _ HS.out).mono ?_
    rintro e V1 ⟨X, Y, rfl, hs, hg⟩
    try dsimp only
    try simp only [Act.put, List.setIfInBounds_toArray, List.set_cons_zero, List.set_cons_succ]
    replace bR1 := bR1.kept hg (by simp; omega)
    replace bR2 := bR2.kept hg (by simp; omega)
    replace bR3 := bR3.kept hg (by simp; omega)
    replace bP := bP.kept hg (by simp; omega)
    replace bU := bU.kept hg (by simp; omega)
    replace HB := Lib.hid (HB.out.trans (below_of_grown hg (by omega) (by have := HB.out.size; omega)))
    replace HS := Lib.hid hs
    clear hs hg
    refine hK.out _ _ (HSp.out _ bP bU) (fun _ => ?_)
    clear hK Kn
    refine wpAnyH_ready (rs := [4]) (by decide +kernel) (by simp) ?_
    refine AllReadyH.cons (o := { dst := none, op := Go.Op.store 25 (Go.Operand.tmp 2) (Go.Operand.tmp 38), type := 0, pos := "l12_bearings.go:179", after := #[{ on := 0, ground := Go.Ground.data }, { on := 3, ground := Go.Ground.chain }, { on := 0, ground := Go.Ground.phase }, { on := 1, ground := Go.Ground.textOnly Go.Departure.lateStores }, { on := 2, ground := Go.Ground.textOnly Go.Departure.lateStores }, { on := 3, ground := Go.Ground.textOnly Go.Departure.lateStoresUnsure }], guard := none }) rfl (fun Kn hK => ?_) AllReadyH.nil
    have bR1_0 := bR1.cell 0 rfl
    have bR1_1 := bR1.cell 1 rfl
    have bR1_f0 := bR1.frozen 0
    have bR1_f1 := bR1.frozen 1
    have bR1_l := bR1.lt
    go_simp
    clear bR1_0 bR1_f0 bR1_1 bR1_f1 bR1_l
    generalize hX : World.setCell _ _ _ = V2
    have hb : Below w.heap.size w V2 := by rw [← hX]; exact ((HB.out.setCell (p := ⟨w.heap.size, 0, none⟩) (by first | omega | (dsimp only; omega)) _).setCell (p := ⟨w.heap.size, 1, none⟩) (by first | omega | (dsimp only; omega)) _)
    replace bR2 : Bk V2 (w.heap.size + 1) #[.int .i64 0, .int .i64 0] 25 := by rw [← hX]; exact (Bk.other (Bk.other bR2 (by omega) 0 _) (by omega) 1 _)
    replace bR3 : Bk V2 (w.heap.size + 1 + 1) #[.int .i64 0, .int .i64 0] 25 := by rw [← hX]; exact (Bk.other (Bk.other bR3 (by omega) 0 _) (by omega) 1 _)
    replace bP : Bk V2 (gP) #[.int .i64 px, .int .i64 py] 25 := by rw [← hX]; exact (Bk.other (Bk.other bP (by omega) 0 _) (by omega) 1 _)
    replace bU : Bk V2 (gU) #[.int .i64 ux, .int .i64 uy] 25 := by rw [← hX]; exact (Bk.other (Bk.other bU (by omega) 0 _) (by omega) 1 _)
    replace bR1 : Bk V2 (w.heap.size) #[.int .i64 px, .int .i64 py] 25 := by rw [← hX]; exact (Bk.set (Bk.set bR1 0 _ rfl) 1 _ rfl)
    clear hX
    replace HB := Lib.hid hb
    clear hb
    refine hK.out _ _ (HSp.out _ bP bU) (fun _ => ?_)
    clear hK Kn
    refine wpAnyH_ready (rs := [5]) (by decide +kernel) (by simp) ?_
    refine AllReadyH.cons (o := { dst := none, op := Go.Op.store 25 (Go.Operand.tmp 3) (Go.Operand.tmp 39), type := 0, pos := "l12_bearings.go:179", after := #[{ on := 1, ground := Go.Ground.data }, { on := 4, ground := Go.Ground.chain }, { on := 0, ground := Go.Ground.phase }, { on := 1, ground := Go.Ground.phase }, { on := 2, ground := Go.Ground.textOnly Go.Departure.lateStores }, { on := 3, ground := Go.Ground.textOnly Go.Departure.lateStoresUnsure }, { on := 4, ground := Go.Ground.phase }], guard := none }) rfl (fun Kn hK => ?_) AllReadyH.nil
    have bR2_0 := bR2.cell 0 rfl
    have bR2_1 := bR2.cell 1 rfl
    have bR2_f0 := bR2.frozen 0
    have bR2_f1 := bR2.frozen 1
    have bR2_l := bR2.lt
    go_simp
    clear bR2_0 bR2_f0 bR2_1 bR2_f1 bR2_l
    generalize hX : World.setCell _ _ _ = V3
    have hb : Below w.heap.size w V3 := by rw [← hX]; exact ((HB.out.setCell (p := ⟨w.heap.size + 1, 0, none⟩) (by first | omega | (dsimp only; omega)) _).setCell (p := ⟨w.heap.size + 1, 1, none⟩) (by first | omega | (dsimp only; omega)) _)
    replace bR1 : Bk V3 (w.heap.size) #[.int .i64 px, .int .i64 py] 25 := by rw [← hX]; exact (Bk.other (Bk.other bR1 (by omega) 0 _) (by omega) 1 _)
    replace bR3 : Bk V3 (w.heap.size + 1 + 1) #[.int .i64 0, .int .i64 0] 25 := by rw [← hX]; exact (Bk.other (Bk.other bR3 (by omega) 0 _) (by omega) 1 _)
    replace bP : Bk V3 (gP) #[.int .i64 px, .int .i64 py] 25 := by rw [← hX]; exact (Bk.other (Bk.other bP (by omega) 0 _) (by omega) 1 _)
    replace bU : Bk V3 (gU) #[.int .i64 ux, .int .i64 uy] 25 := by rw [← hX]; exact (Bk.other (Bk.other bU (by omega) 0 _) (by omega) 1 _)
    replace bR2 : Bk V3 (w.heap.size + 1) #[.int .i64 ux, .int .i64 uy] 25 := by rw [← hX]; exact (Bk.set (Bk.set bR2 0 _ rfl) 1 _ rfl)
    clear hX
    replace HB := Lib.hid hb
    clear hb
    refine hK.out _ _ (HSp.out _ bP bU) (fun _ => ?_)
    clear hK Kn
    refine wpAnyH_ready (rs := [6]) (by decide +kernel) (by simp) ?_
    refine AllReadyH.cons (o := { dst := none, op := Go.Op.store 25 (Go.Operand.tmp 4) (Go.Operand.tmp 41), type := 0, pos := "l12_bearings.go:179", after := #[{ on := 3, ground := Go.Ground.data }, { on := 5, ground := Go.Ground.chain }, { on := 0, ground := Go.Ground.phase }, { on := 1, ground := Go.Ground.phase }, { on := 2, ground := Go.Ground.phase }, { on := 3, ground := Go.Ground.phase }, { on := 4, ground := Go.Ground.phase }, { on := 5, ground := Go.Ground.phase }], guard := none }) rfl (fun Kn hK => ?_) AllReadyH.nil
    have bR3_0 := bR3.cell 0 rfl
    have bR3_1 := bR3.cell 1 rfl
    have bR3_f0 := bR3.frozen 0
    have bR3_f1 := bR3.frozen 1
    have bR3_l := bR3.lt
    go_simp
    clear bR3_0 bR3_f0 bR3_1 bR3_f1 bR3_l
    generalize hX : World.setCell _ _ _ = V4
    have hb : Below w.heap.size w V4 := by rw [← hX]; exact ((HB.out.setCell (p := ⟨w.heap.size + 1 + 1, 0, none⟩) (by first | omega | (dsimp only; omega)) _).setCell (p := ⟨w.heap.size + 1 + 1, 1, none⟩) (by first | omega | (dsimp only; omega)) _)
    replace bR1 : Bk V4 (w.heap.size) #[.int .i64 px, .int .i64 py] 25 := by rw [← hX]; exact (Bk.other (Bk.other bR1 (by omega) 0 _) (by omega) 1 _)
    replace bR2 : Bk V4 (w.heap.size + 1) #[.int .i64 ux, .int .i64 uy] 25 := by rw [← hX]; exact (Bk.other (Bk.other bR2 (by omega) 0 _) (by omega) 1 _)
    replace bP : Bk V4 (gP) #[.int .i64 px, .int .i64 py] 25 := by rw [← hX]; exact (Bk.other (Bk.other bP (by omega) 0 _) (by omega) 1 _)
    replace bU : Bk V4 (gU) #[.int .i64 ux, .int .i64 uy] 25 := by rw [← hX]; exact (Bk.other (Bk.other bU (by omega) 0 _) (by omega) 1 _)
    replace bR3 : Bk V4 (w.heap.size + 1 + 1) #[.int .i64 X, .int .i64 Y] 25 := by rw [← hX]; exact (Bk.set (Bk.set bR3 0 _ rfl) 1 _ rfl)
    clear hX
    replace HB := Lib.hid hb
    clear hb
    refine hK.out _ _ (HSp.out _ bP bU) (fun _ => ?_)
    clear hK Kn
    refine wpAnyH_done (by kernel_rfl) ?_ _
    have cbR10 := bR1.cell 0 rfl
    have cbR11 := bR1.cell 1 rfl
    have cbR20 := bR2.cell 0 rfl
    have cbR21 := bR2.cell 1 rfl
    have cbR30 := bR3.cell 0 rfl
    have cbR31 := bR3.cell 1 rfl
    repeat (first | go_values | go_skip | go_guarded | go_step | go_upon | (dsimp only))
    exact bodyPost_ret (v := .tuple #[.agg #[.int .i64 px, .int .i64 py], .agg #[.int .i64 ux, .int .i64 uy], .agg #[.int .i64 X, .int .i64 Y]]) (by simp [results, Try.results39, go_sem, cbR10, cbR11, cbR20, cbR21, cbR30, cbR31]) rfl ⟨px, py, ux, uy, X, Y, rfl, HB.out⟩

set_option maxRecDepth 100000 in
set_option maxHeartbeats 8000000 in
theorem dcb_any (w : World) (a0 : Option Addr) (cap : Nat) (zs : List Int) (h : Code8 w w.heap.size a0 zs) :
    Calls Try.prog 40 #[.slice a0 zs.length cap] w (Pt2 w) := by
  have HC := Lib.hid h
  clear h
  go_enter Try.func40, Try.ntmps40
  go_wp2_with fail
  generalize hW : World.alloc _ _ = W
  have bR1 : Bk W (w.heap.size) #[.int .i64 0, .int .i64 0] 25 := by rw [← hW]; repeat (first | (refine Bk.new' ?_; (simp; done)) | refine Bk.alloc ?_ _)
  have bR2 : Bk W (w.heap.size + 1) #[.int .i64 0, .int .i64 0] 25 := by rw [← hW]; repeat (first | (refine Bk.new' ?_; (simp; done)) | refine Bk.alloc ?_ _)
  have hb : Below w.heap.size w W := by rw [← hW]; exact (by repeat (first | exact Below.refl _ _ | (refine Below.alloc ?_ (by simp <;> omega) _) | (refine Below.setCell ?_ (by simp <;> omega) _) | (refine Below.drew ?_) | (refine bel_drewN ?_ _)))
  clear hW
  have hlT := bR2.lt
  refine (from_any _ _ _ zs ((HC.out.below hb (Nat.le_refl _)).more hb.size)).mono ?_
  rintro e w1 ⟨s, rfl, hs, hsrc, hb1⟩
  replace bR1 := bR1.on hb1
  replace bR2 := bR2.on hb1
  have HB := Lib.hid (bel_end hb hb1)
  have HS := Lib.hid hsrc
  have hls := HS.out.lt
  have hR : w.heap.size + 2 ≤ s := by omega
  clear hs hsrc hb hb1 HC hlT
  have bR1_0 := bR1.cell 0 rfl
  have bR1_1 := bR1.cell 1 rfl
  have bR1_l := bR1.lt
  have bR2_0 := bR2.cell 0 rfl
  have bR2_1 := bR2.cell 1 rfl
  have bR2_l := bR2.lt
  go_wp2_with fail
  refine (dbr_any _ s HS.out).mono ?_
  rintro e ws2 ⟨ux, uy, rfl, hs, hg⟩
  replace bR1 := bR1.kept hg (by simp; omega)
  replace bR2 := bR2.kept hg (by simp; omega)
  have hz2 := hg.size
  replace HB := Lib.hid (HB.out.trans (below_of_grown hg (by omega) (by have := HB.out.size; omega)))
  replace HS := Lib.hid hs
  replace hls := HS.out.lt
  clear hs hg
  clear bR1_0 bR1_1 bR1_l bR2_0 bR2_1 bR2_l
  have bR1_0 := bR1.cell 0 rfl
  have bR1_1 := bR1.cell 1 rfl
  have bR1_l := bR1.lt
  have bR2_0 := bR2.cell 0 rfl
  have bR2_1 := bR2.cell 1 rfl
  have bR2_l := bR2.lt
  go_upto_region 3 with fail
  clear bR1_0 bR1_1 bR1_l bR2_0 bR2_1 bR2_l
  generalize hW : World.alloc _ _ = wn3
  have hb : Below ws2.heap.size ws2 wn3 := by rw [← hW]; exact (by repeat (first | exact Below.refl _ _ | (refine Below.alloc ?_ (by simp <;> omega) _) | (refine Below.setCell ?_ (by simp <;> omega) _) | (refine Below.drew ?_) | (refine bel_drewN ?_ _)))
  obtain ⟨gU, hg0⟩ : ∃ g, g = ws2.heap.size := ⟨_, rfl⟩
  obtain ⟨ux, uy, bU⟩ : ∃ ux uy, Bk wn3 gU #[.int .i64 ux, .int .i64 uy] 25 := ⟨_, _, by rw [← hW, hg0]; repeat (first | (refine Bk.new' ?_; (simp; done)) | refine Bk.alloc ?_ _)⟩
  have lsbU : s < gU := by omega
  have nebU_bR1 : gU ≠ w.heap.size := by have := bR1.lt; omega
  have nebU_bR2 : gU ≠ w.heap.size + 1 := by have := bR2.lt; omega
  have lwbU : w.heap.size ≤ gU := by have := HB.out.size; omega
  try rw [← hg0]
  clear hW hg0
  replace bR1 := bR1.on hb
  replace bR2 := bR2.on hb
  replace HB := Lib.hid (bel_end HB.out hb)
  replace HS := Lib.hid (HS.out.bel hb)
  replace hls := HS.out.lt
  clear hb
  have bR1_0 := bR1.cell 0 rfl
  have bR1_1 := bR1.cell 1 rfl
  have bR1_l := bR1.lt
  have bR2_0 := bR2.cell 0 rfl
  have bR2_1 := bR2.cell 1 rfl
  have bR2_l := bR2.lt
  have bU_0 := bU.cell 0 rfl
  have bU_1 := bU.cell 1 rfl
  have bU_l := bU.lt
  go_wp2_with fail
  refine (nxt_any _ _ _ HS.out).mono ?_
  rintro e ws4 ⟨q, rfl, -, -, -, hs, hg⟩
  replace bR1 := bR1.kept hg (by simp; omega)
  replace bR2 := bR2.kept hg (by simp; omega)
  replace bU := bU.kept hg (by simp; omega)
  have hz4 := hg.size
  replace HB := Lib.hid (HB.out.trans (below_of_grown hg (by omega) (by have := HB.out.size; omega)))
  replace HS := Lib.hid hs
  replace hls := HS.out.lt
  clear hs hg
  clear bR1_0 bR1_1 bR1_l bR2_0 bR2_1 bR2_l bU_0 bU_1 bU_l
  by_cases h0 : q = 0
  case pos =>
    subst h0
    have bR1_0 := bR1.cell 0 rfl
    have bR1_1 := bR1.cell 1 rfl
    have bR1_l := bR1.lt
    have bR2_0 := bR2.cell 0 rfl
    have bR2_1 := bR2.cell 1 rfl
    have bR2_l := bR2.lt
    have bU_0 := bU.cell 0 rfl
    have bU_1 := bU.cell 1 rfl
    have bU_l := bU.lt
    go_wp2_with fail
    generalize hW : World.alloc _ _ = wp5
    have hb : Below ws4.heap.size ws4 wp5 := by rw [← hW]; exact (Below.refl _ _).alloc (Nat.le_refl _) _
    have KQ := Lib.hid (pick4 wp5 s ws4.heap.size 4 _ _ _ _ (HS.out.bel hb) (by have := HS.out.lt; omega) (by rw [← hW]; exact heap_alloc_new _ _))
    clear hW
    replace bR1 := bR1.on hb
    replace bR2 := bR2.on hb
    replace bU := bU.on hb
    replace HB := Lib.hid (bel_end HB.out hb)
    replace HS := Lib.hid (HS.out.bel hb)
    replace hls := HS.out.lt
    clear hb
    refine KQ.out.mono ?_
    rintro e ws6 ⟨K, rfl, hs, hg⟩
    clear KQ
    replace bR1 := bR1.kept hg (by simp; omega)
    replace bR2 := bR2.kept hg (by simp; omega)
    replace bU := bU.kept hg (by simp; omega)
    have hz6 := hg.size
    replace HB := Lib.hid (HB.out.trans (below_of_grown hg (by omega) (by have := HB.out.size; omega)))
    replace HS := Lib.hid hs
    replace hls := HS.out.lt
    clear hs hg
    clear bR1_0 bR1_1 bR1_l bR2_0 bR2_1 bR2_l bU_0 bU_1 bU_l
    obtain ⟨X, eX⟩ : ∃ q, IntKind.wrap .i64 (K * ux) = q := ⟨_, rfl⟩
    obtain ⟨Y, eY⟩ : ∃ q, IntKind.wrap .i64 (K * uy) = q := ⟨_, rfl⟩
    have bR1_0 := bR1.cell 0 rfl
    have bR1_1 := bR1.cell 1 rfl
    have bR1_l := bR1.lt
    have bR2_0 := bR2.cell 0 rfl
    have bR2_1 := bR2.cell 1 rfl
    have bR2_l := bR2.lt
    have bU_0 := bU.cell 0 rfl
    have bU_1 := bU.cell 1 rfl
    have bU_l := bU.lt
    go_upto_region 5 with fail
    clear bR1_0 bR1_1 bR1_l bR2_0 bR2_1 bR2_l bU_0 bU_1 bU_l
    obtain ⟨S, hSd⟩ : ∃ S : World → Prop, ∀ w', S w' ↔ (w'.cell? ⟨gU, 0, none⟩ = some (.int .i64 ux) ∧ w'.cell? ⟨gU, 1, none⟩ = some (.int .i64 uy)) := ⟨_, fun _ => Iff.rfl⟩
    have HSp : Hid (∀ w' : World, Bk w' (gU) #[.int .i64 ux, .int .i64 uy] 25 → S w') := Lib.hid (fun w' bU => (hSd w').2 ⟨bU.cell 0 rfl, bU.cell 1 rfl⟩)
    have HSd := Lib.hid hSd
    clear hSd
    refine wp_region_held_drew (S := S) (by kernel_rfl) ?_ (fun hH => ?_)
    · exact (HSp.out _ bU : S (World.drew ws6))
    clear hH
    generalize hX : World.drew ws6 = V0
    replace bR1 : Bk V0 (w.heap.size) #[.int .i64 0, .int .i64 0] 25 := by rw [← hX]; exact bR1
    replace bR2 : Bk V0 (w.heap.size + 1) #[.int .i64 0, .int .i64 0] 25 := by rw [← hX]; exact bR2
    replace bU : Bk V0 (gU) #[.int .i64 ux, .int .i64 uy] 25 := by rw [← hX]; exact bU
    have hb : Below ws6.heap.size ws6 V0 := by rw [← hX]; exact (Below.refl _ _).drew
    clear hX
    replace HS := Lib.hid (HS.out.bel hb)
    replace HB := Lib.hid (bel_end HB.out hb)
    clear hb
    have hS := HSp.out _ bU
    refine wpAnyH_take (i := 0) (oi := { dst := some 17, op := Go.Op.load 25 (Go.Operand.tmp 5), type := 25, pos := "l12_bearings.go:187", after := #[], guard := none }) (v := ?_) rfl (by kernel_rfl) (by kernel_rfl) (by kernel_rfl) (fun _ _ _ h => h) (Or.inl ⟨by rfl, ?_⟩) hS ?_
    rotate_left
    · (intro w hSw; have hSw := (HSd.out w).1 hSw; go_split_ands; go_simp) <;> with_reducible rfl
    clear hS
    try simp only [Act.put, List.setIfInBounds_toArray, List.set_cons_zero, List.set_cons_succ]
    have hS := HSp.out _ bU
    refine wpAnyH_take (i := 1) (oi := { dst := some 18, op := Go.Op.move (Go.Operand.tmp 6), type := 2, pos := "l12_bearings.go:187", after := #[{ on := 10, ground := Go.Ground.gcOnly Go.Departure.lateStores }], guard := none }) (v := ?_) rfl (by kernel_rfl) (by kernel_rfl) (by kernel_rfl) (fun _ _ _ h => h) (Or.inl ⟨by rfl, ?_⟩) hS ?_
    rotate_left
    · (intro w hSw; have hSw := (HSd.out w).1 hSw; go_split_ands; go_simp) <;> with_reducible rfl
    clear hS
    try simp only [Act.put, List.setIfInBounds_toArray, List.set_cons_zero, List.set_cons_succ]
    have hS := HSp.out _ bU
    refine wpAnyH_take (i := 2) (oi := { dst := some 19, op := Go.Op.fieldAddr 25 (Go.Operand.tmp 5) 0, type := 0, pos := "l12_bearings.go:187", after := #[{ on := 10, ground := Go.Ground.gcOnly Go.Departure.lateStores }], guard := none }) (v := ?_) rfl (by kernel_rfl) (by kernel_rfl) (by kernel_rfl) (fun _ _ _ h => h) (Or.inl ⟨by rfl, ?_⟩) hS ?_
    rotate_left
    · (intro w hSw; have hSw := (HSd.out w).1 hSw; go_split_ands; go_simp) <;> with_reducible rfl
    clear hS
    try simp only [Act.put, List.setIfInBounds_toArray, List.set_cons_zero, List.set_cons_succ]
    have hS := HSp.out _ bU
    refine wpAnyH_take (i := 3) (oi := { dst := some 20, op := Go.Op.load 2 (Go.Operand.tmp 19), type := 2, pos := "l12_bearings.go:187", after := #[{ on := 2, ground := Go.Ground.data }, { on := 10, ground := Go.Ground.gcOnly Go.Departure.lateStores }], guard := none }) (v := ?_) rfl (by kernel_rfl) (by kernel_rfl) (by kernel_rfl) (fun _ _ _ h => h) (Or.inl ⟨by rfl, ?_⟩) hS ?_
    rotate_left
    · (intro w hSw; have hSw := (HSd.out w).1 hSw; go_split_ands; go_simp) <;> with_reducible rfl
    clear hS
    try simp only [Act.put, List.setIfInBounds_toArray, List.set_cons_zero, List.set_cons_succ]
    have hS := HSp.out _ bU
    refine wpAnyH_take (i := 4) (oi := { dst := some 21, op := Go.Op.binOp Go.BinOp.mul 2 (Go.Operand.tmp 18) (Go.Operand.tmp 20) 2, type := 2, pos := "l12_bearings.go:187", after := #[{ on := 1, ground := Go.Ground.data }, { on := 3, ground := Go.Ground.data }, { on := 10, ground := Go.Ground.gcOnly Go.Departure.lateStores }], guard := none }) (v := ?_) rfl (by kernel_rfl) (by kernel_rfl) (by kernel_rfl) (fun _ _ _ h => h) (Or.inl ⟨by rfl, ?_⟩) hS ?_
    rotate_left
    · (intro w hSw; have hSw := (HSd.out w).1 hSw; go_split_ands; go_simp) <;> with_reducible rfl
    clear hS
    try simp only [Act.put, List.setIfInBounds_toArray, List.set_cons_zero, List.set_cons_succ]
    have hS := HSp.out _ bU
    refine wpAnyH_take (i := 5) (oi := { dst := some 22, op := Go.Op.move (Go.Operand.tmp 6), type := 2, pos := "l12_bearings.go:187", after := #[{ on := 10, ground := Go.Ground.gcOnly Go.Departure.lateStores }], guard := none }) (v := ?_) rfl (by kernel_rfl) (by kernel_rfl) (by kernel_rfl) (fun _ _ _ h => h) (Or.inl ⟨by rfl, ?_⟩) hS ?_
    rotate_left
    · (intro w hSw; have hSw := (HSd.out w).1 hSw; go_split_ands; go_simp) <;> with_reducible rfl
    clear hS
    try simp only [Act.put, List.setIfInBounds_toArray, List.set_cons_zero, List.set_cons_succ]
    have hS := HSp.out _ bU
    refine wpAnyH_take (i := 6) (oi := { dst := some 23, op := Go.Op.fieldAddr 25 (Go.Operand.tmp 5) 1, type := 0, pos := "l12_bearings.go:187", after := #[{ on := 10, ground := Go.Ground.gcOnly Go.Departure.lateStores }], guard := none }) (v := ?_) rfl (by kernel_rfl) (by kernel_rfl) (by kernel_rfl) (fun _ _ _ h => h) (Or.inl ⟨by rfl, ?_⟩) hS ?_
    rotate_left
    · (intro w hSw; have hSw := (HSd.out w).1 hSw; go_split_ands; go_simp) <;> with_reducible rfl
    clear hS
    try simp only [Act.put, List.setIfInBounds_toArray, List.set_cons_zero, List.set_cons_succ]
    have hS := HSp.out _ bU
    refine wpAnyH_take (i := 7) (oi := { dst := some 24, op := Go.Op.load 2 (Go.Operand.tmp 23), type := 2, pos := "l12_bearings.go:187", after := #[{ on := 6, ground := Go.Ground.data }, { on := 10, ground := Go.Ground.gcOnly Go.Departure.lateStores }], guard := none }) (v := ?_) rfl (by kernel_rfl) (by kernel_rfl) (by kernel_rfl) (fun _ _ _ h => h) (Or.inl ⟨by rfl, ?_⟩) hS ?_
    rotate_left
    · (intro w hSw; have hSw := (HSd.out w).1 hSw; go_split_ands; go_simp) <;> with_reducible rfl
    clear hS
    try simp only [Act.put, List.setIfInBounds_toArray, List.set_cons_zero, List.set_cons_succ]
    have hS := HSp.out _ bU
    refine wpAnyH_take (i := 8) (oi := { dst := some 25, op := Go.Op.binOp Go.BinOp.mul 2 (Go.Operand.tmp 22) (Go.Operand.tmp 24) 2, type := 2, pos := "l12_bearings.go:187", after := #[{ on := 5, ground := Go.Ground.data }, { on := 7, ground := Go.Ground.data }, { on := 10, ground := Go.Ground.gcOnly Go.Departure.lateStores }], guard := none }) (v := ?_) rfl (by kernel_rfl) (by kernel_rfl) (by kernel_rfl) (fun _ _ _ h => h) (Or.inl ⟨by rfl, ?_⟩) hS ?_
    rotate_left
    · (intro w hSw; have hSw := (HSd.out w).1 hSw; go_split_ands; go_simp) <;> with_reducible rfl
    clear hS
    try simp only [Act.put, List.setIfInBounds_toArray, List.set_cons_zero, List.set_cons_succ]
    have hS := HSp.out _ bU
    refine wpAnyH_take (i := 9) (oi := { dst := some 26, op := Go.Op.build 25 #[(0, Go.Operand.tmp 21), (1, Go.Operand.tmp 25)], type := 25, pos := "l12_bearings.go:187", after := #[{ on := 4, ground := Go.Ground.data }, { on := 8, ground := Go.Ground.data }, { on := 10, ground := Go.Ground.gcOnly Go.Departure.lateStores }], guard := none }) (v := ?_) rfl (by kernel_rfl) (by kernel_rfl) (by kernel_rfl) (fun _ _ _ h => h) (Or.inl ⟨by rfl, ?_⟩) hS ?_
    rotate_left
    · (intro w hSw; have hSw := (HSd.out w).1 hSw; go_split_ands; go_simp) <;> with_reducible rfl
    clear hS
    try simp only [Act.put, List.setIfInBounds_toArray, List.set_cons_zero, List.set_cons_succ]
    refine wpAnyH_ready (rs := [10]) (by decide +kernel) (by simp) ?_
    refine AllReadyH.cons (o := { dst := none, op := Go.Op.store 25 (Go.Operand.tmp 2) (Go.Operand.tmp 17), type := 0, pos := "l12_bearings.go:187", after := #[{ on := 0, ground := Go.Ground.data }, { on := 0, ground := Go.Ground.phase }, { on := 1, ground := Go.Ground.textOnly Go.Departure.lateStores }, { on := 2, ground := Go.Ground.textOnly Go.Departure.lateStores }, { on := 3, ground := Go.Ground.textOnly Go.Departure.lateStores }, { on := 4, ground := Go.Ground.textOnly Go.Departure.lateStores }, { on := 5, ground := Go.Ground.textOnly Go.Departure.lateStores }, { on := 6, ground := Go.Ground.textOnly Go.Departure.lateStores }, { on := 7, ground := Go.Ground.textOnly Go.Departure.lateStores }, { on := 8, ground := Go.Ground.textOnly Go.Departure.lateStores }, { on := 9, ground := Go.Ground.textOnly Go.Departure.lateStores }], guard := none }) rfl (fun Kn hK => ?_) AllReadyH.nil
    have bR1_0 := bR1.cell 0 rfl
    have bR1_1 := bR1.cell 1 rfl
    have bR1_f0 := bR1.frozen 0
    have bR1_f1 := bR1.frozen 1
    have bR1_l := bR1.lt
    go_simp
    clear bR1_0 bR1_f0 bR1_1 bR1_f1 bR1_l
    generalize hX : World.setCell _ _ _ = V1
    have hb : Below w.heap.size w V1 := by rw [← hX]; exact ((HB.out.setCell (p := ⟨w.heap.size, 0, none⟩) (by first | omega | (dsimp only; omega)) _).setCell (p := ⟨w.heap.size, 1, none⟩) (by first | omega | (dsimp only; omega)) _)
    replace bR2 : Bk V1 (w.heap.size + 1) #[.int .i64 0, .int .i64 0] 25 := by rw [← hX]; exact (Bk.other (Bk.other bR2 (by omega) 0 _) (by omega) 1 _)
    replace bU : Bk V1 (gU) #[.int .i64 ux, .int .i64 uy] 25 := by rw [← hX]; exact (Bk.other (Bk.other bU (by omega) 0 _) (by omega) 1 _)
    replace bR1 : Bk V1 (w.heap.size) #[.int .i64 ux, .int .i64 uy] 25 := by rw [← hX]; exact (Bk.set (Bk.set bR1 0 _ rfl) 1 _ rfl)
    clear hX
    replace HB := Lib.hid hb
    clear hb
    refine hK.out _ _ (HSp.out _ bU) (fun _ => ?_)
    clear hK Kn
    refine wpAnyH_ready (rs := [11]) (by decide +kernel) (by simp) ?_
    refine AllReadyH.cons (o := { dst := none, op := Go.Op.store 25 (Go.Operand.tmp 3) (Go.Operand.tmp 26), type := 0, pos := "l12_bearings.go:187", after := #[{ on := 9, ground := Go.Ground.data }, { on := 10, ground := Go.Ground.chain }, { on := 0, ground := Go.Ground.phase }, { on := 1, ground := Go.Ground.phase }, { on := 2, ground := Go.Ground.phase }, { on := 3, ground := Go.Ground.phase }, { on := 4, ground := Go.Ground.phase }, { on := 5, ground := Go.Ground.phase }, { on := 6, ground := Go.Ground.phase }, { on := 7, ground := Go.Ground.phase }, { on := 8, ground := Go.Ground.phase }, { on := 9, ground := Go.Ground.phase }, { on := 10, ground := Go.Ground.phase }], guard := none }) rfl (fun Kn hK => ?_) AllReadyH.nil
    have bR2_0 := bR2.cell 0 rfl
    have bR2_1 := bR2.cell 1 rfl
    have bR2_f0 := bR2.frozen 0
    have bR2_f1 := bR2.frozen 1
    have bR2_l := bR2.lt
    go_simp
    clear bR2_0 bR2_f0 bR2_1 bR2_f1 bR2_l
    generalize hX : World.setCell _ _ _ = V2
    have hb : Below w.heap.size w V2 := by rw [← hX]; exact ((HB.out.setCell (p := ⟨w.heap.size + 1, 0, none⟩) (by first | omega | (dsimp only; omega)) _).setCell (p := ⟨w.heap.size + 1, 1, none⟩) (by first | omega | (dsimp only; omega)) _)
    replace bR1 : Bk V2 (w.heap.size) #[.int .i64 ux, .int .i64 uy] 25 := by rw [← hX]; exact (Bk.other (Bk.other bR1 (by omega) 0 _) (by omega) 1 _)
    replace bU : Bk V2 (gU) #[.int .i64 ux, .int .i64 uy] 25 := by rw [← hX]; exact (Bk.other (Bk.other bU (by omega) 0 _) (by omega) 1 _)
    replace bR2 : Bk V2 (w.heap.size + 1) #[.int .i64 X, .int .i64 Y] 25 := by rw [← hX]; exact (Bk.set (Bk.set bR2 0 _ rfl) 1 _ rfl)
    clear hX
    replace HB := Lib.hid hb
    clear hb
    refine hK.out _ _ (HSp.out _ bU) (fun _ => ?_)
    clear hK Kn
    refine wpAnyH_done (by kernel_rfl) ?_ _
    have cbR10 := bR1.cell 0 rfl
    have cbR11 := bR1.cell 1 rfl
    have cbR20 := bR2.cell 0 rfl
    have cbR21 := bR2.cell 1 rfl
    repeat (first | go_values | go_skip | go_guarded | go_step | go_upon | (dsimp only))
    exact bodyPost_ret (v := .tuple #[.agg #[.int .i64 ux, .int .i64 uy], .agg #[.int .i64 X, .int .i64 Y]]) (by simp [results, Try.results40, go_sem, cbR10, cbR11, cbR20, cbR21]) rfl ⟨ux, uy, X, Y, rfl, HB.out⟩
  case neg =>
    have h0b : (q == 0) = false := by simpa using h0
    clear h0
    have bR1_0 := bR1.cell 0 rfl
    have bR1_1 := bR1.cell 1 rfl
    have bR1_l := bR1.lt
    have bR2_0 := bR2.cell 0 rfl
    have bR2_1 := bR2.cell 1 rfl
    have bR2_l := bR2.lt
    have bU_0 := bU.cell 0 rfl
    have bU_1 := bU.cell 1 rfl
    have bU_l := bU.lt
    go_upto_region 6 with fail
    clear bR1_0 bR1_1 bR1_l bR2_0 bR2_1 bR2_l bU_0 bU_1 bU_l
    obtain ⟨S, hSd⟩ : ∃ S : World → Prop, ∀ w', S w' ↔ (w'.cell? ⟨gU, 0, none⟩ = some (.int .i64 ux) ∧ w'.cell? ⟨gU, 1, none⟩ = some (.int .i64 uy)) := ⟨_, fun _ => Iff.rfl⟩
    have HSp : Hid (∀ w' : World, Bk w' (gU) #[.int .i64 ux, .int .i64 uy] 25 → S w') := Lib.hid (fun w' bU => (hSd w').2 ⟨bU.cell 0 rfl, bU.cell 1 rfl⟩)
    have HSd := Lib.hid hSd
    clear hSd
    refine wp_region_held_drew (S := S) (by kernel_rfl) ?_ (fun hH => ?_)
    · exact (HSp.out _ bU : S (World.drew ws4))
    clear hH
    generalize hX : World.drew ws4 = V0
    replace bR1 : Bk V0 (w.heap.size) #[.int .i64 0, .int .i64 0] 25 := by rw [← hX]; exact bR1
    replace bR2 : Bk V0 (w.heap.size + 1) #[.int .i64 0, .int .i64 0] 25 := by rw [← hX]; exact bR2
    replace bU : Bk V0 (gU) #[.int .i64 ux, .int .i64 uy] 25 := by rw [← hX]; exact bU
    have hb : Below ws4.heap.size ws4 V0 := by rw [← hX]; exact (Below.refl _ _).drew
    clear hX
    replace HS := Lib.hid (HS.out.bel hb)
    replace HB := Lib.hid (bel_end HB.out hb)
    clear hb
    have hS := HSp.out _ bU
    refine wpAnyH_take (i := 0) (oi := { dst := some 27, op := Go.Op.load 25 (Go.Operand.tmp 5), type := 25, pos := "l12_bearings.go:189", after := #[], guard := none }) (v := ?_) rfl (by kernel_rfl) (by kernel_rfl) (by kernel_rfl) (fun _ _ _ h => h) (Or.inl ⟨by rfl, ?_⟩) hS ?_
    rotate_left
    · (intro w hSw; have hSw := (HSd.out w).1 hSw; go_split_ands; go_simp) <;> with_reducible rfl
    clear hS
    try simp only [Act.put, List.setIfInBounds_toArray, List.set_cons_zero, List.set_cons_succ]
    have hS := HSp.out _ bU
    refine wpAnyH_take (i := 1) (oi := { dst := some 28, op := Go.Op.move (Go.Operand.tmp 4), type := 89, pos := "l12_bearings.go:189", after := #[], guard := none }) (v := ?_) rfl (by kernel_rfl) (by kernel_rfl) (by kernel_rfl) (fun _ _ _ h => h) (Or.inl ⟨by rfl, ?_⟩) hS ?_
    rotate_left
    · (intro w hSw; have hSw := (HSd.out w).1 hSw; go_split_ands; go_simp) <;> with_reducible rfl
    clear hS
    try simp only [Act.put, List.setIfInBounds_toArray, List.set_cons_zero, List.set_cons_succ]
    refine wpAnyH_ready (rs := [2]) (by decide +kernel) (by simp) ?_
    refine AllReadyH.cons (o := { dst := some 29, op := Go.Op.call { callee := Go.Callee.value (Go.Operand.func 73), args := #[Go.Operand.tmp 28], argTypes := #[89] }, type := 25, pos := "l12_bearings.go:189", after := #[{ on := 1, ground := Go.Ground.data }], guard := none }) rfl (fun Kn hK => ?_) AllReadyH.nil
    first | go_at_call 73 | (go_simp; go_at_call 73)
    refine (dbr_any _ s HS.out).mono ?_
    rintro e V1 ⟨X, Y, rfl, hs, hg⟩
    try dsimp only
    try simp only [Act.put, List.setIfInBounds_toArray, List.set_cons_zero, List.set_cons_succ]
    replace bR1 := bR1.kept hg (by simp; omega)
    replace bR2 := bR2.kept hg (by simp; omega)
    replace bU := bU.kept hg (by simp; omega)
    replace HB := Lib.hid (HB.out.trans (below_of_grown hg (by omega) (by have := HB.out.size; omega)))
    replace HS := Lib.hid hs
    clear hs hg
    refine hK.out _ _ (HSp.out _ bU) (fun _ => ?_)
    clear hK Kn
    refine wpAnyH_ready (rs := [3]) (by decide +kernel) (by simp) ?_
    refine AllReadyH.cons (o := { dst := none, op := Go.Op.store 25 (Go.Operand.tmp 2) (Go.Operand.tmp 27), type := 0, pos := "l12_bearings.go:189", after := #[{ on := 0, ground := Go.Ground.data }, { on := 2, ground := Go.Ground.chain }, { on := 0, ground := Go.Ground.phase }, { on := 1, ground := Go.Ground.textOnly Go.Departure.lateStores }, { on := 2, ground := Go.Ground.textOnly Go.Departure.lateStoresUnsure }], guard := none }) rfl (fun Kn hK => ?_) AllReadyH.nil
    have bR1_0 := bR1.cell 0 rfl
    have bR1_1 := bR1.cell 1 rfl
    have bR1_f0 := bR1.frozen 0
    have bR1_f1 := bR1.frozen 1
    have bR1_l := bR1.lt
    go_simp
    clear bR1_0 bR1_f0 bR1_1 bR1_f1 bR1_l
    generalize hX : World.setCell _ _ _ = V2
    have hb : Below w.heap.size w V2 := by rw [← hX]; exact ((HB.out.setCell (p := ⟨w.heap.size, 0, none⟩) (by first | omega | (dsimp only; omega)) _).setCell (p := ⟨w.heap.size, 1, none⟩) (by first | omega | (dsimp only; omega)) _)
    replace bR2 : Bk V2 (w.heap.size + 1) #[.int .i64 0, .int .i64 0] 25 := by rw [← hX]; exact (Bk.other (Bk.other bR2 (by omega) 0 _) (by omega) 1 _)
    replace bU : Bk V2 (gU) #[.int .i64 ux, .int .i64 uy] 25 := by rw [← hX]; exact (Bk.other (Bk.other bU (by omega) 0 _) (by omega) 1 _)
    replace bR1 : Bk V2 (w.heap.size) #[.int .i64 ux, .int .i64 uy] 25 := by rw [← hX]; exact (Bk.set (Bk.set bR1 0 _ rfl) 1 _ rfl)
    clear hX
    replace HB := Lib.hid hb
    clear hb
    refine hK.out _ _ (HSp.out _ bU) (fun _ => ?_)
    clear hK Kn
    refine wpAnyH_ready (rs := [4]) (by decide +kernel) (by simp) ?_
    refine AllReadyH.cons (o := { dst := none, op := Go.Op.store 25 (Go.Operand.tmp 3) (Go.Operand.tmp 29), type := 0, pos := "l12_bearings.go:189", after := #[{ on := 2, ground := Go.Ground.data }, { on := 3, ground := Go.Ground.chain }, { on := 0, ground := Go.Ground.phase }, { on := 1, ground := Go.Ground.phase }, { on := 2, ground := Go.Ground.phase }, { on := 3, ground := Go.Ground.phase }], guard := none }) rfl (fun Kn hK => ?_) AllReadyH.nil
    have bR2_0 := bR2.cell 0 rfl
    have bR2_1 := bR2.cell 1 rfl
    have bR2_f0 := bR2.frozen 0
    have bR2_f1 := bR2.frozen 1
    have bR2_l := bR2.lt
    go_simp
    clear bR2_0 bR2_f0 bR2_1 bR2_f1 bR2_l
    generalize hX : World.setCell _ _ _ = V3
    have hb : Below w.heap.size w V3 := by rw [← hX]; exact ((HB.out.setCell (p := ⟨w.heap.size + 1, 0, none⟩) (by first | omega | (dsimp only; omega)) _).setCell (p := ⟨w.heap.size + 1, 1, none⟩) (by first | omega | (dsimp only; omega)) _)
    replace bR1 : Bk V3 (w.heap.size) #[.int .i64 ux, .int .i64 uy] 25 := by rw [← hX]; exact (Bk.other (Bk.other bR1 (by omega) 0 _) (by omega) 1 _)
    replace bU : Bk V3 (gU) #[.int .i64 ux, .int .i64 uy] 25 := by rw [← hX]; exact (Bk.other (Bk.other bU (by omega) 0 _) (by omega) 1 _)
    replace bR2 : Bk V3 (w.heap.size + 1) #[.int .i64 X, .int .i64 Y] 25 := by rw [← hX]; exact (Bk.set (Bk.set bR2 0 _ rfl) 1 _ rfl)
    clear hX
    replace HB := Lib.hid hb
    clear hb
    refine hK.out _ _ (HSp.out _ bU) (fun _ => ?_)
    clear hK Kn
    refine wpAnyH_done (by kernel_rfl) ?_ _
    have cbR10 := bR1.cell 0 rfl
    have cbR11 := bR1.cell 1 rfl
    have cbR20 := bR2.cell 0 rfl
    have cbR21 := bR2.cell 1 rfl
    repeat (first | go_values | go_skip | go_guarded | go_step | go_upon | (dsimp only))
    exact bodyPost_ret (v := .tuple #[.agg #[.int .i64 ux, .int .i64 uy], .agg #[.int .i64 X, .int .i64 Y]]) (by simp [results, Try.results40, go_sem, cbR10, cbR11, cbR20, cbR21]) rfl ⟨ux, uy, X, Y, rfl, HB.out⟩

set_option maxRecDepth 100000 in
set_option maxHeartbeats 8000000 in
theorem dcf_any (w : World) (a0 : Option Addr) (cap : Nat) (zs : List Int) (h : Code8 w w.heap.size a0 zs) :
    Calls Try.prog 41 #[.slice a0 zs.length cap] w (Pt4 w) := by
  have HC := Lib.hid h
  clear h
  go_enter Try.func41, Try.ntmps41
  go_wp2_with fail
  generalize hW : World.alloc _ _ = W
  have bR1 : Bk W (w.heap.size) #[.int .i64 0, .int .i64 0] 25 := by rw [← hW]; repeat (first | (refine Bk.new' ?_; (simp; done)) | refine Bk.alloc ?_ _)
  have bR2 : Bk W (w.heap.size + 1) #[.int .i64 0, .int .i64 0] 25 := by rw [← hW]; repeat (first | (refine Bk.new' ?_; (simp; done)) | refine Bk.alloc ?_ _)
  have bR3 : Bk W (w.heap.size + 1 + 1) #[.int .i64 0, .int .i64 0] 25 := by rw [← hW]; repeat (first | (refine Bk.new' ?_; (simp; done)) | refine Bk.alloc ?_ _)
  have bR4 : Bk W (w.heap.size + 1 + 1 + 1) #[.int .i64 0, .int .i64 0] 25 := by rw [← hW]; repeat (first | (refine Bk.new' ?_; (simp; done)) | refine Bk.alloc ?_ _)
  have hb : Below w.heap.size w W := by rw [← hW]; exact (by repeat (first | exact Below.refl _ _ | (refine Below.alloc ?_ (by simp <;> omega) _) | (refine Below.setCell ?_ (by simp <;> omega) _) | (refine Below.drew ?_) | (refine bel_drewN ?_ _)))
  clear hW
  have hlT := bR4.lt
  refine (from_any _ _ _ zs ((HC.out.below hb (Nat.le_refl _)).more hb.size)).mono ?_
  rintro e w1 ⟨s, rfl, hs, hsrc, hb1⟩
  replace bR1 := bR1.on hb1
  replace bR2 := bR2.on hb1
  replace bR3 := bR3.on hb1
  replace bR4 := bR4.on hb1
  have HB := Lib.hid (bel_end hb hb1)
  have HS := Lib.hid hsrc
  have hls := HS.out.lt
  have hR : w.heap.size + 4 ≤ s := by omega
  clear hs hsrc hb hb1 HC hlT
  have bR1_0 := bR1.cell 0 rfl
  have bR1_1 := bR1.cell 1 rfl
  have bR1_l := bR1.lt
  have bR2_0 := bR2.cell 0 rfl
  have bR2_1 := bR2.cell 1 rfl
  have bR2_l := bR2.lt
  have bR3_0 := bR3.cell 0 rfl
  have bR3_1 := bR3.cell 1 rfl
  have bR3_l := bR3.lt
  have bR4_0 := bR4.cell 0 rfl
  have bR4_1 := bR4.cell 1 rfl
  have bR4_l := bR4.lt
  go_wp2_with fail
  refine (dpt_any _ s _ _ HS.out).mono ?_
  rintro e ws2 ⟨px, py, rfl, hs, hg⟩
  replace bR1 := bR1.kept hg (by simp; omega)
  replace bR2 := bR2.kept hg (by simp; omega)
  replace bR3 := bR3.kept hg (by simp; omega)
  replace bR4 := bR4.kept hg (by simp; omega)
  have hz2 := hg.size
  replace HB := Lib.hid (HB.out.trans (below_of_grown hg (by omega) (by have := HB.out.size; omega)))
  replace HS := Lib.hid hs
  replace hls := HS.out.lt
  clear hs hg
  clear bR1_0 bR1_1 bR1_l bR2_0 bR2_1 bR2_l bR3_0 bR3_1 bR3_l bR4_0 bR4_1 bR4_l
  have bR1_0 := bR1.cell 0 rfl
  have bR1_1 := bR1.cell 1 rfl
  have bR1_l := bR1.lt
  have bR2_0 := bR2.cell 0 rfl
  have bR2_1 := bR2.cell 1 rfl
  have bR2_l := bR2.lt
  have bR3_0 := bR3.cell 0 rfl
  have bR3_1 := bR3.cell 1 rfl
  have bR3_l := bR3.lt
  have bR4_0 := bR4.cell 0 rfl
  have bR4_1 := bR4.cell 1 rfl
  have bR4_l := bR4.lt
  go_wp2_with fail
  refine (dbr_any _ s HS.out).mono ?_
  rintro e ws3 ⟨ux, uy, rfl, hs, hg⟩
  replace bR1 := bR1.kept hg (by simp; omega)
  replace bR2 := bR2.kept hg (by simp; omega)
  replace bR3 := bR3.kept hg (by simp; omega)
  replace bR4 := bR4.kept hg (by simp; omega)
  have hz3 := hg.size
  replace HB := Lib.hid (HB.out.trans (below_of_grown hg (by omega) (by have := HB.out.size; omega)))
  replace HS := Lib.hid hs
  replace hls := HS.out.lt
  clear hs hg
  clear bR1_0 bR1_1 bR1_l bR2_0 bR2_1 bR2_l bR3_0 bR3_1 bR3_l bR4_0 bR4_1 bR4_l
  have bR1_0 := bR1.cell 0 rfl
  have bR1_1 := bR1.cell 1 rfl
  have bR1_l := bR1.lt
  have bR2_0 := bR2.cell 0 rfl
  have bR2_1 := bR2.cell 1 rfl
  have bR2_l := bR2.lt
  have bR3_0 := bR3.cell 0 rfl
  have bR3_1 := bR3.cell 1 rfl
  have bR3_l := bR3.lt
  have bR4_0 := bR4.cell 0 rfl
  have bR4_1 := bR4.cell 1 rfl
  have bR4_l := bR4.lt
  go_wp2_with fail
  refine (dpt_any _ s _ _ HS.out).mono ?_
  rintro e ws4 ⟨qx, qy, rfl, hs, hg⟩
  replace bR1 := bR1.kept hg (by simp; omega)
  replace bR2 := bR2.kept hg (by simp; omega)
  replace bR3 := bR3.kept hg (by simp; omega)
  replace bR4 := bR4.kept hg (by simp; omega)
  have hz4 := hg.size
  replace HB := Lib.hid (HB.out.trans (below_of_grown hg (by omega) (by have := HB.out.size; omega)))
  replace HS := Lib.hid hs
  replace hls := HS.out.lt
  clear hs hg
  clear bR1_0 bR1_1 bR1_l bR2_0 bR2_1 bR2_l bR3_0 bR3_1 bR3_l bR4_0 bR4_1 bR4_l
  have bR1_0 := bR1.cell 0 rfl
  have bR1_1 := bR1.cell 1 rfl
  have bR1_l := bR1.lt
  have bR2_0 := bR2.cell 0 rfl
  have bR2_1 := bR2.cell 1 rfl
  have bR2_l := bR2.lt
  have bR3_0 := bR3.cell 0 rfl
  have bR3_1 := bR3.cell 1 rfl
  have bR3_l := bR3.lt
  have bR4_0 := bR4.cell 0 rfl
  have bR4_1 := bR4.cell 1 rfl
  have bR4_l := bR4.lt
  go_upto_region 3 with fail
  clear bR1_0 bR1_1 bR1_l bR2_0 bR2_1 bR2_l bR3_0 bR3_1 bR3_l bR4_0 bR4_1 bR4_l
  generalize hW : World.alloc _ _ = wn5
  have hb : Below ws4.heap.size ws4 wn5 := by rw [← hW]; exact (by repeat (first | exact Below.refl _ _ | (refine Below.alloc ?_ (by simp <;> omega) _) | (refine Below.setCell ?_ (by simp <;> omega) _) | (refine Below.drew ?_) | (refine bel_drewN ?_ _)))
  obtain ⟨gP, hg0⟩ : ∃ g, g = ws4.heap.size := ⟨_, rfl⟩
  obtain ⟨px, py, bP⟩ : ∃ px py, Bk wn5 gP #[.int .i64 px, .int .i64 py] 25 := ⟨_, _, by rw [← hW, hg0]; repeat (first | (refine Bk.new' ?_; (simp; done)) | refine Bk.alloc ?_ _)⟩
  have lsbP : s < gP := by omega
  have nebP_bR1 : gP ≠ w.heap.size := by have := bR1.lt; omega
  have nebP_bR2 : gP ≠ w.heap.size + 1 := by have := bR2.lt; omega
  have nebP_bR3 : gP ≠ w.heap.size + 1 + 1 := by have := bR3.lt; omega
  have nebP_bR4 : gP ≠ w.heap.size + 1 + 1 + 1 := by have := bR4.lt; omega
  have lwbP : w.heap.size ≤ gP := by have := HB.out.size; omega
  obtain ⟨gU, hg1⟩ : ∃ g, g = ws4.heap.size + 1 := ⟨_, rfl⟩
  obtain ⟨ux, uy, bU⟩ : ∃ ux uy, Bk wn5 gU #[.int .i64 ux, .int .i64 uy] 25 := ⟨_, _, by rw [← hW, hg1]; repeat (first | (refine Bk.new' ?_; (simp; done)) | refine Bk.alloc ?_ _)⟩
  have lsbU : s < gU := by omega
  have nebU_bP : gU ≠ gP := by omega
  have nebU_bR1 : gU ≠ w.heap.size := by have := bR1.lt; omega
  have nebU_bR2 : gU ≠ w.heap.size + 1 := by have := bR2.lt; omega
  have nebU_bR3 : gU ≠ w.heap.size + 1 + 1 := by have := bR3.lt; omega
  have nebU_bR4 : gU ≠ w.heap.size + 1 + 1 + 1 := by have := bR4.lt; omega
  have lwbU : w.heap.size ≤ gU := by have := HB.out.size; omega
  obtain ⟨gQ, hg2⟩ : ∃ g, g = ws4.heap.size + 1 + 1 := ⟨_, rfl⟩
  obtain ⟨qx, qy, bQ⟩ : ∃ qx qy, Bk wn5 gQ #[.int .i64 qx, .int .i64 qy] 25 := ⟨_, _, by rw [← hW, hg2]; repeat (first | (refine Bk.new' ?_; (simp; done)) | refine Bk.alloc ?_ _)⟩
  have lsbQ : s < gQ := by omega
  have nebQ_bP : gQ ≠ gP := by omega
  have nebQ_bU : gQ ≠ gU := by omega
  have nebQ_bR1 : gQ ≠ w.heap.size := by have := bR1.lt; omega
  have nebQ_bR2 : gQ ≠ w.heap.size + 1 := by have := bR2.lt; omega
  have nebQ_bR3 : gQ ≠ w.heap.size + 1 + 1 := by have := bR3.lt; omega
  have nebQ_bR4 : gQ ≠ w.heap.size + 1 + 1 + 1 := by have := bR4.lt; omega
  have lwbQ : w.heap.size ≤ gQ := by have := HB.out.size; omega
  try rw [← hg2]
  try rw [← hg1]
  try rw [← hg0]
  clear hW hg0 hg1 hg2
  replace bR1 := bR1.on hb
  replace bR2 := bR2.on hb
  replace bR3 := bR3.on hb
  replace bR4 := bR4.on hb
  replace HB := Lib.hid (bel_end HB.out hb)
  replace HS := Lib.hid (HS.out.bel hb)
  replace hls := HS.out.lt
  clear hb
  have bR1_0 := bR1.cell 0 rfl
  have bR1_1 := bR1.cell 1 rfl
  have bR1_l := bR1.lt
  have bR2_0 := bR2.cell 0 rfl
  have bR2_1 := bR2.cell 1 rfl
  have bR2_l := bR2.lt
  have bR3_0 := bR3.cell 0 rfl
  have bR3_1 := bR3.cell 1 rfl
  have bR3_l := bR3.lt
  have bR4_0 := bR4.cell 0 rfl
  have bR4_1 := bR4.cell 1 rfl
  have bR4_l := bR4.lt
  have bP_0 := bP.cell 0 rfl
  have bP_1 := bP.cell 1 rfl
  have bP_l := bP.lt
  have bU_0 := bU.cell 0 rfl
  have bU_1 := bU.cell 1 rfl
  have bU_l := bU.lt
  have bQ_0 := bQ.cell 0 rfl
  have bQ_1 := bQ.cell 1 rfl
  have bQ_l := bQ.lt
  go_wp2_with fail
  refine (nxt_any _ _ _ HS.out).mono ?_
  rintro e ws6 ⟨q, rfl, -, -, -, hs, hg⟩
  replace bR1 := bR1.kept hg (by simp; omega)
  replace bR2 := bR2.kept hg (by simp; omega)
  replace bR3 := bR3.kept hg (by simp; omega)
  replace bR4 := bR4.kept hg (by simp; omega)
  replace bP := bP.kept hg (by simp; omega)
  replace bU := bU.kept hg (by simp; omega)
  replace bQ := bQ.kept hg (by simp; omega)
  have hz6 := hg.size
  replace HB := Lib.hid (HB.out.trans (below_of_grown hg (by omega) (by have := HB.out.size; omega)))
  replace HS := Lib.hid hs
  replace hls := HS.out.lt
  clear hs hg
  clear bR1_0 bR1_1 bR1_l bR2_0 bR2_1 bR2_l bR3_0 bR3_1 bR3_l bR4_0 bR4_1 bR4_l bP_0 bP_1 bP_l bU_0 bU_1 bU_l bQ_0 bQ_1 bQ_l
  by_cases h0 : q = 0
  case pos =>
    subst h0
    have bR1_0 := bR1.cell 0 rfl
    have bR1_1 := bR1.cell 1 rfl
    have bR1_l := bR1.lt
    have bR2_0 := bR2.cell 0 rfl
    have bR2_1 := bR2.cell 1 rfl
    have bR2_l := bR2.lt
    have bR3_0 := bR3.cell 0 rfl
    have bR3_1 := bR3.cell 1 rfl
    have bR3_l := bR3.lt
    have bR4_0 := bR4.cell 0 rfl
    have bR4_1 := bR4.cell 1 rfl
    have bR4_l := bR4.lt
    have bP_0 := bP.cell 0 rfl
    have bP_1 := bP.cell 1 rfl
    have bP_l := bP.lt
    have bU_0 := bU.cell 0 rfl
    have bU_1 := bU.cell 1 rfl
    have bU_l := bU.lt
    have bQ_0 := bQ.cell 0 rfl
    have bQ_1 := bQ.cell 1 rfl
    have bQ_l := bQ.lt
    go_wp2_with fail
    refine (nxt_any _ _ _ HS.out).mono ?_
    rintro e ws7 ⟨k, rfl, -, -, -, hs, hg⟩
    replace bR1 := bR1.kept hg (by simp; omega)
    replace bR2 := bR2.kept hg (by simp; omega)
    replace bR3 := bR3.kept hg (by simp; omega)
    replace bR4 := bR4.kept hg (by simp; omega)
    replace bP := bP.kept hg (by simp; omega)
    replace bU := bU.kept hg (by simp; omega)
    replace bQ := bQ.kept hg (by simp; omega)
    have hz7 := hg.size
    replace HB := Lib.hid (HB.out.trans (below_of_grown hg (by omega) (by have := HB.out.size; omega)))
    replace HS := Lib.hid hs
    replace hls := HS.out.lt
    clear hs hg
    clear bR1_0 bR1_1 bR1_l bR2_0 bR2_1 bR2_l bR3_0 bR3_1 bR3_l bR4_0 bR4_1 bR4_l bP_0 bP_1 bP_l bU_0 bU_1 bU_l bQ_0 bQ_1 bQ_l
    obtain ⟨K, eK⟩ : ∃ q, IntKind.wrap .i64 (1 + k) = q := ⟨_, rfl⟩
    obtain ⟨A, eA⟩ : ∃ q, IntKind.wrap .i64 (K * ux) = q := ⟨_, rfl⟩
    obtain ⟨B, eB⟩ : ∃ q, IntKind.wrap .i64 (px + A) = q := ⟨_, rfl⟩
    obtain ⟨X, eX⟩ : ∃ q, IntKind.wrap .i64 (B - qx) = q := ⟨_, rfl⟩
    obtain ⟨C, eC⟩ : ∃ q, IntKind.wrap .i64 (K * uy) = q := ⟨_, rfl⟩
    obtain ⟨D, eD⟩ : ∃ q, IntKind.wrap .i64 (py + C) = q := ⟨_, rfl⟩
    obtain ⟨Y, eY⟩ : ∃ q, IntKind.wrap .i64 (D - qy) = q := ⟨_, rfl⟩
    have bR1_0 := bR1.cell 0 rfl
    have bR1_1 := bR1.cell 1 rfl
    have bR1_l := bR1.lt
    have bR2_0 := bR2.cell 0 rfl
    have bR2_1 := bR2.cell 1 rfl
    have bR2_l := bR2.lt
    have bR3_0 := bR3.cell 0 rfl
    have bR3_1 := bR3.cell 1 rfl
    have bR3_l := bR3.lt
    have bR4_0 := bR4.cell 0 rfl
    have bR4_1 := bR4.cell 1 rfl
    have bR4_l := bR4.lt
    have bP_0 := bP.cell 0 rfl
    have bP_1 := bP.cell 1 rfl
    have bP_l := bP.lt
    have bU_0 := bU.cell 0 rfl
    have bU_1 := bU.cell 1 rfl
    have bU_l := bU.lt
    have bQ_0 := bQ.cell 0 rfl
    have bQ_1 := bQ.cell 1 rfl
    have bQ_l := bQ.lt
    go_upto_region 5 with fail
    clear bR1_0 bR1_1 bR1_l bR2_0 bR2_1 bR2_l bR3_0 bR3_1 bR3_l bR4_0 bR4_1 bR4_l bP_0 bP_1 bP_l bU_0 bU_1 bU_l bQ_0 bQ_1 bQ_l
    obtain ⟨S, hSd⟩ : ∃ S : World → Prop, ∀ w', S w' ↔ (w'.cell? ⟨gP, 0, none⟩ = some (.int .i64 px) ∧ w'.cell? ⟨gP, 1, none⟩ = some (.int .i64 py) ∧ w'.cell? ⟨gU, 0, none⟩ = some (.int .i64 ux) ∧ w'.cell? ⟨gU, 1, none⟩ = some (.int .i64 uy) ∧ w'.cell? ⟨gQ, 0, none⟩ = some (.int .i64 qx) ∧ w'.cell? ⟨gQ, 1, none⟩ = some (.int .i64 qy)) := ⟨_, fun _ => Iff.rfl⟩
    have HSp : Hid (∀ w' : World, Bk w' (gP) #[.int .i64 px, .int .i64 py] 25 → Bk w' (gU) #[.int .i64 ux, .int .i64 uy] 25 → Bk w' (gQ) #[.int .i64 qx, .int .i64 qy] 25 → S w') := Lib.hid (fun w' bP bU bQ => (hSd w').2 ⟨bP.cell 0 rfl, bP.cell 1 rfl, bU.cell 0 rfl, bU.cell 1 rfl, bQ.cell 0 rfl, bQ.cell 1 rfl⟩)
    have HSd := Lib.hid hSd
    clear hSd
    refine wp_region_held_drew (S := S) (by kernel_rfl) ?_ (fun hH => ?_)
    · exact (HSp.out _ bP bU bQ : S (World.drew ws7))
    clear hH
    generalize hX : World.drew ws7 = V0
    replace bR1 : Bk V0 (w.heap.size) #[.int .i64 0, .int .i64 0] 25 := by rw [← hX]; exact bR1
    replace bR2 : Bk V0 (w.heap.size + 1) #[.int .i64 0, .int .i64 0] 25 := by rw [← hX]; exact bR2
    replace bR3 : Bk V0 (w.heap.size + 1 + 1) #[.int .i64 0, .int .i64 0] 25 := by rw [← hX]; exact bR3
    replace bR4 : Bk V0 (w.heap.size + 1 + 1 + 1) #[.int .i64 0, .int .i64 0] 25 := by rw [← hX]; exact bR4
    replace bP : Bk V0 (gP) #[.int .i64 px, .int .i64 py] 25 := by rw [← hX]; exact bP
    replace bU : Bk V0 (gU) #[.int .i64 ux, .int .i64 uy] 25 := by rw [← hX]; exact bU
    replace bQ : Bk V0 (gQ) #[.int .i64 qx, .int .i64 qy] 25 := by rw [← hX]; exact bQ
    have hb : Below ws7.heap.size ws7 V0 := by rw [← hX]; exact (Below.refl _ _).drew
    clear hX
    replace HS := Lib.hid (HS.out.bel hb)
    replace HB := Lib.hid (bel_end HB.out hb)
    clear hb
    have hS := HSp.out _ bP bU bQ
    refine wpAnyH_take (i := 0) (oi := { dst := some 25, op := Go.Op.load 25 (Go.Operand.tmp 7), type := 25, pos := "l12_bearings.go:197", after := #[], guard := none }) (v := ?_) rfl (by kernel_rfl) (by kernel_rfl) (by kernel_rfl) (fun _ _ _ h => h) (Or.inl ⟨by rfl, ?_⟩) hS ?_
    rotate_left
    · (intro w hSw; have hSw := (HSd.out w).1 hSw; go_split_ands; go_simp) <;> with_reducible rfl
    clear hS
    try simp only [Act.put, List.setIfInBounds_toArray, List.set_cons_zero, List.set_cons_succ]
    have hS := HSp.out _ bP bU bQ
    refine wpAnyH_take (i := 1) (oi := { dst := some 26, op := Go.Op.load 25 (Go.Operand.tmp 8), type := 25, pos := "l12_bearings.go:197", after := #[{ on := 24, ground := Go.Ground.gcOnly Go.Departure.lateStores }], guard := none }) (v := ?_) rfl (by kernel_rfl) (by kernel_rfl) (by kernel_rfl) (fun _ _ _ h => h) (Or.inl ⟨by rfl, ?_⟩) hS ?_
    rotate_left
    · (intro w hSw; have hSw := (HSd.out w).1 hSw; go_split_ands; go_simp) <;> with_reducible rfl
    clear hS
    try simp only [Act.put, List.setIfInBounds_toArray, List.set_cons_zero, List.set_cons_succ]
    have hS := HSp.out _ bP bU bQ
    refine wpAnyH_take (i := 2) (oi := { dst := some 27, op := Go.Op.load 25 (Go.Operand.tmp 9), type := 25, pos := "l12_bearings.go:197", after := #[{ on := 25, ground := Go.Ground.gcOnly Go.Departure.lateStores }], guard := none }) (v := ?_) rfl (by kernel_rfl) (by kernel_rfl) (by kernel_rfl) (fun _ _ _ h => h) (Or.inl ⟨by rfl, ?_⟩) hS ?_
    rotate_left
    · (intro w hSw; have hSw := (HSd.out w).1 hSw; go_split_ands; go_simp) <;> with_reducible rfl
    clear hS
    try simp only [Act.put, List.setIfInBounds_toArray, List.set_cons_zero, List.set_cons_succ]
    have hS := HSp.out _ bP bU bQ
    refine wpAnyH_take (i := 3) (oi := { dst := some 28, op := Go.Op.fieldAddr 25 (Go.Operand.tmp 7) 0, type := 0, pos := "l12_bearings.go:197", after := #[{ on := 26, ground := Go.Ground.gcOnly Go.Departure.lateStores }], guard := none }) (v := ?_) rfl (by kernel_rfl) (by kernel_rfl) (by kernel_rfl) (fun _ _ _ h => h) (Or.inl ⟨by rfl, ?_⟩) hS ?_
    rotate_left
    · (intro w hSw; have hSw := (HSd.out w).1 hSw; go_split_ands; go_simp) <;> with_reducible rfl
    clear hS
    try simp only [Act.put, List.setIfInBounds_toArray, List.set_cons_zero, List.set_cons_succ]
    have hS := HSp.out _ bP bU bQ
    refine wpAnyH_take (i := 4) (oi := { dst := some 29, op := Go.Op.load 2 (Go.Operand.tmp 28), type := 2, pos := "l12_bearings.go:197", after := #[{ on := 3, ground := Go.Ground.data }, { on := 26, ground := Go.Ground.gcOnly Go.Departure.lateStores }], guard := none }) (v := ?_) rfl (by kernel_rfl) (by kernel_rfl) (by kernel_rfl) (fun _ _ _ h => h) (Or.inl ⟨by rfl, ?_⟩) hS ?_
    rotate_left
    · (intro w hSw; have hSw := (HSd.out w).1 hSw; go_split_ands; go_simp) <;> with_reducible rfl
    clear hS
    try simp only [Act.put, List.setIfInBounds_toArray, List.set_cons_zero, List.set_cons_succ]
    have hS := HSp.out _ bP bU bQ
    refine wpAnyH_take (i := 5) (oi := { dst := some 30, op := Go.Op.move (Go.Operand.tmp 10), type := 2, pos := "l12_bearings.go:197", after := #[{ on := 26, ground := Go.Ground.gcOnly Go.Departure.lateStores }], guard := none }) (v := ?_) rfl (by kernel_rfl) (by kernel_rfl) (by kernel_rfl) (fun _ _ _ h => h) (Or.inl ⟨by rfl, ?_⟩) hS ?_
    rotate_left
    · (intro w hSw; have hSw := (HSd.out w).1 hSw; go_split_ands; go_simp) <;> with_reducible rfl
    clear hS
    try simp only [Act.put, List.setIfInBounds_toArray, List.set_cons_zero, List.set_cons_succ]
    have hS := HSp.out _ bP bU bQ
    refine wpAnyH_take (i := 6) (oi := { dst := some 31, op := Go.Op.fieldAddr 25 (Go.Operand.tmp 8) 0, type := 0, pos := "l12_bearings.go:197", after := #[{ on := 26, ground := Go.Ground.gcOnly Go.Departure.lateStores }], guard := none }) (v := ?_) rfl (by kernel_rfl) (by kernel_rfl) (by kernel_rfl) (fun _ _ _ h => h) (Or.inl ⟨by rfl, ?_⟩) hS ?_
    rotate_left
    · (intro w hSw; have hSw := (HSd.out w).1 hSw; go_split_ands; go_simp) <;> with_reducible rfl
    clear hS
    try simp only [Act.put, List.setIfInBounds_toArray, List.set_cons_zero, List.set_cons_succ]
    have hS := HSp.out _ bP bU bQ
    refine wpAnyH_take (i := 7) (oi := { dst := some 32, op := Go.Op.load 2 (Go.Operand.tmp 31), type := 2, pos := "l12_bearings.go:197", after := #[{ on := 6, ground := Go.Ground.data }, { on := 26, ground := Go.Ground.gcOnly Go.Departure.lateStores }], guard := none }) (v := ?_) rfl (by kernel_rfl) (by kernel_rfl) (by kernel_rfl) (fun _ _ _ h => h) (Or.inl ⟨by rfl, ?_⟩) hS ?_
    rotate_left
    · (intro w hSw; have hSw := (HSd.out w).1 hSw; go_split_ands; go_simp) <;> with_reducible rfl
    clear hS
    try simp only [Act.put, List.setIfInBounds_toArray, List.set_cons_zero, List.set_cons_succ]
    have hS := HSp.out _ bP bU bQ
    refine wpAnyH_take (i := 8) (oi := { dst := some 33, op := Go.Op.binOp Go.BinOp.mul 2 (Go.Operand.tmp 30) (Go.Operand.tmp 32) 2, type := 2, pos := "l12_bearings.go:197", after := #[{ on := 5, ground := Go.Ground.data }, { on := 7, ground := Go.Ground.data }, { on := 26, ground := Go.Ground.gcOnly Go.Departure.lateStores }], guard := none }) (v := ?_) rfl (by kernel_rfl) (by kernel_rfl) (by kernel_rfl) (fun _ _ _ h => h) (Or.inl ⟨by rfl, ?_⟩) hS ?_
    rotate_left
    · (intro w hSw; have hSw := (HSd.out w).1 hSw; go_split_ands; go_simp) <;> with_reducible rfl
    clear hS
    try simp only [Act.put, List.setIfInBounds_toArray, List.set_cons_zero, List.set_cons_succ]
    have hS := HSp.out _ bP bU bQ
    refine wpAnyH_take (i := 9) (oi := { dst := some 34, op := Go.Op.binOp Go.BinOp.add 2 (Go.Operand.tmp 29) (Go.Operand.tmp 33) 2, type := 2, pos := "l12_bearings.go:197", after := #[{ on := 4, ground := Go.Ground.data }, { on := 8, ground := Go.Ground.data }, { on := 26, ground := Go.Ground.gcOnly Go.Departure.lateStores }], guard := none }) (v := ?_) rfl (by kernel_rfl) (by kernel_rfl) (by kernel_rfl) (fun _ _ _ h => h) (Or.inl ⟨by rfl, ?_⟩) hS ?_
    rotate_left
    · (intro w hSw; have hSw := (HSd.out w).1 hSw; go_split_ands; go_simp) <;> with_reducible rfl
    clear hS
    try simp only [Act.put, List.setIfInBounds_toArray, List.set_cons_zero, List.set_cons_succ]
    have hS := HSp.out _ bP bU bQ
    refine wpAnyH_take (i := 10) (oi := { dst := some 35, op := Go.Op.fieldAddr 25 (Go.Operand.tmp 9) 0, type := 0, pos := "l12_bearings.go:197", after := #[{ on := 26, ground := Go.Ground.gcOnly Go.Departure.lateStores }], guard := none }) (v := ?_) rfl (by kernel_rfl) (by kernel_rfl) (by kernel_rfl) (fun _ _ _ h => h) (Or.inl ⟨by rfl, ?_⟩) hS ?_
    rotate_left
    · (intro w hSw; have hSw := (HSd.out w).1 hSw; go_split_ands; go_simp) <;> with_reducible rfl
    clear hS
    try simp only [Act.put, List.setIfInBounds_toArray, List.set_cons_zero, List.set_cons_succ]
    have hS := HSp.out _ bP bU bQ
    refine wpAnyH_take (i := 11) (oi := { dst := some 36, op := Go.Op.load 2 (Go.Operand.tmp 35), type := 2, pos := "l12_bearings.go:197", after := #[{ on := 10, ground := Go.Ground.data }, { on := 26, ground := Go.Ground.gcOnly Go.Departure.lateStores }], guard := none }) (v := ?_) rfl (by kernel_rfl) (by kernel_rfl) (by kernel_rfl) (fun _ _ _ h => h) (Or.inl ⟨by rfl, ?_⟩) hS ?_
    rotate_left
    · (intro w hSw; have hSw := (HSd.out w).1 hSw; go_split_ands; go_simp) <;> with_reducible rfl
    clear hS
    try simp only [Act.put, List.setIfInBounds_toArray, List.set_cons_zero, List.set_cons_succ]
    have hS := HSp.out _ bP bU bQ
    refine wpAnyH_take (i := 12) (oi := { dst := some 37, op := Go.Op.binOp Go.BinOp.sub 2 (Go.Operand.tmp 34) (Go.Operand.tmp 36) 2, type := 2, pos := "l12_bearings.go:197", after := #[{ on := 9, ground := Go.Ground.data }, { on := 11, ground := Go.Ground.data }, { on := 26, ground := Go.Ground.gcOnly Go.Departure.lateStores }], guard := none }) (v := ?_) rfl (by kernel_rfl) (by kernel_rfl) (by kernel_rfl) (fun _ _ _ h => h) (Or.inl ⟨by rfl, ?_⟩) hS ?_
    rotate_left
    · (intro w hSw; have hSw := (HSd.out w).1 hSw; go_split_ands; go_simp) <;> with_reducible rfl
    clear hS
    try simp only [Act.put, List.setIfInBounds_toArray, List.set_cons_zero, List.set_cons_succ]
    have hS := HSp.out _ bP bU bQ
    refine wpAnyH_take (i := 13) (oi := { dst := some 38, op := Go.Op.fieldAddr 25 (Go.Operand.tmp 7) 1, type := 0, pos := "l12_bearings.go:197", after := #[{ on := 26, ground := Go.Ground.gcOnly Go.Departure.lateStores }], guard := none }) (v := ?_) rfl (by kernel_rfl) (by kernel_rfl) (by kernel_rfl) (fun _ _ _ h => h) (Or.inl ⟨by rfl, ?_⟩) hS ?_
    rotate_left
    · (intro w hSw; have hSw := (HSd.out w).1 hSw; go_split_ands; go_simp) <;> with_reducible rfl
    clear hS
    try simp only [Act.put, List.setIfInBounds_toArray, List.set_cons_zero, List.set_cons_succ]
    have hS := HSp.out _ bP bU bQ
    refine wpAnyH_take (i := 14) (oi := { dst := some 39, op := Go.Op.load 2 (Go.Operand.tmp 38), type := 2, pos := "l12_bearings.go:197", after := #[{ on := 13, ground := Go.Ground.data }, { on := 26, ground := Go.Ground.gcOnly Go.Departure.lateStores }], guard := none }) (v := ?_) rfl (by kernel_rfl) (by kernel_rfl) (by kernel_rfl) (fun _ _ _ h => h) (Or.inl ⟨by rfl, ?_⟩) hS ?_
    rotate_left
    · (intro w hSw; have hSw := (HSd.out w).1 hSw; go_split_ands; go_simp) <;> with_reducible rfl
    clear hS
    try simp only [Act.put, List.setIfInBounds_toArray, List.set_cons_zero, List.set_cons_succ]
    have hS := HSp.out _ bP bU bQ
    refine wpAnyH_take (i := 15) (oi := { dst := some 40, op := Go.Op.move (Go.Operand.tmp 10), type := 2, pos := "l12_bearings.go:197", after := #[{ on := 26, ground := Go.Ground.gcOnly Go.Departure.lateStores }], guard := none }) (v := ?_) rfl (by kernel_rfl) (by kernel_rfl) (by kernel_rfl) (fun _ _ _ h => h) (Or.inl ⟨by rfl, ?_⟩) hS ?_
    rotate_left
    · (intro w hSw; have hSw := (HSd.out w).1 hSw; go_split_ands; go_simp) <;> with_reducible rfl
    clear hS
    try simp only [Act.put, List.setIfInBounds_toArray, List.set_cons_zero, List.set_cons_succ]
    have hS := HSp.out _ bP bU bQ
    refine wpAnyH_take (i := 16) (oi := { dst := some 41, op := Go.Op.fieldAddr 25 (Go.Operand.tmp 8) 1, type := 0, pos := "l12_bearings.go:197", after := #[{ on := 26, ground := Go.Ground.gcOnly Go.Departure.lateStores }], guard := none }) (v := ?_) rfl (by kernel_rfl) (by kernel_rfl) (by kernel_rfl) (fun _ _ _ h => h) (Or.inl ⟨by rfl, ?_⟩) hS ?_
    rotate_left
    · (intro w hSw; have hSw := (HSd.out w).1 hSw; go_split_ands; go_simp) <;> with_reducible rfl
    clear hS
    try simp only [Act.put, List.setIfInBounds_toArray, List.set_cons_zero, List.set_cons_succ]
    have hS := HSp.out _ bP bU bQ
    refine wpAnyH_take (i := 17) (oi := { dst := some 42, op := Go.Op.load 2 (Go.Operand.tmp 41), type := 2, pos := "l12_bearings.go:197", after := #[{ on := 16, ground := Go.Ground.data }, { on := 26, ground := Go.Ground.gcOnly Go.Departure.lateStores }], guard := none }) (v := ?_) rfl (by kernel_rfl) (by kernel_rfl) (by kernel_rfl) (fun _ _ _ h => h) (Or.inl ⟨by rfl, ?_⟩) hS ?_
    rotate_left
    · (intro w hSw; have hSw := (HSd.out w).1 hSw; go_split_ands; go_simp) <;> with_reducible rfl
    clear hS
    try simp only [Act.put, List.setIfInBounds_toArray, List.set_cons_zero, List.set_cons_succ]
    have hS := HSp.out _ bP bU bQ
    refine wpAnyH_take (i := 18) (oi := { dst := some 43, op := Go.Op.binOp Go.BinOp.mul 2 (Go.Operand.tmp 40) (Go.Operand.tmp 42) 2, type := 2, pos := "l12_bearings.go:197", after := #[{ on := 15, ground := Go.Ground.data }, { on := 17, ground := Go.Ground.data }, { on := 26, ground := Go.Ground.gcOnly Go.Departure.lateStores }], guard := none }) (v := ?_) rfl (by kernel_rfl) (by kernel_rfl) (by kernel_rfl) (fun _ _ _ h => h) (Or.inl ⟨by rfl, ?_⟩) hS ?_
    rotate_left
    · (intro w hSw; have hSw := (HSd.out w).1 hSw; go_split_ands; go_simp) <;> with_reducible rfl
    clear hS
    try simp only [Act.put, List.setIfInBounds_toArray, List.set_cons_zero, List.set_cons_succ]
    have hS := HSp.out _ bP bU bQ
    refine wpAnyH_take (i := 19) (oi := { dst := some 44, op := Go.Op.binOp Go.BinOp.add 2 (Go.Operand.tmp 39) (Go.Operand.tmp 43) 2, type := 2, pos := "l12_bearings.go:197", after := #[{ on := 14, ground := Go.Ground.data }, { on := 18, ground := Go.Ground.data }, { on := 26, ground := Go.Ground.gcOnly Go.Departure.lateStores }], guard := none }) (v := ?_) rfl (by kernel_rfl) (by kernel_rfl) (by kernel_rfl) (fun _ _ _ h => h) (Or.inl ⟨by rfl, ?_⟩) hS ?_
    rotate_left
    · (intro w hSw; have hSw := (HSd.out w).1 hSw; go_split_ands; go_simp) <;> with_reducible rfl
    clear hS
    try simp only [Act.put, List.setIfInBounds_toArray, List.set_cons_zero, List.set_cons_succ]
    have hS := HSp.out _ bP bU bQ
    refine wpAnyH_take (i := 20) (oi := { dst := some 45, op := Go.Op.fieldAddr 25 (Go.Operand.tmp 9) 1, type := 0, pos := "l12_bearings.go:197", after := #[{ on := 26, ground := Go.Ground.gcOnly Go.Departure.lateStores }], guard := none }) (v := ?_) rfl (by kernel_rfl) (by kernel_rfl) (by kernel_rfl) (fun _ _ _ h => h) (Or.inl ⟨by rfl, ?_⟩) hS ?_
    rotate_left
    · (intro w hSw; have hSw := (HSd.out w).1 hSw; go_split_ands; go_simp) <;> with_reducible rfl
    clear hS
    try simp only [Act.put, List.setIfInBounds_toArray, List.set_cons_zero, List.set_cons_succ]
    have hS := HSp.out _ bP bU bQ
    refine wpAnyH_take (i := 21) (oi := { dst := some 46, op := Go.Op.load 2 (Go.Operand.tmp 45), type := 2, pos := "l12_bearings.go:197", after := #[{ on := 20, ground := Go.Ground.data }, { on := 26, ground := Go.Ground.gcOnly Go.Departure.lateStores }], guard := none }) (v := ?_) rfl (by kernel_rfl) (by kernel_rfl) (by kernel_rfl) (fun _ _ _ h => h) (Or.inl ⟨by rfl, ?_⟩) hS ?_
    rotate_left
    · (intro w hSw; have hSw := (HSd.out w).1 hSw; go_split_ands; go_simp) <;> with_reducible rfl
    clear hS
    try simp only [Act.put, List.setIfInBounds_toArray, List.set_cons_zero, List.set_cons_succ]
    have hS := HSp.out _ bP bU bQ
    refine wpAnyH_take (i := 22) (oi := { dst := some 47, op := Go.Op.binOp Go.BinOp.sub 2 (Go.Operand.tmp 44) (Go.Operand.tmp 46) 2, type := 2, pos := "l12_bearings.go:197", after := #[{ on := 19, ground := Go.Ground.data }, { on := 21, ground := Go.Ground.data }, { on := 26, ground := Go.Ground.gcOnly Go.Departure.lateStores }], guard := none }) (v := ?_) rfl (by kernel_rfl) (by kernel_rfl) (by kernel_rfl) (fun _ _ _ h => h) (Or.inl ⟨by rfl, ?_⟩) hS ?_
    rotate_left
    · (intro w hSw; have hSw := (HSd.out w).1 hSw; go_split_ands; go_simp) <;> with_reducible rfl
    clear hS
    try simp only [Act.put, List.setIfInBounds_toArray, List.set_cons_zero, List.set_cons_succ]
    have hS := HSp.out _ bP bU bQ
    refine wpAnyH_take (i := 23) (oi := { dst := some 48, op := Go.Op.build 25 #[(0, Go.Operand.tmp 37), (1, Go.Operand.tmp 47)], type := 25, pos := "l12_bearings.go:197", after := #[{ on := 12, ground := Go.Ground.data }, { on := 22, ground := Go.Ground.data }, { on := 26, ground := Go.Ground.gcOnly Go.Departure.lateStores }], guard := none }) (v := ?_) rfl (by kernel_rfl) (by kernel_rfl) (by kernel_rfl) (fun _ _ _ h => h) (Or.inl ⟨by rfl, ?_⟩) hS ?_
    rotate_left
    · (intro w hSw; have hSw := (HSd.out w).1 hSw; go_split_ands; go_simp) <;> with_reducible rfl
    clear hS
    try simp only [Act.put, List.setIfInBounds_toArray, List.set_cons_zero, List.set_cons_succ]
    refine wpAnyH_ready (rs := [24]) (by decide +kernel) (by simp) ?_
    refine AllReadyH.cons (o := { dst := none, op := Go.Op.store 25 (Go.Operand.tmp 2) (Go.Operand.tmp 25), type := 0, pos := "l12_bearings.go:197", after := #[{ on := 0, ground := Go.Ground.data }, { on := 0, ground := Go.Ground.phase }, { on := 1, ground := Go.Ground.textOnly Go.Departure.lateStores }, { on := 2, ground := Go.Ground.textOnly Go.Departure.lateStores }, { on := 3, ground := Go.Ground.textOnly Go.Departure.lateStores }, { on := 4, ground := Go.Ground.textOnly Go.Departure.lateStores }, { on := 5, ground := Go.Ground.textOnly Go.Departure.lateStores }, { on := 6, ground := Go.Ground.textOnly Go.Departure.lateStores }, { on := 7, ground := Go.Ground.textOnly Go.Departure.lateStores }, { on := 8, ground := Go.Ground.textOnly Go.Departure.lateStores }, { on := 9, ground := Go.Ground.textOnly Go.Departure.lateStores }, { on := 10, ground := Go.Ground.textOnly Go.Departure.lateStores }, { on := 11, ground := Go.Ground.textOnly Go.Departure.lateStores }, { on := 12, ground := Go.Ground.textOnly Go.Departure.lateStores }, { on := 13, ground := Go.Ground.textOnly Go.Departure.lateStores }, { on := 14, ground := Go.Ground.textOnly Go.Departure.lateStores }, { on := 15, ground := Go.Ground.textOnly Go.Departure.lateStores }, { on := 16, ground := Go.Ground.textOnly Go.Departure.lateStores }, { on := 17, ground := Go.Ground.textOnly Go.Departure.lateStores }, { on := 18, ground := Go.Ground.textOnly Go.Departure.lateStores }, { on := 19, ground := Go.Ground.textOnly Go.Departure.lateStores }, { on := 20, ground := Go.Ground.textOnly Go.Departure.lateStores }, { on := 21, ground := Go.Ground.textOnly Go.Departure.lateStores }, { on := 22, ground := Go.Ground.textOnly Go.Departure.lateStores }, { on := 23, ground := Go.Ground.textOnly Go.Departure.lateStores }], guard := none }) rfl (fun Kn hK => ?_) AllReadyH.nil
    have bR1_0 := bR1.cell 0 rfl
    have bR1_1 := bR1.cell 1 rfl
    have bR1_f0 := bR1.frozen 0
    have bR1_f1 := bR1.frozen 1
    have bR1_l := bR1.lt
    go_simp
    clear bR1_0 bR1_f0 bR1_1 bR1_f1 bR1_l
    generalize hX : World.setCell _ _ _ = V1
    have hb : Below w.heap.size w V1 := by rw [← hX]; exact ((HB.out.setCell (p := ⟨w.heap.size, 0, none⟩) (by first | omega | (dsimp only; omega)) _).setCell (p := ⟨w.heap.size, 1, none⟩) (by first | omega | (dsimp only; omega)) _)
    replace bR2 : Bk V1 (w.heap.size + 1) #[.int .i64 0, .int .i64 0] 25 := by rw [← hX]; exact (Bk.other (Bk.other bR2 (by omega) 0 _) (by omega) 1 _)
    replace bR3 : Bk V1 (w.heap.size + 1 + 1) #[.int .i64 0, .int .i64 0] 25 := by rw [← hX]; exact (Bk.other (Bk.other bR3 (by omega) 0 _) (by omega) 1 _)
    replace bR4 : Bk V1 (w.heap.size + 1 + 1 + 1) #[.int .i64 0, .int .i64 0] 25 := by rw [← hX]; exact (Bk.other (Bk.other bR4 (by omega) 0 _) (by omega) 1 _)
    replace bP : Bk V1 (gP) #[.int .i64 px, .int .i64 py] 25 := by rw [← hX]; exact (Bk.other (Bk.other bP (by omega) 0 _) (by omega) 1 _)
    replace bU : Bk V1 (gU) #[.int .i64 ux, .int .i64 uy] 25 := by rw [← hX]; exact (Bk.other (Bk.other bU (by omega) 0 _) (by omega) 1 _)
    replace bQ : Bk V1 (gQ) #[.int .i64 qx, .int .i64 qy] 25 := by rw [← hX]; exact (Bk.other (Bk.other bQ (by omega) 0 _) (by omega) 1 _)
    replace bR1 : Bk V1 (w.heap.size) #[.int .i64 px, .int .i64 py] 25 := by rw [← hX]; exact (Bk.set (Bk.set bR1 0 _ rfl) 1 _ rfl)
    clear hX
    replace HB := Lib.hid hb
    clear hb
    refine hK.out _ _ (HSp.out _ bP bU bQ) (fun _ => ?_)
    clear hK Kn
    refine wpAnyH_ready (rs := [25]) (by decide +kernel) (by simp) ?_
    refine AllReadyH.cons (o := { dst := none, op := Go.Op.store 25 (Go.Operand.tmp 3) (Go.Operand.tmp 26), type := 0, pos := "l12_bearings.go:197", after := #[{ on := 1, ground := Go.Ground.data }, { on := 24, ground := Go.Ground.chain }, { on := 0, ground := Go.Ground.phase }, { on := 1, ground := Go.Ground.phase }, { on := 2, ground := Go.Ground.textOnly Go.Departure.lateStores }, { on := 3, ground := Go.Ground.textOnly Go.Departure.lateStores }, { on := 4, ground := Go.Ground.textOnly Go.Departure.lateStores }, { on := 5, ground := Go.Ground.textOnly Go.Departure.lateStores }, { on := 6, ground := Go.Ground.textOnly Go.Departure.lateStores }, { on := 7, ground := Go.Ground.textOnly Go.Departure.lateStores }, { on := 8, ground := Go.Ground.textOnly Go.Departure.lateStores }, { on := 9, ground := Go.Ground.textOnly Go.Departure.lateStores }, { on := 10, ground := Go.Ground.textOnly Go.Departure.lateStores }, { on := 11, ground := Go.Ground.textOnly Go.Departure.lateStores }, { on := 12, ground := Go.Ground.textOnly Go.Departure.lateStores }, { on := 13, ground := Go.Ground.textOnly Go.Departure.lateStores }, { on := 14, ground := Go.Ground.textOnly Go.Departure.lateStores }, { on := 15, ground := Go.Ground.textOnly Go.Departure.lateStores }, { on := 16, ground := Go.Ground.textOnly Go.Departure.lateStores }, { on := 17, ground := Go.Ground.textOnly Go.Departure.lateStores }, { on := 18, ground := Go.Ground.textOnly Go.Departure.lateStores }, { on := 19, ground := Go.Ground.textOnly Go.Departure.lateStores }, { on := 20, ground := Go.Ground.textOnly Go.Departure.lateStores }, { on := 21, ground := Go.Ground.textOnly Go.Departure.lateStores }, { on := 22, ground := Go.Ground.textOnly Go.Departure.lateStores }, { on := 23, ground := Go.Ground.textOnly Go.Departure.lateStores }, { on := 24, ground := Go.Ground.phase }], guard := none }) rfl (fun Kn hK => ?_) AllReadyH.nil
    have bR2_0 := bR2.cell 0 rfl
    have bR2_1 := bR2.cell 1 rfl
    have bR2_f0 := bR2.frozen 0
    have bR2_f1 := bR2.frozen 1
    have bR2_l := bR2.lt
    go_simp
    clear bR2_0 bR2_f0 bR2_1 bR2_f1 bR2_l
    generalize hX : World.setCell _ _ _ = V2
    have hb : Below w.heap.size w V2 := by rw [← hX]; exact ((HB.out.setCell (p := ⟨w.heap.size + 1, 0, none⟩) (by first | omega | (dsimp only; omega)) _).setCell (p := ⟨w.heap.size + 1, 1, none⟩) (by first | omega | (dsimp only; omega)) _)
    replace bR1 : Bk V2 (w.heap.size) #[.int .i64 px, .int .i64 py] 25 := by rw [← hX]; exact (Bk.other (Bk.other bR1 (by omega) 0 _) (by omega) 1 _)
    replace bR3 : Bk V2 (w.heap.size + 1 + 1) #[.int .i64 0, .int .i64 0] 25 := by rw [← hX]; exact (Bk.other (Bk.other bR3 (by omega) 0 _) (by omega) 1 _)
    replace bR4 : Bk V2 (w.heap.size + 1 + 1 + 1) #[.int .i64 0, .int .i64 0] 25 := by rw [← hX]; exact (Bk.other (Bk.other bR4 (by omega) 0 _) (by omega) 1 _)
    replace bP : Bk V2 (gP) #[.int .i64 px, .int .i64 py] 25 := by rw [← hX]; exact (Bk.other (Bk.other bP (by omega) 0 _) (by omega) 1 _)
    replace bU : Bk V2 (gU) #[.int .i64 ux, .int .i64 uy] 25 := by rw [← hX]; exact (Bk.other (Bk.other bU (by omega) 0 _) (by omega) 1 _)
    replace bQ : Bk V2 (gQ) #[.int .i64 qx, .int .i64 qy] 25 := by rw [← hX]; exact (Bk.other (Bk.other bQ (by omega) 0 _) (by omega) 1 _)
    replace bR2 : Bk V2 (w.heap.size + 1) #[.int .i64 ux, .int .i64 uy] 25 := by rw [← hX]; exact (Bk.set (Bk.set bR2 0 _ rfl) 1 _ rfl)
    clear hX
    replace HB := Lib.hid hb
    clear hb
    refine hK.out _ _ (HSp.out _ bP bU bQ) (fun _ => ?_)
    clear hK Kn
    refine wpAnyH_ready (rs := [26]) (by decide +kernel) (by simp) ?_
    refine AllReadyH.cons (o := { dst := none, op := Go.Op.store 25 (Go.Operand.tmp 4) (Go.Operand.tmp 27), type := 0, pos := "l12_bearings.go:197", after := #[{ on := 2, ground := Go.Ground.data }, { on := 25, ground := Go.Ground.chain }, { on := 0, ground := Go.Ground.phase }, { on := 1, ground := Go.Ground.phase }, { on := 2, ground := Go.Ground.phase }, { on := 3, ground := Go.Ground.textOnly Go.Departure.lateStores }, { on := 4, ground := Go.Ground.textOnly Go.Departure.lateStores }, { on := 5, ground := Go.Ground.textOnly Go.Departure.lateStores }, { on := 6, ground := Go.Ground.textOnly Go.Departure.lateStores }, { on := 7, ground := Go.Ground.textOnly Go.Departure.lateStores }, { on := 8, ground := Go.Ground.textOnly Go.Departure.lateStores }, { on := 9, ground := Go.Ground.textOnly Go.Departure.lateStores }, { on := 10, ground := Go.Ground.textOnly Go.Departure.lateStores }, { on := 11, ground := Go.Ground.textOnly Go.Departure.lateStores }, { on := 12, ground := Go.Ground.textOnly Go.Departure.lateStores }, { on := 13, ground := Go.Ground.textOnly Go.Departure.lateStores }, { on := 14, ground := Go.Ground.textOnly Go.Departure.lateStores }, { on := 15, ground := Go.Ground.textOnly Go.Departure.lateStores }, { on := 16, ground := Go.Ground.textOnly Go.Departure.lateStores }, { on := 17, ground := Go.Ground.textOnly Go.Departure.lateStores }, { on := 18, ground := Go.Ground.textOnly Go.Departure.lateStores }, { on := 19, ground := Go.Ground.textOnly Go.Departure.lateStores }, { on := 20, ground := Go.Ground.textOnly Go.Departure.lateStores }, { on := 21, ground := Go.Ground.textOnly Go.Departure.lateStores }, { on := 22, ground := Go.Ground.textOnly Go.Departure.lateStores }, { on := 23, ground := Go.Ground.textOnly Go.Departure.lateStores }, { on := 24, ground := Go.Ground.phase }, { on := 25, ground := Go.Ground.phase }], guard := none }) rfl (fun Kn hK => ?_) AllReadyH.nil
    have bR3_0 := bR3.cell 0 rfl
    have bR3_1 := bR3.cell 1 rfl
    have bR3_f0 := bR3.frozen 0
    have bR3_f1 := bR3.frozen 1
    have bR3_l := bR3.lt
    go_simp
    clear bR3_0 bR3_f0 bR3_1 bR3_f1 bR3_l
    generalize hX : World.setCell _ _ _ = V3
    have hb : Below w.heap.size w V3 := by rw [← hX]; exact ((HB.out.setCell (p := ⟨w.heap.size + 1 + 1, 0, none⟩) (by first | omega | (dsimp only; omega)) _).setCell (p := ⟨w.heap.size + 1 + 1, 1, none⟩) (by first | omega | (dsimp only; omega)) _)
    replace bR1 : Bk V3 (w.heap.size) #[.int .i64 px, .int .i64 py] 25 := by rw [← hX]; exact (Bk.other (Bk.other bR1 (by omega) 0 _) (by omega) 1 _)
    replace bR2 : Bk V3 (w.heap.size + 1) #[.int .i64 ux, .int .i64 uy] 25 := by rw [← hX]; exact (Bk.other (Bk.other bR2 (by omega) 0 _) (by omega) 1 _)
    replace bR4 : Bk V3 (w.heap.size + 1 + 1 + 1) #[.int .i64 0, .int .i64 0] 25 := by rw [← hX]; exact (Bk.other (Bk.other bR4 (by omega) 0 _) (by omega) 1 _)
    replace bP : Bk V3 (gP) #[.int .i64 px, .int .i64 py] 25 := by rw [← hX]; exact (Bk.other (Bk.other bP (by omega) 0 _) (by omega) 1 _)
    replace bU : Bk V3 (gU) #[.int .i64 ux, .int .i64 uy] 25 := by rw [← hX]; exact (Bk.other (Bk.other bU (by omega) 0 _) (by omega) 1 _)
    replace bQ : Bk V3 (gQ) #[.int .i64 qx, .int .i64 qy] 25 := by rw [← hX]; exact (Bk.other (Bk.other bQ (by omega) 0 _) (by omega) 1 _)
    replace bR3 : Bk V3 (w.heap.size + 1 + 1) #[.int .i64 qx, .int .i64 qy] 25 := by rw [← hX]; exact (Bk.set (Bk.set bR3 0 _ rfl) 1 _ rfl)
    clear hX
    replace HB := Lib.hid hb
    clear hb
    refine hK.out _ _ (HSp.out _ bP bU bQ) (fun _ => ?_)
    clear hK Kn
    refine wpAnyH_ready (rs := [27]) (by decide +kernel) (by simp) ?_
    refine AllReadyH.cons (o := { dst := none, op := Go.Op.store 25 (Go.Operand.tmp 5) (Go.Operand.tmp 48), type := 0, pos := "l12_bearings.go:197", after := #[{ on := 23, ground := Go.Ground.data }, { on := 26, ground := Go.Ground.chain }, { on := 0, ground := Go.Ground.phase }, { on := 1, ground := Go.Ground.phase }, { on := 2, ground := Go.Ground.phase }, { on := 3, ground := Go.Ground.phase }, { on := 4, ground := Go.Ground.phase }, { on := 5, ground := Go.Ground.phase }, { on := 6, ground := Go.Ground.phase }, { on := 7, ground := Go.Ground.phase }, { on := 8, ground := Go.Ground.phase }, { on := 9, ground := Go.Ground.phase }, { on := 10, ground := Go.Ground.phase }, { on := 11, ground := Go.Ground.phase }, { on := 12, ground := Go.Ground.phase }, { on := 13, ground := Go.Ground.phase }, { on := 14, ground := Go.Ground.phase }, { on := 15, ground := Go.Ground.phase }, { on := 16, ground := Go.Ground.phase }, { on := 17, ground := Go.Ground.phase }, { on := 18, ground := Go.Ground.phase }, { on := 19, ground := Go.Ground.phase }, { on := 20, ground := Go.Ground.phase }, { on := 21, ground := Go.Ground.phase }, { on := 22, ground := Go.Ground.phase }, { on := 23, ground := Go.Ground.phase }, { on := 24, ground := Go.Ground.phase }, { on := 25, ground := Go.Ground.phase }, { on := 26, ground := Go.Ground.phase }], guard := none }) rfl (fun Kn hK => ?_) AllReadyH.nil
    have bR4_0 := bR4.cell 0 rfl
    have bR4_1 := bR4.cell 1 rfl
    have bR4_f0 := bR4.frozen 0
    have bR4_f1 := bR4.frozen 1
    have bR4_l := bR4.lt
    go_simp
    clear bR4_0 bR4_f0 bR4_1 bR4_f1 bR4_l
    generalize hX : World.setCell _ _ _ = V4
    have hb : Below w.heap.size w V4 := by rw [← hX]; exact ((HB.out.setCell (p := ⟨w.heap.size + 1 + 1 + 1, 0, none⟩) (by first | omega | (dsimp only; omega)) _).setCell (p := ⟨w.heap.size + 1 + 1 + 1, 1, none⟩) (by first | omega | (dsimp only; omega)) _)
    replace bR1 : Bk V4 (w.heap.size) #[.int .i64 px, .int .i64 py] 25 := by rw [← hX]; exact (Bk.other (Bk.other bR1 (by omega) 0 _) (by omega) 1 _)
    replace bR2 : Bk V4 (w.heap.size + 1) #[.int .i64 ux, .int .i64 uy] 25 := by rw [← hX]; exact (Bk.other (Bk.other bR2 (by omega) 0 _) (by omega) 1 _)
    replace bR3 : Bk V4 (w.heap.size + 1 + 1) #[.int .i64 qx, .int .i64 qy] 25 := by rw [← hX]; exact (Bk.other (Bk.other bR3 (by omega) 0 _) (by omega) 1 _)
    replace bP : Bk V4 (gP) #[.int .i64 px, .int .i64 py] 25 := by rw [← hX]; exact (Bk.other (Bk.other bP (by omega) 0 _) (by omega) 1 _)
    replace bU : Bk V4 (gU) #[.int .i64 ux, .int .i64 uy] 25 := by rw [← hX]; exact (Bk.other (Bk.other bU (by omega) 0 _) (by omega) 1 _)
    replace bQ : Bk V4 (gQ) #[.int .i64 qx, .int .i64 qy] 25 := by rw [← hX]; exact (Bk.other (Bk.other bQ (by omega) 0 _) (by omega) 1 _)
    replace bR4 : Bk V4 (w.heap.size + 1 + 1 + 1) #[.int .i64 X, .int .i64 Y] 25 := by rw [← hX]; exact (Bk.set (Bk.set bR4 0 _ rfl) 1 _ rfl)
    clear hX
    replace HB := Lib.hid hb
    clear hb
    refine hK.out _ _ (HSp.out _ bP bU bQ) (fun _ => ?_)
    clear hK Kn
    refine wpAnyH_done (by kernel_rfl) ?_ _
    have cbR10 := bR1.cell 0 rfl
    have cbR11 := bR1.cell 1 rfl
    have cbR20 := bR2.cell 0 rfl
    have cbR21 := bR2.cell 1 rfl
    have cbR30 := bR3.cell 0 rfl
    have cbR31 := bR3.cell 1 rfl
    have cbR40 := bR4.cell 0 rfl
    have cbR41 := bR4.cell 1 rfl
    repeat (first | go_values | go_skip | go_guarded | go_step | go_upon | (dsimp only))
    exact bodyPost_ret (v := .tuple #[.agg #[.int .i64 px, .int .i64 py], .agg #[.int .i64 ux, .int .i64 uy], .agg #[.int .i64 qx, .int .i64 qy], .agg #[.int .i64 X, .int .i64 Y]]) (by simp [results, Try.results41, go_sem, cbR10, cbR11, cbR20, cbR21, cbR30, cbR31, cbR40, cbR41]) rfl ⟨px, py, ux, uy, qx, qy, X, Y, rfl, HB.out⟩
  case neg =>
    have h0b : (q == 0) = false := by simpa using h0
    clear h0
    have bR1_0 := bR1.cell 0 rfl
    have bR1_1 := bR1.cell 1 rfl
    have bR1_l := bR1.lt
    have bR2_0 := bR2.cell 0 rfl
    have bR2_1 := bR2.cell 1 rfl
    have bR2_l := bR2.lt
    have bR3_0 := bR3.cell 0 rfl
    have bR3_1 := bR3.cell 1 rfl
    have bR3_l := bR3.lt
    have bR4_0 := bR4.cell 0 rfl
    have bR4_1 := bR4.cell 1 rfl
    have bR4_l := bR4.lt
    have bP_0 := bP.cell 0 rfl
    have bP_1 := bP.cell 1 rfl
    have bP_l := bP.lt
    have bU_0 := bU.cell 0 rfl
    have bU_1 := bU.cell 1 rfl
    have bU_l := bU.lt
    have bQ_0 := bQ.cell 0 rfl
    have bQ_1 := bQ.cell 1 rfl
    have bQ_l := bQ.lt
    go_upto_region 6 with fail
    clear bR1_0 bR1_1 bR1_l bR2_0 bR2_1 bR2_l bR3_0 bR3_1 bR3_l bR4_0 bR4_1 bR4_l bP_0 bP_1 bP_l bU_0 bU_1 bU_l bQ_0 bQ_1 bQ_l
    obtain ⟨S, hSd⟩ : ∃ S : World → Prop, ∀ w', S w' ↔ (w'.cell? ⟨gP, 0, none⟩ = some (.int .i64 px) ∧ w'.cell? ⟨gP, 1, none⟩ = some (.int .i64 py) ∧ w'.cell? ⟨gU, 0, none⟩ = some (.int .i64 ux) ∧ w'.cell? ⟨gU, 1, none⟩ = some (.int .i64 uy) ∧ w'.cell? ⟨gQ, 0, none⟩ = some (.int .i64 qx) ∧ w'.cell? ⟨gQ, 1, none⟩ = some (.int .i64 qy)) := ⟨_, fun _ => Iff.rfl⟩
    have HSp : Hid (∀ w' : World, Bk w' (gP) #[.int .i64 px, .int .i64 py] 25 → Bk w' (gU) #[.int .i64 ux, .int .i64 uy] 25 → Bk w' (gQ) #[.int .i64 qx, .int .i64 qy] 25 → S w') := Lib.hid (fun w' bP bU bQ => (hSd w').2 ⟨bP.cell 0 rfl, bP.cell 1 rfl, bU.cell 0 rfl, bU.cell 1 rfl, bQ.cell 0 rfl, bQ.cell 1 rfl⟩)
    have HSd := Lib.hid hSd
    clear hSd
    refine wp_region_held_drew (S := S) (by kernel_rfl) ?_ (fun hH => ?_)
    · exact (HSp.out _ bP bU bQ : S (World.drew ws6))
    clear hH
    generalize hX : World.drew ws6 = V0
    replace bR1 : Bk V0 (w.heap.size) #[.int .i64 0, .int .i64 0] 25 := by rw [← hX]; exact bR1
    replace bR2 : Bk V0 (w.heap.size + 1) #[.int .i64 0, .int .i64 0] 25 := by rw [← hX]; exact bR2
    replace bR3 : Bk V0 (w.heap.size + 1 + 1) #[.int .i64 0, .int .i64 0] 25 := by rw [← hX]; exact bR3
    replace bR4 : Bk V0 (w.heap.size + 1 + 1 + 1) #[.int .i64 0, .int .i64 0] 25 := by rw [← hX]; exact bR4
    replace bP : Bk V0 (gP) #[.int .i64 px, .int .i64 py] 25 := by rw [← hX]; exact bP
    replace bU : Bk V0 (gU) #[.int .i64 ux, .int .i64 uy] 25 := by rw [← hX]; exact bU
    replace bQ : Bk V0 (gQ) #[.int .i64 qx, .int .i64 qy] 25 := by rw [← hX]; exact bQ
    have hb : Below ws6.heap.size ws6 V0 := by rw [← hX]; exact (Below.refl _ _).drew
    clear hX
    replace HS := Lib.hid (HS.out.bel hb)
    replace HB := Lib.hid (bel_end HB.out hb)
    clear hb
    have hS := HSp.out _ bP bU bQ
    refine wpAnyH_take (i := 0) (oi := { dst := some 49, op := Go.Op.load 25 (Go.Operand.tmp 7), type := 25, pos := "l12_bearings.go:199", after := #[], guard := none }) (v := ?_) rfl (by kernel_rfl) (by kernel_rfl) (by kernel_rfl) (fun _ _ _ h => h) (Or.inl ⟨by rfl, ?_⟩) hS ?_
    rotate_left
    · (intro w hSw; have hSw := (HSd.out w).1 hSw; go_split_ands; go_simp) <;> with_reducible rfl
    clear hS
    try simp only [Act.put, List.setIfInBounds_toArray, List.set_cons_zero, List.set_cons_succ]
    have hS := HSp.out _ bP bU bQ
    refine wpAnyH_take (i := 1) (oi := { dst := some 50, op := Go.Op.load 25 (Go.Operand.tmp 8), type := 25, pos := "l12_bearings.go:199", after := #[{ on := 5, ground := Go.Ground.gcOnly Go.Departure.lateStores }], guard := none }) (v := ?_) rfl (by kernel_rfl) (by kernel_rfl) (by kernel_rfl) (fun _ _ _ h => h) (Or.inl ⟨by rfl, ?_⟩) hS ?_
    rotate_left
    · (intro w hSw; have hSw := (HSd.out w).1 hSw; go_split_ands; go_simp) <;> with_reducible rfl
    clear hS
    try simp only [Act.put, List.setIfInBounds_toArray, List.set_cons_zero, List.set_cons_succ]
    have hS := HSp.out _ bP bU bQ
    refine wpAnyH_take (i := 2) (oi := { dst := some 51, op := Go.Op.load 25 (Go.Operand.tmp 9), type := 25, pos := "l12_bearings.go:199", after := #[{ on := 6, ground := Go.Ground.gcOnly Go.Departure.lateStores }], guard := none }) (v := ?_) rfl (by kernel_rfl) (by kernel_rfl) (by kernel_rfl) (fun _ _ _ h => h) (Or.inl ⟨by rfl, ?_⟩) hS ?_
    rotate_left
    · (intro w hSw; have hSw := (HSd.out w).1 hSw; go_split_ands; go_simp) <;> with_reducible rfl
    clear hS
    try simp only [Act.put, List.setIfInBounds_toArray, List.set_cons_zero, List.set_cons_succ]
    have hS := HSp.out _ bP bU bQ
    refine wpAnyH_take (i := 3) (oi := { dst := some 52, op := Go.Op.move (Go.Operand.tmp 6), type := 89, pos := "l12_bearings.go:199", after := #[], guard := none }) (v := ?_) rfl (by kernel_rfl) (by kernel_rfl) (by kernel_rfl) (fun _ _ _ h => h) (Or.inl ⟨by rfl, ?_⟩) hS ?_
    rotate_left
    · (intro w hSw; have hSw := (HSd.out w).1 hSw; go_split_ands; go_simp) <;> with_reducible rfl
    clear hS
    try simp only [Act.put, List.setIfInBounds_toArray, List.set_cons_zero, List.set_cons_succ]
    refine wpAnyH_ready (rs := [4]) (by decide +kernel) (by simp) ?_
    refine AllReadyH.cons (o := { dst := some 53, op := Go.Op.call { callee := Go.Callee.value (Go.Operand.func 73), args := #[Go.Operand.tmp 52], argTypes := #[89] }, type := 25, pos := "l12_bearings.go:199", after := #[{ on := 3, ground := Go.Ground.data }], guard := none }) rfl (fun Kn hK => ?_) AllReadyH.nil
    first | go_at_call 73 | (go_simp; go_at_call 73)
    refine (dbr_any _ s HS.out).mono ?_
    rintro e V1 ⟨X, Y, rfl, hs, hg⟩
    try dsimp only
    try simp only [Act.put, List.setIfInBounds_toArray, List.set_cons_zero, List.set_cons_succ]
    replace bR1 := bR1.kept hg (by simp; omega)
    replace bR2 := bR2.kept hg (by simp; omega)
    replace bR3 := bR3.kept hg (by simp; omega)
    replace bR4 := bR4.kept hg (by simp; omega)
    replace bP := bP.kept hg (by simp; omega)
    replace bU := bU.kept hg (by simp; omega)
    replace bQ := bQ.kept hg (by simp; omega)
    replace HB := Lib.hid (HB.out.trans (below_of_grown hg (by omega) (by have := HB.out.size; omega)))
    replace HS := Lib.hid hs
    clear hs hg
    refine hK.out _ _ (HSp.out _ bP bU bQ) (fun _ => ?_)
    clear hK Kn
    refine wpAnyH_ready (rs := [5]) (by decide +kernel) (by simp) ?_
    refine AllReadyH.cons (o := { dst := none, op := Go.Op.store 25 (Go.Operand.tmp 2) (Go.Operand.tmp 49), type := 0, pos := "l12_bearings.go:199", after := #[{ on := 0, ground := Go.Ground.data }, { on := 4, ground := Go.Ground.chain }, { on := 0, ground := Go.Ground.phase }, { on := 1, ground := Go.Ground.textOnly Go.Departure.lateStores }, { on := 2, ground := Go.Ground.textOnly Go.Departure.lateStores }, { on := 3, ground := Go.Ground.textOnly Go.Departure.lateStores }, { on := 4, ground := Go.Ground.textOnly Go.Departure.lateStoresUnsure }], guard := none }) rfl (fun Kn hK => ?_) AllReadyH.nil
    have bR1_0 := bR1.cell 0 rfl
    have bR1_1 := bR1.cell 1 rfl
    have bR1_f0 := bR1.frozen 0
    have bR1_f1 := bR1.frozen 1
    have bR1_l := bR1.lt
    go_simp
    clear bR1_0 bR1_f0 bR1_1 bR1_f1 bR1_l
    generalize hX : World.setCell _ _ _ = V2
    have hb : Below w.heap.size w V2 := by rw [← hX]; exact ((HB.out.setCell (p := ⟨w.heap.size, 0, none⟩) (by first | omega | (dsimp only; omega)) _).setCell (p := ⟨w.heap.size, 1, none⟩) (by first | omega | (dsimp only; omega)) _)
    replace bR2 : Bk V2 (w.heap.size + 1) #[.int .i64 0, .int .i64 0] 25 := by rw [← hX]; exact (Bk.other (Bk.other bR2 (by omega) 0 _) (by omega) 1 _)
    replace bR3 : Bk V2 (w.heap.size + 1 + 1) #[.int .i64 0, .int .i64 0] 25 := by rw [← hX]; exact (Bk.other (Bk.other bR3 (by omega) 0 _) (by omega) 1 _)
    replace bR4 : Bk V2 (w.heap.size + 1 + 1 + 1) #[.int .i64 0, .int .i64 0] 25 := by rw [← hX]; exact (Bk.other (Bk.other bR4 (by omega) 0 _) (by omega) 1 _)
    replace bP : Bk V2 (gP) #[.int .i64 px, .int .i64 py] 25 := by rw [← hX]; exact (Bk.other (Bk.other bP (by omega) 0 _) (by omega) 1 _)
    replace bU : Bk V2 (gU) #[.int .i64 ux, .int .i64 uy] 25 := by rw [← hX]; exact (Bk.other (Bk.other bU (by omega) 0 _) (by omega) 1 _)
    replace bQ : Bk V2 (gQ) #[.int .i64 qx, .int .i64 qy] 25 := by rw [← hX]; exact (Bk.other (Bk.other bQ (by omega) 0 _) (by omega) 1 _)
    replace bR1 : Bk V2 (w.heap.size) #[.int .i64 px, .int .i64 py] 25 := by rw [← hX]; exact (Bk.set (Bk.set bR1 0 _ rfl) 1 _ rfl)
    clear hX
    replace HB := Lib.hid hb
    clear hb
    refine hK.out _ _ (HSp.out _ bP bU bQ) (fun _ => ?_)
    clear hK Kn
    refine wpAnyH_ready (rs := [6]) (by decide +kernel) (by simp) ?_
    refine AllReadyH.cons (o := { dst := none, op := Go.Op.store 25 (Go.Operand.tmp 3) (Go.Operand.tmp 50), type := 0, pos := "l12_bearings.go:199", after := #[{ on := 1, ground := Go.Ground.data }, { on := 5, ground := Go.Ground.chain }, { on := 0, ground := Go.Ground.phase }, { on := 1, ground := Go.Ground.phase }, { on := 2, ground := Go.Ground.textOnly Go.Departure.lateStores }, { on := 3, ground := Go.Ground.textOnly Go.Departure.lateStores }, { on := 4, ground := Go.Ground.textOnly Go.Departure.lateStoresUnsure }, { on := 5, ground := Go.Ground.phase }], guard := none }) rfl (fun Kn hK => ?_) AllReadyH.nil
    have bR2_0 := bR2.cell 0 rfl
    have bR2_1 := bR2.cell 1 rfl
    have bR2_f0 := bR2.frozen 0
    have bR2_f1 := bR2.frozen 1
    have bR2_l := bR2.lt
    go_simp
    clear bR2_0 bR2_f0 bR2_1 bR2_f1 bR2_l
    generalize hX : World.setCell _ _ _ = V3
    have hb : Below w.heap.size w V3 := by rw [← hX]; exact ((HB.out.setCell (p := ⟨w.heap.size + 1, 0, none⟩) (by first | omega | (dsimp only; omega)) _).setCell (p := ⟨w.heap.size + 1, 1, none⟩) (by first | omega | (dsimp only; omega)) _)
    replace bR1 : Bk V3 (w.heap.size) #[.int .i64 px, .int .i64 py] 25 := by rw [← hX]; exact (Bk.other (Bk.other bR1 (by omega) 0 _) (by omega) 1 _)
    replace bR3 : Bk V3 (w.heap.size + 1 + 1) #[.int .i64 0, .int .i64 0] 25 := by rw [← hX]; exact (Bk.other (Bk.other bR3 (by omega) 0 _) (by omega) 1 _)
    replace bR4 : Bk V3 (w.heap.size + 1 + 1 + 1) #[.int .i64 0, .int .i64 0] 25 := by rw [← hX]; exact (Bk.other (Bk.other bR4 (by omega) 0 _) (by omega) 1 _)
    replace bP : Bk V3 (gP) #[.int .i64 px, .int .i64 py] 25 := by rw [← hX]; exact (Bk.other (Bk.other bP (by omega) 0 _) (by omega) 1 _)
    replace bU : Bk V3 (gU) #[.int .i64 ux, .int .i64 uy] 25 := by rw [← hX]; exact (Bk.other (Bk.other bU (by omega) 0 _) (by omega) 1 _)
    replace bQ : Bk V3 (gQ) #[.int .i64 qx, .int .i64 qy] 25 := by rw [← hX]; exact (Bk.other (Bk.other bQ (by omega) 0 _) (by omega) 1 _)
    replace bR2 : Bk V3 (w.heap.size + 1) #[.int .i64 ux, .int .i64 uy] 25 := by rw [← hX]; exact (Bk.set (Bk.set bR2 0 _ rfl) 1 _ rfl)
    clear hX
    replace HB := Lib.hid hb
    clear hb
    refine hK.out _ _ (HSp.out _ bP bU bQ) (fun _ => ?_)
    clear hK Kn
    refine wpAnyH_ready (rs := [7]) (by decide +kernel) (by simp) ?_
    refine AllReadyH.cons (o := { dst := none, op := Go.Op.store 25 (Go.Operand.tmp 4) (Go.Operand.tmp 51), type := 0, pos := "l12_bearings.go:199", after := #[{ on := 2, ground := Go.Ground.data }, { on := 6, ground := Go.Ground.chain }, { on := 0, ground := Go.Ground.phase }, { on := 1, ground := Go.Ground.phase }, { on := 2, ground := Go.Ground.phase }, { on := 3, ground := Go.Ground.textOnly Go.Departure.lateStores }, { on := 4, ground := Go.Ground.textOnly Go.Departure.lateStoresUnsure }, { on := 5, ground := Go.Ground.phase }, { on := 6, ground := Go.Ground.phase }], guard := none }) rfl (fun Kn hK => ?_) AllReadyH.nil
    have bR3_0 := bR3.cell 0 rfl
    have bR3_1 := bR3.cell 1 rfl
    have bR3_f0 := bR3.frozen 0
    have bR3_f1 := bR3.frozen 1
    have bR3_l := bR3.lt
    go_simp
    clear bR3_0 bR3_f0 bR3_1 bR3_f1 bR3_l
    generalize hX : World.setCell _ _ _ = V4
    have hb : Below w.heap.size w V4 := by rw [← hX]; exact ((HB.out.setCell (p := ⟨w.heap.size + 1 + 1, 0, none⟩) (by first | omega | (dsimp only; omega)) _).setCell (p := ⟨w.heap.size + 1 + 1, 1, none⟩) (by first | omega | (dsimp only; omega)) _)
    replace bR1 : Bk V4 (w.heap.size) #[.int .i64 px, .int .i64 py] 25 := by rw [← hX]; exact (Bk.other (Bk.other bR1 (by omega) 0 _) (by omega) 1 _)
    replace bR2 : Bk V4 (w.heap.size + 1) #[.int .i64 ux, .int .i64 uy] 25 := by rw [← hX]; exact (Bk.other (Bk.other bR2 (by omega) 0 _) (by omega) 1 _)
    replace bR4 : Bk V4 (w.heap.size + 1 + 1 + 1) #[.int .i64 0, .int .i64 0] 25 := by rw [← hX]; exact (Bk.other (Bk.other bR4 (by omega) 0 _) (by omega) 1 _)
    replace bP : Bk V4 (gP) #[.int .i64 px, .int .i64 py] 25 := by rw [← hX]; exact (Bk.other (Bk.other bP (by omega) 0 _) (by omega) 1 _)
    replace bU : Bk V4 (gU) #[.int .i64 ux, .int .i64 uy] 25 := by rw [← hX]; exact (Bk.other (Bk.other bU (by omega) 0 _) (by omega) 1 _)
    replace bQ : Bk V4 (gQ) #[.int .i64 qx, .int .i64 qy] 25 := by rw [← hX]; exact (Bk.other (Bk.other bQ (by omega) 0 _) (by omega) 1 _)
    replace bR3 : Bk V4 (w.heap.size + 1 + 1) #[.int .i64 qx, .int .i64 qy] 25 := by rw [← hX]; exact (Bk.set (Bk.set bR3 0 _ rfl) 1 _ rfl)
    clear hX
    replace HB := Lib.hid hb
    clear hb
    refine hK.out _ _ (HSp.out _ bP bU bQ) (fun _ => ?_)
    clear hK Kn
    refine wpAnyH_ready (rs := [8]) (by decide +kernel) (by simp) ?_
    refine AllReadyH.cons (o := { dst := none, op := Go.Op.store 25 (Go.Operand.tmp 5) (Go.Operand.tmp 53), type := 0, pos := "l12_bearings.go:199", after := #[{ on := 4, ground := Go.Ground.data }, { on := 7, ground := Go.Ground.chain }, { on := 0, ground := Go.Ground.phase }, { on := 1, ground := Go.Ground.phase }, { on := 2, ground := Go.Ground.phase }, { on := 3, ground := Go.Ground.phase }, { on := 4, ground := Go.Ground.phase }, { on := 5, ground := Go.Ground.phase }, { on := 6, ground := Go.Ground.phase }, { on := 7, ground := Go.Ground.phase }], guard := none }) rfl (fun Kn hK => ?_) AllReadyH.nil
    have bR4_0 := bR4.cell 0 rfl
    have bR4_1 := bR4.cell 1 rfl
    have bR4_f0 := bR4.frozen 0
    have bR4_f1 := bR4.frozen 1
    have bR4_l := bR4.lt
    go_simp
    clear bR4_0 bR4_f0 bR4_1 bR4_f1 bR4_l
    generalize hX : World.setCell _ _ _ = V5
    have hb : Below w.heap.size w V5 := by rw [← hX]; exact ((HB.out.setCell (p := ⟨w.heap.size + 1 + 1 + 1, 0, none⟩) (by first | omega | (dsimp only; omega)) _).setCell (p := ⟨w.heap.size + 1 + 1 + 1, 1, none⟩) (by first | omega | (dsimp only; omega)) _)
    replace bR1 : Bk V5 (w.heap.size) #[.int .i64 px, .int .i64 py] 25 := by rw [← hX]; exact (Bk.other (Bk.other bR1 (by omega) 0 _) (by omega) 1 _)
    replace bR2 : Bk V5 (w.heap.size + 1) #[.int .i64 ux, .int .i64 uy] 25 := by rw [← hX]; exact (Bk.other (Bk.other bR2 (by omega) 0 _) (by omega) 1 _)
    replace bR3 : Bk V5 (w.heap.size + 1 + 1) #[.int .i64 qx, .int .i64 qy] 25 := by rw [← hX]; exact (Bk.other (Bk.other bR3 (by omega) 0 _) (by omega) 1 _)
    replace bP : Bk V5 (gP) #[.int .i64 px, .int .i64 py] 25 := by rw [← hX]; exact (Bk.other (Bk.other bP (by omega) 0 _) (by omega) 1 _)
    replace bU : Bk V5 (gU) #[.int .i64 ux, .int .i64 uy] 25 := by rw [← hX]; exact (Bk.other (Bk.other bU (by omega) 0 _) (by omega) 1 _)
    replace bQ : Bk V5 (gQ) #[.int .i64 qx, .int .i64 qy] 25 := by rw [← hX]; exact (Bk.other (Bk.other bQ (by omega) 0 _) (by omega) 1 _)
    replace bR4 : Bk V5 (w.heap.size + 1 + 1 + 1) #[.int .i64 X, .int .i64 Y] 25 := by rw [← hX]; exact (Bk.set (Bk.set bR4 0 _ rfl) 1 _ rfl)
    clear hX
    replace HB := Lib.hid hb
    clear hb
    refine hK.out _ _ (HSp.out _ bP bU bQ) (fun _ => ?_)
    clear hK Kn
    refine wpAnyH_done (by kernel_rfl) ?_ _
    have cbR10 := bR1.cell 0 rfl
    have cbR11 := bR1.cell 1 rfl
    have cbR20 := bR2.cell 0 rfl
    have cbR21 := bR2.cell 1 rfl
    have cbR30 := bR3.cell 0 rfl
    have cbR31 := bR3.cell 1 rfl
    have cbR40 := bR4.cell 0 rfl
    have cbR41 := bR4.cell 1 rfl
    repeat (first | go_values | go_skip | go_guarded | go_step | go_upon | (dsimp only))
    exact bodyPost_ret (v := .tuple #[.agg #[.int .i64 px, .int .i64 py], .agg #[.int .i64 ux, .int .i64 uy], .agg #[.int .i64 qx, .int .i64 qy], .agg #[.int .i64 X, .int .i64 Y]]) (by simp [results, Try.results41, go_sem, cbR10, cbR11, cbR20, cbR21, cbR30, cbR31, cbR40, cbR41]) rfl ⟨px, py, ux, uy, qx, qy, X, Y, rfl, HB.out⟩

set_option maxRecDepth 100000 in
set_option maxHeartbeats 8000000 in
theorem dpo_any (w : World) (a0 : Option Addr) (cap : Nat) (zs : List Int) (h : Code8 w w.heap.size a0 zs) :
    Calls Try.prog 42 #[.slice a0 zs.length cap] w (TkT w) := by
  have HC := Lib.hid h
  clear h
  go_enter Try.func42, Try.ntmps42
  go_wp2_with fail
  generalize hW : World.alloc _ _ = W
  have bR : Bk W (w.heap.size) #[.int .i64 0, .int .i64 0, .int .i64 0, .int .i64 0] 44 := by rw [← hW]; repeat (first | (refine Bk.new' ?_; (simp; done)) | refine Bk.alloc ?_ _)
  have hb : Below w.heap.size w W := by rw [← hW]; exact (by repeat (first | exact Below.refl _ _ | (refine Below.alloc ?_ (by simp <;> omega) _) | (refine Below.setCell ?_ (by simp <;> omega) _) | (refine Below.drew ?_) | (refine bel_drewN ?_ _)))
  clear hW
  have hlT := bR.lt
  refine (from_any _ _ _ zs ((HC.out.below hb (Nat.le_refl _)).more hb.size)).mono ?_
  rintro e w1 ⟨s, rfl, hs, hsrc, hb1⟩
  replace bR := bR.on hb1
  have HB := Lib.hid (bel_end hb hb1)
  have HS := Lib.hid hsrc
  have hls := HS.out.lt
  have hR : w.heap.size + 1 ≤ s := by omega
  clear hs hsrc hb hb1 HC hlT
  have bR_0 := bR.cell 0 rfl
  have bR_1 := bR.cell 1 rfl
  have bR_2 := bR.cell 2 rfl
  have bR_3 := bR.cell 3 rfl
  have bR_l := bR.lt
  go_wp2_with fail
  refine (dtk_any _ s HS.out).mono ?_
  rintro e ws2 ⟨x, y, u, v, rfl, hs, hg⟩
  replace bR := bR.kept hg (by simp; omega)
  have hz2 := hg.size
  replace HB := Lib.hid (HB.out.trans (below_of_grown hg (by omega) (by have := HB.out.size; omega)))
  replace HS := Lib.hid hs
  replace hls := HS.out.lt
  clear hs hg
  clear bR_0 bR_1 bR_2 bR_3 bR_l
  have bR_0 := bR.cell 0 rfl
  have bR_1 := bR.cell 1 rfl
  have bR_2 := bR.cell 2 rfl
  have bR_3 := bR.cell 3 rfl
  have bR_l := bR.lt
  go_wp2_with fail
  refine (dtm_any _ s HS.out).mono ?_
  rintro e ws3 ⟨t, rfl, hs, hg⟩
  replace bR := bR.kept hg (by simp; omega)
  have hz3 := hg.size
  replace HB := Lib.hid (HB.out.trans (below_of_grown hg (by omega) (by have := HB.out.size; omega)))
  replace HS := Lib.hid hs
  replace hls := HS.out.lt
  clear hs hg
  clear bR_0 bR_1 bR_2 bR_3 bR_l
  have bR_0 := bR.cell 0 rfl
  have bR_1 := bR.cell 1 rfl
  have bR_2 := bR.cell 2 rfl
  have bR_3 := bR.cell 3 rfl
  have bR_l := bR.lt
  have bR_f0 := bR.frozen 0
  have bR_f1 := bR.frozen 1
  have bR_f2 := bR.frozen 2
  have bR_f3 := bR.frozen 3
  repeat (first | go_values | go_skip | go_guarded | go_step | go_upon | (dsimp only))
  exact bodyPost_ret (v := .tuple #[.agg #[.int .i64 x, .int .i64 y, .int .i64 u, .int .i64 v], .int .i64 t]) (by simp [results, Try.results42, go_sem, bR_0, bR_f0, bR_1, bR_f1, bR_2, bR_f2, bR_3, bR_f3, bR_l]) rfl ⟨x, y, u, v, t, rfl, (by repeat (first | exact HB.out | (refine Below.setCell ?_ (by simp <;> omega) _) | (refine Below.alloc ?_ (by simp <;> omega) _) | (refine Below.drew ?_)))⟩

set_option maxRecDepth 100000 in
set_option maxHeartbeats 8000000 in
theorem dbd_any (w : World) (a0 : Option Addr) (cap : Nat) (zs : List Int) (h : Code8 w w.heap.size a0 zs) :
    Calls Try.prog 43 #[.slice a0 zs.length cap] w (TwT w) := by
  have HC := Lib.hid h
  clear h
  go_enter Try.func43, Try.ntmps43
  go_wp2_with fail
  generalize hW : World.alloc _ _ = W
  have bR1 : Bk W (w.heap.size) #[.int .i64 0, .int .i64 0, .int .i64 0, .int .i64 0] 44 := by rw [← hW]; repeat (first | (refine Bk.new' ?_; (simp; done)) | refine Bk.alloc ?_ _)
  have bR2 : Bk W (w.heap.size + 1) #[.int .i64 0, .int .i64 0, .int .i64 0, .int .i64 0] 44 := by rw [← hW]; repeat (first | (refine Bk.new' ?_; (simp; done)) | refine Bk.alloc ?_ _)
  have hb : Below w.heap.size w W := by rw [← hW]; exact (by repeat (first | exact Below.refl _ _ | (refine Below.alloc ?_ (by simp <;> omega) _) | (refine Below.setCell ?_ (by simp <;> omega) _) | (refine Below.drew ?_) | (refine bel_drewN ?_ _)))
  clear hW
  have hlT := bR2.lt
  refine (from_any _ _ _ zs ((HC.out.below hb (Nat.le_refl _)).more hb.size)).mono ?_
  rintro e w1 ⟨s, rfl, hs, hsrc, hb1⟩
  replace bR1 := bR1.on hb1
  replace bR2 := bR2.on hb1
  have HB := Lib.hid (bel_end hb hb1)
  have HS := Lib.hid hsrc
  have hls := HS.out.lt
  have hR : w.heap.size + 2 ≤ s := by omega
  clear hs hsrc hb hb1 HC hlT
  have bR1_0 := bR1.cell 0 rfl
  have bR1_1 := bR1.cell 1 rfl
  have bR1_2 := bR1.cell 2 rfl
  have bR1_3 := bR1.cell 3 rfl
  have bR1_l := bR1.lt
  have bR2_0 := bR2.cell 0 rfl
  have bR2_1 := bR2.cell 1 rfl
  have bR2_2 := bR2.cell 2 rfl
  have bR2_3 := bR2.cell 3 rfl
  have bR2_l := bR2.lt
  go_wp2_with fail
  refine (dtw_any _ s HS.out).mono ?_
  rintro e ws2 ⟨a1, a2, a3, a4, b1, b2, b3, b4, rfl, hs, hg⟩
  replace bR1 := bR1.kept hg (by simp; omega)
  replace bR2 := bR2.kept hg (by simp; omega)
  have hz2 := hg.size
  replace HB := Lib.hid (HB.out.trans (below_of_grown hg (by omega) (by have := HB.out.size; omega)))
  replace HS := Lib.hid hs
  replace hls := HS.out.lt
  clear hs hg
  clear bR1_0 bR1_1 bR1_2 bR1_3 bR1_l bR2_0 bR2_1 bR2_2 bR2_3 bR2_l
  have bR1_0 := bR1.cell 0 rfl
  have bR1_1 := bR1.cell 1 rfl
  have bR1_2 := bR1.cell 2 rfl
  have bR1_3 := bR1.cell 3 rfl
  have bR1_l := bR1.lt
  have bR2_0 := bR2.cell 0 rfl
  have bR2_1 := bR2.cell 1 rfl
  have bR2_2 := bR2.cell 2 rfl
  have bR2_3 := bR2.cell 3 rfl
  have bR2_l := bR2.lt
  go_upto_region 3 with fail
  clear bR1_0 bR1_1 bR1_2 bR1_3 bR1_l bR2_0 bR2_1 bR2_2 bR2_3 bR2_l
  generalize hW : World.alloc _ _ = wn3
  have hb : Below ws2.heap.size ws2 wn3 := by rw [← hW]; exact (by repeat (first | exact Below.refl _ _ | (refine Below.alloc ?_ (by simp <;> omega) _) | (refine Below.setCell ?_ (by simp <;> omega) _) | (refine Below.drew ?_) | (refine bel_drewN ?_ _)))
  obtain ⟨gA, hg0⟩ : ∃ g, g = ws2.heap.size := ⟨_, rfl⟩
  obtain ⟨a1, a2, a3, a4, bA⟩ : ∃ a1 a2 a3 a4, Bk wn3 gA #[.int .i64 a1, .int .i64 a2, .int .i64 a3, .int .i64 a4] 44 := ⟨_, _, _, _, by rw [← hW, hg0]; repeat (first | (refine Bk.new' ?_; (simp; done)) | refine Bk.alloc ?_ _)⟩
  have lsbA : s < gA := by omega
  have nebA_bR1 : gA ≠ w.heap.size := by have := bR1.lt; omega
  have nebA_bR2 : gA ≠ w.heap.size + 1 := by have := bR2.lt; omega
  have lwbA : w.heap.size ≤ gA := by have := HB.out.size; omega
  obtain ⟨gB, hg1⟩ : ∃ g, g = ws2.heap.size + 1 := ⟨_, rfl⟩
  obtain ⟨b1, b2, b3, b4, bB⟩ : ∃ b1 b2 b3 b4, Bk wn3 gB #[.int .i64 b1, .int .i64 b2, .int .i64 b3, .int .i64 b4] 44 := ⟨_, _, _, _, by rw [← hW, hg1]; repeat (first | (refine Bk.new' ?_; (simp; done)) | refine Bk.alloc ?_ _)⟩
  have lsbB : s < gB := by omega
  have nebB_bA : gB ≠ gA := by omega
  have nebB_bR1 : gB ≠ w.heap.size := by have := bR1.lt; omega
  have nebB_bR2 : gB ≠ w.heap.size + 1 := by have := bR2.lt; omega
  have lwbB : w.heap.size ≤ gB := by have := HB.out.size; omega
  try rw [← hg1]
  try rw [← hg0]
  clear hW hg0 hg1
  replace bR1 := bR1.on hb
  replace bR2 := bR2.on hb
  replace HB := Lib.hid (bel_end HB.out hb)
  replace HS := Lib.hid (HS.out.bel hb)
  replace hls := HS.out.lt
  clear hb
  have bR1_0 := bR1.cell 0 rfl
  have bR1_1 := bR1.cell 1 rfl
  have bR1_2 := bR1.cell 2 rfl
  have bR1_3 := bR1.cell 3 rfl
  have bR1_l := bR1.lt
  have bR2_0 := bR2.cell 0 rfl
  have bR2_1 := bR2.cell 1 rfl
  have bR2_2 := bR2.cell 2 rfl
  have bR2_3 := bR2.cell 3 rfl
  have bR2_l := bR2.lt
  have bA_0 := bA.cell 0 rfl
  have bA_1 := bA.cell 1 rfl
  have bA_2 := bA.cell 2 rfl
  have bA_3 := bA.cell 3 rfl
  have bA_l := bA.lt
  have bB_0 := bB.cell 0 rfl
  have bB_1 := bB.cell 1 rfl
  have bB_2 := bB.cell 2 rfl
  have bB_3 := bB.cell 3 rfl
  have bB_l := bB.lt
  go_upto_region 3 with fail
  clear bR1_0 bR1_1 bR1_2 bR1_3 bR1_l bR2_0 bR2_1 bR2_2 bR2_3 bR2_l bA_0 bA_1 bA_2 bA_3 bA_l bB_0 bB_1 bB_2 bB_3 bB_l
  obtain ⟨S, hSd⟩ : ∃ S : World → Prop, ∀ w', S w' ↔ (w'.cell? ⟨gA, 0, none⟩ = some (.int .i64 a1) ∧ w'.cell? ⟨gA, 1, none⟩ = some (.int .i64 a2) ∧ w'.cell? ⟨gA, 2, none⟩ = some (.int .i64 a3) ∧ w'.cell? ⟨gA, 3, none⟩ = some (.int .i64 a4) ∧ w'.cell? ⟨gB, 0, none⟩ = some (.int .i64 b1) ∧ w'.cell? ⟨gB, 1, none⟩ = some (.int .i64 b2) ∧ w'.cell? ⟨gB, 2, none⟩ = some (.int .i64 b3) ∧ w'.cell? ⟨gB, 3, none⟩ = some (.int .i64 b4)) := ⟨_, fun _ => Iff.rfl⟩
  have HSp : Hid (∀ w' : World, Bk w' (gA) #[.int .i64 a1, .int .i64 a2, .int .i64 a3, .int .i64 a4] 44 → Bk w' (gB) #[.int .i64 b1, .int .i64 b2, .int .i64 b3, .int .i64 b4] 44 → S w') := Lib.hid (fun w' bA bB => (hSd w').2 ⟨bA.cell 0 rfl, bA.cell 1 rfl, bA.cell 2 rfl, bA.cell 3 rfl, bB.cell 0 rfl, bB.cell 1 rfl, bB.cell 2 rfl, bB.cell 3 rfl⟩)
  have HSd := Lib.hid hSd
  clear hSd
  refine wp_region_held_drew (S := S) (by kernel_rfl) ?_ (fun hH => ?_)
  · exact (HSp.out _ bA bB : S (World.drew wn3))
  clear hH
  generalize hX : World.drew wn3 = V0
  replace bR1 : Bk V0 (w.heap.size) #[.int .i64 0, .int .i64 0, .int .i64 0, .int .i64 0] 44 := by rw [← hX]; exact bR1
  replace bR2 : Bk V0 (w.heap.size + 1) #[.int .i64 0, .int .i64 0, .int .i64 0, .int .i64 0] 44 := by rw [← hX]; exact bR2
  replace bA : Bk V0 (gA) #[.int .i64 a1, .int .i64 a2, .int .i64 a3, .int .i64 a4] 44 := by rw [← hX]; exact bA
  replace bB : Bk V0 (gB) #[.int .i64 b1, .int .i64 b2, .int .i64 b3, .int .i64 b4] 44 := by rw [← hX]; exact bB
  have hb : Below wn3.heap.size wn3 V0 := by rw [← hX]; exact (Below.refl _ _).drew
  clear hX
  replace HS := Lib.hid (HS.out.bel hb)
  replace HB := Lib.hid (bel_end HB.out hb)
  clear hb
  have hS := HSp.out _ bA bB
  refine wpAnyH_take (i := 0) (oi := { dst := some 15, op := Go.Op.load 44 (Go.Operand.tmp 6), type := 44, pos := "l12_bearings.go:237", after := #[], guard := none }) (v := ?_) rfl (by kernel_rfl) (by kernel_rfl) (by kernel_rfl) (fun _ _ _ h => h) (Or.inl ⟨by rfl, ?_⟩) hS ?_
  rotate_left
  · (intro w hSw; have hSw := (HSd.out w).1 hSw; go_split_ands; go_simp) <;> with_reducible rfl
  clear hS
  try simp only [Act.put, List.setIfInBounds_toArray, List.set_cons_zero, List.set_cons_succ]
  have hS := HSp.out _ bA bB
  refine wpAnyH_take (i := 1) (oi := { dst := some 16, op := Go.Op.load 44 (Go.Operand.tmp 7), type := 44, pos := "l12_bearings.go:237", after := #[{ on := 4, ground := Go.Ground.gcOnly Go.Departure.lateStores }], guard := none }) (v := ?_) rfl (by kernel_rfl) (by kernel_rfl) (by kernel_rfl) (fun _ _ _ h => h) (Or.inl ⟨by rfl, ?_⟩) hS ?_
  rotate_left
  · (intro w hSw; have hSw := (HSd.out w).1 hSw; go_split_ands; go_simp) <;> with_reducible rfl
  clear hS
  try simp only [Act.put, List.setIfInBounds_toArray, List.set_cons_zero, List.set_cons_succ]
  have hS := HSp.out _ bA bB
  refine wpAnyH_take (i := 2) (oi := { dst := some 17, op := Go.Op.move (Go.Operand.tmp 5), type := 89, pos := "l12_bearings.go:237", after := #[], guard := none }) (v := ?_) rfl (by kernel_rfl) (by kernel_rfl) (by kernel_rfl) (fun _ _ _ h => h) (Or.inl ⟨by rfl, ?_⟩) hS ?_
  rotate_left
  · (intro w hSw; have hSw := (HSd.out w).1 hSw; go_split_ands; go_simp) <;> with_reducible rfl
  clear hS
  try simp only [Act.put, List.setIfInBounds_toArray, List.set_cons_zero, List.set_cons_succ]
  refine wpAnyH_ready (rs := [3]) (by decide +kernel) (by simp) ?_
  refine AllReadyH.cons (o := { dst := some 18, op := Go.Op.call { callee := Go.Callee.value (Go.Operand.func 77), args := #[Go.Operand.tmp 17], argTypes := #[89] }, type := 2, pos := "l12_bearings.go:237", after := #[{ on := 2, ground := Go.Ground.data }], guard := none }) rfl (fun Kn hK => ?_) AllReadyH.nil
  first | go_at_call 77 | (go_simp; go_at_call 77)
  refine (dtm_any _ s HS.out).mono ?_
  rintro e V1 ⟨t, rfl, hs, hg⟩
  try dsimp only
  try simp only [Act.put, List.setIfInBounds_toArray, List.set_cons_zero, List.set_cons_succ]
  replace bR1 := bR1.kept hg (by simp; omega)
  replace bR2 := bR2.kept hg (by simp; omega)
  replace bA := bA.kept hg (by simp; omega)
  replace bB := bB.kept hg (by simp; omega)
  replace HB := Lib.hid (HB.out.trans (below_of_grown hg (by omega) (by have := HB.out.size; omega)))
  replace HS := Lib.hid hs
  clear hs hg
  refine hK.out _ _ (HSp.out _ bA bB) (fun _ => ?_)
  clear hK Kn
  refine wpAnyH_ready (rs := [4]) (by decide +kernel) (by simp) ?_
  refine AllReadyH.cons (o := { dst := none, op := Go.Op.store 44 (Go.Operand.tmp 2) (Go.Operand.tmp 15), type := 0, pos := "l12_bearings.go:237", after := #[{ on := 0, ground := Go.Ground.data }, { on := 3, ground := Go.Ground.chain }, { on := 0, ground := Go.Ground.phase }, { on := 1, ground := Go.Ground.textOnly Go.Departure.lateStores }, { on := 2, ground := Go.Ground.textOnly Go.Departure.lateStores }, { on := 3, ground := Go.Ground.textOnly Go.Departure.lateStoresUnsure }], guard := none }) rfl (fun Kn hK => ?_) AllReadyH.nil
  have bR1_0 := bR1.cell 0 rfl
  have bR1_1 := bR1.cell 1 rfl
  have bR1_2 := bR1.cell 2 rfl
  have bR1_3 := bR1.cell 3 rfl
  have bR1_f0 := bR1.frozen 0
  have bR1_f1 := bR1.frozen 1
  have bR1_f2 := bR1.frozen 2
  have bR1_f3 := bR1.frozen 3
  have bR1_l := bR1.lt
  go_simp
  clear bR1_0 bR1_f0 bR1_1 bR1_f1 bR1_2 bR1_f2 bR1_3 bR1_f3 bR1_l
  generalize hX : World.setCell _ _ _ = V2
  have hb : Below w.heap.size w V2 := by rw [← hX]; exact ((((HB.out.setCell (p := ⟨w.heap.size, 0, none⟩) (by first | omega | (dsimp only; omega)) _).setCell (p := ⟨w.heap.size, 1, none⟩) (by first | omega | (dsimp only; omega)) _).setCell (p := ⟨w.heap.size, 2, none⟩) (by first | omega | (dsimp only; omega)) _).setCell (p := ⟨w.heap.size, 3, none⟩) (by first | omega | (dsimp only; omega)) _)
  replace bR2 : Bk V2 (w.heap.size + 1) #[.int .i64 0, .int .i64 0, .int .i64 0, .int .i64 0] 44 := by rw [← hX]; exact (Bk.other (Bk.other (Bk.other (Bk.other bR2 (by omega) 0 _) (by omega) 1 _) (by omega) 2 _) (by omega) 3 _)
  replace bA : Bk V2 (gA) #[.int .i64 a1, .int .i64 a2, .int .i64 a3, .int .i64 a4] 44 := by rw [← hX]; exact (Bk.other (Bk.other (Bk.other (Bk.other bA (by omega) 0 _) (by omega) 1 _) (by omega) 2 _) (by omega) 3 _)
  replace bB : Bk V2 (gB) #[.int .i64 b1, .int .i64 b2, .int .i64 b3, .int .i64 b4] 44 := by rw [← hX]; exact (Bk.other (Bk.other (Bk.other (Bk.other bB (by omega) 0 _) (by omega) 1 _) (by omega) 2 _) (by omega) 3 _)
  replace bR1 : Bk V2 (w.heap.size) #[.int .i64 a1, .int .i64 a2, .int .i64 a3, .int .i64 a4] 44 := by rw [← hX]; exact (Bk.set (Bk.set (Bk.set (Bk.set bR1 0 _ rfl) 1 _ rfl) 2 _ rfl) 3 _ rfl)
  clear hX
  replace HB := Lib.hid hb
  clear hb
  refine hK.out _ _ (HSp.out _ bA bB) (fun _ => ?_)
  clear hK Kn
  refine wpAnyH_ready (rs := [5]) (by decide +kernel) (by simp) ?_
  refine AllReadyH.cons (o := { dst := none, op := Go.Op.store 44 (Go.Operand.tmp 3) (Go.Operand.tmp 16), type := 0, pos := "l12_bearings.go:237", after := #[{ on := 1, ground := Go.Ground.data }, { on := 4, ground := Go.Ground.chain }, { on := 0, ground := Go.Ground.phase }, { on := 1, ground := Go.Ground.phase }, { on := 2, ground := Go.Ground.textOnly Go.Departure.lateStores }, { on := 3, ground := Go.Ground.textOnly Go.Departure.lateStoresUnsure }, { on := 4, ground := Go.Ground.phase }], guard := none }) rfl (fun Kn hK => ?_) AllReadyH.nil
  have bR2_0 := bR2.cell 0 rfl
  have bR2_1 := bR2.cell 1 rfl
  have bR2_2 := bR2.cell 2 rfl
  have bR2_3 := bR2.cell 3 rfl
  have bR2_f0 := bR2.frozen 0
  have bR2_f1 := bR2.frozen 1
  have bR2_f2 := bR2.frozen 2
  have bR2_f3 := bR2.frozen 3
  have bR2_l := bR2.lt
  go_simp
  clear bR2_0 bR2_f0 bR2_1 bR2_f1 bR2_2 bR2_f2 bR2_3 bR2_f3 bR2_l
  generalize hX : World.setCell _ _ _ = V3
  have hb : Below w.heap.size w V3 := by rw [← hX]; exact ((((HB.out.setCell (p := ⟨w.heap.size + 1, 0, none⟩) (by first | omega | (dsimp only; omega)) _).setCell (p := ⟨w.heap.size + 1, 1, none⟩) (by first | omega | (dsimp only; omega)) _).setCell (p := ⟨w.heap.size + 1, 2, none⟩) (by first | omega | (dsimp only; omega)) _).setCell (p := ⟨w.heap.size + 1, 3, none⟩) (by first | omega | (dsimp only; omega)) _)
  replace bR1 : Bk V3 (w.heap.size) #[.int .i64 a1, .int .i64 a2, .int .i64 a3, .int .i64 a4] 44 := by rw [← hX]; exact (Bk.other (Bk.other (Bk.other (Bk.other bR1 (by omega) 0 _) (by omega) 1 _) (by omega) 2 _) (by omega) 3 _)
  replace bA : Bk V3 (gA) #[.int .i64 a1, .int .i64 a2, .int .i64 a3, .int .i64 a4] 44 := by rw [← hX]; exact (Bk.other (Bk.other (Bk.other (Bk.other bA (by omega) 0 _) (by omega) 1 _) (by omega) 2 _) (by omega) 3 _)
  replace bB : Bk V3 (gB) #[.int .i64 b1, .int .i64 b2, .int .i64 b3, .int .i64 b4] 44 := by rw [← hX]; exact (Bk.other (Bk.other (Bk.other (Bk.other bB (by omega) 0 _) (by omega) 1 _) (by omega) 2 _) (by omega) 3 _)
  replace bR2 : Bk V3 (w.heap.size + 1) #[.int .i64 b1, .int .i64 b2, .int .i64 b3, .int .i64 b4] 44 := by rw [← hX]; exact (Bk.set (Bk.set (Bk.set (Bk.set bR2 0 _ rfl) 1 _ rfl) 2 _ rfl) 3 _ rfl)
  clear hX
  replace HB := Lib.hid hb
  clear hb
  refine hK.out _ _ (HSp.out _ bA bB) (fun _ => ?_)
  clear hK Kn
  have hS := HSp.out _ bA bB
  refine wpAnyH_take (i := 6) (oi := { dst := some 4, op := Go.Op.assign (Go.Operand.tmp 18), type := 2, pos := "l12_bearings.go:237", after := #[{ on := 3, ground := Go.Ground.data }, { on := 5, ground := Go.Ground.chain }, { on := 0, ground := Go.Ground.phase }, { on := 1, ground := Go.Ground.phase }, { on := 2, ground := Go.Ground.phase }, { on := 3, ground := Go.Ground.phase }, { on := 4, ground := Go.Ground.phase }, { on := 5, ground := Go.Ground.phase }], guard := none }) (v := ?_) rfl (by kernel_rfl) (by kernel_rfl) (by kernel_rfl) (fun _ _ _ h => h) (Or.inl ⟨by rfl, ?_⟩) hS ?_
  rotate_left
  · (intro w hSw; have hSw := (HSd.out w).1 hSw; go_split_ands; go_simp) <;> with_reducible rfl
  clear hS
  try simp only [Act.put, List.setIfInBounds_toArray, List.set_cons_zero, List.set_cons_succ]
  refine wpAnyH_done (by kernel_rfl) ?_ _
  have cbR10 := bR1.cell 0 rfl
  have cbR11 := bR1.cell 1 rfl
  have cbR12 := bR1.cell 2 rfl
  have cbR13 := bR1.cell 3 rfl
  have cbR20 := bR2.cell 0 rfl
  have cbR21 := bR2.cell 1 rfl
  have cbR22 := bR2.cell 2 rfl
  have cbR23 := bR2.cell 3 rfl
  repeat (first | go_values | go_skip | go_guarded | go_step | go_upon | (dsimp only))
  exact bodyPost_ret (v := .tuple #[.agg #[.int .i64 a1, .int .i64 a2, .int .i64 a3, .int .i64 a4], .agg #[.int .i64 b1, .int .i64 b2, .int .i64 b3, .int .i64 b4], .int .i64 t]) (by simp [results, Try.results43, go_sem, cbR10, cbR11, cbR12, cbR13, cbR20, cbR21, cbR22, cbR23]) rfl ⟨a1, a2, a3, a4, b1, b2, b3, b4, t, rfl, HB.out⟩
end Go.Proofs.Ytkjpjhklnaehbaa
