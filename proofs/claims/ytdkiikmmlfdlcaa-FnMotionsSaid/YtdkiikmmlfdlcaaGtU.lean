/- The walk of the law FnMotions over drawn data: it returns true and writes nothing that was there. -/
import Derived.Test.YtdkiikmmlfdlcaaGtT
import Derived.Test.YtdkiikmmlfdlcaaDice
import Derived.Test.YtdkiikmmlfdlcaaGtX
import Derived.Deep.RegionHeld3
import Derived.Deep.DeepCutAuto
import Derived.Deep.DrawnRows
import Derived.Deep.RegionWith
namespace Go.Proofs.Ytdkiikmmlfdlcaa
open Go.ChangeShapes Go.WideShapes Go.ChangeAt Go.RowKit Go.Shelf Num
set_option linter.unusedVariables false
set_option linter.unusedSimpArgs false

set_option maxRecDepth 100000 in
set_option maxHeartbeats 8000000 in
theorem lmot (a0 : Option Addr) (len0 cap0 : Nat) (z0 : List Int) (w : World) (w0 : IsRow .u8 w a0 len0 cap0 z0) :
    Calls Try.prog 3 #[.slice a0 len0 cap0] w fun e w' => e = .returned (.bool true) ∧ Below w.heap.size w w' := by
  obtain ⟨hlen, hcode⟩ := Code8.of_row w0
  obtain ⟨zs, hzs⟩ : ∃ zs, z0.take len0 = zs := ⟨_, rfl⟩
  rw [hzs] at hlen hcode
  subst hlen
  clear hzs w0
  have HC := Lib.hid hcode
  clear hcode
  have HB := Lib.hid (Below.refl w.heap.size w)
  by_cases hbig : 4096 < zs.length
  · have hd : decide ((4096 : Int) < (zs.length : Int)) = true := by simp; omega
    go_enter Try.func3, Try.ntmps3
    go_wp2_with (go_at_call 14; refine (big_any _ _ _ _).mono ?_; rw [hd]; rintro e w' ⟨rfl, rfl⟩)
    go_ret
    exact ⟨rfl, Below.refl _ _⟩
  · have hd : decide ((4096 : Int) < (zs.length : Int)) = false := by simp; omega
    go_enter Try.func3, Try.ntmps3
    go_wp2_with (go_at_call 14; refine (big_any _ _ _ _).mono ?_; rw [hd]; rintro e w' ⟨rfl, rfl⟩)
    clear hd
    refine (dmv_any _ _ _ zs ((HC.out.below HB.out (Nat.le_refl _)).more HB.out.size)).mono ?_
    rintro e w1 ⟨x, y, u, v, t, n, rfl, hb⟩
    replace HB := Lib.hid (bel_end HB.out hb)
    clear hb
    have two := fun h k k0 kn => mv_two (x := x) (y := y) (u := u) (v := v) (s := t) (n := n) (k := k) h k0 kn
    have m0 := fun h => mvT_0 (x := x) (y := y) (u := u) (v := v) (s := t) (n := n) h
    obtain ⟨⟨⟨X, Y, U, V, G5⟩, C⟩, hZ⟩ : ∃ q, mvT x y u v t n = q := ⟨_, rfl⟩
    obtain ⟨Q, hQ⟩ : ∃ qq, mtB x y u v t = qq := ⟨_, rfl⟩
    have K1I : Hid (∀ W : World, Calls Try.prog 16 #[.agg #[.int .i64 x, .int .i64 y, .int .i64 u, .int .i64 v, .int .i64 t], .int .i64 n] W fun e w' => e = .returned (.tuple #[.agg #[.int .i64 X, .int .i64 Y, .int .i64 U, .int .i64 V, .int .i64 G5], .int .i64 C]) ∧ Below W.heap.size W w') := Lib.hid (fun W => by have := imv14_any W x y u v t n; rwa [hZ] at this)
    have K1S : Hid (∀ W : World, Calls Try.prog 17 #[.agg #[.int .i64 x, .int .i64 y, .int .i64 u, .int .i64 v, .int .i64 t], .int .i64 n] W fun e w' => e = .returned (.tuple #[.agg #[.int .i64 X, .int .i64 Y, .int .i64 U, .int .i64 V, .int .i64 G5], .int .i64 C]) ∧ Below W.heap.size W w') := Lib.hid (fun W => by have := smv14_any W x y u v t n; rwa [hZ] at this)
    have K2I : Hid (∀ W : World, Calls Try.prog 19 #[.agg #[.int .i64 x, .int .i64 y, .int .i64 u, .int .i64 v, .int .i64 t]] W fun e w' => e = .returned (.bool Q) ∧ Below W.heap.size W w') := Lib.hid (fun W => by have := imo_any W x y u v t; rwa [hQ] at this)
    have K2S : Hid (∀ W : World, Calls Try.prog 20 #[.agg #[.int .i64 x, .int .i64 y, .int .i64 u, .int .i64 v, .int .i64 t]] W fun e w' => e = .returned (.bool Q) ∧ Below W.heap.size W w') := Lib.hid (fun W => by have := smo_any W x y u v t; rwa [hQ] at this)
    have HN : Hid (C = 0 → 0 ≤ n ∧ n ≤ 100) := Lib.hid (fun h => inB_t (m0 (by rw [hZ]; exact h)).2.1)
    have HT : Hid (C = 0 → ∀ k, 0 ≤ k → k ≤ n → mvT x y u v t k = ((x + k * u, y + k * v, u, v, mvS t k), 0) ∧ mvT (x + k * u) (y + k * v) u v (mvS t k) (n - k) = ((X, Y, U, V, G5), 0) ∧ t ≤ G5 ∧ mtB X Y U V G5 = true) := Lib.hid (fun h k k0 kn => by
      have hc : (mvT x y u v t n).2 = 0 := by rw [hZ]; exact h
      have h4 := (m0 hc).2.2.2
      rw [hZ] at h4
      simp only [Prod.mk.injEq] at h4
      obtain ⟨⟨e1, e2, e3, e4, e5⟩, -⟩ := h4
      obtain ⟨a, b, c, d⟩ := two hc k k0 kn
      rw [e1, e2, e3, e4, e5]
      exact ⟨a, b, c, d⟩)
    clear two m0 hZ hQ
    go_upto_region 4 with fail
    generalize hW : World.alloc _ _ = wl1
    have hb : Below w1.heap.size w1 wl1 := by rw [← hW]; exact (by repeat (first | exact Below.refl _ _ | (refine Below.alloc ?_ (by simp <;> omega) _) | (refine Below.setCell ?_ (by simp <;> omega) _) | (refine Below.drew ?_) | (refine bel_drewN ?_ _)))
    obtain ⟨gX, hg0⟩ : ∃ g, g = w1.heap.size := ⟨_, rfl⟩
    have bX : Bk wl1 gX #[.int .i64 x, .int .i64 y, .int .i64 u, .int .i64 v, .int .i64 t] 25 := by rw [← hW, hg0]; repeat (first | (refine Bk.new' ?_; (simp; done)) | refine Bk.alloc ?_ _)
    try rw [← hg0]
    clear hW hg0
    replace HB := Lib.hid (bel_end HB.out hb)
    clear hb
    have bX_0 := bX.cell 0 rfl
    have bX_1 := bX.cell 1 rfl
    have bX_2 := bX.cell 2 rfl
    have bX_3 := bX.cell 3 rfl
    have bX_4 := bX.cell 4 rfl
    have bX_l := bX.lt
    go_wp2_with fail
    refine (K1I.out _).mono ?_
    rintro e w2 ⟨rfl, hb⟩
    replace bX := bX.on hb
    replace HB := Lib.hid (bel_end HB.out hb)
    clear hb
    clear bX_0 bX_1 bX_2 bX_3 bX_4 bX_l
    have bX_0 := bX.cell 0 rfl
    have bX_1 := bX.cell 1 rfl
    have bX_2 := bX.cell 2 rfl
    have bX_3 := bX.cell 3 rfl
    have bX_4 := bX.cell 4 rfl
    have bX_l := bX.lt
    go_upto_region 5 with fail
    clear bX_0 bX_1 bX_2 bX_3 bX_4 bX_l
    generalize hW : World.alloc _ _ = wl2
    have hb : Below w2.heap.size w2 wl2 := by rw [← hW]; exact (by repeat (first | exact Below.refl _ _ | (refine Below.alloc ?_ (by simp <;> omega) _) | (refine Below.setCell ?_ (by simp <;> omega) _) | (refine Below.drew ?_) | (refine bel_drewN ?_ _)))
    obtain ⟨gA, hg0⟩ : ∃ g, g = w2.heap.size := ⟨_, rfl⟩
    have bA : Bk wl2 gA #[.int .i64 X, .int .i64 Y, .int .i64 U, .int .i64 V, .int .i64 G5] 25 := by rw [← hW, hg0]; repeat (first | (refine Bk.new' ?_; (simp; done)) | refine Bk.alloc ?_ _)
    try rw [← hg0]
    clear hW hg0
    replace bX := bX.on hb
    replace HB := Lib.hid (bel_end HB.out hb)
    clear hb
    have bX_0 := bX.cell 0 rfl
    have bX_1 := bX.cell 1 rfl
    have bX_2 := bX.cell 2 rfl
    have bX_3 := bX.cell 3 rfl
    have bX_4 := bX.cell 4 rfl
    have bX_l := bX.lt
    have bA_0 := bA.cell 0 rfl
    have bA_1 := bA.cell 1 rfl
    have bA_2 := bA.cell 2 rfl
    have bA_3 := bA.cell 3 rfl
    have bA_4 := bA.cell 4 rfl
    have bA_l := bA.lt
    go_wp2_with fail
    refine (K1S.out _).mono ?_
    rintro e w3 ⟨rfl, hb⟩
    replace bX := bX.on hb
    replace bA := bA.on hb
    replace HB := Lib.hid (bel_end HB.out hb)
    clear hb
    clear bX_0 bX_1 bX_2 bX_3 bX_4 bX_l bA_0 bA_1 bA_2 bA_3 bA_4 bA_l
    have bX_0 := bX.cell 0 rfl
    have bX_1 := bX.cell 1 rfl
    have bX_2 := bX.cell 2 rfl
    have bX_3 := bX.cell 3 rfl
    have bX_4 := bX.cell 4 rfl
    have bX_l := bX.lt
    have bA_0 := bA.cell 0 rfl
    have bA_1 := bA.cell 1 rfl
    have bA_2 := bA.cell 2 rfl
    have bA_3 := bA.cell 3 rfl
    have bA_4 := bA.cell 4 rfl
    have bA_l := bA.lt
    go_upto_region 6 with fail
    clear bX_0 bX_1 bX_2 bX_3 bX_4 bX_l bA_0 bA_1 bA_2 bA_3 bA_4 bA_l
    generalize hW : World.alloc _ _ = wl3
    have hb : Below w3.heap.size w3 wl3 := by rw [← hW]; exact (by repeat (first | exact Below.refl _ _ | (refine Below.alloc ?_ (by simp <;> omega) _) | (refine Below.setCell ?_ (by simp <;> omega) _) | (refine Below.drew ?_) | (refine bel_drewN ?_ _)))
    obtain ⟨gB, hg0⟩ : ∃ g, g = w3.heap.size := ⟨_, rfl⟩
    have bB : Bk wl3 gB #[.int .i64 X, .int .i64 Y, .int .i64 U, .int .i64 V, .int .i64 G5] 25 := by rw [← hW, hg0]; repeat (first | (refine Bk.new' ?_; (simp; done)) | refine Bk.alloc ?_ _)
    try rw [← hg0]
    clear hW hg0
    replace bX := bX.on hb
    replace bA := bA.on hb
    replace HB := Lib.hid (bel_end HB.out hb)
    clear hb
    have bX_0 := bX.cell 0 rfl
    have bX_1 := bX.cell 1 rfl
    have bX_2 := bX.cell 2 rfl
    have bX_3 := bX.cell 3 rfl
    have bX_4 := bX.cell 4 rfl
    have bX_l := bX.lt
    have bA_0 := bA.cell 0 rfl
    have bA_1 := bA.cell 1 rfl
    have bA_2 := bA.cell 2 rfl
    have bA_3 := bA.cell 3 rfl
    have bA_4 := bA.cell 4 rfl
    have bA_l := bA.lt
    have bB_0 := bB.cell 0 rfl
    have bB_1 := bB.cell 1 rfl
    have bB_2 := bB.cell 2 rfl
    have bB_3 := bB.cell 3 rfl
    have bB_4 := bB.cell 4 rfl
    have bB_l := bB.lt
    go_wp2_with fail
    refine (dac_any _ _ _ zs ((HC.out.below HB.out (Nat.le_refl _)).more HB.out.size)).mono ?_
    rintro e w4 ⟨la, lc, ps, rfl, hl7, hct, hb⟩
    replace bX := bX.on hb
    replace bA := bA.on hb
    replace bB := bB.on hb
    replace HB := Lib.hid (bel_end HB.out hb)
    have HCL := Lib.hid hct
    clear hct
    clear hb
    clear bX_0 bX_1 bX_2 bX_3 bX_4 bX_l bA_0 bA_1 bA_2 bA_3 bA_4 bA_l bB_0 bB_1 bB_2 bB_3 bB_4 bB_l
    obtain ⟨D, hD⟩ : ∃ qq, (csC ps == 0) = qq := ⟨_, rfl⟩
    have K4I : Hid (∀ (W : World) (a : Option Addr) (c : Nat), Cts W W.heap.size a ps → Calls Try.prog 21 #[.slice a ps.length c] W fun e w' => e = .returned (.bool D) ∧ Below W.heap.size W w') := Lib.hid (fun W a c h => by have := iac_any W a c ps (by omega) h; rwa [hD] at this)
    have K4S : Hid (∀ (W : World) (a : Option Addr) (c : Nat), Cts W W.heap.size a ps → Calls Try.prog 22 #[.slice a ps.length c] W fun e w' => e = .returned (.bool D) ∧ Below W.heap.size W w') := Lib.hid (fun W a c h => by have := sac_any W a c ps (by omega) h; rwa [hD] at this)
    clear hD
    have bX_0 := bX.cell 0 rfl
    have bX_1 := bX.cell 1 rfl
    have bX_2 := bX.cell 2 rfl
    have bX_3 := bX.cell 3 rfl
    have bX_4 := bX.cell 4 rfl
    have bX_l := bX.lt
    have bA_0 := bA.cell 0 rfl
    have bA_1 := bA.cell 1 rfl
    have bA_2 := bA.cell 2 rfl
    have bA_3 := bA.cell 3 rfl
    have bA_4 := bA.cell 4 rfl
    have bA_l := bA.lt
    have bB_0 := bB.cell 0 rfl
    have bB_1 := bB.cell 1 rfl
    have bB_2 := bB.cell 2 rfl
    have bB_3 := bB.cell 3 rfl
    have bB_4 := bB.cell 4 rfl
    have bB_l := bB.lt
    go_upto_region 7 with fail
    clear bX_0 bX_1 bX_2 bX_3 bX_4 bX_l bA_0 bA_1 bA_2 bA_3 bA_4 bA_l bB_0 bB_1 bB_2 bB_3 bB_4 bB_l
    go_cut [57] from 36 to 56 (fun s57 wx => s57 = .bool false ∧ Below w4.heap.size w4 wx)
    case first =>
      have HW : Hid (Below w4.heap.size w4 w4) := Lib.hid (Below.refl _ _)
      obtain ⟨S, hSd⟩ : ∃ S : World → Prop, ∀ w', S w' ↔ (w'.cell? ⟨gX, 0, none⟩ = some (.int .i64 x) ∧ w'.cell? ⟨gX, 1, none⟩ = some (.int .i64 y) ∧ w'.cell? ⟨gX, 2, none⟩ = some (.int .i64 u) ∧ w'.cell? ⟨gX, 3, none⟩ = some (.int .i64 v) ∧ w'.cell? ⟨gX, 4, none⟩ = some (.int .i64 t) ∧ w'.cell? ⟨gA, 0, none⟩ = some (.int .i64 X) ∧ w'.cell? ⟨gA, 1, none⟩ = some (.int .i64 Y) ∧ w'.cell? ⟨gA, 2, none⟩ = some (.int .i64 U) ∧ w'.cell? ⟨gA, 3, none⟩ = some (.int .i64 V) ∧ w'.cell? ⟨gA, 4, none⟩ = some (.int .i64 G5) ∧ w'.cell? ⟨gB, 0, none⟩ = some (.int .i64 X) ∧ w'.cell? ⟨gB, 1, none⟩ = some (.int .i64 Y) ∧ w'.cell? ⟨gB, 2, none⟩ = some (.int .i64 U) ∧ w'.cell? ⟨gB, 3, none⟩ = some (.int .i64 V) ∧ w'.cell? ⟨gB, 4, none⟩ = some (.int .i64 G5)) := ⟨_, fun _ => Iff.rfl⟩
      have HSp : Hid (∀ w' : World, Bk w' (gX) #[.int .i64 x, .int .i64 y, .int .i64 u, .int .i64 v, .int .i64 t] 25 → Bk w' (gA) #[.int .i64 X, .int .i64 Y, .int .i64 U, .int .i64 V, .int .i64 G5] 25 → Bk w' (gB) #[.int .i64 X, .int .i64 Y, .int .i64 U, .int .i64 V, .int .i64 G5] 25 → S w') := Lib.hid (fun w' bX bA bB => (hSd w').2 ⟨bX.cell 0 rfl, bX.cell 1 rfl, bX.cell 2 rfl, bX.cell 3 rfl, bX.cell 4 rfl, bA.cell 0 rfl, bA.cell 1 rfl, bA.cell 2 rfl, bA.cell 3 rfl, bA.cell 4 rfl, bB.cell 0 rfl, bB.cell 1 rfl, bB.cell 2 rfl, bB.cell 3 rfl, bB.cell 4 rfl⟩)
      have HSd := Lib.hid hSd
      clear hSd
      refine wp_region_held_drew (S := S) (by kernel_rfl) ?_ (fun hH => ?_)
      · exact (HSp.out _ bX bA bB : S (World.drew w4))
      clear hH
      generalize hX : World.drew w4 = V0
      replace bX : Bk V0 (gX) #[.int .i64 x, .int .i64 y, .int .i64 u, .int .i64 v, .int .i64 t] 25 := by rw [← hX]; exact bX
      replace bA : Bk V0 (gA) #[.int .i64 X, .int .i64 Y, .int .i64 U, .int .i64 V, .int .i64 G5] 25 := by rw [← hX]; exact bA
      replace bB : Bk V0 (gB) #[.int .i64 X, .int .i64 Y, .int .i64 U, .int .i64 V, .int .i64 G5] 25 := by rw [← hX]; exact bB
      have hb : Below w4.heap.size w4 V0 := by rw [← hX]; exact (Below.refl _ _).drew
      clear hX
      replace HCL := Lib.hid (HCL.out.on hb)
      replace HW := Lib.hid (bel_end HW.out hb)
      clear hb
      have hS := HSp.out _ bX bA bB
      refine wpAnyH_take (i := 0) (oi := { dst := some 36, op := Go.Op.move (Go.Operand.tmp 6), type := 2, pos := "laws.go:287", after := #[], guard := none }) (v := ?_) rfl (by kernel_rfl) (by kernel_rfl) (by kernel_rfl) (fun _ _ _ h => h) (Or.inl ⟨by rfl, ?_⟩) hS ?_
      rotate_left
      · (intro w hSw; have hSw := (HSd.out w).1 hSw; go_split_ands; go_simp) <;> with_reducible rfl
      clear hS
      try simp only [Act.put, List.setIfInBounds_toArray, List.set_cons_zero, List.set_cons_succ]
      have hS := HSp.out _ bX bA bB
      refine wpAnyH_take (i := 1) (oi := { dst := some 37, op := Go.Op.move (Go.Operand.tmp 8), type := 2, pos := "laws.go:287", after := #[], guard := none }) (v := ?_) rfl (by kernel_rfl) (by kernel_rfl) (by kernel_rfl) (fun _ _ _ h => h) (Or.inl ⟨by rfl, ?_⟩) hS ?_
      rotate_left
      · (intro w hSw; have hSw := (HSd.out w).1 hSw; go_split_ands; go_simp) <;> with_reducible rfl
      clear hS
      try simp only [Act.put, List.setIfInBounds_toArray, List.set_cons_zero, List.set_cons_succ]
      have hS := HSp.out _ bX bA bB
      refine wpAnyH_take (i := 2) (oi := { dst := some 38, op := Go.Op.binOp Go.BinOp.neq 2 (Go.Operand.tmp 36) (Go.Operand.tmp 37) 2, type := 4, pos := "laws.go:287", after := #[{ on := 0, ground := Go.Ground.data }, { on := 1, ground := Go.Ground.data }], guard := none }) (v := ?_) rfl (by kernel_rfl) (by kernel_rfl) (by kernel_rfl) (fun _ _ _ h => h) (Or.inl ⟨by rfl, ?_⟩) hS ?_
      rotate_left
      · (intro w hSw; have hSw := (HSd.out w).1 hSw; go_split_ands; go_simp) <;> with_reducible rfl
      clear hS
      try simp only [Act.put, List.setIfInBounds_toArray, List.set_cons_zero, List.set_cons_succ]
      have hS := HSp.out _ bX bA bB
      refine wpAnyH_take (i := 3) (oi := { dst := some 39, op := Go.Op.move (Go.Operand.tmp 38), type := 4, pos := "laws.go:287", after := #[{ on := 2, ground := Go.Ground.data }], guard := none }) (v := ?_) rfl (by kernel_rfl) (by kernel_rfl) (by kernel_rfl) (fun _ _ _ h => h) (Or.inl ⟨by rfl, ?_⟩) hS ?_
      rotate_left
      · (intro w hSw; have hSw := (HSd.out w).1 hSw; go_split_ands; go_simp) <;> with_reducible rfl
      clear hS
      try simp only [Act.put, List.setIfInBounds_toArray, List.set_cons_zero, List.set_cons_succ]
      have hS := HSp.out _ bX bA bB
      refine wpAnyH_take (i := 4) (oi := { dst := some 40, op := Go.Op.load 25 (Go.Operand.tmp 5), type := 25, pos := "laws.go:287", after := #[{ on := 3, ground := Go.Ground.guard }], guard := some (3, false) }) (v := ?_) rfl (by kernel_rfl) (by kernel_rfl) (by kernel_rfl) (fun _ _ _ h => h) (Or.inl ⟨by rfl, ?_⟩) hS ?_
      rotate_left
      · (intro w hSw; have hSw := (HSd.out w).1 hSw; go_split_ands; go_simp) <;> with_reducible rfl
      clear hS
      try simp only [Act.put, List.setIfInBounds_toArray, List.set_cons_zero, List.set_cons_succ]
      have hS := HSp.out _ bX bA bB
      refine wpAnyH_take (i := 5) (oi := { dst := some 41, op := Go.Op.load 25 (Go.Operand.tmp 7), type := 25, pos := "laws.go:287", after := #[{ on := 3, ground := Go.Ground.guard }], guard := some (3, false) }) (v := ?_) rfl (by kernel_rfl) (by kernel_rfl) (by kernel_rfl) (fun _ _ _ h => h) (Or.inl ⟨by rfl, ?_⟩) hS ?_
      rotate_left
      · (intro w hSw; have hSw := (HSd.out w).1 hSw; go_split_ands; go_simp) <;> with_reducible rfl
      clear hS
      try simp only [Act.put, List.setIfInBounds_toArray, List.set_cons_zero, List.set_cons_succ]
      have hS := HSp.out _ bX bA bB
      refine wpAnyH_take (i := 6) (oi := { dst := some 42, op := Go.Op.binOp Go.BinOp.neq 25 (Go.Operand.tmp 40) (Go.Operand.tmp 41) 25, type := 4, pos := "laws.go:287", after := #[{ on := 4, ground := Go.Ground.data }, { on := 5, ground := Go.Ground.data }, { on := 3, ground := Go.Ground.guard }], guard := some (3, false) }) (v := ?_) rfl (by kernel_rfl) (by kernel_rfl) (by kernel_rfl) (fun _ _ _ h => h) (Or.inl ⟨by rfl, ?_⟩) hS ?_
      rotate_left
      · (intro w hSw; have hSw := (HSd.out w).1 hSw; go_split_ands; go_simp) <;> with_reducible rfl
      clear hS
      try simp only [Act.put, List.setIfInBounds_toArray, List.set_cons_zero, List.set_cons_succ]
      have hS := HSp.out _ bX bA bB
      refine wpAnyH_take (i := 7) (oi := { dst := some 43, op := Go.Op.pick (Go.Operand.tmp 39) (Go.Operand.const (Go.Value.bool true)) (Go.Operand.tmp 42), type := 4, pos := "laws.go:287", after := #[{ on := 3, ground := Go.Ground.data }, { on := 6, ground := Go.Ground.data }], guard := none }) (v := ?_) rfl (by kernel_rfl) (by kernel_rfl) (by kernel_rfl) (fun _ _ _ h => h) (Or.inl ⟨by rfl, ?_⟩) hS ?_
      rotate_left
      · (intro w hSw; have hSw := (HSd.out w).1 hSw; go_split_ands; go_simp) <;> with_reducible rfl
      clear hS
      try simp only [Act.put, List.setIfInBounds_toArray, List.set_cons_zero, List.set_cons_succ]
      have hS := HSp.out _ bX bA bB
      refine wpAnyH_take (i := 8) (oi := { dst := some 44, op := Go.Op.move (Go.Operand.tmp 43), type := 4, pos := "laws.go:287", after := #[{ on := 7, ground := Go.Ground.data }, { on := 3, ground := Go.Ground.chain }], guard := none }) (v := ?_) rfl (by kernel_rfl) (by kernel_rfl) (by kernel_rfl) (fun _ _ _ h => h) (Or.inl ⟨by rfl, ?_⟩) hS ?_
      rotate_left
      · (intro w hSw; have hSw := (HSd.out w).1 hSw; go_split_ands; go_simp) <;> with_reducible rfl
      clear hS
      try simp only [Act.put, List.setIfInBounds_toArray, List.set_cons_zero, List.set_cons_succ]
      have hS := HSp.out _ bX bA bB
      refine wpAnyH_take (i := 9) (oi := { dst := some 45, op := Go.Op.load 25 (Go.Operand.tmp 3), type := 25, pos := "laws.go:287", after := #[{ on := 8, ground := Go.Ground.guard }], guard := some (8, false) }) (v := ?_) rfl (by kernel_rfl) (by kernel_rfl) (by kernel_rfl) (fun _ _ _ h => h) (Or.inl ⟨by rfl, ?_⟩) hS ?_
      rotate_left
      · (intro w hSw; have hSw := (HSd.out w).1 hSw; go_split_ands; go_simp) <;> with_reducible rfl
      clear hS
      try simp only [Act.put, List.setIfInBounds_toArray, List.set_cons_zero, List.set_cons_succ]
      have hS := HSp.out _ bX bA bB
      refine wpAnyH_take (i := 11) (oi := { dst := some 47, op := Go.Op.load 25 (Go.Operand.tmp 3), type := 25, pos := "laws.go:287", after := #[{ on := 8, ground := Go.Ground.guard }], guard := some (8, false) }) (v := ?_) rfl (by kernel_rfl) (by kernel_rfl) (by kernel_rfl) (fun _ _ _ h => h) (Or.inl ⟨by rfl, ?_⟩) hS ?_
      rotate_left
      · (intro w hSw; have hSw := (HSd.out w).1 hSw; go_split_ands; go_simp) <;> with_reducible rfl
      clear hS
      try simp only [Act.put, List.setIfInBounds_toArray, List.set_cons_zero, List.set_cons_succ]
      refine wpAnyH_ready (rs := [10]) (by decide +kernel) (by simp) ?_
      refine AllReadyH.cons (o := { dst := some 46, op := Go.Op.call { callee := Go.Callee.value (Go.Operand.func 19), args := #[Go.Operand.tmp 45], argTypes := #[25] }, type := 4, pos := "laws.go:287", after := #[{ on := 9, ground := Go.Ground.data }, { on := 8, ground := Go.Ground.chain }, { on := 8, ground := Go.Ground.guard }], guard := some (8, false) }) rfl (fun Kn hK => ?_) AllReadyH.nil
      first | go_at_call 19 | (go_simp; go_at_call 19)
      (with_reducible refine Calls.mono (K2I.out  _) ?_)
      rintro e V1 ⟨rfl, hb⟩
      try dsimp only
      try simp only [Act.put, List.setIfInBounds_toArray, List.set_cons_zero, List.set_cons_succ]
      replace bX := bX.on hb
      replace bA := bA.on hb
      replace bB := bB.on hb
      replace HCL := Lib.hid (HCL.out.on hb)
      replace HW := Lib.hid (bel_end HW.out hb)
      clear hb
      refine hK.out _ _ (HSp.out _ bX bA bB) (fun _ => ?_)
      clear hK Kn
      refine wpAnyH_ready (rs := [12]) (by decide +kernel) (by simp) ?_
      refine AllReadyH.cons (o := { dst := some 48, op := Go.Op.call { callee := Go.Callee.value (Go.Operand.func 20), args := #[Go.Operand.tmp 47], argTypes := #[25] }, type := 4, pos := "laws.go:287", after := #[{ on := 11, ground := Go.Ground.data }, { on := 10, ground := Go.Ground.chain }, { on := 8, ground := Go.Ground.guard }], guard := some (8, false) }) rfl (fun Kn hK => ?_) AllReadyH.nil
      first | go_at_call 20 | (go_simp; go_at_call 20)
      (with_reducible refine Calls.mono (K2S.out  _) ?_)
      rintro e V2 ⟨rfl, hb⟩
      try dsimp only
      try simp only [Act.put, List.setIfInBounds_toArray, List.set_cons_zero, List.set_cons_succ]
      replace bX := bX.on hb
      replace bA := bA.on hb
      replace bB := bB.on hb
      replace HCL := Lib.hid (HCL.out.on hb)
      replace HW := Lib.hid (bel_end HW.out hb)
      clear hb
      refine hK.out _ _ (HSp.out _ bX bA bB) (fun _ => ?_)
      clear hK Kn
      have hS := HSp.out _ bX bA bB
      refine wpAnyH_take (i := 13) (oi := { dst := some 49, op := Go.Op.binOp Go.BinOp.neq 4 (Go.Operand.tmp 46) (Go.Operand.tmp 48) 4, type := 4, pos := "laws.go:287", after := #[{ on := 10, ground := Go.Ground.data }, { on := 12, ground := Go.Ground.data }, { on := 8, ground := Go.Ground.guard }], guard := some (8, false) }) (v := ?_) rfl (by kernel_rfl) (by kernel_rfl) (by kernel_rfl) (fun _ _ _ h => h) (Or.inl ⟨by rfl, ?_⟩) hS ?_
      rotate_left
      · (intro w hSw; have hSw := (HSd.out w).1 hSw; go_split_ands; go_simp) <;> with_reducible rfl
      clear hS
      try simp only [Act.put, List.setIfInBounds_toArray, List.set_cons_zero, List.set_cons_succ]
      have hS := HSp.out _ bX bA bB
      refine wpAnyH_take (i := 14) (oi := { dst := some 50, op := Go.Op.pick (Go.Operand.tmp 44) (Go.Operand.const (Go.Value.bool true)) (Go.Operand.tmp 49), type := 4, pos := "laws.go:287", after := #[{ on := 8, ground := Go.Ground.data }, { on := 13, ground := Go.Ground.data }], guard := none }) (v := ?_) rfl (by kernel_rfl) (by kernel_rfl) (by kernel_rfl) (fun _ _ _ h => h) (Or.inl ⟨by rfl, ?_⟩) hS ?_
      rotate_left
      · (intro w hSw; have hSw := (HSd.out w).1 hSw; go_split_ands; go_simp) <;> with_reducible rfl
      clear hS
      try simp only [Act.put, List.setIfInBounds_toArray, List.set_cons_zero, List.set_cons_succ]
      have hS := HSp.out _ bX bA bB
      refine wpAnyH_take (i := 15) (oi := { dst := some 51, op := Go.Op.move (Go.Operand.tmp 50), type := 4, pos := "laws.go:287", after := #[{ on := 14, ground := Go.Ground.data }, { on := 12, ground := Go.Ground.chain }], guard := none }) (v := ?_) rfl (by kernel_rfl) (by kernel_rfl) (by kernel_rfl) (fun _ _ _ h => h) (Or.inl ⟨by rfl, ?_⟩) hS ?_
      rotate_left
      · (intro w hSw; have hSw := (HSd.out w).1 hSw; go_split_ands; go_simp) <;> with_reducible rfl
      clear hS
      try simp only [Act.put, List.setIfInBounds_toArray, List.set_cons_zero, List.set_cons_succ]
      have hS := HSp.out _ bX bA bB
      refine wpAnyH_take (i := 16) (oi := { dst := some 52, op := Go.Op.move (Go.Operand.tmp 9), type := 29, pos := "laws.go:287", after := #[{ on := 15, ground := Go.Ground.guard }], guard := some (15, false) }) (v := ?_) rfl (by kernel_rfl) (by kernel_rfl) (by kernel_rfl) (fun _ _ _ h => h) (Or.inl ⟨by rfl, ?_⟩) hS ?_
      rotate_left
      · (intro w hSw; have hSw := (HSd.out w).1 hSw; go_split_ands; go_simp) <;> with_reducible rfl
      clear hS
      try simp only [Act.put, List.setIfInBounds_toArray, List.set_cons_zero, List.set_cons_succ]
      have hS := HSp.out _ bX bA bB
      refine wpAnyH_take (i := 18) (oi := { dst := some 54, op := Go.Op.move (Go.Operand.tmp 9), type := 29, pos := "laws.go:287", after := #[{ on := 15, ground := Go.Ground.guard }], guard := some (15, false) }) (v := ?_) rfl (by kernel_rfl) (by kernel_rfl) (by kernel_rfl) (fun _ _ _ h => h) (Or.inl ⟨by rfl, ?_⟩) hS ?_
      rotate_left
      · (intro w hSw; have hSw := (HSd.out w).1 hSw; go_split_ands; go_simp) <;> with_reducible rfl
      clear hS
      try simp only [Act.put, List.setIfInBounds_toArray, List.set_cons_zero, List.set_cons_succ]
      refine wpAnyH_ready (rs := [17]) (by decide +kernel) (by simp) ?_
      refine AllReadyH.cons (o := { dst := some 53, op := Go.Op.call { callee := Go.Callee.value (Go.Operand.func 21), args := #[Go.Operand.tmp 52], argTypes := #[29] }, type := 4, pos := "laws.go:287", after := #[{ on := 16, ground := Go.Ground.data }, { on := 15, ground := Go.Ground.chain }, { on := 15, ground := Go.Ground.guard }], guard := some (15, false) }) rfl (fun Kn hK => ?_) AllReadyH.nil
      first | go_at_call 21 | (go_simp; go_at_call 21)
      (with_reducible refine Calls.mono (K4I.out _ _ _ HCL.out) ?_)
      rintro e V3 ⟨rfl, hb⟩
      try dsimp only
      try simp only [Act.put, List.setIfInBounds_toArray, List.set_cons_zero, List.set_cons_succ]
      replace bX := bX.on hb
      replace bA := bA.on hb
      replace bB := bB.on hb
      replace HCL := Lib.hid (HCL.out.on hb)
      replace HW := Lib.hid (bel_end HW.out hb)
      clear hb
      refine hK.out _ _ (HSp.out _ bX bA bB) (fun _ => ?_)
      clear hK Kn
      refine wpAnyH_ready (rs := [19]) (by decide +kernel) (by simp) ?_
      refine AllReadyH.cons (o := { dst := some 55, op := Go.Op.call { callee := Go.Callee.value (Go.Operand.func 22), args := #[Go.Operand.tmp 54], argTypes := #[29] }, type := 4, pos := "laws.go:287", after := #[{ on := 18, ground := Go.Ground.data }, { on := 17, ground := Go.Ground.chain }, { on := 15, ground := Go.Ground.guard }], guard := some (15, false) }) rfl (fun Kn hK => ?_) AllReadyH.nil
      first | go_at_call 22 | (go_simp; go_at_call 22)
      (with_reducible refine Calls.mono (K4S.out _ _ _ HCL.out) ?_)
      rintro e V4 ⟨rfl, hb⟩
      try dsimp only
      try simp only [Act.put, List.setIfInBounds_toArray, List.set_cons_zero, List.set_cons_succ]
      replace bX := bX.on hb
      replace bA := bA.on hb
      replace bB := bB.on hb
      replace HCL := Lib.hid (HCL.out.on hb)
      replace HW := Lib.hid (bel_end HW.out hb)
      clear hb
      refine hK.out _ _ (HSp.out _ bX bA bB) (fun _ => ?_)
      clear hK Kn
      have hS := HSp.out _ bX bA bB
      refine wpAnyH_take (i := 20) (oi := { dst := some 56, op := Go.Op.binOp Go.BinOp.neq 4 (Go.Operand.tmp 53) (Go.Operand.tmp 55) 4, type := 4, pos := "laws.go:287", after := #[{ on := 17, ground := Go.Ground.data }, { on := 19, ground := Go.Ground.data }, { on := 15, ground := Go.Ground.guard }], guard := some (15, false) }) (v := ?_) rfl (by kernel_rfl) (by kernel_rfl) (by kernel_rfl) (fun _ _ _ h => h) (Or.inl ⟨by rfl, ?_⟩) hS ?_
      rotate_left
      · (intro w hSw; have hSw := (HSd.out w).1 hSw; go_split_ands; go_simp) <;> with_reducible rfl
      clear hS
      try simp only [Act.put, List.setIfInBounds_toArray, List.set_cons_zero, List.set_cons_succ]
      have hS := HSp.out _ bX bA bB
      refine wpAnyH_take (i := 21) (oi := { dst := some 57, op := Go.Op.pick (Go.Operand.tmp 51) (Go.Operand.const (Go.Value.bool true)) (Go.Operand.tmp 56), type := 4, pos := "laws.go:287", after := #[{ on := 15, ground := Go.Ground.data }, { on := 20, ground := Go.Ground.data }], guard := none }) (v := ?_) rfl (by kernel_rfl) (by kernel_rfl) (by kernel_rfl) (fun _ _ _ h => h) (Or.inl ⟨by rfl, ?_⟩) hS ?_
      rotate_left
      · (intro w hSw; have hSw := (HSd.out w).1 hSw; go_split_ands; go_simp) <;> with_reducible rfl
      clear hS
      try simp only [Act.put, List.setIfInBounds_toArray, List.set_cons_zero, List.set_cons_succ]
      refine wpAnyH_done (by kernel_rfl) ?_ _
      go_wp2_with fail
      go_meet
      exact ⟨rfl, HW.out⟩
    case rest =>
      obtain ⟨rfl, hb⟩ := hcut
      replace bX := bX.on hb
      replace bA := bA.on hb
      replace bB := bB.on hb
      replace HCL := Lib.hid (HCL.out.on hb)
      replace HB := Lib.hid (bel_end HB.out hb)
      clear hb
      clear HCL K4I K4S K2I K2S bB
      by_cases h0 : C = 0
      case neg =>
        have h1 : (C != 0) = true := by simpa using h0
        clear h0
        have bX_0 := bX.cell 0 rfl
        have bX_1 := bX.cell 1 rfl
        have bX_2 := bX.cell 2 rfl
        have bX_3 := bX.cell 3 rfl
        have bX_4 := bX.cell 4 rfl
        have bX_l := bX.lt
        have bA_0 := bA.cell 0 rfl
        have bA_1 := bA.cell 1 rfl
        have bA_2 := bA.cell 2 rfl
        have bA_3 := bA.cell 3 rfl
        have bA_4 := bA.cell 4 rfl
        have bA_l := bA.lt
        go_wp2
        go_ret
        exact ⟨rfl, HB.out⟩
      case pos =>
        obtain ⟨n0, n1⟩ := HN.out h0
        have HT2 := Lib.hid (HT.out h0)
        subst h0
        clear HT HN K1S
        have bX_0 := bX.cell 0 rfl
        have bX_1 := bX.cell 1 rfl
        have bX_2 := bX.cell 2 rfl
        have bX_3 := bX.cell 3 rfl
        have bX_4 := bX.cell 4 rfl
        have bX_l := bX.lt
        have bA_0 := bA.cell 0 rfl
        have bA_1 := bA.cell 1 rfl
        have bA_2 := bA.cell 2 rfl
        have bA_3 := bA.cell 3 rfl
        have bA_4 := bA.cell 4 rfl
        have bA_l := bA.lt
        go_wp2_with fail
        refine (roll_any _ _ _ zs 1401 ((HC.out.below HB.out (Nat.le_refl _)).more HB.out.size)).mono ?_
        rintro e wr1 ⟨sd, rfl, hs1, hD, hb⟩
        clear bX_0 bX_1 bX_2 bX_3 bX_4 bX_l bA_0 bA_1 bA_2 bA_3 bA_4 bA_l
        have lt_bX : gX < sd := by have := bX.lt; omega
        have lt_bA : gA < sd := by have := bA.lt; omega
        have hwsd : w.heap.size ≤ sd := Nat.le_trans HB.out.size hs1
        replace bX := bX.on hb
        replace bA := bA.on hb
        replace HB := Lib.hid (bel_end HB.out hb)
        clear hb
        have en : IntKind.wrap .i64 (n + 1) = n + 1 := IntWalk.i64_in _ (by omega)
        have bX_0 := bX.cell 0 rfl
        have bX_1 := bX.cell 1 rfl
        have bX_2 := bX.cell 2 rfl
        have bX_3 := bX.cell 3 rfl
        have bX_4 := bX.cell 4 rfl
        have bX_l := bX.lt
        have bA_0 := bA.cell 0 rfl
        have bA_1 := bA.cell 1 rfl
        have bA_2 := bA.cell 2 rfl
        have bA_3 := bA.cell 3 rfl
        have bA_4 := bA.cell 4 rfl
        have bA_l := bA.lt
        go_wp2_with fail
        refine (bel_any _ _ (n + 1) (by omega) hD).mono ?_
        rintro e wr2 hTh
        clear bX_0 bX_1 bX_2 bX_3 bX_4 bX_l bA_0 bA_1 bA_2 bA_3 bA_4 bA_l
        obtain ⟨d, rfl, hd0, hd1, hdr⟩ : ∃ d, e = .returned (.int .i64 d) ∧ 0 ≤ d ∧ d < n + 1 ∧ wr1.grownBy wr2 (some sd) := by
          obtain ⟨d, h1, h2, h3, h4, h5⟩ := hTh
          exact ⟨d, h1, h2, by omega, h5⟩
        replace bX := bX.kept hdr (by simp; omega)
        clear lt_bX
        replace bA := bA.kept hdr (by simp; omega)
        clear lt_bA
        replace HB := Lib.hid (HB.out.trans (below_of_grown hdr hwsd HB.out.size))
        clear hdr hTh hD hs1 hwsd en
        obtain ⟨T1, T2, T3, T4⟩ := HT2.out d hd0 (by omega)
        have e1 : IntKind.wrap .i64 (n - d) = n - d := IntWalk.i64_in _ (by omega)
        have K5 : Hid (∀ W : World, Calls Try.prog 16 #[.agg #[.int .i64 x, .int .i64 y, .int .i64 u, .int .i64 v, .int .i64 t], .int .i64 d] W fun e w' => e = .returned (.tuple #[.agg #[.int .i64 (x + d * u), .int .i64 (y + d * v), .int .i64 u, .int .i64 v, .int .i64 (mvS t d)], .int .i64 0]) ∧ Below W.heap.size W w') := Lib.hid (fun W => by have := imv14_any W x y u v t d; rwa [T1] at this)
        have K6 : Hid (∀ W : World, Calls Try.prog 16 #[.agg #[.int .i64 (x + d * u), .int .i64 (y + d * v), .int .i64 u, .int .i64 v, .int .i64 (mvS t d)], .int .i64 (n - d)] W fun e w' => e = .returned (.tuple #[.agg #[.int .i64 X, .int .i64 Y, .int .i64 U, .int .i64 V, .int .i64 G5], .int .i64 0]) ∧ Below W.heap.size W w') := Lib.hid (fun W => by have := imv14_any W (x + d * u) (y + d * v) u v (mvS t d) (n - d); rwa [T2] at this)
        have K7 : Hid (∀ W : World, Calls Try.prog 19 #[.agg #[.int .i64 X, .int .i64 Y, .int .i64 U, .int .i64 V, .int .i64 G5]] W fun e w' => e = .returned (.bool true) ∧ Below W.heap.size W w') := Lib.hid (fun W => by have := imo_any W X Y U V G5; rwa [T4] at this)
        obtain ⟨A1, hA1⟩ : ∃ qq, x + d * u = qq := ⟨_, rfl⟩
        obtain ⟨A2, hA2⟩ : ∃ qq, y + d * v = qq := ⟨_, rfl⟩
        obtain ⟨A5, hA5⟩ : ∃ qq, mvS t d = qq := ⟨_, rfl⟩
        rw [hA1, hA2, hA5] at K5 K6
        clear T1 T2 T4 hA1 hA2 hA5 HT2
        have bX_0 := bX.cell 0 rfl
        have bX_1 := bX.cell 1 rfl
        have bX_2 := bX.cell 2 rfl
        have bX_3 := bX.cell 3 rfl
        have bX_4 := bX.cell 4 rfl
        have bX_l := bX.lt
        have bA_0 := bA.cell 0 rfl
        have bA_1 := bA.cell 1 rfl
        have bA_2 := bA.cell 2 rfl
        have bA_3 := bA.cell 3 rfl
        have bA_4 := bA.cell 4 rfl
        have bA_l := bA.lt
        go_wp2_with fail
        refine (K5.out _).mono ?_
        rintro e w5 ⟨rfl, hb⟩
        replace bX := bX.on hb
        replace bA := bA.on hb
        replace HB := Lib.hid (bel_end HB.out hb)
        clear hb
        clear bX_0 bX_1 bX_2 bX_3 bX_4 bX_l bA_0 bA_1 bA_2 bA_3 bA_4 bA_l
        have bX_0 := bX.cell 0 rfl
        have bX_1 := bX.cell 1 rfl
        have bX_2 := bX.cell 2 rfl
        have bX_3 := bX.cell 3 rfl
        have bX_4 := bX.cell 4 rfl
        have bX_l := bX.lt
        have bA_0 := bA.cell 0 rfl
        have bA_1 := bA.cell 1 rfl
        have bA_2 := bA.cell 2 rfl
        have bA_3 := bA.cell 3 rfl
        have bA_4 := bA.cell 4 rfl
        have bA_l := bA.lt
        go_upto_region 13 with fail
        clear bX_0 bX_1 bX_2 bX_3 bX_4 bX_l bA_0 bA_1 bA_2 bA_3 bA_4 bA_l
        generalize hW : World.alloc _ _ = wl4
        have hb : Below w5.heap.size w5 wl4 := by rw [← hW]; exact (by repeat (first | exact Below.refl _ _ | (refine Below.alloc ?_ (by simp <;> omega) _) | (refine Below.setCell ?_ (by simp <;> omega) _) | (refine Below.drew ?_) | (refine bel_drewN ?_ _)))
        obtain ⟨gC, hg0⟩ : ∃ g, g = w5.heap.size := ⟨_, rfl⟩
        have bC : Bk wl4 gC #[.int .i64 A1, .int .i64 A2, .int .i64 u, .int .i64 v, .int .i64 A5] 25 := by rw [← hW, hg0]; repeat (first | (refine Bk.new' ?_; (simp; done)) | refine Bk.alloc ?_ _)
        try rw [← hg0]
        clear hW hg0
        replace bX := bX.on hb
        replace bA := bA.on hb
        replace HB := Lib.hid (bel_end HB.out hb)
        clear hb
        have bX_0 := bX.cell 0 rfl
        have bX_1 := bX.cell 1 rfl
        have bX_2 := bX.cell 2 rfl
        have bX_3 := bX.cell 3 rfl
        have bX_4 := bX.cell 4 rfl
        have bX_l := bX.lt
        have bA_0 := bA.cell 0 rfl
        have bA_1 := bA.cell 1 rfl
        have bA_2 := bA.cell 2 rfl
        have bA_3 := bA.cell 3 rfl
        have bA_4 := bA.cell 4 rfl
        have bA_l := bA.lt
        have bC_0 := bC.cell 0 rfl
        have bC_1 := bC.cell 1 rfl
        have bC_2 := bC.cell 2 rfl
        have bC_3 := bC.cell 3 rfl
        have bC_4 := bC.cell 4 rfl
        have bC_l := bC.lt
        go_wp2_with fail
        refine (K6.out _).mono ?_
        rintro e w6 ⟨rfl, hb⟩
        replace bX := bX.on hb
        replace bA := bA.on hb
        replace bC := bC.on hb
        replace HB := Lib.hid (bel_end HB.out hb)
        clear hb
        clear bX_0 bX_1 bX_2 bX_3 bX_4 bX_l bA_0 bA_1 bA_2 bA_3 bA_4 bA_l bC_0 bC_1 bC_2 bC_3 bC_4 bC_l
        clear e1
        have bX_0 := bX.cell 0 rfl
        have bX_1 := bX.cell 1 rfl
        have bX_2 := bX.cell 2 rfl
        have bX_3 := bX.cell 3 rfl
        have bX_4 := bX.cell 4 rfl
        have bX_l := bX.lt
        have bA_0 := bA.cell 0 rfl
        have bA_1 := bA.cell 1 rfl
        have bA_2 := bA.cell 2 rfl
        have bA_3 := bA.cell 3 rfl
        have bA_4 := bA.cell 4 rfl
        have bA_l := bA.lt
        have bC_0 := bC.cell 0 rfl
        have bC_1 := bC.cell 1 rfl
        have bC_2 := bC.cell 2 rfl
        have bC_3 := bC.cell 3 rfl
        have bC_4 := bC.cell 4 rfl
        have bC_l := bC.lt
        go_upto_region 14 with fail
        clear bX_0 bX_1 bX_2 bX_3 bX_4 bX_l bA_0 bA_1 bA_2 bA_3 bA_4 bA_l bC_0 bC_1 bC_2 bC_3 bC_4 bC_l
        generalize hW : World.alloc _ _ = wl5
        have hb : Below w6.heap.size w6 wl5 := by rw [← hW]; exact (by repeat (first | exact Below.refl _ _ | (refine Below.alloc ?_ (by simp <;> omega) _) | (refine Below.setCell ?_ (by simp <;> omega) _) | (refine Below.drew ?_) | (refine bel_drewN ?_ _)))
        obtain ⟨gD, hg0⟩ : ∃ g, g = w6.heap.size := ⟨_, rfl⟩
        have bD : Bk wl5 gD #[.int .i64 X, .int .i64 Y, .int .i64 U, .int .i64 V, .int .i64 G5] 25 := by rw [← hW, hg0]; repeat (first | (refine Bk.new' ?_; (simp; done)) | refine Bk.alloc ?_ _)
        try rw [← hg0]
        clear hW hg0
        replace bX := bX.on hb
        replace bA := bA.on hb
        replace bC := bC.on hb
        replace HB := Lib.hid (bel_end HB.out hb)
        clear hb
        have bX_0 := bX.cell 0 rfl
        have bX_1 := bX.cell 1 rfl
        have bX_2 := bX.cell 2 rfl
        have bX_3 := bX.cell 3 rfl
        have bX_4 := bX.cell 4 rfl
        have bX_l := bX.lt
        have bA_0 := bA.cell 0 rfl
        have bA_1 := bA.cell 1 rfl
        have bA_2 := bA.cell 2 rfl
        have bA_3 := bA.cell 3 rfl
        have bA_4 := bA.cell 4 rfl
        have bA_l := bA.lt
        have bC_0 := bC.cell 0 rfl
        have bC_1 := bC.cell 1 rfl
        have bC_2 := bC.cell 2 rfl
        have bC_3 := bC.cell 3 rfl
        have bC_4 := bC.cell 4 rfl
        have bC_l := bC.lt
        have bD_0 := bD.cell 0 rfl
        have bD_1 := bD.cell 1 rfl
        have bD_2 := bD.cell 2 rfl
        have bD_3 := bD.cell 3 rfl
        have bD_4 := bD.cell 4 rfl
        have bD_l := bD.lt
        go_wp2_with fail
        refine (K7.out _).mono ?_
        rintro e w7 ⟨rfl, hb⟩
        replace bX := bX.on hb
        replace bA := bA.on hb
        replace bC := bC.on hb
        replace bD := bD.on hb
        replace HB := Lib.hid (bel_end HB.out hb)
        clear hb
        clear bX_0 bX_1 bX_2 bX_3 bX_4 bX_l bA_0 bA_1 bA_2 bA_3 bA_4 bA_l bC_0 bC_1 bC_2 bC_3 bC_4 bC_l bD_0 bD_1 bD_2 bD_3 bD_4 bD_l
        have bX_0 := bX.cell 0 rfl
        have bX_1 := bX.cell 1 rfl
        have bX_2 := bX.cell 2 rfl
        have bX_3 := bX.cell 3 rfl
        have bX_4 := bX.cell 4 rfl
        have bX_l := bX.lt
        have bA_0 := bA.cell 0 rfl
        have bA_1 := bA.cell 1 rfl
        have bA_2 := bA.cell 2 rfl
        have bA_3 := bA.cell 3 rfl
        have bA_4 := bA.cell 4 rfl
        have bA_l := bA.lt
        have bC_0 := bC.cell 0 rfl
        have bC_1 := bC.cell 1 rfl
        have bC_2 := bC.cell 2 rfl
        have bC_3 := bC.cell 3 rfl
        have bC_4 := bC.cell 4 rfl
        have bC_l := bC.lt
        have bD_0 := bD.cell 0 rfl
        have bD_1 := bD.cell 1 rfl
        have bD_2 := bD.cell 2 rfl
        have bD_3 := bD.cell 3 rfl
        have bD_4 := bD.cell 4 rfl
        have bD_l := bD.lt
        go_wp2
        go_ret
        exact ⟨rfl, HB.out⟩
end Go.Proofs.Ytdkiikmmlfdlcaa
