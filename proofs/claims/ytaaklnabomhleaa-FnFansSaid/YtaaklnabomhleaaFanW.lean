/- The walk of the law of fans. -/
import Derived.Test.YtaaklnabomhleaaFanD
import Derived.Test.YtaaklnabomhleaaFanM
import Derived.Deep.RegionHeld3
import Derived.Deep.DeepCutAuto
import Derived.Deep.RegionWith
import Derived.BigQuiet
import Derived.LoopTactic
import Derived.Handy
import Derived.Outline
namespace Go.Proofs.Ytaaklnabomhleaa
open Go.ChangeShapes Go.WideShapes Go.ChangeAt Go.RowKit Go.Shelf Num
set_option linter.unusedVariables false
attribute [local go_sem ↓] Go.wp_at_zero Go.wp_at_succ

set_option maxRecDepth 100000 in
set_option maxHeartbeats 16000000 in
theorem lfns (a0 : Option Addr) (len0 cap0 : Nat) (z0 : List Int) (w : World) (w0 : IsRow .u8 w a0 len0 cap0 z0) :
    Calls Try.prog 6 #[.slice a0 len0 cap0] w fun e w' => e = .returned (.bool true) ∧ Below w.heap.size w w' := by
  obtain ⟨hln, hc⟩ := Code8.of_row w0
  clear w0
  obtain ⟨cs, hcs⟩ : ∃ cs, z0.take len0 = cs := ⟨_, rfl⟩
  rw [hcs] at hln hc
  subst hln
  clear hcs
  have HC := Lib.hid hc
  clear hc
  by_cases hbig : 4096 < (cs.length : Int)
  · have HB0 : Hid (decide (4096 < (cs.length : Int)) = true) := Lib.hid (decide_eq_true hbig)
    clear hbig
    go_enter Try.func6, Try.ntmps6
    go_wp2_with fail
    refine (big_any _ _ _ _).mono ?_
    rw [HB0.out]
    rintro e w1 ⟨rfl, rfl⟩
    go_wp2
    go_ret
    exact ⟨rfl, Below.refl _ _⟩
  have HB0 : Hid (decide (4096 < (cs.length : Int)) = false) := Lib.hid (decide_eq_false hbig)
  clear hbig
  go_enter Try.func6, Try.ntmps6
  go_wp2_with fail
  refine (big_any _ _ _ _).mono ?_
  rw [HB0.out]
  rintro e w1 ⟨rfl, hw1⟩
  subst hw1
  go_wp2_with fail
  refine (dfo_any _ _ _ cs HC.out).mono ?_
  rintro e w1 ⟨n, lo, hi, d, rfl, hb⟩
  have HB := Lib.hid hb
  have l12 := fanL_len n lo hi d
  obtain ⟨kk, hk⟩ : ∃ k, fanB n lo hi = k := ⟨_, rfl⟩
  obtain ⟨LL, hL⟩ : ∃ x, fanL n lo hi d = x := ⟨_, rfl⟩
  obtain ⟨qq, hq⟩ : ∃ x, fanC n lo hi = x := ⟨_, rfl⟩
  rw [hL] at l12
  have KA : Hid (∀ w : World, Calls Try.prog 20 #[.int .i64 n, .int .i64 lo, .int .i64 hi, .bool d] w fun e w' => ∃ (a' : Option Addr) (c' : Nat), e = .returned (.tuple #[.slice a' LL.length c', .int .i64 qq]) ∧ OwnD w' w.heap.size w'.heap.size a' c' LL ∧ Below w.heap.size w w') := Lib.hid (fun W => by have := ifo_any n lo hi d W; rwa [hL, hq] at this)
  have KB : Hid (∀ w : World, Calls Try.prog 19 #[.int .i64 n, .int .i64 lo, .int .i64 hi, .bool d] w fun e w' => ∃ (a' : Option Addr) (c' : Nat), e = .returned (.tuple #[.slice a' LL.length c', .int .i64 qq]) ∧ OwnD w' w.heap.size w'.heap.size a' c' LL ∧ Below w.heap.size w w') := Lib.hid (fun W => by have := sfo_any n lo hi d W; rwa [hL, hq] at this)
  have KI : Hid (∀ w : World, Calls Try.prog 18 #[.int .i64 n, .int .i64 lo, .int .i64 hi] w fun e w' => e = .returned (.bool kk) ∧ Below w.heap.size w w') := Lib.hid (fun W => by have := isf_any n lo hi W; rwa [hk] at this)
  have hqk : qq = if kk = true then 0 else 1 := by rw [← hq, ← hk]; rfl
  have HL := Lib.hid hL
  have HK := Lib.hid hk
  have HQK := Lib.hid hqk
  clear hL hq hk hqk
  clear hb
  go_wp2_with fail
  refine (KA.out _).mono ?_
  rintro e w2 ⟨ga, gc, rfl, hs, hb⟩
  replace HB := Lib.hid (bel_end HB.out hb)
  have HG := Lib.hid (DrsL.of hs.drs)
  clear hs
  clear hb
  go_wp2_with fail
  refine (KB.out _).mono ?_
  rintro e w3 ⟨sa, sc, rfl, hs, hb⟩
  replace HG := Lib.hid (HG.out.on hb)
  replace HB := Lib.hid (bel_end HB.out hb)
  have HS := Lib.hid (DrsL.of hs.drs)
  clear hs
  clear hb
  go_wp2_with fail
  refine (dlb_any _ _ _ cs ((HC.out.below HB.out (Nat.le_refl _)).more HB.out.size)).mono ?_
  rintro e w4 ⟨x, y, z, u, v, t, p, q, r, rfl, hb⟩
  replace HG := Lib.hid (HG.out.on hb)
  replace HS := Lib.hid (HS.out.on hb)
  replace HB := Lib.hid (bel_end HB.out hb)
  clear hb
  obtain ⟨lb, hlb⟩ : ∃ k, lbB x y z u v t p q r = k := ⟨_, rfl⟩
  have K1 : Hid (∀ w : World, Calls Try.prog 26 #[.agg #[.int .i64 x, .int .i64 y, .int .i64 z], .agg #[.int .i64 u, .int .i64 v, .int .i64 t], .agg #[.int .i64 p, .int .i64 q, .int .i64 r]] w fun e w' => e = .returned (.bool lb) ∧ Below w.heap.size w w') := Lib.hid (fun W => by have := ilb_any x y z u v t p q r W; rwa [hlb] at this)
  have K2 : Hid (∀ w : World, Calls Try.prog 24 #[.agg #[.int .i64 x, .int .i64 y, .int .i64 z], .agg #[.int .i64 u, .int .i64 v, .int .i64 t], .agg #[.int .i64 p, .int .i64 q, .int .i64 r]] w fun e w' => e = .returned (.bool lb) ∧ Below w.heap.size w w') := Lib.hid (fun W => by have := slb_any x y z u v t p q r W; rwa [hlb] at this)
  have K3 : Hid (∀ w : World, Calls Try.prog 26 #[.agg #[.int .i64 u, .int .i64 v, .int .i64 t], .agg #[.int .i64 x, .int .i64 y, .int .i64 z], .agg #[.int .i64 p, .int .i64 q, .int .i64 r]] w fun e w' => e = .returned (.bool lb) ∧ Below w.heap.size w w') := Lib.hid (fun W => by have := ilb_any u v t x y z p q r W; rw [lb_swap] at this; rwa [hlb] at this)
  clear hlb
  go_upto_region 7 with fail
  obtain ⟨W5, hW⟩ : ∃ W, W = (((w4.alloc (.cells #[.int .i64 x, .int .i64 y, .int .i64 z] 32)).alloc (.cells #[.int .i64 u, .int .i64 v, .int .i64 t] 32)).alloc (.cells #[.int .i64 p, .int .i64 q, .int .i64 r] 32)) := ⟨_, rfl⟩
  have hb : Below w4.heap.size w4 W5 := by rw [hW]; exact (by repeat (first | exact Below.refl _ _ | (refine Below.alloc ?_ (by simp <;> omega) _) | (refine Below.setCell ?_ (by simp <;> omega) _) | (refine Below.drew ?_) | (refine bel_drewN ?_ _)))
  have bX : Bk W5 (w4.heap.size) #[.int .i64 x, .int .i64 y, .int .i64 z] 32 := by rw [hW]; exact (((Bk.new' (by simp)).alloc _).alloc _)
  have bY : Bk W5 (w4.heap.size + 1) #[.int .i64 u, .int .i64 v, .int .i64 t] 32 := by rw [hW]; exact ((Bk.new' (by simp)).alloc _)
  have bZ : Bk W5 (w4.heap.size + 1 + 1) #[.int .i64 p, .int .i64 q, .int .i64 r] 32 := by rw [hW]; exact (Bk.new' (by simp))
  replace HG := Lib.hid (HG.out.on hb)
  replace HS := Lib.hid (HS.out.on hb)
  replace HB := Lib.hid (bel_end HB.out hb)
  rw [← hW]
  clear hW hb
  have bX_l := bX.lt
  have bY_l := bY.lt
  have bZ_l := bZ.lt
  go_cut [87] (fun s wx => s = .bool false ∧ Below W5.heap.size W5 wx)
  case first =>
    have HW : Hid (Below W5.heap.size W5 W5) := Lib.hid (Below.refl _ _)
    have hq01 : (qq = 0 ∧ kk = true) ∨ (qq = 1 ∧ kk = false) := by have hh := HQK.out; clear HL HK HQK HG HS K1 K2 K3 KA KB KI; cases kk; exact Or.inr ⟨by simpa using hh, rfl⟩; exact Or.inl ⟨by simpa using hh, rfl⟩
    clear HQK HL HK
    rcases hq01 with ⟨rfl, rfl⟩ | ⟨rfl, rfl⟩ <;> cases lb
    all_goals
      obtain ⟨S, hSd⟩ : ∃ S : World → Prop, ∀ w', S w' ↔ (w'.cell? ⟨w4.heap.size, 0, none⟩ = some (.int .i64 x) ∧ w'.cell? ⟨w4.heap.size, 1, none⟩ = some (.int .i64 y) ∧ w'.cell? ⟨w4.heap.size, 2, none⟩ = some (.int .i64 z) ∧ w'.cell? ⟨w4.heap.size + 1, 0, none⟩ = some (.int .i64 u) ∧ w'.cell? ⟨w4.heap.size + 1, 1, none⟩ = some (.int .i64 v) ∧ w'.cell? ⟨w4.heap.size + 1, 2, none⟩ = some (.int .i64 t) ∧ w'.cell? ⟨w4.heap.size + 1 + 1, 0, none⟩ = some (.int .i64 p) ∧ w'.cell? ⟨w4.heap.size + 1 + 1, 1, none⟩ = some (.int .i64 q) ∧ w'.cell? ⟨w4.heap.size + 1 + 1, 2, none⟩ = some (.int .i64 r)) := ⟨_, fun _ => Iff.rfl⟩
      have HSp : Hid (∀ w' : World, Bk w' (w4.heap.size) #[.int .i64 x, .int .i64 y, .int .i64 z] 32 → Bk w' (w4.heap.size + 1) #[.int .i64 u, .int .i64 v, .int .i64 t] 32 → Bk w' (w4.heap.size + 1 + 1) #[.int .i64 p, .int .i64 q, .int .i64 r] 32 → S w') := Lib.hid (fun w' bX bY bZ => (hSd w').2 ⟨bX.cell 0 rfl, bX.cell 1 rfl, bX.cell 2 rfl, bY.cell 0 rfl, bY.cell 1 rfl, bY.cell 2 rfl, bZ.cell 0 rfl, bZ.cell 1 rfl, bZ.cell 2 rfl⟩)
      have HSd := Lib.hid hSd
      clear hSd
      refine wp_region_held_drew (S := S) (by kernel_rfl) ?_ (fun hH => ?_)
      · exact (HSp.out _ bX bY bZ : S (World.drew W5))
      clear hH
      generalize hX : World.drew W5 = V0
      replace bX : Bk V0 (w4.heap.size) #[.int .i64 x, .int .i64 y, .int .i64 z] 32 := by rw [← hX]; exact bX
      replace bY : Bk V0 (w4.heap.size + 1) #[.int .i64 u, .int .i64 v, .int .i64 t] 32 := by rw [← hX]; exact bY
      replace bZ : Bk V0 (w4.heap.size + 1 + 1) #[.int .i64 p, .int .i64 q, .int .i64 r] 32 := by rw [← hX]; exact bZ
      have hb : Below W5.heap.size W5 V0 := by rw [← hX]; exact (Below.refl _ _).drew
      clear hX
      replace HW := Lib.hid (bel_end HW.out hb)
      clear hb
      have hS := HSp.out _ bX bY bZ
      refine wpAnyH_take (i := 0) (oi := { dst := some 48, op := Go.Op.move (Go.Operand.tmp 8), type := 2, pos := "laws.go:1813", after := #[], guard := none }) (v := ?_) rfl (by kernel_rfl) (by kernel_rfl) (by kernel_rfl) (fun _ _ _ h => h) (Or.inl ⟨by rfl, ?_⟩) hS ?_
      rotate_left
      · (intro w hSw; have hSw := (HSd.out w).1 hSw; go_split_ands; go_simp) <;> with_reducible rfl
      clear hS
      try simp only [Act.put, List.setIfInBounds_toArray, List.set_cons_zero, List.set_cons_succ]
      have hS := HSp.out _ bX bY bZ
      refine wpAnyH_take (i := 1) (oi := { dst := some 49, op := Go.Op.move (Go.Operand.tmp 10), type := 2, pos := "laws.go:1813", after := #[], guard := none }) (v := ?_) rfl (by kernel_rfl) (by kernel_rfl) (by kernel_rfl) (fun _ _ _ h => h) (Or.inl ⟨by rfl, ?_⟩) hS ?_
      rotate_left
      · (intro w hSw; have hSw := (HSd.out w).1 hSw; go_split_ands; go_simp) <;> with_reducible rfl
      clear hS
      try simp only [Act.put, List.setIfInBounds_toArray, List.set_cons_zero, List.set_cons_succ]
      have hS := HSp.out _ bX bY bZ
      refine wpAnyH_take (i := 2) (oi := { dst := some 50, op := Go.Op.binOp Go.BinOp.neq 2 (Go.Operand.tmp 48) (Go.Operand.tmp 49) 2, type := 4, pos := "laws.go:1813", after := #[{ on := 0, ground := Go.Ground.data }, { on := 1, ground := Go.Ground.data }], guard := none }) (v := ?_) rfl (by kernel_rfl) (by kernel_rfl) (by kernel_rfl) (fun _ _ _ h => h) (Or.inl ⟨by rfl, ?_⟩) hS ?_
      rotate_left
      · (intro w hSw; have hSw := (HSd.out w).1 hSw; go_split_ands; go_simp) <;> with_reducible rfl
      clear hS
      try simp only [Act.put, List.setIfInBounds_toArray, List.set_cons_zero, List.set_cons_succ]
      have hS := HSp.out _ bX bY bZ
      refine wpAnyH_take (i := 3) (oi := { dst := some 51, op := Go.Op.move (Go.Operand.tmp 50), type := 4, pos := "laws.go:1813", after := #[{ on := 2, ground := Go.Ground.data }], guard := none }) (v := ?_) rfl (by kernel_rfl) (by kernel_rfl) (by kernel_rfl) (fun _ _ _ h => h) (Or.inl ⟨by rfl, ?_⟩) hS ?_
      rotate_left
      · (intro w hSw; have hSw := (HSd.out w).1 hSw; go_split_ands; go_simp) <;> with_reducible rfl
      clear hS
      try simp only [Act.put, List.setIfInBounds_toArray, List.set_cons_zero, List.set_cons_succ]
      have hS := HSp.out _ bX bY bZ
      refine wpAnyH_take (i := 4) (oi := { dst := some 52, op := Go.Op.move (Go.Operand.tmp 7), type := 23, pos := "laws.go:1813", after := #[{ on := 3, ground := Go.Ground.guard }], guard := some (3, false) }) (v := ?_) rfl (by kernel_rfl) (by kernel_rfl) (by kernel_rfl) (fun _ _ _ h => h) (Or.inl ⟨by rfl, ?_⟩) hS ?_
      rotate_left
      · (intro w hSw; have hSw := (HSd.out w).1 hSw; go_split_ands; go_simp) <;> with_reducible rfl
      clear hS
      try simp only [Act.put, List.setIfInBounds_toArray, List.set_cons_zero, List.set_cons_succ]
      have hS := HSp.out _ bX bY bZ
      refine wpAnyH_take (i := 5) (oi := { dst := some 53, op := Go.Op.move (Go.Operand.tmp 9), type := 23, pos := "laws.go:1813", after := #[{ on := 3, ground := Go.Ground.guard }], guard := some (3, false) }) (v := ?_) rfl (by kernel_rfl) (by kernel_rfl) (by kernel_rfl) (fun _ _ _ h => h) (Or.inl ⟨by rfl, ?_⟩) hS ?_
      rotate_left
      · (intro w hSw; have hSw := (HSd.out w).1 hSw; go_split_ands; go_simp) <;> with_reducible rfl
      clear hS
      try simp only [Act.put, List.setIfInBounds_toArray, List.set_cons_zero, List.set_cons_succ]
      refine wpAnyH_ready (rs := [6]) (by kernel_rfl) (by simp) ?_
      refine AllReadyH.cons (o := { dst := some 54, op := Go.Op.call { callee := Go.Callee.value (Go.Operand.func 30), args := #[Go.Operand.tmp 52, Go.Operand.tmp 53], argTypes := #[23, 23] }, type := 4, pos := "laws.go:1813", after := #[{ on := 4, ground := Go.Ground.data }, { on := 5, ground := Go.Ground.data }, { on := 3, ground := Go.Ground.chain }, { on := 3, ground := Go.Ground.guard }], guard := some (3, false) }) rfl (fun Kn hK => ?_) AllReadyH.nil
      first | go_at_call 30 | (go_simp; go_at_call 30)
      refine (lkD_any _ _ _ _ _ _ LL (by omega) (HG.out.on HW.out).drs (HS.out.on HW.out).drs).mono ?_
      rintro e V1 ⟨rfl, nn, hnn⟩
      have hb : Below V0.heap.size V0 V1 := by rw [hnn]; exact bel_drewN (Below.refl _ _) _
      clear hnn
      try dsimp only
      try simp only [Act.put, List.setIfInBounds_toArray, List.set_cons_zero, List.set_cons_succ]
      replace bX := bX.on hb
      replace bY := bY.on hb
      replace bZ := bZ.on hb
      replace HW := Lib.hid (bel_end HW.out hb)
      clear hb
      refine hK.out _ _ (HSp.out _ bX bY bZ) (fun _ => ?_)
      clear hK Kn
      have hS := HSp.out _ bX bY bZ
      refine wpAnyH_take (i := 7) (oi := { dst := some 55, op := Go.Op.unOp Go.UnOp.not 4 (Go.Operand.tmp 54), type := 4, pos := "laws.go:1813", after := #[{ on := 6, ground := Go.Ground.data }, { on := 3, ground := Go.Ground.guard }], guard := some (3, false) }) (v := ?_) rfl (by kernel_rfl) (by kernel_rfl) (by kernel_rfl) (fun _ _ _ h => h) (Or.inl ⟨by rfl, ?_⟩) hS ?_
      rotate_left
      · (intro w hSw; have hSw := (HSd.out w).1 hSw; go_split_ands; go_simp) <;> with_reducible rfl
      clear hS
      try simp only [Act.put, List.setIfInBounds_toArray, List.set_cons_zero, List.set_cons_succ]
      have hS := HSp.out _ bX bY bZ
      refine wpAnyH_take (i := 8) (oi := { dst := some 56, op := Go.Op.pick (Go.Operand.tmp 51) (Go.Operand.const (Go.Value.bool true)) (Go.Operand.tmp 55), type := 4, pos := "laws.go:1813", after := #[{ on := 3, ground := Go.Ground.data }, { on := 7, ground := Go.Ground.data }], guard := none }) (v := ?_) rfl (by kernel_rfl) (by kernel_rfl) (by kernel_rfl) (fun _ _ _ h => h) (Or.inl ⟨by rfl, ?_⟩) hS ?_
      rotate_left
      · (intro w hSw; have hSw := (HSd.out w).1 hSw; go_split_ands; go_simp) <;> with_reducible rfl
      clear hS
      try simp only [Act.put, List.setIfInBounds_toArray, List.set_cons_zero, List.set_cons_succ]
      have hS := HSp.out _ bX bY bZ
      refine wpAnyH_take (i := 9) (oi := { dst := some 57, op := Go.Op.move (Go.Operand.tmp 56), type := 4, pos := "laws.go:1813", after := #[{ on := 8, ground := Go.Ground.data }, { on := 6, ground := Go.Ground.chain }], guard := none }) (v := ?_) rfl (by kernel_rfl) (by kernel_rfl) (by kernel_rfl) (fun _ _ _ h => h) (Or.inl ⟨by rfl, ?_⟩) hS ?_
      rotate_left
      · (intro w hSw; have hSw := (HSd.out w).1 hSw; go_split_ands; go_simp) <;> with_reducible rfl
      clear hS
      try simp only [Act.put, List.setIfInBounds_toArray, List.set_cons_zero, List.set_cons_succ]
      have hS := HSp.out _ bX bY bZ
      refine wpAnyH_take (i := 10) (oi := { dst := some 58, op := Go.Op.move (Go.Operand.tmp 3), type := 2, pos := "laws.go:1813", after := #[{ on := 9, ground := Go.Ground.guard }], guard := some (9, false) }) (v := ?_) rfl (by kernel_rfl) (by kernel_rfl) (by kernel_rfl) (fun _ _ _ h => h) (Or.inl ⟨by rfl, ?_⟩) hS ?_
      rotate_left
      · (intro w hSw; have hSw := (HSd.out w).1 hSw; go_split_ands; go_simp) <;> with_reducible rfl
      clear hS
      try simp only [Act.put, List.setIfInBounds_toArray, List.set_cons_zero, List.set_cons_succ]
      have hS := HSp.out _ bX bY bZ
      refine wpAnyH_take (i := 11) (oi := { dst := some 59, op := Go.Op.move (Go.Operand.tmp 4), type := 2, pos := "laws.go:1813", after := #[{ on := 9, ground := Go.Ground.guard }], guard := some (9, false) }) (v := ?_) rfl (by kernel_rfl) (by kernel_rfl) (by kernel_rfl) (fun _ _ _ h => h) (Or.inl ⟨by rfl, ?_⟩) hS ?_
      rotate_left
      · (intro w hSw; have hSw := (HSd.out w).1 hSw; go_split_ands; go_simp) <;> with_reducible rfl
      clear hS
      try simp only [Act.put, List.setIfInBounds_toArray, List.set_cons_zero, List.set_cons_succ]
      have hS := HSp.out _ bX bY bZ
      refine wpAnyH_take (i := 12) (oi := { dst := some 60, op := Go.Op.move (Go.Operand.tmp 5), type := 2, pos := "laws.go:1813", after := #[{ on := 9, ground := Go.Ground.guard }], guard := some (9, false) }) (v := ?_) rfl (by kernel_rfl) (by kernel_rfl) (by kernel_rfl) (fun _ _ _ h => h) (Or.inl ⟨by rfl, ?_⟩) hS ?_
      rotate_left
      · (intro w hSw; have hSw := (HSd.out w).1 hSw; go_split_ands; go_simp) <;> with_reducible rfl
      clear hS
      try simp only [Act.put, List.setIfInBounds_toArray, List.set_cons_zero, List.set_cons_succ]
      have hS := HSp.out _ bX bY bZ
      refine wpAnyH_take (i := 14) (oi := { dst := some 62, op := Go.Op.move (Go.Operand.tmp 10), type := 2, pos := "laws.go:1813", after := #[{ on := 9, ground := Go.Ground.guard }], guard := some (9, false) }) (v := ?_) rfl (by kernel_rfl) (by kernel_rfl) (by kernel_rfl) (fun _ _ _ h => h) (Or.inl ⟨by rfl, ?_⟩) hS ?_
      rotate_left
      · (intro w hSw; have hSw := (HSd.out w).1 hSw; go_split_ands; go_simp) <;> with_reducible rfl
      clear hS
      try simp only [Act.put, List.setIfInBounds_toArray, List.set_cons_zero, List.set_cons_succ]
      have hS := HSp.out _ bX bY bZ
      refine wpAnyH_take (i := 15) (oi := { dst := some 63, op := Go.Op.binOp Go.BinOp.eql 2 (Go.Operand.tmp 62) (Go.Operand.const (Go.Value.int Go.IntKind.i64 0)) 2, type := 4, pos := "laws.go:1813", after := #[{ on := 14, ground := Go.Ground.data }, { on := 9, ground := Go.Ground.guard }], guard := some (9, false) }) (v := ?_) rfl (by kernel_rfl) (by kernel_rfl) (by kernel_rfl) (fun _ _ _ h => h) (Or.inl ⟨by rfl, ?_⟩) hS ?_
      rotate_left
      · (intro w hSw; have hSw := (HSd.out w).1 hSw; go_split_ands; go_simp) <;> with_reducible rfl
      clear hS
      try simp only [Act.put, List.setIfInBounds_toArray, List.set_cons_zero, List.set_cons_succ]
      refine wpAnyH_ready (rs := [13]) (by kernel_rfl) (by simp) ?_
      refine AllReadyH.cons (o := { dst := some 61, op := Go.Op.call { callee := Go.Callee.value (Go.Operand.func 18), args := #[Go.Operand.tmp 58, Go.Operand.tmp 59, Go.Operand.tmp 60], argTypes := #[2, 2, 2] }, type := 4, pos := "laws.go:1813", after := #[{ on := 10, ground := Go.Ground.data }, { on := 11, ground := Go.Ground.data }, { on := 12, ground := Go.Ground.data }, { on := 9, ground := Go.Ground.chain }, { on := 9, ground := Go.Ground.guard }], guard := some (9, false) }) rfl (fun Kn hK => ?_) AllReadyH.nil
      first | go_at_call 18 | (go_simp; go_at_call 18)
      (with_reducible refine Calls.mono (KI.out _) ?_)
      rintro e V2 ⟨rfl, hb⟩
      try dsimp only
      try simp only [Act.put, List.setIfInBounds_toArray, List.set_cons_zero, List.set_cons_succ]
      replace bX := bX.on hb
      replace bY := bY.on hb
      replace bZ := bZ.on hb
      replace HW := Lib.hid (bel_end HW.out hb)
      clear hb
      refine hK.out _ _ (HSp.out _ bX bY bZ) (fun _ => ?_)
      clear hK Kn
      have hS := HSp.out _ bX bY bZ
      refine wpAnyH_take (i := 16) (oi := { dst := some 64, op := Go.Op.binOp Go.BinOp.neq 4 (Go.Operand.tmp 61) (Go.Operand.tmp 63) 4, type := 4, pos := "laws.go:1813", after := #[{ on := 13, ground := Go.Ground.data }, { on := 15, ground := Go.Ground.data }, { on := 9, ground := Go.Ground.guard }], guard := some (9, false) }) (v := ?_) rfl (by kernel_rfl) (by kernel_rfl) (by kernel_rfl) (fun _ _ _ h => h) (Or.inl ⟨by rfl, ?_⟩) hS ?_
      rotate_left
      · (intro w hSw; have hSw := (HSd.out w).1 hSw; go_split_ands; go_simp) <;> with_reducible rfl
      clear hS
      try simp only [Act.put, List.setIfInBounds_toArray, List.set_cons_zero, List.set_cons_succ]
      have hS := HSp.out _ bX bY bZ
      refine wpAnyH_take (i := 17) (oi := { dst := some 65, op := Go.Op.pick (Go.Operand.tmp 57) (Go.Operand.const (Go.Value.bool true)) (Go.Operand.tmp 64), type := 4, pos := "laws.go:1813", after := #[{ on := 9, ground := Go.Ground.data }, { on := 16, ground := Go.Ground.data }], guard := none }) (v := ?_) rfl (by kernel_rfl) (by kernel_rfl) (by kernel_rfl) (fun _ _ _ h => h) (Or.inl ⟨by rfl, ?_⟩) hS ?_
      rotate_left
      · (intro w hSw; have hSw := (HSd.out w).1 hSw; go_split_ands; go_simp) <;> with_reducible rfl
      clear hS
      try simp only [Act.put, List.setIfInBounds_toArray, List.set_cons_zero, List.set_cons_succ]
      have hS := HSp.out _ bX bY bZ
      refine wpAnyH_take (i := 18) (oi := { dst := some 66, op := Go.Op.move (Go.Operand.tmp 65), type := 4, pos := "laws.go:1813", after := #[{ on := 17, ground := Go.Ground.data }, { on := 13, ground := Go.Ground.chain }], guard := none }) (v := ?_) rfl (by kernel_rfl) (by kernel_rfl) (by kernel_rfl) (fun _ _ _ h => h) (Or.inl ⟨by rfl, ?_⟩) hS ?_
      rotate_left
      · (intro w hSw; have hSw := (HSd.out w).1 hSw; go_split_ands; go_simp) <;> with_reducible rfl
      clear hS
      try simp only [Act.put, List.setIfInBounds_toArray, List.set_cons_zero, List.set_cons_succ]
      have hS := HSp.out _ bX bY bZ
      refine wpAnyH_take (i := 19) (oi := { dst := some 67, op := Go.Op.load 32 (Go.Operand.tmp 11), type := 32, pos := "laws.go:1813", after := #[{ on := 18, ground := Go.Ground.guard }], guard := some (18, false) }) (v := ?_) rfl (by kernel_rfl) (by kernel_rfl) (by kernel_rfl) (fun _ _ _ h => h) (Or.inl ⟨by rfl, ?_⟩) hS ?_
      rotate_left
      · (intro w hSw; have hSw := (HSd.out w).1 hSw; go_split_ands; go_simp) <;> with_reducible rfl
      clear hS
      try simp only [Act.put, List.setIfInBounds_toArray, List.set_cons_zero, List.set_cons_succ]
      have hS := HSp.out _ bX bY bZ
      refine wpAnyH_take (i := 20) (oi := { dst := some 68, op := Go.Op.load 32 (Go.Operand.tmp 12), type := 32, pos := "laws.go:1813", after := #[{ on := 18, ground := Go.Ground.guard }], guard := some (18, false) }) (v := ?_) rfl (by kernel_rfl) (by kernel_rfl) (by kernel_rfl) (fun _ _ _ h => h) (Or.inl ⟨by rfl, ?_⟩) hS ?_
      rotate_left
      · (intro w hSw; have hSw := (HSd.out w).1 hSw; go_split_ands; go_simp) <;> with_reducible rfl
      clear hS
      try simp only [Act.put, List.setIfInBounds_toArray, List.set_cons_zero, List.set_cons_succ]
      have hS := HSp.out _ bX bY bZ
      refine wpAnyH_take (i := 21) (oi := { dst := some 69, op := Go.Op.load 32 (Go.Operand.tmp 13), type := 32, pos := "laws.go:1813", after := #[{ on := 18, ground := Go.Ground.guard }], guard := some (18, false) }) (v := ?_) rfl (by kernel_rfl) (by kernel_rfl) (by kernel_rfl) (fun _ _ _ h => h) (Or.inl ⟨by rfl, ?_⟩) hS ?_
      rotate_left
      · (intro w hSw; have hSw := (HSd.out w).1 hSw; go_split_ands; go_simp) <;> with_reducible rfl
      clear hS
      try simp only [Act.put, List.setIfInBounds_toArray, List.set_cons_zero, List.set_cons_succ]
      have hS := HSp.out _ bX bY bZ
      refine wpAnyH_take (i := 23) (oi := { dst := some 71, op := Go.Op.load 32 (Go.Operand.tmp 11), type := 32, pos := "laws.go:1813", after := #[{ on := 18, ground := Go.Ground.guard }], guard := some (18, false) }) (v := ?_) rfl (by kernel_rfl) (by kernel_rfl) (by kernel_rfl) (fun _ _ _ h => h) (Or.inl ⟨by rfl, ?_⟩) hS ?_
      rotate_left
      · (intro w hSw; have hSw := (HSd.out w).1 hSw; go_split_ands; go_simp) <;> with_reducible rfl
      clear hS
      try simp only [Act.put, List.setIfInBounds_toArray, List.set_cons_zero, List.set_cons_succ]
      have hS := HSp.out _ bX bY bZ
      refine wpAnyH_take (i := 24) (oi := { dst := some 72, op := Go.Op.load 32 (Go.Operand.tmp 12), type := 32, pos := "laws.go:1813", after := #[{ on := 18, ground := Go.Ground.guard }], guard := some (18, false) }) (v := ?_) rfl (by kernel_rfl) (by kernel_rfl) (by kernel_rfl) (fun _ _ _ h => h) (Or.inl ⟨by rfl, ?_⟩) hS ?_
      rotate_left
      · (intro w hSw; have hSw := (HSd.out w).1 hSw; go_split_ands; go_simp) <;> with_reducible rfl
      clear hS
      try simp only [Act.put, List.setIfInBounds_toArray, List.set_cons_zero, List.set_cons_succ]
      have hS := HSp.out _ bX bY bZ
      refine wpAnyH_take (i := 25) (oi := { dst := some 73, op := Go.Op.load 32 (Go.Operand.tmp 13), type := 32, pos := "laws.go:1813", after := #[{ on := 18, ground := Go.Ground.guard }], guard := some (18, false) }) (v := ?_) rfl (by kernel_rfl) (by kernel_rfl) (by kernel_rfl) (fun _ _ _ h => h) (Or.inl ⟨by rfl, ?_⟩) hS ?_
      rotate_left
      · (intro w hSw; have hSw := (HSd.out w).1 hSw; go_split_ands; go_simp) <;> with_reducible rfl
      clear hS
      try simp only [Act.put, List.setIfInBounds_toArray, List.set_cons_zero, List.set_cons_succ]
      refine wpAnyH_ready (rs := [22]) (by kernel_rfl) (by simp) ?_
      refine AllReadyH.cons (o := { dst := some 70, op := Go.Op.call { callee := Go.Callee.value (Go.Operand.func 26), args := #[Go.Operand.tmp 67, Go.Operand.tmp 68, Go.Operand.tmp 69], argTypes := #[32, 32, 32] }, type := 4, pos := "laws.go:1813", after := #[{ on := 19, ground := Go.Ground.data }, { on := 20, ground := Go.Ground.data }, { on := 21, ground := Go.Ground.data }, { on := 18, ground := Go.Ground.chain }, { on := 18, ground := Go.Ground.guard }], guard := some (18, false) }) rfl (fun Kn hK => ?_) AllReadyH.nil
      first | go_at_call 26 | (go_simp; go_at_call 26)
      (with_reducible refine Calls.mono (K1.out _) ?_)
      rintro e V3 ⟨rfl, hb⟩
      try dsimp only
      try simp only [Act.put, List.setIfInBounds_toArray, List.set_cons_zero, List.set_cons_succ]
      replace bX := bX.on hb
      replace bY := bY.on hb
      replace bZ := bZ.on hb
      replace HW := Lib.hid (bel_end HW.out hb)
      clear hb
      refine hK.out _ _ (HSp.out _ bX bY bZ) (fun _ => ?_)
      clear hK Kn
      refine wpAnyH_ready (rs := [26]) (by kernel_rfl) (by simp) ?_
      refine AllReadyH.cons (o := { dst := some 74, op := Go.Op.call { callee := Go.Callee.value (Go.Operand.func 24), args := #[Go.Operand.tmp 71, Go.Operand.tmp 72, Go.Operand.tmp 73], argTypes := #[32, 32, 32] }, type := 4, pos := "laws.go:1813", after := #[{ on := 23, ground := Go.Ground.data }, { on := 24, ground := Go.Ground.data }, { on := 25, ground := Go.Ground.data }, { on := 22, ground := Go.Ground.chain }, { on := 18, ground := Go.Ground.guard }], guard := some (18, false) }) rfl (fun Kn hK => ?_) AllReadyH.nil
      first | go_at_call 24 | (go_simp; go_at_call 24)
      (with_reducible refine Calls.mono (K2.out _) ?_)
      rintro e V4 ⟨rfl, hb⟩
      try dsimp only
      try simp only [Act.put, List.setIfInBounds_toArray, List.set_cons_zero, List.set_cons_succ]
      replace bX := bX.on hb
      replace bY := bY.on hb
      replace bZ := bZ.on hb
      replace HW := Lib.hid (bel_end HW.out hb)
      clear hb
      refine hK.out _ _ (HSp.out _ bX bY bZ) (fun _ => ?_)
      clear hK Kn
      have hS := HSp.out _ bX bY bZ
      refine wpAnyH_take (i := 27) (oi := { dst := some 75, op := Go.Op.binOp Go.BinOp.neq 4 (Go.Operand.tmp 70) (Go.Operand.tmp 74) 4, type := 4, pos := "laws.go:1813", after := #[{ on := 22, ground := Go.Ground.data }, { on := 26, ground := Go.Ground.data }, { on := 18, ground := Go.Ground.guard }], guard := some (18, false) }) (v := ?_) rfl (by kernel_rfl) (by kernel_rfl) (by kernel_rfl) (fun _ _ _ h => h) (Or.inl ⟨by rfl, ?_⟩) hS ?_
      rotate_left
      · (intro w hSw; have hSw := (HSd.out w).1 hSw; go_split_ands; go_simp) <;> with_reducible rfl
      clear hS
      try simp only [Act.put, List.setIfInBounds_toArray, List.set_cons_zero, List.set_cons_succ]
      have hS := HSp.out _ bX bY bZ
      refine wpAnyH_take (i := 28) (oi := { dst := some 76, op := Go.Op.pick (Go.Operand.tmp 66) (Go.Operand.const (Go.Value.bool true)) (Go.Operand.tmp 75), type := 4, pos := "laws.go:1813", after := #[{ on := 18, ground := Go.Ground.data }, { on := 27, ground := Go.Ground.data }], guard := none }) (v := ?_) rfl (by kernel_rfl) (by kernel_rfl) (by kernel_rfl) (fun _ _ _ h => h) (Or.inl ⟨by rfl, ?_⟩) hS ?_
      rotate_left
      · (intro w hSw; have hSw := (HSd.out w).1 hSw; go_split_ands; go_simp) <;> with_reducible rfl
      clear hS
      try simp only [Act.put, List.setIfInBounds_toArray, List.set_cons_zero, List.set_cons_succ]
      have hS := HSp.out _ bX bY bZ
      refine wpAnyH_take (i := 29) (oi := { dst := some 77, op := Go.Op.move (Go.Operand.tmp 76), type := 4, pos := "laws.go:1813", after := #[{ on := 28, ground := Go.Ground.data }, { on := 26, ground := Go.Ground.chain }], guard := none }) (v := ?_) rfl (by kernel_rfl) (by kernel_rfl) (by kernel_rfl) (fun _ _ _ h => h) (Or.inl ⟨by rfl, ?_⟩) hS ?_
      rotate_left
      · (intro w hSw; have hSw := (HSd.out w).1 hSw; go_split_ands; go_simp) <;> with_reducible rfl
      clear hS
      try simp only [Act.put, List.setIfInBounds_toArray, List.set_cons_zero, List.set_cons_succ]
      have hS := HSp.out _ bX bY bZ
      refine wpAnyH_take (i := 30) (oi := { dst := some 78, op := Go.Op.load 32 (Go.Operand.tmp 12), type := 32, pos := "laws.go:1813", after := #[{ on := 29, ground := Go.Ground.guard }], guard := some (29, false) }) (v := ?_) rfl (by kernel_rfl) (by kernel_rfl) (by kernel_rfl) (fun _ _ _ h => h) (Or.inl ⟨by rfl, ?_⟩) hS ?_
      rotate_left
      · (intro w hSw; have hSw := (HSd.out w).1 hSw; go_split_ands; go_simp) <;> with_reducible rfl
      clear hS
      try simp only [Act.put, List.setIfInBounds_toArray, List.set_cons_zero, List.set_cons_succ]
      have hS := HSp.out _ bX bY bZ
      refine wpAnyH_take (i := 31) (oi := { dst := some 79, op := Go.Op.load 32 (Go.Operand.tmp 11), type := 32, pos := "laws.go:1813", after := #[{ on := 29, ground := Go.Ground.guard }], guard := some (29, false) }) (v := ?_) rfl (by kernel_rfl) (by kernel_rfl) (by kernel_rfl) (fun _ _ _ h => h) (Or.inl ⟨by rfl, ?_⟩) hS ?_
      rotate_left
      · (intro w hSw; have hSw := (HSd.out w).1 hSw; go_split_ands; go_simp) <;> with_reducible rfl
      clear hS
      try simp only [Act.put, List.setIfInBounds_toArray, List.set_cons_zero, List.set_cons_succ]
      have hS := HSp.out _ bX bY bZ
      refine wpAnyH_take (i := 32) (oi := { dst := some 80, op := Go.Op.load 32 (Go.Operand.tmp 13), type := 32, pos := "laws.go:1813", after := #[{ on := 29, ground := Go.Ground.guard }], guard := some (29, false) }) (v := ?_) rfl (by kernel_rfl) (by kernel_rfl) (by kernel_rfl) (fun _ _ _ h => h) (Or.inl ⟨by rfl, ?_⟩) hS ?_
      rotate_left
      · (intro w hSw; have hSw := (HSd.out w).1 hSw; go_split_ands; go_simp) <;> with_reducible rfl
      clear hS
      try simp only [Act.put, List.setIfInBounds_toArray, List.set_cons_zero, List.set_cons_succ]
      have hS := HSp.out _ bX bY bZ
      refine wpAnyH_take (i := 34) (oi := { dst := some 82, op := Go.Op.load 32 (Go.Operand.tmp 11), type := 32, pos := "laws.go:1813", after := #[{ on := 29, ground := Go.Ground.guard }], guard := some (29, false) }) (v := ?_) rfl (by kernel_rfl) (by kernel_rfl) (by kernel_rfl) (fun _ _ _ h => h) (Or.inl ⟨by rfl, ?_⟩) hS ?_
      rotate_left
      · (intro w hSw; have hSw := (HSd.out w).1 hSw; go_split_ands; go_simp) <;> with_reducible rfl
      clear hS
      try simp only [Act.put, List.setIfInBounds_toArray, List.set_cons_zero, List.set_cons_succ]
      have hS := HSp.out _ bX bY bZ
      refine wpAnyH_take (i := 35) (oi := { dst := some 83, op := Go.Op.load 32 (Go.Operand.tmp 12), type := 32, pos := "laws.go:1813", after := #[{ on := 29, ground := Go.Ground.guard }], guard := some (29, false) }) (v := ?_) rfl (by kernel_rfl) (by kernel_rfl) (by kernel_rfl) (fun _ _ _ h => h) (Or.inl ⟨by rfl, ?_⟩) hS ?_
      rotate_left
      · (intro w hSw; have hSw := (HSd.out w).1 hSw; go_split_ands; go_simp) <;> with_reducible rfl
      clear hS
      try simp only [Act.put, List.setIfInBounds_toArray, List.set_cons_zero, List.set_cons_succ]
      have hS := HSp.out _ bX bY bZ
      refine wpAnyH_take (i := 36) (oi := { dst := some 84, op := Go.Op.load 32 (Go.Operand.tmp 13), type := 32, pos := "laws.go:1813", after := #[{ on := 29, ground := Go.Ground.guard }], guard := some (29, false) }) (v := ?_) rfl (by kernel_rfl) (by kernel_rfl) (by kernel_rfl) (fun _ _ _ h => h) (Or.inl ⟨by rfl, ?_⟩) hS ?_
      rotate_left
      · (intro w hSw; have hSw := (HSd.out w).1 hSw; go_split_ands; go_simp) <;> with_reducible rfl
      clear hS
      try simp only [Act.put, List.setIfInBounds_toArray, List.set_cons_zero, List.set_cons_succ]
      refine wpAnyH_ready (rs := [33]) (by kernel_rfl) (by simp) ?_
      refine AllReadyH.cons (o := { dst := some 81, op := Go.Op.call { callee := Go.Callee.value (Go.Operand.func 26), args := #[Go.Operand.tmp 78, Go.Operand.tmp 79, Go.Operand.tmp 80], argTypes := #[32, 32, 32] }, type := 4, pos := "laws.go:1813", after := #[{ on := 30, ground := Go.Ground.data }, { on := 31, ground := Go.Ground.data }, { on := 32, ground := Go.Ground.data }, { on := 29, ground := Go.Ground.chain }, { on := 29, ground := Go.Ground.guard }], guard := some (29, false) }) rfl (fun Kn hK => ?_) AllReadyH.nil
      first | go_at_call 26 | (go_simp; go_at_call 26)
      (with_reducible refine Calls.mono (K3.out _) ?_)
      rintro e V5 ⟨rfl, hb⟩
      try dsimp only
      try simp only [Act.put, List.setIfInBounds_toArray, List.set_cons_zero, List.set_cons_succ]
      replace bX := bX.on hb
      replace bY := bY.on hb
      replace bZ := bZ.on hb
      replace HW := Lib.hid (bel_end HW.out hb)
      clear hb
      refine hK.out _ _ (HSp.out _ bX bY bZ) (fun _ => ?_)
      clear hK Kn
      refine wpAnyH_ready (rs := [37]) (by kernel_rfl) (by simp) ?_
      refine AllReadyH.cons (o := { dst := some 85, op := Go.Op.call { callee := Go.Callee.value (Go.Operand.func 24), args := #[Go.Operand.tmp 82, Go.Operand.tmp 83, Go.Operand.tmp 84], argTypes := #[32, 32, 32] }, type := 4, pos := "laws.go:1813", after := #[{ on := 34, ground := Go.Ground.data }, { on := 35, ground := Go.Ground.data }, { on := 36, ground := Go.Ground.data }, { on := 33, ground := Go.Ground.chain }, { on := 29, ground := Go.Ground.guard }], guard := some (29, false) }) rfl (fun Kn hK => ?_) AllReadyH.nil
      first | go_at_call 24 | (go_simp; go_at_call 24)
      (with_reducible refine Calls.mono (K2.out _) ?_)
      rintro e V6 ⟨rfl, hb⟩
      try dsimp only
      try simp only [Act.put, List.setIfInBounds_toArray, List.set_cons_zero, List.set_cons_succ]
      replace bX := bX.on hb
      replace bY := bY.on hb
      replace bZ := bZ.on hb
      replace HW := Lib.hid (bel_end HW.out hb)
      clear hb
      refine hK.out _ _ (HSp.out _ bX bY bZ) (fun _ => ?_)
      clear hK Kn
      have hS := HSp.out _ bX bY bZ
      refine wpAnyH_take (i := 38) (oi := { dst := some 86, op := Go.Op.binOp Go.BinOp.neq 4 (Go.Operand.tmp 81) (Go.Operand.tmp 85) 4, type := 4, pos := "laws.go:1813", after := #[{ on := 33, ground := Go.Ground.data }, { on := 37, ground := Go.Ground.data }, { on := 29, ground := Go.Ground.guard }], guard := some (29, false) }) (v := ?_) rfl (by kernel_rfl) (by kernel_rfl) (by kernel_rfl) (fun _ _ _ h => h) (Or.inl ⟨by rfl, ?_⟩) hS ?_
      rotate_left
      · (intro w hSw; have hSw := (HSd.out w).1 hSw; go_split_ands; go_simp) <;> with_reducible rfl
      clear hS
      try simp only [Act.put, List.setIfInBounds_toArray, List.set_cons_zero, List.set_cons_succ]
      have hS := HSp.out _ bX bY bZ
      refine wpAnyH_take (i := 39) (oi := { dst := some 87, op := Go.Op.pick (Go.Operand.tmp 77) (Go.Operand.const (Go.Value.bool true)) (Go.Operand.tmp 86), type := 4, pos := "laws.go:1813", after := #[{ on := 29, ground := Go.Ground.data }, { on := 38, ground := Go.Ground.data }], guard := none }) (v := ?_) rfl (by kernel_rfl) (by kernel_rfl) (by kernel_rfl) (fun _ _ _ h => h) (Or.inl ⟨by rfl, ?_⟩) hS ?_
      rotate_left
      · (intro w hSw; have hSw := (HSd.out w).1 hSw; go_split_ands; go_simp) <;> with_reducible rfl
      clear hS
      try simp only [Act.put, List.setIfInBounds_toArray, List.set_cons_zero, List.set_cons_succ]
      refine wpAnyH_done (by kernel_rfl) ?_ _
      go_wp2_with fail
      go_meet
      exact ⟨rfl, HW.out⟩
  case rest =>
    obtain ⟨rfl, hb⟩ := hcut
    obtain ⟨WQ, hwc⟩ : ∃ X, X = wc := ⟨_, rfl⟩
    rw [← hwc] at hb ⊢
    clear hwc bX_l bY_l bZ_l
    replace HG := Lib.hid (HG.out.on hb)
    replace HS := Lib.hid (HS.out.on hb)
    replace HB := Lib.hid (bel_end HB.out hb)
    clear hb
    clear K1 K2 K3 KA KB KI bX bY bZ
    cases kk
    case false =>
      obtain rfl : qq = 1 := by have := HQK.out; simpa using this
      go_wp2
      go_ret
      exact ⟨rfl, HB.out⟩
    case true =>
      obtain rfl : qq = 0 := by have := HQK.out; simpa using this
      have hkt := HK.out
      obtain ⟨t1, t2, t3, t4, -⟩ := fanB_t hkt
      obtain ⟨N, hN⟩ : ∃ N : Nat, hi = lo + (N : Int) - 1 ∧ 1 ≤ N ∧ N ≤ 1000 := ⟨(hi - lo + 1).toNat, by omega, by omega, by omega⟩
      obtain ⟨hNe, n1, n2⟩ := hN
      have hLL : LL = fanK n lo d N := by rw [← HL.out]; unfold fanL; rw [hkt, if_pos rfl, show (hi - lo + 1).toNat = N by omega]
      subst hLL
      have hlen := fanK_len n lo d N
      obtain ⟨b, off, rfl, hbB, hcs⟩ := HG.out.drs (by omega)
      rw [hlen] at hcs
      have hLB : Hid (∀ j : Nat, j < N → ∀ c0 s0 h0 c1 s1 h1 c2 s2 h2 : Int, dirJ n lo d 0 = (c0, s0, h0) → dirJ n lo d (N - 1) = (c1, s1, h1) → dirJ n lo d j = (c2, s2, h2) → lbB c0 s0 h0 c1 s1 h1 c2 s2 h2 = true) := Lib.hid (fun j hj _ _ _ _ _ _ _ _ _ e1 e2 e3 => fan_lb hkt (Nat.zero_le _) (show j ≤ N - 1 by omega) (by omega) e1 e2 e3)
      have hCM : Hid (∀ j : Nat, j + 1 < N → ∀ c0 s0 h0 c1 s1 h1 : Int, dirJ n lo d j = (c0, s0, h0) → dirJ n lo d (j + 1) = (c1, s1, h1) → cdV c0 s0 h0 c1 s1 h1 = 1 ∧ cdC c0 s0 h0 c1 s1 h1 = 0) := Lib.hid (fun j hj _ _ _ _ _ _ e1 e2 => fan_cmp hkt (by omega) e1 e2)
      have hcd : Hid (∀ j : Nat, j < N → ∀ c0 s0 h0 : Int, dirJ n lo d j = (c0, s0, h0) → WQ.cell? ⟨b, off + j * 3, none⟩ = some (.int .i64 c0) ∧ WQ.cell? ⟨b, off + j * 3 + 1, none⟩ = some (.int .i64 s0) ∧ WQ.cell? ⟨b, off + j * 3 + 2, none⟩ = some (.int .i64 h0)) := Lib.hid (fun j hj c0 s0 h0 e => by have := hcs j hj; rw [fanK_getD hj, e] at this; exact this)
      have HNe := Lib.hid hNe
      clear hcs hkt HG HS HL HK t1 t2 t3 t4 l12 hNe
      have elN : IntKind.wrap .i64 ((N : Int) - 1) = (N : Int) - 1 := IntWalk.i64_in _ (by omega)
      go_wp2_with fail
      try rw [hlen]
      go_loopw [14] (fun i wr => ∃ j : Nat, j ≤ N ∧ i = .int .i64 (j : Int) ∧ Below WQ.heap.size WQ wr) (fun i _ => N - (intOf i).toNat)
      case atStart => exact ⟨0, by omega, rfl, Below.refl _ _⟩
      case round =>
        obtain ⟨j, hj, rfl, hb⟩ := hrel
        have HQ := Lib.hid hb
        clear hb
        by_cases hjN : j < N
        case neg =>
          obtain rfl : j = N := by omega
          have e1 : IntKind.wrap .i64 (hi - lo) = (j : Int) - 1 := by rw [show hi - lo = (j : Int) - 1 by have := HNe.out; omega]; exact IntWalk.i64_in _ (by omega)
          have e2 : IntKind.wrap .i64 ((j : Int) - 1 + 1) = (j : Int) := by rw [show (j : Int) - 1 + 1 = (j : Int) by omega]; exact IntWalk.i64_in _ (by omega)
          have e3 : ((j : Int) == (j : Int)) = true := by simp
          have HB2 := Lib.hid (bel_end HB.out HQ.out)
          clear HB HQ HNe hLB hCM hcd hjN
          go_wp2
          go_ret
          exact ⟨by first | rfl | (simp; done) | (simp [e1, e2]; done), HB2.out⟩
        case pos =>
          obtain ⟨⟨c0, s0, h0⟩, f0⟩ : ∃ T, dirJ n lo d 0 = T := ⟨_, rfl⟩
          obtain ⟨⟨c1, s1, h1⟩, f1⟩ : ∃ T, dirJ n lo d (N - 1) = T := ⟨_, rfl⟩
          obtain ⟨⟨c2, s2, h2⟩, f2⟩ : ∃ T, dirJ n lo d j = T := ⟨_, rfl⟩
          have hl := hLB.out j hjN _ _ _ _ _ _ _ _ _ f0 f1 f2
          obtain ⟨a0, a1, a2⟩ := hcd.out (0) (by omega) _ _ _ f0
          replace a0 := kc1 a0 HQ.out
          replace a1 := kc1 a1 HQ.out
          replace a2 := kc1 a2 HQ.out
          obtain ⟨a3, a4, a5⟩ := hcd.out (N - 1) (by omega) _ _ _ f1
          replace a3 := kc1 a3 HQ.out
          replace a4 := kc1 a4 HQ.out
          replace a5 := kc1 a5 HQ.out
          obtain ⟨a6, a7, a8⟩ := hcd.out (j) hjN _ _ _ f2
          replace a6 := kc1 a6 HQ.out
          replace a7 := kc1 a7 HQ.out
          replace a8 := kc1 a8 HQ.out
          rw [Nat.zero_mul, Nat.add_zero] at a0 a1 a2
          have KL : Hid (∀ w : World, Calls Try.prog 26 #[.agg #[.int .i64 c0, .int .i64 s0, .int .i64 h0], .agg #[.int .i64 c1, .int .i64 s1, .int .i64 h1], .agg #[.int .i64 c2, .int .i64 s2, .int .i64 h2]] w fun e w' => e = .returned (.bool true) ∧ Below w.heap.size w w') := Lib.hid (fun W => by have := ilb_any c0 s0 h0 c1 s1 h1 c2 s2 h2 W; rwa [hl] at this)
          clear hl f0 f1
          have i1 : (0 : Int) < (N : Int) := by omega
          have i8 : 0 < N := by omega
          have i9 : (1 : Int) ≤ (N : Int) := by omega
          have i2 : (N : Int) - 1 < (N : Int) := by omega
          have i3 : (0 : Int) ≤ (N : Int) - 1 := by omega
          have i4 : ((N : Int) - 1).toNat = N - 1 := by omega
          have i5 : (j : Int) < (N : Int) := by omega
          have HN12 := Lib.hid hbB
          go_upto_region 14 with fail
          go_cut [110] (fun s15 wx => s15 = .bool false ∧ Below wr.heap.size wr wx)
          case first =>
            have HW : Hid (Below wr.heap.size wr wr) := Lib.hid (Below.refl _ _)
            obtain ⟨S, hSd⟩ : ∃ S : World → Prop, ∀ w', S w' ↔ (w'.cell? ⟨b, off, none⟩ = some (.int .i64 c0) ∧ w'.cell? ⟨b, off + 1, none⟩ = some (.int .i64 s0) ∧ w'.cell? ⟨b, off + 2, none⟩ = some (.int .i64 h0) ∧ w'.cell? ⟨b, off + (N - 1) * 3, none⟩ = some (.int .i64 c1) ∧ w'.cell? ⟨b, off + (N - 1) * 3 + 1, none⟩ = some (.int .i64 s1) ∧ w'.cell? ⟨b, off + (N - 1) * 3 + 2, none⟩ = some (.int .i64 h1) ∧ w'.cell? ⟨b, off + j * 3, none⟩ = some (.int .i64 c2) ∧ w'.cell? ⟨b, off + j * 3 + 1, none⟩ = some (.int .i64 s2) ∧ w'.cell? ⟨b, off + j * 3 + 2, none⟩ = some (.int .i64 h2)) := ⟨_, fun _ => Iff.rfl⟩
            have HSp : Hid (∀ w' : World, w'.cell? ⟨b, off, none⟩ = some (.int .i64 c0) → w'.cell? ⟨b, off + 1, none⟩ = some (.int .i64 s0) → w'.cell? ⟨b, off + 2, none⟩ = some (.int .i64 h0) → w'.cell? ⟨b, off + (N - 1) * 3, none⟩ = some (.int .i64 c1) → w'.cell? ⟨b, off + (N - 1) * 3 + 1, none⟩ = some (.int .i64 s1) → w'.cell? ⟨b, off + (N - 1) * 3 + 2, none⟩ = some (.int .i64 h1) → w'.cell? ⟨b, off + j * 3, none⟩ = some (.int .i64 c2) → w'.cell? ⟨b, off + j * 3 + 1, none⟩ = some (.int .i64 s2) → w'.cell? ⟨b, off + j * 3 + 2, none⟩ = some (.int .i64 h2) → S w') := Lib.hid (fun w' y0 y1 y2 y3 y4 y5 y6 y7 y8 => (hSd w').2 ⟨y0, y1, y2, y3, y4, y5, y6, y7, y8⟩)
            have HSd := Lib.hid hSd
            clear hSd
            refine wp_region_held_drew (S := S) (by kernel_rfl) ?_ (fun hH => ?_)
            · exact (HSp.out _ a0 a1 a2 a3 a4 a5 a6 a7 a8 : S (World.drew wr))
            clear hH
            generalize hX : World.drew wr = V0
            have hb : Below wr.heap.size wr V0 := by rw [← hX]; exact (Below.refl _ _).drew
            clear hX
            replace a0 := kc1 a0 hb
            replace a1 := kc1 a1 hb
            replace a2 := kc1 a2 hb
            replace a3 := kc1 a3 hb
            replace a4 := kc1 a4 hb
            replace a5 := kc1 a5 hb
            replace a6 := kc1 a6 hb
            replace a7 := kc1 a7 hb
            replace a8 := kc1 a8 hb
            replace HW := Lib.hid (bel_end HW.out hb)
            clear hb
            have hS := HSp.out _ a0 a1 a2 a3 a4 a5 a6 a7 a8
            refine wpAnyH_take (i := 0) (oi := { dst := some 96, op := Go.Op.move (Go.Operand.tmp 7), type := 23, pos := "laws.go:1820", after := #[], guard := none }) (v := ?_) rfl (by kernel_rfl) (by kernel_rfl) (by kernel_rfl) (fun _ _ _ h => h) (Or.inl ⟨by rfl, ?_⟩) hS ?_
            rotate_left
            · (intro w hSw; have hSw := (HSd.out w).1 hSw; go_split_ands; go_simp) <;> with_reducible rfl
            clear hS
            try simp only [Act.put, List.setIfInBounds_toArray, List.set_cons_zero, List.set_cons_succ]
            have hS := HSp.out _ a0 a1 a2 a3 a4 a5 a6 a7 a8
            refine wpAnyH_take (i := 1) (oi := { dst := some 97, op := Go.Op.indexAddr 23 (Go.Operand.tmp 96) (Go.Operand.const (Go.Value.int Go.IntKind.i64 0)), type := 0, pos := "laws.go:1820", after := #[{ on := 0, ground := Go.Ground.data }], guard := none }) (v := ?_) rfl (by kernel_rfl) (by kernel_rfl) (by kernel_rfl) (fun _ _ _ h => h) (Or.inl ⟨by rfl, ?_⟩) hS ?_
            rotate_left
            · (intro w hSw; have hSw := (HSd.out w).1 hSw; go_split_ands; go_simp) <;> with_reducible rfl
            clear hS
            try simp only [Act.put, List.setIfInBounds_toArray, List.set_cons_zero, List.set_cons_succ]
            have hS := HSp.out _ a0 a1 a2 a3 a4 a5 a6 a7 a8
            refine wpAnyH_take (i := 2) (oi := { dst := some 98, op := Go.Op.load 32 (Go.Operand.tmp 97), type := 32, pos := "laws.go:1820", after := #[{ on := 1, ground := Go.Ground.data }], guard := none }) (v := ?_) rfl (by kernel_rfl) (by kernel_rfl) (by kernel_rfl) (fun _ _ _ h => h) (Or.inl ⟨by rfl, ?_⟩) hS ?_
            rotate_left
            · (intro w hSw; have hSw := (HSd.out w).1 hSw; go_split_ands; go_simp) <;> with_reducible rfl
            clear hS
            try simp only [Act.put, List.setIfInBounds_toArray, List.set_cons_zero, List.set_cons_succ]
            have hS := HSp.out _ a0 a1 a2 a3 a4 a5 a6 a7 a8
            refine wpAnyH_take (i := 3) (oi := { dst := some 99, op := Go.Op.move (Go.Operand.tmp 7), type := 23, pos := "laws.go:1820", after := #[], guard := none }) (v := ?_) rfl (by kernel_rfl) (by kernel_rfl) (by kernel_rfl) (fun _ _ _ h => h) (Or.inl ⟨by rfl, ?_⟩) hS ?_
            rotate_left
            · (intro w hSw; have hSw := (HSd.out w).1 hSw; go_split_ands; go_simp) <;> with_reducible rfl
            clear hS
            try simp only [Act.put, List.setIfInBounds_toArray, List.set_cons_zero, List.set_cons_succ]
            have hS := HSp.out _ a0 a1 a2 a3 a4 a5 a6 a7 a8
            refine wpAnyH_take (i := 4) (oi := { dst := some 100, op := Go.Op.move (Go.Operand.tmp 7), type := 23, pos := "laws.go:1820", after := #[], guard := none }) (v := ?_) rfl (by kernel_rfl) (by kernel_rfl) (by kernel_rfl) (fun _ _ _ h => h) (Or.inl ⟨by rfl, ?_⟩) hS ?_
            rotate_left
            · (intro w hSw; have hSw := (HSd.out w).1 hSw; go_split_ands; go_simp) <;> with_reducible rfl
            clear hS
            try simp only [Act.put, List.setIfInBounds_toArray, List.set_cons_zero, List.set_cons_succ]
            have hS := HSp.out _ a0 a1 a2 a3 a4 a5 a6 a7 a8
            refine wpAnyH_take (i := 5) (oi := { dst := some 101, op := Go.Op.call { callee := Go.Callee.builtin Go.Builtin.len, args := #[Go.Operand.tmp 100], argTypes := #[23] }, type := 3, pos := "laws.go:1820", after := #[{ on := 4, ground := Go.Ground.data }], guard := none }) (v := ?_) rfl (by kernel_rfl) (by kernel_rfl) (by kernel_rfl) (fun _ _ _ h => h) (Or.inl ⟨by rfl, ?_⟩) hS ?_
            rotate_left
            · (intro w hSw; have hSw := (HSd.out w).1 hSw; go_split_ands; go_simp) <;> with_reducible rfl
            clear hS
            try simp only [Act.put, List.setIfInBounds_toArray, List.set_cons_zero, List.set_cons_succ]
            have hS := HSp.out _ a0 a1 a2 a3 a4 a5 a6 a7 a8
            refine wpAnyH_take (i := 6) (oi := { dst := some 102, op := Go.Op.binOp Go.BinOp.sub 3 (Go.Operand.tmp 101) (Go.Operand.const (Go.Value.int Go.IntKind.i64 1)) 3, type := 3, pos := "laws.go:1820", after := #[{ on := 5, ground := Go.Ground.data }], guard := none }) (v := ?_) rfl (by kernel_rfl) (by kernel_rfl) (by kernel_rfl) (fun _ _ _ h => h) (Or.inl ⟨by rfl, ?_⟩) hS ?_
            rotate_left
            · (intro w hSw; have hSw := (HSd.out w).1 hSw; go_split_ands; go_simp) <;> with_reducible rfl
            clear hS
            try simp only [Act.put, List.setIfInBounds_toArray, List.set_cons_zero, List.set_cons_succ]
            have hS := HSp.out _ a0 a1 a2 a3 a4 a5 a6 a7 a8
            refine wpAnyH_take (i := 7) (oi := { dst := some 103, op := Go.Op.indexAddr 23 (Go.Operand.tmp 99) (Go.Operand.tmp 102), type := 0, pos := "laws.go:1820", after := #[{ on := 3, ground := Go.Ground.data }, { on := 6, ground := Go.Ground.data }], guard := none }) (v := ?_) rfl (by kernel_rfl) (by kernel_rfl) (by kernel_rfl) (fun _ _ _ h => h) (Or.inl ⟨by rfl, ?_⟩) hS ?_
            rotate_left
            · (intro w hSw; have hSw := (HSd.out w).1 hSw; go_split_ands; go_simp) <;> with_reducible rfl
            clear hS
            try simp only [Act.put, List.setIfInBounds_toArray, List.set_cons_zero, List.set_cons_succ]
            have hS := HSp.out _ a0 a1 a2 a3 a4 a5 a6 a7 a8
            refine wpAnyH_take (i := 8) (oi := { dst := some 104, op := Go.Op.load 32 (Go.Operand.tmp 103), type := 32, pos := "laws.go:1820", after := #[{ on := 7, ground := Go.Ground.data }], guard := none }) (v := ?_) rfl (by kernel_rfl) (by kernel_rfl) (by kernel_rfl) (fun _ _ _ h => h) (Or.inl ⟨by rfl, ?_⟩) hS ?_
            rotate_left
            · (intro w hSw; have hSw := (HSd.out w).1 hSw; go_split_ands; go_simp) <;> with_reducible rfl
            clear hS
            try simp only [Act.put, List.setIfInBounds_toArray, List.set_cons_zero, List.set_cons_succ]
            have hS := HSp.out _ a0 a1 a2 a3 a4 a5 a6 a7 a8
            refine wpAnyH_take (i := 9) (oi := { dst := some 105, op := Go.Op.move (Go.Operand.tmp 7), type := 23, pos := "laws.go:1820", after := #[], guard := none }) (v := ?_) rfl (by kernel_rfl) (by kernel_rfl) (by kernel_rfl) (fun _ _ _ h => h) (Or.inl ⟨by rfl, ?_⟩) hS ?_
            rotate_left
            · (intro w hSw; have hSw := (HSd.out w).1 hSw; go_split_ands; go_simp) <;> with_reducible rfl
            clear hS
            try simp only [Act.put, List.setIfInBounds_toArray, List.set_cons_zero, List.set_cons_succ]
            have hS := HSp.out _ a0 a1 a2 a3 a4 a5 a6 a7 a8
            refine wpAnyH_take (i := 10) (oi := { dst := some 106, op := Go.Op.move (Go.Operand.tmp 14), type := 3, pos := "laws.go:1820", after := #[], guard := none }) (v := ?_) rfl (by kernel_rfl) (by kernel_rfl) (by kernel_rfl) (fun _ _ _ h => h) (Or.inl ⟨by rfl, ?_⟩) hS ?_
            rotate_left
            · (intro w hSw; have hSw := (HSd.out w).1 hSw; go_split_ands; go_simp) <;> with_reducible rfl
            clear hS
            try simp only [Act.put, List.setIfInBounds_toArray, List.set_cons_zero, List.set_cons_succ]
            have hS := HSp.out _ a0 a1 a2 a3 a4 a5 a6 a7 a8
            refine wpAnyH_take (i := 11) (oi := { dst := some 107, op := Go.Op.indexAddr 23 (Go.Operand.tmp 105) (Go.Operand.tmp 106), type := 0, pos := "laws.go:1820", after := #[{ on := 9, ground := Go.Ground.data }, { on := 10, ground := Go.Ground.data }], guard := none }) (v := ?_) rfl (by kernel_rfl) (by kernel_rfl) (by kernel_rfl) (fun _ _ _ h => h) (Or.inl ⟨by rfl, ?_⟩) hS ?_
            rotate_left
            · (intro w hSw; have hSw := (HSd.out w).1 hSw; go_split_ands; go_simp) <;> with_reducible rfl
            clear hS
            try simp only [Act.put, List.setIfInBounds_toArray, List.set_cons_zero, List.set_cons_succ]
            have hS := HSp.out _ a0 a1 a2 a3 a4 a5 a6 a7 a8
            refine wpAnyH_take (i := 12) (oi := { dst := some 108, op := Go.Op.load 32 (Go.Operand.tmp 107), type := 32, pos := "laws.go:1820", after := #[{ on := 11, ground := Go.Ground.data }], guard := none }) (v := ?_) rfl (by kernel_rfl) (by kernel_rfl) (by kernel_rfl) (fun _ _ _ h => h) (Or.inl ⟨by rfl, ?_⟩) hS ?_
            rotate_left
            · (intro w hSw; have hSw := (HSd.out w).1 hSw; go_split_ands; go_simp) <;> with_reducible rfl
            clear hS
            try simp only [Act.put, List.setIfInBounds_toArray, List.set_cons_zero, List.set_cons_succ]
            refine wpAnyH_ready (rs := [13]) (by kernel_rfl) (by simp) ?_
            refine AllReadyH.cons (o := { dst := some 109, op := Go.Op.call { callee := Go.Callee.value (Go.Operand.func 26), args := #[Go.Operand.tmp 98, Go.Operand.tmp 104, Go.Operand.tmp 108], argTypes := #[32, 32, 32] }, type := 4, pos := "laws.go:1820", after := #[{ on := 2, ground := Go.Ground.data }, { on := 8, ground := Go.Ground.data }, { on := 12, ground := Go.Ground.data }], guard := none }) rfl (fun Kn hK => ?_) AllReadyH.nil
            first | go_at_call 26 | (go_simp; go_at_call 26)
            (with_reducible refine Calls.mono (KL.out _) ?_)
            rintro e V1 ⟨rfl, hb⟩
            try dsimp only
            try simp only [Act.put, List.setIfInBounds_toArray, List.set_cons_zero, List.set_cons_succ]
            replace a0 := kc1 a0 hb
            replace a1 := kc1 a1 hb
            replace a2 := kc1 a2 hb
            replace a3 := kc1 a3 hb
            replace a4 := kc1 a4 hb
            replace a5 := kc1 a5 hb
            replace a6 := kc1 a6 hb
            replace a7 := kc1 a7 hb
            replace a8 := kc1 a8 hb
            replace HW := Lib.hid (bel_end HW.out hb)
            clear hb
            refine hK.out _ _ (HSp.out _ a0 a1 a2 a3 a4 a5 a6 a7 a8) (fun _ => ?_)
            clear hK Kn
            have hS := HSp.out _ a0 a1 a2 a3 a4 a5 a6 a7 a8
            refine wpAnyH_take (i := 14) (oi := { dst := some 110, op := Go.Op.unOp Go.UnOp.not 4 (Go.Operand.tmp 109), type := 4, pos := "laws.go:1820", after := #[{ on := 13, ground := Go.Ground.data }], guard := none }) (v := ?_) rfl (by kernel_rfl) (by kernel_rfl) (by kernel_rfl) (fun _ _ _ h => h) (Or.inl ⟨by rfl, ?_⟩) hS ?_
            rotate_left
            · (intro w hSw; have hSw := (HSd.out w).1 hSw; go_split_ands; go_simp) <;> with_reducible rfl
            clear hS
            try simp only [Act.put, List.setIfInBounds_toArray, List.set_cons_zero, List.set_cons_succ]
            refine wpAnyH_done (by kernel_rfl) ?_ _
            go_wp2_with fail
            go_meet
            exact ⟨rfl, HW.out⟩
          case rest =>
            obtain ⟨rfl, hb⟩ := hcut
            obtain ⟨w2, hwc⟩ : ∃ X, X = wc := ⟨_, rfl⟩
            rw [← hwc] at hb ⊢
            clear hwc
            replace HQ := Lib.hid (bel_end HQ.out hb)
            clear hb KL a0 a1 a2 a3 a4 a5 a6 a7 a8
            by_cases hj0 : j = 0
            case pos =>
              subst hj0
              go_wp2
              go_roundw
              (case rel => exact ⟨0 + 1, by omega, by go_num, HQ.out⟩)
              (case measure => simp [intOf]; omega)
            case neg =>
              obtain ⟨k, rfl⟩ : ∃ k, j = k + 1 := ⟨j - 1, by omega⟩
              have hjp : (0 : Int) < ((k + 1 : Nat) : Int) := by omega
              have ek : IntKind.wrap .i64 (((k + 1 : Nat) : Int) - 1) = (k : Int) := by rw [show ((k + 1 : Nat) : Int) - 1 = (k : Int) by omega]; exact IntWalk.i64_in _ (by omega)
              obtain ⟨⟨c3, s3, h3⟩, f3⟩ : ∃ T, dirJ n lo d k = T := ⟨_, rfl⟩
              obtain ⟨m1, m2⟩ := hCM.out k hjN _ _ _ _ _ _ f3 f2
              obtain ⟨a0, a1, a2⟩ := hcd.out (k) (by omega) _ _ _ f3
              replace a0 := kc1 a0 HQ.out
              replace a1 := kc1 a1 HQ.out
              replace a2 := kc1 a2 HQ.out
              obtain ⟨a3, a4, a5⟩ := hcd.out (k + 1) hjN _ _ _ f2
              replace a3 := kc1 a3 HQ.out
              replace a4 := kc1 a4 HQ.out
              replace a5 := kc1 a5 HQ.out
              have KM : Hid (∀ w : World, Calls Try.prog 31 #[.agg #[.int .i64 c3, .int .i64 s3, .int .i64 h3], .agg #[.int .i64 c2, .int .i64 s2, .int .i64 h2]] w fun e w' => e = .returned (.tuple #[.int .i64 1, .int .i64 0]) ∧ Below w.heap.size w w') := Lib.hid (fun W => by have := icm_any c3 s3 h3 c2 s2 h2 W; rwa [m1, m2] at this)
              clear m1 m2 f2 f3
              have i6 : (k : Int) < (N : Int) := by omega
              have i7 : (0 : Int) ≤ (k : Int) := by omega
              have i10 : (0 : Int) ≤ (k : Int) + 1 := by omega
              have i11 : (k : Int) + 1 < (N : Int) := by omega
              have ek2 : IntKind.wrap .i64 (k : Int) = (k : Int) := IntWalk.i64_in _ (by omega)
              go_upto_region 17 with fail
              go_cut [15, 16] (fun s15 s16 wx => s15 = .int .i64 1 ∧ s16 = .int .i64 0 ∧ Below w2.heap.size w2 wx)
              case first =>
                have HW : Hid (Below w2.heap.size w2 w2) := Lib.hid (Below.refl _ _)
                obtain ⟨S, hSd⟩ : ∃ S : World → Prop, ∀ w', S w' ↔ (w'.cell? ⟨b, off + k * 3, none⟩ = some (.int .i64 c3) ∧ w'.cell? ⟨b, off + k * 3 + 1, none⟩ = some (.int .i64 s3) ∧ w'.cell? ⟨b, off + k * 3 + 2, none⟩ = some (.int .i64 h3) ∧ w'.cell? ⟨b, off + (k + 1) * 3, none⟩ = some (.int .i64 c2) ∧ w'.cell? ⟨b, off + (k + 1) * 3 + 1, none⟩ = some (.int .i64 s2) ∧ w'.cell? ⟨b, off + (k + 1) * 3 + 2, none⟩ = some (.int .i64 h2)) := ⟨_, fun _ => Iff.rfl⟩
                have HSp : Hid (∀ w' : World, w'.cell? ⟨b, off + k * 3, none⟩ = some (.int .i64 c3) → w'.cell? ⟨b, off + k * 3 + 1, none⟩ = some (.int .i64 s3) → w'.cell? ⟨b, off + k * 3 + 2, none⟩ = some (.int .i64 h3) → w'.cell? ⟨b, off + (k + 1) * 3, none⟩ = some (.int .i64 c2) → w'.cell? ⟨b, off + (k + 1) * 3 + 1, none⟩ = some (.int .i64 s2) → w'.cell? ⟨b, off + (k + 1) * 3 + 2, none⟩ = some (.int .i64 h2) → S w') := Lib.hid (fun w' y0 y1 y2 y3 y4 y5 => (hSd w').2 ⟨y0, y1, y2, y3, y4, y5⟩)
                have HSd := Lib.hid hSd
                clear hSd
                refine wp_region_held_drew (S := S) (by kernel_rfl) ?_ (fun hH => ?_)
                · exact (HSp.out _ a0 a1 a2 a3 a4 a5 : S (World.drew w2))
                clear hH
                generalize hX : World.drew w2 = V0
                have hb : Below w2.heap.size w2 V0 := by rw [← hX]; exact (Below.refl _ _).drew
                clear hX
                replace a0 := kc1 a0 hb
                replace a1 := kc1 a1 hb
                replace a2 := kc1 a2 hb
                replace a3 := kc1 a3 hb
                replace a4 := kc1 a4 hb
                replace a5 := kc1 a5 hb
                replace HW := Lib.hid (bel_end HW.out hb)
                clear hb
                have hS := HSp.out _ a0 a1 a2 a3 a4 a5
                refine wpAnyH_take (i := 0) (oi := { dst := some 114, op := Go.Op.move (Go.Operand.tmp 7), type := 23, pos := "laws.go:1824", after := #[], guard := none }) (v := ?_) rfl (by kernel_rfl) (by kernel_rfl) (by kernel_rfl) (fun _ _ _ h => h) (Or.inl ⟨by rfl, ?_⟩) hS ?_
                rotate_left
                · (intro w hSw; have hSw := (HSd.out w).1 hSw; go_split_ands; go_simp) <;> with_reducible rfl
                clear hS
                try simp only [Act.put, List.setIfInBounds_toArray, List.set_cons_zero, List.set_cons_succ]
                have hS := HSp.out _ a0 a1 a2 a3 a4 a5
                refine wpAnyH_take (i := 1) (oi := { dst := some 115, op := Go.Op.move (Go.Operand.tmp 14), type := 3, pos := "laws.go:1824", after := #[], guard := none }) (v := ?_) rfl (by kernel_rfl) (by kernel_rfl) (by kernel_rfl) (fun _ _ _ h => h) (Or.inl ⟨by rfl, ?_⟩) hS ?_
                rotate_left
                · (intro w hSw; have hSw := (HSd.out w).1 hSw; go_split_ands; go_simp) <;> with_reducible rfl
                clear hS
                try simp only [Act.put, List.setIfInBounds_toArray, List.set_cons_zero, List.set_cons_succ]
                have hS := HSp.out _ a0 a1 a2 a3 a4 a5
                refine wpAnyH_take (i := 2) (oi := { dst := some 116, op := Go.Op.binOp Go.BinOp.sub 3 (Go.Operand.tmp 115) (Go.Operand.const (Go.Value.int Go.IntKind.i64 1)) 3, type := 3, pos := "laws.go:1824", after := #[{ on := 1, ground := Go.Ground.data }], guard := none }) (v := ?_) rfl (by kernel_rfl) (by kernel_rfl) (by kernel_rfl) (fun _ _ _ h => h) (Or.inl ⟨by rfl, ?_⟩) hS ?_
                rotate_left
                · (intro w hSw; have hSw := (HSd.out w).1 hSw; go_split_ands; go_simp) <;> with_reducible rfl
                clear hS
                try simp only [Act.put, List.setIfInBounds_toArray, List.set_cons_zero, List.set_cons_succ]
                have hS := HSp.out _ a0 a1 a2 a3 a4 a5
                refine wpAnyH_take (i := 3) (oi := { dst := some 117, op := Go.Op.indexAddr 23 (Go.Operand.tmp 114) (Go.Operand.tmp 116), type := 0, pos := "laws.go:1824", after := #[{ on := 0, ground := Go.Ground.data }, { on := 2, ground := Go.Ground.data }], guard := none }) (v := ?_) rfl (by kernel_rfl) (by kernel_rfl) (by kernel_rfl) (fun _ _ _ h => h) (Or.inl ⟨by rfl, ?_⟩) hS ?_
                rotate_left
                · (intro w hSw; have hSw := (HSd.out w).1 hSw; go_split_ands; go_simp) <;> with_reducible rfl
                clear hS
                try simp only [Act.put, List.setIfInBounds_toArray, List.set_cons_zero, List.set_cons_succ]
                have hS := HSp.out _ a0 a1 a2 a3 a4 a5
                refine wpAnyH_take (i := 4) (oi := { dst := some 118, op := Go.Op.load 32 (Go.Operand.tmp 117), type := 32, pos := "laws.go:1824", after := #[{ on := 3, ground := Go.Ground.data }], guard := none }) (v := ?_) rfl (by kernel_rfl) (by kernel_rfl) (by kernel_rfl) (fun _ _ _ h => h) (Or.inl ⟨by rfl, ?_⟩) hS ?_
                rotate_left
                · (intro w hSw; have hSw := (HSd.out w).1 hSw; go_split_ands; go_simp) <;> with_reducible rfl
                clear hS
                try simp only [Act.put, List.setIfInBounds_toArray, List.set_cons_zero, List.set_cons_succ]
                have hS := HSp.out _ a0 a1 a2 a3 a4 a5
                refine wpAnyH_take (i := 5) (oi := { dst := some 119, op := Go.Op.move (Go.Operand.tmp 7), type := 23, pos := "laws.go:1824", after := #[], guard := none }) (v := ?_) rfl (by kernel_rfl) (by kernel_rfl) (by kernel_rfl) (fun _ _ _ h => h) (Or.inl ⟨by rfl, ?_⟩) hS ?_
                rotate_left
                · (intro w hSw; have hSw := (HSd.out w).1 hSw; go_split_ands; go_simp) <;> with_reducible rfl
                clear hS
                try simp only [Act.put, List.setIfInBounds_toArray, List.set_cons_zero, List.set_cons_succ]
                have hS := HSp.out _ a0 a1 a2 a3 a4 a5
                refine wpAnyH_take (i := 6) (oi := { dst := some 120, op := Go.Op.move (Go.Operand.tmp 14), type := 3, pos := "laws.go:1824", after := #[], guard := none }) (v := ?_) rfl (by kernel_rfl) (by kernel_rfl) (by kernel_rfl) (fun _ _ _ h => h) (Or.inl ⟨by rfl, ?_⟩) hS ?_
                rotate_left
                · (intro w hSw; have hSw := (HSd.out w).1 hSw; go_split_ands; go_simp) <;> with_reducible rfl
                clear hS
                try simp only [Act.put, List.setIfInBounds_toArray, List.set_cons_zero, List.set_cons_succ]
                have hS := HSp.out _ a0 a1 a2 a3 a4 a5
                refine wpAnyH_take (i := 7) (oi := { dst := some 121, op := Go.Op.indexAddr 23 (Go.Operand.tmp 119) (Go.Operand.tmp 120), type := 0, pos := "laws.go:1824", after := #[{ on := 5, ground := Go.Ground.data }, { on := 6, ground := Go.Ground.data }], guard := none }) (v := ?_) rfl (by kernel_rfl) (by kernel_rfl) (by kernel_rfl) (fun _ _ _ h => h) (Or.inl ⟨by rfl, ?_⟩) hS ?_
                rotate_left
                · (intro w hSw; have hSw := (HSd.out w).1 hSw; go_split_ands; go_simp) <;> with_reducible rfl
                clear hS
                try simp only [Act.put, List.setIfInBounds_toArray, List.set_cons_zero, List.set_cons_succ]
                have hS := HSp.out _ a0 a1 a2 a3 a4 a5
                refine wpAnyH_take (i := 8) (oi := { dst := some 122, op := Go.Op.load 32 (Go.Operand.tmp 121), type := 32, pos := "laws.go:1824", after := #[{ on := 7, ground := Go.Ground.data }], guard := none }) (v := ?_) rfl (by kernel_rfl) (by kernel_rfl) (by kernel_rfl) (fun _ _ _ h => h) (Or.inl ⟨by rfl, ?_⟩) hS ?_
                rotate_left
                · (intro w hSw; have hSw := (HSd.out w).1 hSw; go_split_ands; go_simp) <;> with_reducible rfl
                clear hS
                try simp only [Act.put, List.setIfInBounds_toArray, List.set_cons_zero, List.set_cons_succ]
                refine wpAnyH_ready (rs := [9]) (by kernel_rfl) (by simp) ?_
                refine AllReadyH.cons (o := { dst := some 123, op := Go.Op.call { callee := Go.Callee.value (Go.Operand.func 31), args := #[Go.Operand.tmp 118, Go.Operand.tmp 122], argTypes := #[32, 32] }, type := 41, pos := "laws.go:1824", after := #[{ on := 4, ground := Go.Ground.data }, { on := 8, ground := Go.Ground.data }], guard := none }) rfl (fun Kn hK => ?_) AllReadyH.nil
                first | go_at_call 31 | (go_simp; go_at_call 31)
                (with_reducible refine Calls.mono (KM.out _) ?_)
                rintro e V1 ⟨rfl, hb⟩
                try dsimp only
                try simp only [Act.put, List.setIfInBounds_toArray, List.set_cons_zero, List.set_cons_succ]
                replace a0 := kc1 a0 hb
                replace a1 := kc1 a1 hb
                replace a2 := kc1 a2 hb
                replace a3 := kc1 a3 hb
                replace a4 := kc1 a4 hb
                replace a5 := kc1 a5 hb
                replace HW := Lib.hid (bel_end HW.out hb)
                clear hb
                refine hK.out _ _ (HSp.out _ a0 a1 a2 a3 a4 a5) (fun _ => ?_)
                clear hK Kn
                have hS := HSp.out _ a0 a1 a2 a3 a4 a5
                refine wpAnyH_take (i := 10) (oi := { dst := some 113, op := Go.Op.move (Go.Operand.tmp 123), type := 41, pos := "laws.go:1824", after := #[{ on := 9, ground := Go.Ground.data }], guard := none }) (v := ?_) rfl (by kernel_rfl) (by kernel_rfl) (by kernel_rfl) (fun _ _ _ h => h) (Or.inl ⟨by rfl, ?_⟩) hS ?_
                rotate_left
                · (intro w hSw; have hSw := (HSd.out w).1 hSw; go_split_ands; go_simp) <;> with_reducible rfl
                clear hS
                try simp only [Act.put, List.setIfInBounds_toArray, List.set_cons_zero, List.set_cons_succ]
                have hS := HSp.out _ a0 a1 a2 a3 a4 a5
                refine wpAnyH_take (i := 11) (oi := { dst := some 124, op := Go.Op.extract (Go.Operand.tmp 113) 0, type := 2, pos := "laws.go:1824", after := #[{ on := 10, ground := Go.Ground.data }], guard := none }) (v := ?_) rfl (by kernel_rfl) (by kernel_rfl) (by kernel_rfl) (fun _ _ _ h => h) (Or.inl ⟨by rfl, ?_⟩) hS ?_
                rotate_left
                · (intro w hSw; have hSw := (HSd.out w).1 hSw; go_split_ands; go_simp) <;> with_reducible rfl
                clear hS
                try simp only [Act.put, List.setIfInBounds_toArray, List.set_cons_zero, List.set_cons_succ]
                have hS := HSp.out _ a0 a1 a2 a3 a4 a5
                refine wpAnyH_take (i := 12) (oi := { dst := some 125, op := Go.Op.extract (Go.Operand.tmp 113) 1, type := 2, pos := "laws.go:1824", after := #[{ on := 10, ground := Go.Ground.data }, { on := 13, ground := Go.Ground.gcOnly Go.Departure.lateStores }], guard := none }) (v := ?_) rfl (by kernel_rfl) (by kernel_rfl) (by kernel_rfl) (fun _ _ _ h => h) (Or.inl ⟨by rfl, ?_⟩) hS ?_
                rotate_left
                · (intro w hSw; have hSw := (HSd.out w).1 hSw; go_split_ands; go_simp) <;> with_reducible rfl
                clear hS
                try simp only [Act.put, List.setIfInBounds_toArray, List.set_cons_zero, List.set_cons_succ]
                have hS := HSp.out _ a0 a1 a2 a3 a4 a5
                refine wpAnyH_take (i := 13) (oi := { dst := some 15, op := Go.Op.assign (Go.Operand.tmp 124), type := 2, pos := "laws.go:1824", after := #[{ on := 11, ground := Go.Ground.data }, { on := 9, ground := Go.Ground.chain }, { on := 0, ground := Go.Ground.phase }, { on := 1, ground := Go.Ground.phase }, { on := 2, ground := Go.Ground.phase }, { on := 3, ground := Go.Ground.phase }, { on := 4, ground := Go.Ground.phase }, { on := 5, ground := Go.Ground.phase }, { on := 6, ground := Go.Ground.phase }, { on := 7, ground := Go.Ground.phase }, { on := 8, ground := Go.Ground.phase }, { on := 9, ground := Go.Ground.phase }, { on := 10, ground := Go.Ground.phase }, { on := 11, ground := Go.Ground.phase }, { on := 12, ground := Go.Ground.textOnly Go.Departure.lateStores }], guard := none }) (v := ?_) rfl (by kernel_rfl) (by kernel_rfl) (by kernel_rfl) (fun _ _ _ h => h) (Or.inl ⟨by rfl, ?_⟩) hS ?_
                rotate_left
                · (intro w hSw; have hSw := (HSd.out w).1 hSw; go_split_ands; go_simp) <;> with_reducible rfl
                clear hS
                try simp only [Act.put, List.setIfInBounds_toArray, List.set_cons_zero, List.set_cons_succ]
                have hS := HSp.out _ a0 a1 a2 a3 a4 a5
                refine wpAnyH_take (i := 14) (oi := { dst := some 16, op := Go.Op.assign (Go.Operand.tmp 125), type := 2, pos := "laws.go:1824", after := #[{ on := 12, ground := Go.Ground.data }, { on := 13, ground := Go.Ground.chain }, { on := 0, ground := Go.Ground.phase }, { on := 1, ground := Go.Ground.phase }, { on := 2, ground := Go.Ground.phase }, { on := 3, ground := Go.Ground.phase }, { on := 4, ground := Go.Ground.phase }, { on := 5, ground := Go.Ground.phase }, { on := 6, ground := Go.Ground.phase }, { on := 7, ground := Go.Ground.phase }, { on := 8, ground := Go.Ground.phase }, { on := 9, ground := Go.Ground.phase }, { on := 10, ground := Go.Ground.phase }, { on := 11, ground := Go.Ground.phase }, { on := 12, ground := Go.Ground.phase }, { on := 13, ground := Go.Ground.phase }], guard := none }) (v := ?_) rfl (by kernel_rfl) (by kernel_rfl) (by kernel_rfl) (fun _ _ _ h => h) (Or.inl ⟨by rfl, ?_⟩) hS ?_
                rotate_left
                · (intro w hSw; have hSw := (HSd.out w).1 hSw; go_split_ands; go_simp) <;> with_reducible rfl
                clear hS
                try simp only [Act.put, List.setIfInBounds_toArray, List.set_cons_zero, List.set_cons_succ]
                refine wpAnyH_done (by kernel_rfl) ?_ _
                go_wp2_with fail
                go_meet
                exact ⟨rfl, rfl, HW.out⟩
              case rest =>
                obtain ⟨rfl, rfl, hb⟩ := hcut
                replace HQ := Lib.hid (bel_end HQ.out hb)
                clear hb KM a0 a1 a2 a3 a4 a5
                go_wp2
                go_roundw
                (case rel => exact ⟨k + 1 + 1, by omega, by go_num, HQ.out⟩)
                (case measure => simp [intOf]; omega)
end Go.Proofs.Ytaaklnabomhleaa
