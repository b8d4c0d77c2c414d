/- The function handed to the Once of a table: it computes the table out of the one of one scan less. -/
import Derived.Test.YtgdnapioboodbaaThT
import Derived.Deep.RegionHeld3
import Derived.Deep.DeepCutAuto
import Derived.Deep.DrawnRows
import Derived.Deep.RegionWith
namespace Go.Proofs.Ytgdnapioboodbaa
open Go.ChangeShapes Go.WideShapes Go.ChangeAt Go.RowKit Go.Shelf Num
set_option linter.unusedVariables false
set_option linter.unusedSimpArgs false

set_option maxRecDepth 100000 in
set_option maxHeartbeats 8000000 in
theorem clo_any (a : Int) (a0 : 0 ≤ a) (a1 : a ≤ 16) (n : Nat) (hn : n ≤ 12) (b o : Nat) (ho : o = 1 + n * 17)
    (ih : ∀ p, p + 1 = n → ∀ (q : Nat), q ≤ n → ∀ (W : World) (cs : Array Value), Tkd W b cs a n → Calls Try.prog 44 #[.pointer (some ⟨b, 0, none⟩), .int .i64 (p : Int), .int .i64 (q : Int)] W fun e w' => e = .returned (.int .i64 (tl a p q)) ∧ Aft W b cs a n w')
    (W : World) (g0 g1 g2 : Nat) (cs : Array Value) (bn : Bk W g0 #[.int .i64 (n : Int)] 2) (bt : Bk W g1 #[.pointer (some ⟨b, o, none⟩)] 85) (bp : Bk W g2 #[.pointer (some ⟨b, 0, none⟩)] 84) (n0 : g0 ≠ b) (n1 : g1 ≠ b) (n2 : g2 ≠ b)
    (hI : Inn W b o cs a n 0 cs W) :
    Calls Try.prog 65 #[.pointer (some ⟨g0, 0, none⟩), .pointer (some ⟨g1, 0, none⟩), .pointer (some ⟨g2, 0, none⟩)] W fun e w' => e = .returned (.tuple #[]) ∧ ∃ cs2, Inn W b o cs a n (n + 1) cs2 w' := by
  have HI := Lib.hid hI
  have HO := Lib.hid ho
  have IH := Lib.hid ih
  have KC : Hid (∀ W : World, Calls Try.prog 48 #[.int .i64 (n : Int)] W fun e w' => e = .returned (.int .i64 (pw n)) ∧ W = w') := Lib.hid (fun W => csf_any W n hn)
  have H0 : Hid (tl a n 0 = pw n) := Lib.hid (tl_le n (by omega))
  have HB : Hid (Below 0 W W) := Lib.hid (Below.refl _ _)
  have hca := HI.out.tk.ca
  have HN := Lib.hid hn
  clear hI ho ih
  obtain ⟨P, hP⟩ : ∃ q, pw n = q := ⟨_, rfl⟩
  rw [hP] at KC H0
  clear hP
  go_enter Try.func65, Try.ntmps65
  go_upto_region 0 with fail
  obtain ⟨S, hSd⟩ : ∃ S : World → Prop, ∀ w', S w' ↔ (w'.cell? ⟨g0, 0, none⟩ = some (.int .i64 (n : Int)) ∧ w'.cell? ⟨g1, 0, none⟩ = some (.pointer (some ⟨b, o, none⟩))) := ⟨_, fun _ => Iff.rfl⟩
  have HSp : Hid (∀ w' : World, Bk w' (g0) #[.int .i64 (n : Int)] 2 → Bk w' (g1) #[.pointer (some ⟨b, o, none⟩)] 85 → S w') := Lib.hid (fun w' bn bt => (hSd w').2 ⟨bn.cell 0 rfl, bt.cell 0 rfl⟩)
  have HSd := Lib.hid hSd
  clear hSd
  refine wp_region_held_drew (S := S) (by kernel_rfl) ?_ (fun hH => ?_)
  · exact (HSp.out _ bn bt : S (World.drew W))
  clear hH
  generalize hX : World.drew W = V0
  replace bn : Bk V0 (g0) #[.int .i64 (n : Int)] 2 := by rw [← hX]; exact bn
  replace bt : Bk V0 (g1) #[.pointer (some ⟨b, o, none⟩)] 85 := by rw [← hX]; exact bt
  replace bp : Bk V0 (g2) #[.pointer (some ⟨b, 0, none⟩)] 84 := by rw [← hX]; exact bp
  have hb : Below W.heap.size W V0 := by rw [← hX]; exact (Below.refl _ _).drew
  clear hX
  replace HI := Lib.hid (HI.out.on hb)
  replace hca := HI.out.tk.ca
  clear hb
  have hS := HSp.out _ bn bt
  refine wpAnyH_take (i := 0) (oi := { dst := some 4, op := Go.Op.load 85 (Go.Operand.tmp 1), type := 85, pos := "l13_thresholds.go:160", after := #[], guard := none }) (v := ?_) rfl (by kernel_rfl) (by kernel_rfl) (by kernel_rfl) (fun _ _ _ h => h) (Or.inl ⟨by rfl, ?_⟩) hS ?_
  rotate_left
  · (intro w hSw; have hSw := (HSd.out w).1 hSw; go_split_ands; go_simp) <;> with_reducible rfl
  clear hS
  try simp only [Act.put, List.setIfInBounds_toArray, List.set_cons_zero, List.set_cons_succ]
  have hS := HSp.out _ bn bt
  refine wpAnyH_take (i := 1) (oi := { dst := some 5, op := Go.Op.load 2 (Go.Operand.tmp 0), type := 2, pos := "l13_thresholds.go:160", after := #[], guard := none }) (v := ?_) rfl (by kernel_rfl) (by kernel_rfl) (by kernel_rfl) (fun _ _ _ h => h) (Or.inl ⟨by rfl, ?_⟩) hS ?_
  rotate_left
  · (intro w hSw; have hSw := (HSd.out w).1 hSw; go_split_ands; go_simp) <;> with_reducible rfl
  clear hS
  try simp only [Act.put, List.setIfInBounds_toArray, List.set_cons_zero, List.set_cons_succ]
  have hS := HSp.out _ bn bt
  refine wpAnyH_take (i := 3) (oi := { dst := some 7, op := Go.Op.nilCheck (Go.Operand.tmp 4), type := 0, pos := "l13_thresholds.go:160", after := #[{ on := 0, ground := Go.Ground.data }], guard := none }) (v := ?_) rfl (by kernel_rfl) (by kernel_rfl) (by kernel_rfl) (fun _ _ _ h => h) (Or.inl ⟨by rfl, ?_⟩) hS ?_
  rotate_left
  · (intro w hSw; have hSw := (HSd.out w).1 hSw; go_split_ands; go_simp) <;> with_reducible rfl
  clear hS
  try simp only [Act.put, List.setIfInBounds_toArray, List.set_cons_zero, List.set_cons_succ]
  have hS := HSp.out _ bn bt
  refine wpAnyH_take (i := 4) (oi := { dst := some 8, op := Go.Op.fieldAddr 62 (Go.Operand.tmp 7) 1, type := 0, pos := "l13_thresholds.go:160", after := #[{ on := 3, ground := Go.Ground.data }], guard := none }) (v := ?_) rfl (by kernel_rfl) (by kernel_rfl) (by kernel_rfl) (fun _ _ _ h => h) (Or.inl ⟨by rfl, ?_⟩) hS ?_
  rotate_left
  · (intro w hSw; have hSw := (HSd.out w).1 hSw; go_split_ands; go_simp) <;> with_reducible rfl
  clear hS
  try simp only [Act.put, List.setIfInBounds_toArray, List.set_cons_zero, List.set_cons_succ]
  refine wpAnyH_ready (rs := [2]) (by decide +kernel) (by simp) ?_
  refine AllReadyH.cons (o := { dst := some 6, op := Go.Op.call { callee := Go.Callee.value (Go.Operand.func 48), args := #[Go.Operand.tmp 5], argTypes := #[2] }, type := 2, pos := "l13_thresholds.go:160", after := #[{ on := 1, ground := Go.Ground.data }], guard := none }) rfl (fun Kn hK => ?_) AllReadyH.nil
  first | go_at_call 48 | (go_simp; go_at_call 48)
  (with_reducible refine Calls.mono (KC.out _) ?_)
  rintro e V1 ⟨rfl, hw⟩
  have hb : Below V0.heap.size V0 V1 := hw ▸ Below.refl _ _
  clear hw
  try dsimp only
  try simp only [Act.put, List.setIfInBounds_toArray, List.set_cons_zero, List.set_cons_succ]
  replace bn := bn.on hb
  replace bt := bt.on hb
  replace bp := bp.on hb
  replace HI := Lib.hid (HI.out.on hb)
  replace hca := HI.out.tk.ca
  clear hb
  refine hK.out _ _ (HSp.out _ bn bt) (fun _ => ?_)
  clear hK Kn
  have hS := HSp.out _ bn bt
  refine wpAnyH_take (i := 5) (oi := { dst := some 9, op := Go.Op.indexAddr 60 (Go.Operand.tmp 8) (Go.Operand.const (Go.Value.int Go.IntKind.i64 0)), type := 0, pos := "l13_thresholds.go:160", after := #[{ on := 4, ground := Go.Ground.data }, { on := 0, ground := Go.Ground.phase }, { on := 1, ground := Go.Ground.phase }, { on := 2, ground := Go.Ground.phase }], guard := none }) (v := ?_) rfl (by kernel_rfl) (by kernel_rfl) (by kernel_rfl) (fun _ _ _ h => h) (Or.inl ⟨by rfl, ?_⟩) hS ?_
  rotate_left
  · (intro w hSw; have hSw := (HSd.out w).1 hSw; go_split_ands; go_simp) <;> with_reducible rfl
  clear hS
  try simp only [Act.put, List.setIfInBounds_toArray, List.set_cons_zero, List.set_cons_succ]
  refine wpAnyH_ready (rs := [6]) (by decide +kernel) (by simp) ?_
  refine AllReadyH.cons (o := { dst := none, op := Go.Op.store 2 (Go.Operand.tmp 9) (Go.Operand.tmp 6), type := 0, pos := "l13_thresholds.go:160", after := #[{ on := 5, ground := Go.Ground.data }, { on := 2, ground := Go.Ground.data }, { on := 2, ground := Go.Ground.chain }, { on := 0, ground := Go.Ground.phase }, { on := 1, ground := Go.Ground.phase }, { on := 2, ground := Go.Ground.phase }], guard := none }) rfl (fun Kn hK => ?_) AllReadyH.nil
  have hz := HI.out.zcell (by omega : 0 ≤ 13)
  have hf := HI.out.tk.bk.frozen (o + 3 + 0)
  have hlt := HI.out.tk.bk.lt
  have hz2 : V1.cell? ⟨b, o + 3, none⟩ = some (.int .i64 0) := hz
  have hf2 : V1.frozen? ⟨b, o + 3, none⟩ = false := hf
  go_simp
  clear hz hf hlt hz2 hf2
  generalize hX : World.setCell _ _ _ = V2
  replace HI := Lib.hid (HI.out.put HO.out (by omega : 0 ≤ 13) H0.out)
  rw [Nat.add_zero, hX] at HI
  replace bn : Bk V2 g0 #[.int .i64 (n : Int)] 2 := by rw [← hX]; exact bn.other n0 _ _
  replace bt : Bk V2 g1 #[.pointer (some ⟨b, o, none⟩)] 85 := by rw [← hX]; exact bt.other n1 _ _
  replace bp : Bk V2 g2 #[.pointer (some ⟨b, 0, none⟩)] 84 := by rw [← hX]; exact bp.other n2 _ _
  clear hX
  replace hca := HI.out.tk.ca
  refine hK.out _ _ (HSp.out _ bn bt) (fun _ => ?_)
  clear hK Kn
  refine wpAnyH_done (by kernel_rfl) ?_ _
  clear HB KC H0
  go_wp2_with fail
  go_loopw [3] (fun v wr => ∃ (k : Nat) (cs2 : Array Value), v = .int .i64 (k : Int) ∧ 1 ≤ k ∧ k ≤ n + 1 ∧ Inn W b o cs a n k cs2 wr ∧ Bk wr g0 #[.int .i64 (n : Int)] 2 ∧ Bk wr g1 #[.pointer (some ⟨b, o, none⟩)] 85 ∧ Bk wr g2 #[.pointer (some ⟨b, 0, none⟩)] 84) (fun v _ => ((n : Int) + 1 - intOf v).toNat)
  case atStart => exact ⟨1, _, rfl, by omega, by omega, HI.out, bn, bt, bp⟩
  case round =>
    clear HI hca bn bt bp
    obtain ⟨k, cs2, rfl, k1, k2, hI, bn, bt, bp⟩ := hrel
    have HI := Lib.hid hI
    clear hI
    have hca := HI.out.tk.ca
    have bn_0 := bn.cell 0 rfl
    have bn_l := bn.lt
    by_cases hkn : k ≤ n
    case pos =>
      obtain ⟨p, hp⟩ : ∃ p, p + 1 = n := ⟨n - 1, by omega⟩
      obtain ⟨q, hq⟩ : ∃ q, q + 1 = k := ⟨k - 1, by omega⟩
      go_upto_region 4 with fail
      clear bn_0 bn_l
      have KC := Lib.hid (IH.out p hp)
      have hqn : q ≤ n := by omega
      have HQ := Lib.hid hqn
      have HK := Lib.hid hkn
      have e1 : IntKind.wrap .i64 ((n : Int) - 1) = (p : Int) := by rw [IntWalk.i64_in _ (by have := HN.out; omega)]; omega
      have e1b : (n : Int) - 1 = (p : Int) := by omega
      have e2 : IntKind.wrap .i64 ((k : Int) - 1) = (q : Int) := by rw [IntWalk.i64_in _ (by have := HN.out; omega)]; omega
      have e2b : (k : Int) - 1 = (q : Int) := by omega
      have HR : Hid (tl a n k = a * tl a p q + (16 - a) * tl a p k) := Lib.hid (by rw [← hp, tl_succ p (by omega), e2b])
      have t1 := tl_bd a0 a1 p q
      have t2 := tl_bd a0 a1 p k
      have tp := pw_le (n := p) (by omega)
      obtain ⟨T1, hT1⟩ : ∃ x, tl a p q = x := ⟨_, rfl⟩
      obtain ⟨T2, hT2⟩ : ∃ x, tl a p k = x := ⟨_, rfl⟩
      have K1 : Hid (∀ (V : World) (cs : Array Value), Tkd V b cs a n → Calls Try.prog 44 #[.pointer (some ⟨b, 0, none⟩), .int .i64 (p : Int), .int .i64 (q : Int)] V fun e w' => e = .returned (.int .i64 T1) ∧ Aft V b cs a n w') := Lib.hid (fun V cs h => by have := KC.out q hqn V cs h; rwa [hT1] at this)
      have K2 : Hid (∀ (V : World) (cs : Array Value), Tkd V b cs a n → Calls Try.prog 44 #[.pointer (some ⟨b, 0, none⟩), .int .i64 (p : Int), .int .i64 (k : Int)] V fun e w' => e = .returned (.int .i64 T2) ∧ Aft V b cs a n w') := Lib.hid (fun V cs h => by have := KC.out k hkn V cs h; rwa [hT2] at this)
      rw [hT1, hT2] at HR
      rw [hT1] at t1
      rw [hT2] at t2
      have m1 := prd48 (x := T1) (y := a) (by omega) (by omega) a0 (by omega)
      have m2 := prd48 (x := T2) (y := 16 - a) (by omega) (by omega) (by omega) (by omega)
      rw [Int.mul_comm] at m1 m2
      obtain ⟨A2, hA2⟩ : ∃ x, 16 - a = x := ⟨_, rfl⟩
      have e3 : IntKind.wrap .i64 (16 - a) = A2 := by rw [IntWalk.i64_in _ (by omega)]; exact hA2
      rw [hA2] at HR m2
      obtain ⟨U, hU⟩ : ∃ x, a * T1 = x := ⟨_, rfl⟩
      obtain ⟨V2, hV2⟩ : ∃ x, A2 * T2 = x := ⟨_, rfl⟩
      rw [hU] at m1 HR
      rw [hV2] at m2 HR
      have e4 : IntKind.wrap .i64 (a * T1) = U := by rw [IntWalk.i64_in _ (by omega)]; exact hU
      have e5 : IntKind.wrap .i64 (A2 * T2) = V2 := by rw [IntWalk.i64_in _ (by omega)]; exact hV2
      obtain ⟨R, hR⟩ : ∃ x, tl a n k = x := ⟨_, rfl⟩
      have HR2 : Hid (tl a n k = R) := Lib.hid hR
      have e6 : IntKind.wrap .i64 (U + V2) = R := by rw [IntWalk.i64_in _ (by omega), ← HR.out]; exact hR
      have hk14 : (k : Int) < 14 := by omega
      clear hT1 hT2 hU hV2 hR HR m1 m2 t1 t2 tp KC hqn hp hq hA2 a0 a1 hn e1b e2b k1 k2 hkn
      have hp2 : Hid (k ≤ n) := HK
      have HB : Hid (Below 0 W W) := Lib.hid (Below.refl _ _)
      obtain ⟨S, hSd⟩ : ∃ S : World → Prop, ∀ w', S w' ↔ (w'.cell? ⟨g0, 0, none⟩ = some (.int .i64 (n : Int)) ∧ w'.cell? ⟨g1, 0, none⟩ = some (.pointer (some ⟨b, o, none⟩)) ∧ w'.cell? ⟨g2, 0, none⟩ = some (.pointer (some ⟨b, 0, none⟩)) ∧ w'.cell? ⟨b, 0, none⟩ = some (.int .i64 a)) := ⟨_, fun _ => Iff.rfl⟩
      have HSp : Hid (∀ w' : World, Bk w' (g0) #[.int .i64 (n : Int)] 2 → Bk w' (g1) #[.pointer (some ⟨b, o, none⟩)] 85 → Bk w' (g2) #[.pointer (some ⟨b, 0, none⟩)] 84 → w'.cell? ⟨b, 0, none⟩ = some (.int .i64 a) → S w') := Lib.hid (fun w' bn bt bp y0 => (hSd w').2 ⟨bn.cell 0 rfl, bt.cell 0 rfl, bp.cell 0 rfl, y0⟩)
      have HSd := Lib.hid hSd
      clear hSd
      refine wp_region_held_drew (S := S) (by kernel_rfl) ?_ (fun hH => ?_)
      · exact (HSp.out _ bn bt bp hca : S (World.drew wr))
      clear hH
      generalize hX : World.drew wr = V0
      replace bn : Bk V0 (g0) #[.int .i64 (n : Int)] 2 := by rw [← hX]; exact bn
      replace bt : Bk V0 (g1) #[.pointer (some ⟨b, o, none⟩)] 85 := by rw [← hX]; exact bt
      replace bp : Bk V0 (g2) #[.pointer (some ⟨b, 0, none⟩)] 84 := by rw [← hX]; exact bp
      have hb : Below wr.heap.size wr V0 := by rw [← hX]; exact (Below.refl _ _).drew
      clear hX
      replace HI := Lib.hid (HI.out.on hb)
      replace hca := HI.out.tk.ca
      clear hb
      have hS := HSp.out _ bn bt bp hca
      refine wpAnyH_take (i := 0) (oi := { dst := some 15, op := Go.Op.load 85 (Go.Operand.tmp 1), type := 85, pos := "l13_thresholds.go:163", after := #[], guard := none }) (v := ?_) rfl (by kernel_rfl) (by kernel_rfl) (by kernel_rfl) (fun _ _ _ h => h) (Or.inl ⟨by rfl, ?_⟩) hS ?_
      rotate_left
      · (intro w hSw; have hSw := (HSd.out w).1 hSw; go_split_ands; go_simp) <;> with_reducible rfl
      clear hS
      try simp only [Act.put, List.setIfInBounds_toArray, List.set_cons_zero, List.set_cons_succ]
      have hS := HSp.out _ bn bt bp hca
      refine wpAnyH_take (i := 1) (oi := { dst := some 16, op := Go.Op.move (Go.Operand.tmp 3), type := 2, pos := "l13_thresholds.go:163", after := #[], guard := none }) (v := ?_) rfl (by kernel_rfl) (by kernel_rfl) (by kernel_rfl) (fun _ _ _ h => h) (Or.inl ⟨by rfl, ?_⟩) hS ?_
      rotate_left
      · (intro w hSw; have hSw := (HSd.out w).1 hSw; go_split_ands; go_simp) <;> with_reducible rfl
      clear hS
      try simp only [Act.put, List.setIfInBounds_toArray, List.set_cons_zero, List.set_cons_succ]
      have hS := HSp.out _ bn bt bp hca
      refine wpAnyH_take (i := 2) (oi := { dst := some 17, op := Go.Op.load 84 (Go.Operand.tmp 2), type := 84, pos := "l13_thresholds.go:163", after := #[], guard := none }) (v := ?_) rfl (by kernel_rfl) (by kernel_rfl) (by kernel_rfl) (fun _ _ _ h => h) (Or.inl ⟨by rfl, ?_⟩) hS ?_
      rotate_left
      · (intro w hSw; have hSw := (HSd.out w).1 hSw; go_split_ands; go_simp) <;> with_reducible rfl
      clear hS
      try simp only [Act.put, List.setIfInBounds_toArray, List.set_cons_zero, List.set_cons_succ]
      have hS := HSp.out _ bn bt bp hca
      refine wpAnyH_take (i := 3) (oi := { dst := some 18, op := Go.Op.nilCheck (Go.Operand.tmp 17), type := 0, pos := "l13_thresholds.go:163", after := #[{ on := 2, ground := Go.Ground.data }], guard := none }) (v := ?_) rfl (by kernel_rfl) (by kernel_rfl) (by kernel_rfl) (fun _ _ _ h => h) (Or.inl ⟨by rfl, ?_⟩) hS ?_
      rotate_left
      · (intro w hSw; have hSw := (HSd.out w).1 hSw; go_split_ands; go_simp) <;> with_reducible rfl
      clear hS
      try simp only [Act.put, List.setIfInBounds_toArray, List.set_cons_zero, List.set_cons_succ]
      have hS := HSp.out _ bn bt bp hca
      refine wpAnyH_take (i := 4) (oi := { dst := some 19, op := Go.Op.fieldAddr 65 (Go.Operand.tmp 18) 0, type := 0, pos := "l13_thresholds.go:163", after := #[{ on := 3, ground := Go.Ground.data }], guard := none }) (v := ?_) rfl (by kernel_rfl) (by kernel_rfl) (by kernel_rfl) (fun _ _ _ h => h) (Or.inl ⟨by rfl, ?_⟩) hS ?_
      rotate_left
      · (intro w hSw; have hSw := (HSd.out w).1 hSw; go_split_ands; go_simp) <;> with_reducible rfl
      clear hS
      try simp only [Act.put, List.setIfInBounds_toArray, List.set_cons_zero, List.set_cons_succ]
      have hS := HSp.out _ bn bt bp hca
      refine wpAnyH_take (i := 5) (oi := { dst := some 20, op := Go.Op.load 2 (Go.Operand.tmp 19), type := 2, pos := "l13_thresholds.go:163", after := #[{ on := 4, ground := Go.Ground.data }], guard := none }) (v := ?_) rfl (by kernel_rfl) (by kernel_rfl) (by kernel_rfl) (fun _ _ _ h => h) (Or.inl ⟨by rfl, ?_⟩) hS ?_
      rotate_left
      · (intro w hSw; have hSw := (HSd.out w).1 hSw; go_split_ands; go_simp) <;> with_reducible rfl
      clear hS
      try simp only [Act.put, List.setIfInBounds_toArray, List.set_cons_zero, List.set_cons_succ]
      have hS := HSp.out _ bn bt bp hca
      refine wpAnyH_take (i := 6) (oi := { dst := some 21, op := Go.Op.load 84 (Go.Operand.tmp 2), type := 84, pos := "l13_thresholds.go:163", after := #[], guard := none }) (v := ?_) rfl (by kernel_rfl) (by kernel_rfl) (by kernel_rfl) (fun _ _ _ h => h) (Or.inl ⟨by rfl, ?_⟩) hS ?_
      rotate_left
      · (intro w hSw; have hSw := (HSd.out w).1 hSw; go_split_ands; go_simp) <;> with_reducible rfl
      clear hS
      try simp only [Act.put, List.setIfInBounds_toArray, List.set_cons_zero, List.set_cons_succ]
      have hS := HSp.out _ bn bt bp hca
      refine wpAnyH_take (i := 7) (oi := { dst := some 22, op := Go.Op.load 2 (Go.Operand.tmp 0), type := 2, pos := "l13_thresholds.go:163", after := #[], guard := none }) (v := ?_) rfl (by kernel_rfl) (by kernel_rfl) (by kernel_rfl) (fun _ _ _ h => h) (Or.inl ⟨by rfl, ?_⟩) hS ?_
      rotate_left
      · (intro w hSw; have hSw := (HSd.out w).1 hSw; go_split_ands; go_simp) <;> with_reducible rfl
      clear hS
      try simp only [Act.put, List.setIfInBounds_toArray, List.set_cons_zero, List.set_cons_succ]
      have hS := HSp.out _ bn bt bp hca
      refine wpAnyH_take (i := 8) (oi := { dst := some 23, op := Go.Op.binOp Go.BinOp.sub 2 (Go.Operand.tmp 22) (Go.Operand.const (Go.Value.int Go.IntKind.i64 1)) 2, type := 2, pos := "l13_thresholds.go:163", after := #[{ on := 7, ground := Go.Ground.data }], guard := none }) (v := ?_) rfl (by kernel_rfl) (by kernel_rfl) (by kernel_rfl) (fun _ _ _ h => h) (Or.inl ⟨by rfl, ?_⟩) hS ?_
      rotate_left
      · (intro w hSw; have hSw := (HSd.out w).1 hSw; go_split_ands; go_simp) <;> with_reducible rfl
      clear hS
      try simp only [Act.put, List.setIfInBounds_toArray, List.set_cons_zero, List.set_cons_succ]
      have hS := HSp.out _ bn bt bp hca
      refine wpAnyH_take (i := 9) (oi := { dst := some 24, op := Go.Op.move (Go.Operand.tmp 3), type := 2, pos := "l13_thresholds.go:163", after := #[], guard := none }) (v := ?_) rfl (by kernel_rfl) (by kernel_rfl) (by kernel_rfl) (fun _ _ _ h => h) (Or.inl ⟨by rfl, ?_⟩) hS ?_
      rotate_left
      · (intro w hSw; have hSw := (HSd.out w).1 hSw; go_split_ands; go_simp) <;> with_reducible rfl
      clear hS
      try simp only [Act.put, List.setIfInBounds_toArray, List.set_cons_zero, List.set_cons_succ]
      have hS := HSp.out _ bn bt bp hca
      refine wpAnyH_take (i := 10) (oi := { dst := some 25, op := Go.Op.binOp Go.BinOp.sub 2 (Go.Operand.tmp 24) (Go.Operand.const (Go.Value.int Go.IntKind.i64 1)) 2, type := 2, pos := "l13_thresholds.go:163", after := #[{ on := 9, ground := Go.Ground.data }], guard := none }) (v := ?_) rfl (by kernel_rfl) (by kernel_rfl) (by kernel_rfl) (fun _ _ _ h => h) (Or.inl ⟨by rfl, ?_⟩) hS ?_
      rotate_left
      · (intro w hSw; have hSw := (HSd.out w).1 hSw; go_split_ands; go_simp) <;> with_reducible rfl
      clear hS
      try simp only [Act.put, List.setIfInBounds_toArray, List.set_cons_zero, List.set_cons_succ]
      have hS := HSp.out _ bn bt bp hca
      refine wpAnyH_take (i := 13) (oi := { dst := some 28, op := Go.Op.load 84 (Go.Operand.tmp 2), type := 84, pos := "l13_thresholds.go:163", after := #[], guard := none }) (v := ?_) rfl (by kernel_rfl) (by kernel_rfl) (by kernel_rfl) (fun _ _ _ h => h) (Or.inl ⟨by rfl, ?_⟩) hS ?_
      rotate_left
      · (intro w hSw; have hSw := (HSd.out w).1 hSw; go_split_ands; go_simp) <;> with_reducible rfl
      clear hS
      try simp only [Act.put, List.setIfInBounds_toArray, List.set_cons_zero, List.set_cons_succ]
      have hS := HSp.out _ bn bt bp hca
      refine wpAnyH_take (i := 14) (oi := { dst := some 29, op := Go.Op.nilCheck (Go.Operand.tmp 28), type := 0, pos := "l13_thresholds.go:163", after := #[{ on := 13, ground := Go.Ground.data }], guard := none }) (v := ?_) rfl (by kernel_rfl) (by kernel_rfl) (by kernel_rfl) (fun _ _ _ h => h) (Or.inl ⟨by rfl, ?_⟩) hS ?_
      rotate_left
      · (intro w hSw; have hSw := (HSd.out w).1 hSw; go_split_ands; go_simp) <;> with_reducible rfl
      clear hS
      try simp only [Act.put, List.setIfInBounds_toArray, List.set_cons_zero, List.set_cons_succ]
      have hS := HSp.out _ bn bt bp hca
      refine wpAnyH_take (i := 15) (oi := { dst := some 30, op := Go.Op.fieldAddr 65 (Go.Operand.tmp 29) 0, type := 0, pos := "l13_thresholds.go:163", after := #[{ on := 14, ground := Go.Ground.data }], guard := none }) (v := ?_) rfl (by kernel_rfl) (by kernel_rfl) (by kernel_rfl) (fun _ _ _ h => h) (Or.inl ⟨by rfl, ?_⟩) hS ?_
      rotate_left
      · (intro w hSw; have hSw := (HSd.out w).1 hSw; go_split_ands; go_simp) <;> with_reducible rfl
      clear hS
      try simp only [Act.put, List.setIfInBounds_toArray, List.set_cons_zero, List.set_cons_succ]
      have hS := HSp.out _ bn bt bp hca
      refine wpAnyH_take (i := 16) (oi := { dst := some 31, op := Go.Op.load 2 (Go.Operand.tmp 30), type := 2, pos := "l13_thresholds.go:163", after := #[{ on := 15, ground := Go.Ground.data }], guard := none }) (v := ?_) rfl (by kernel_rfl) (by kernel_rfl) (by kernel_rfl) (fun _ _ _ h => h) (Or.inl ⟨by rfl, ?_⟩) hS ?_
      rotate_left
      · (intro w hSw; have hSw := (HSd.out w).1 hSw; go_split_ands; go_simp) <;> with_reducible rfl
      clear hS
      try simp only [Act.put, List.setIfInBounds_toArray, List.set_cons_zero, List.set_cons_succ]
      have hS := HSp.out _ bn bt bp hca
      refine wpAnyH_take (i := 17) (oi := { dst := some 32, op := Go.Op.binOp Go.BinOp.sub 2 (Go.Operand.const (Go.Value.int Go.IntKind.i64 16)) (Go.Operand.tmp 31) 2, type := 2, pos := "l13_thresholds.go:163", after := #[{ on := 16, ground := Go.Ground.data }], guard := none }) (v := ?_) rfl (by kernel_rfl) (by kernel_rfl) (by kernel_rfl) (fun _ _ _ h => h) (Or.inl ⟨by rfl, ?_⟩) hS ?_
      rotate_left
      · (intro w hSw; have hSw := (HSd.out w).1 hSw; go_split_ands; go_simp) <;> with_reducible rfl
      clear hS
      try simp only [Act.put, List.setIfInBounds_toArray, List.set_cons_zero, List.set_cons_succ]
      have hS := HSp.out _ bn bt bp hca
      refine wpAnyH_take (i := 18) (oi := { dst := some 33, op := Go.Op.load 84 (Go.Operand.tmp 2), type := 84, pos := "l13_thresholds.go:163", after := #[], guard := none }) (v := ?_) rfl (by kernel_rfl) (by kernel_rfl) (by kernel_rfl) (fun _ _ _ h => h) (Or.inl ⟨by rfl, ?_⟩) hS ?_
      rotate_left
      · (intro w hSw; have hSw := (HSd.out w).1 hSw; go_split_ands; go_simp) <;> with_reducible rfl
      clear hS
      try simp only [Act.put, List.setIfInBounds_toArray, List.set_cons_zero, List.set_cons_succ]
      have hS := HSp.out _ bn bt bp hca
      refine wpAnyH_take (i := 19) (oi := { dst := some 34, op := Go.Op.load 2 (Go.Operand.tmp 0), type := 2, pos := "l13_thresholds.go:163", after := #[], guard := none }) (v := ?_) rfl (by kernel_rfl) (by kernel_rfl) (by kernel_rfl) (fun _ _ _ h => h) (Or.inl ⟨by rfl, ?_⟩) hS ?_
      rotate_left
      · (intro w hSw; have hSw := (HSd.out w).1 hSw; go_split_ands; go_simp) <;> with_reducible rfl
      clear hS
      try simp only [Act.put, List.setIfInBounds_toArray, List.set_cons_zero, List.set_cons_succ]
      have hS := HSp.out _ bn bt bp hca
      refine wpAnyH_take (i := 20) (oi := { dst := some 35, op := Go.Op.binOp Go.BinOp.sub 2 (Go.Operand.tmp 34) (Go.Operand.const (Go.Value.int Go.IntKind.i64 1)) 2, type := 2, pos := "l13_thresholds.go:163", after := #[{ on := 19, ground := Go.Ground.data }], guard := none }) (v := ?_) rfl (by kernel_rfl) (by kernel_rfl) (by kernel_rfl) (fun _ _ _ h => h) (Or.inl ⟨by rfl, ?_⟩) hS ?_
      rotate_left
      · (intro w hSw; have hSw := (HSd.out w).1 hSw; go_split_ands; go_simp) <;> with_reducible rfl
      clear hS
      try simp only [Act.put, List.setIfInBounds_toArray, List.set_cons_zero, List.set_cons_succ]
      have hS := HSp.out _ bn bt bp hca
      refine wpAnyH_take (i := 21) (oi := { dst := some 36, op := Go.Op.move (Go.Operand.tmp 3), type := 2, pos := "l13_thresholds.go:163", after := #[], guard := none }) (v := ?_) rfl (by kernel_rfl) (by kernel_rfl) (by kernel_rfl) (fun _ _ _ h => h) (Or.inl ⟨by rfl, ?_⟩) hS ?_
      rotate_left
      · (intro w hSw; have hSw := (HSd.out w).1 hSw; go_split_ands; go_simp) <;> with_reducible rfl
      clear hS
      try simp only [Act.put, List.setIfInBounds_toArray, List.set_cons_zero, List.set_cons_succ]
      have hS := HSp.out _ bn bt bp hca
      refine wpAnyH_take (i := 25) (oi := { dst := some 40, op := Go.Op.nilCheck (Go.Operand.tmp 15), type := 0, pos := "l13_thresholds.go:163", after := #[{ on := 0, ground := Go.Ground.data }], guard := none }) (v := ?_) rfl (by kernel_rfl) (by kernel_rfl) (by kernel_rfl) (fun _ _ _ h => h) (Or.inl ⟨by rfl, ?_⟩) hS ?_
      rotate_left
      · (intro w hSw; have hSw := (HSd.out w).1 hSw; go_split_ands; go_simp) <;> with_reducible rfl
      clear hS
      try simp only [Act.put, List.setIfInBounds_toArray, List.set_cons_zero, List.set_cons_succ]
      have hS := HSp.out _ bn bt bp hca
      refine wpAnyH_take (i := 26) (oi := { dst := some 41, op := Go.Op.fieldAddr 62 (Go.Operand.tmp 40) 1, type := 0, pos := "l13_thresholds.go:163", after := #[{ on := 25, ground := Go.Ground.data }], guard := none }) (v := ?_) rfl (by kernel_rfl) (by kernel_rfl) (by kernel_rfl) (fun _ _ _ h => h) (Or.inl ⟨by rfl, ?_⟩) hS ?_
      rotate_left
      · (intro w hSw; have hSw := (HSd.out w).1 hSw; go_split_ands; go_simp) <;> with_reducible rfl
      clear hS
      try simp only [Act.put, List.setIfInBounds_toArray, List.set_cons_zero, List.set_cons_succ]
      refine wpAnyH_ready (rs := [11]) (by decide +kernel) (by simp) ?_
      refine AllReadyH.cons (o := { dst := some 26, op := Go.Op.call { callee := Go.Callee.value (Go.Operand.func 44), args := #[Go.Operand.tmp 21, Go.Operand.tmp 23, Go.Operand.tmp 25], argTypes := #[84, 2, 2] }, type := 2, pos := "l13_thresholds.go:163", after := #[{ on := 6, ground := Go.Ground.data }, { on := 8, ground := Go.Ground.data }, { on := 10, ground := Go.Ground.data }], guard := none }) rfl (fun Kn hK => ?_) AllReadyH.nil
      first | go_at_call 44 | (go_simp; go_at_call 44)
      (with_reducible refine Calls.mono (K1.out _ _ HI.out.tk) ?_)
      rintro e V1 ⟨rfl, hA⟩
      try dsimp only
      try simp only [Act.put, List.setIfInBounds_toArray, List.set_cons_zero, List.set_cons_succ]
      have hg := hA.gr
      obtain ⟨cs111, hI⟩ := HI.out.call HO.out hA
      replace HI := Lib.hid hI
      clear hI hA
      replace bn := bn.kept hg (by simpa using n0)
      replace bt := bt.kept hg (by simpa using n1)
      replace bp := bp.kept hg (by simpa using n2)
      clear hg
      replace hca := HI.out.tk.ca
      refine hK.out _ _ (HSp.out _ bn bt bp hca) (fun _ => ?_)
      clear hK Kn
      have hS := HSp.out _ bn bt bp hca
      refine wpAnyH_take (i := 12) (oi := { dst := some 27, op := Go.Op.binOp Go.BinOp.mul 2 (Go.Operand.tmp 20) (Go.Operand.tmp 26) 2, type := 2, pos := "l13_thresholds.go:163", after := #[{ on := 5, ground := Go.Ground.data }, { on := 11, ground := Go.Ground.data }], guard := none }) (v := ?_) rfl (by kernel_rfl) (by kernel_rfl) (by kernel_rfl) (fun _ _ _ h => h) (Or.inl ⟨by rfl, ?_⟩) hS ?_
      rotate_left
      · (intro w hSw; have hSw := (HSd.out w).1 hSw; go_split_ands; go_simp) <;> with_reducible rfl
      clear hS
      try simp only [Act.put, List.setIfInBounds_toArray, List.set_cons_zero, List.set_cons_succ]
      refine wpAnyH_ready (rs := [22]) (by decide +kernel) (by simp) ?_
      refine AllReadyH.cons (o := { dst := some 37, op := Go.Op.call { callee := Go.Callee.value (Go.Operand.func 44), args := #[Go.Operand.tmp 33, Go.Operand.tmp 35, Go.Operand.tmp 36], argTypes := #[84, 2, 2] }, type := 2, pos := "l13_thresholds.go:163", after := #[{ on := 18, ground := Go.Ground.data }, { on := 20, ground := Go.Ground.data }, { on := 21, ground := Go.Ground.data }, { on := 11, ground := Go.Ground.chain }], guard := none }) rfl (fun Kn hK => ?_) AllReadyH.nil
      first | go_at_call 44 | (go_simp; go_at_call 44)
      (with_reducible refine Calls.mono (K2.out _ _ HI.out.tk) ?_)
      rintro e V2 ⟨rfl, hA⟩
      try dsimp only
      try simp only [Act.put, List.setIfInBounds_toArray, List.set_cons_zero, List.set_cons_succ]
      have hg := hA.gr
      obtain ⟨cs122, hI⟩ := HI.out.call HO.out hA
      replace HI := Lib.hid hI
      clear hI hA
      replace bn := bn.kept hg (by simpa using n0)
      replace bt := bt.kept hg (by simpa using n1)
      replace bp := bp.kept hg (by simpa using n2)
      clear hg
      replace hca := HI.out.tk.ca
      refine hK.out _ _ (HSp.out _ bn bt bp hca) (fun _ => ?_)
      clear hK Kn
      have hS := HSp.out _ bn bt bp hca
      refine wpAnyH_take (i := 23) (oi := { dst := some 38, op := Go.Op.binOp Go.BinOp.mul 2 (Go.Operand.tmp 32) (Go.Operand.tmp 37) 2, type := 2, pos := "l13_thresholds.go:163", after := #[{ on := 17, ground := Go.Ground.data }, { on := 22, ground := Go.Ground.data }], guard := none }) (v := ?_) rfl (by kernel_rfl) (by kernel_rfl) (by kernel_rfl) (fun _ _ _ h => h) (Or.inl ⟨by rfl, ?_⟩) hS ?_
      rotate_left
      · (intro w hSw; have hSw := (HSd.out w).1 hSw; go_split_ands; go_simp) <;> with_reducible rfl
      clear hS
      try simp only [Act.put, List.setIfInBounds_toArray, List.set_cons_zero, List.set_cons_succ]
      have hS := HSp.out _ bn bt bp hca
      refine wpAnyH_take (i := 24) (oi := { dst := some 39, op := Go.Op.binOp Go.BinOp.add 2 (Go.Operand.tmp 27) (Go.Operand.tmp 38) 2, type := 2, pos := "l13_thresholds.go:163", after := #[{ on := 12, ground := Go.Ground.data }, { on := 23, ground := Go.Ground.data }], guard := none }) (v := ?_) rfl (by kernel_rfl) (by kernel_rfl) (by kernel_rfl) (fun _ _ _ h => h) (Or.inl ⟨by rfl, ?_⟩) hS ?_
      rotate_left
      · (intro w hSw; have hSw := (HSd.out w).1 hSw; go_split_ands; go_simp) <;> with_reducible rfl
      clear hS
      try simp only [Act.put, List.setIfInBounds_toArray, List.set_cons_zero, List.set_cons_succ]
      have hS := HSp.out _ bn bt bp hca
      refine wpAnyH_take (i := 27) (oi := { dst := some 42, op := Go.Op.indexAddr 60 (Go.Operand.tmp 41) (Go.Operand.tmp 16), type := 0, pos := "l13_thresholds.go:163", after := #[{ on := 26, ground := Go.Ground.data }, { on := 1, ground := Go.Ground.data }, { on := 0, ground := Go.Ground.phase }, { on := 1, ground := Go.Ground.phase }, { on := 2, ground := Go.Ground.phase }, { on := 3, ground := Go.Ground.phase }, { on := 4, ground := Go.Ground.phase }, { on := 5, ground := Go.Ground.phase }, { on := 6, ground := Go.Ground.phase }, { on := 7, ground := Go.Ground.phase }, { on := 8, ground := Go.Ground.phase }, { on := 9, ground := Go.Ground.phase }, { on := 10, ground := Go.Ground.phase }, { on := 11, ground := Go.Ground.phase }, { on := 12, ground := Go.Ground.phase }, { on := 13, ground := Go.Ground.phase }, { on := 14, ground := Go.Ground.phase }, { on := 15, ground := Go.Ground.phase }, { on := 16, ground := Go.Ground.phase }, { on := 17, ground := Go.Ground.phase }, { on := 18, ground := Go.Ground.phase }, { on := 19, ground := Go.Ground.phase }, { on := 20, ground := Go.Ground.phase }, { on := 21, ground := Go.Ground.phase }, { on := 22, ground := Go.Ground.phase }, { on := 23, ground := Go.Ground.phase }, { on := 24, ground := Go.Ground.phase }], guard := none }) (v := ?_) rfl (by kernel_rfl) (by kernel_rfl) (by kernel_rfl) (fun _ _ _ h => h) (Or.inl ⟨by rfl, ?_⟩) hS ?_
      rotate_left
      · (intro w hSw; have hSw := (HSd.out w).1 hSw; go_split_ands; go_simp) <;> with_reducible rfl
      clear hS
      try simp only [Act.put, List.setIfInBounds_toArray, List.set_cons_zero, List.set_cons_succ]
      refine wpAnyH_ready (rs := [28]) (by decide +kernel) (by simp) ?_
      refine AllReadyH.cons (o := { dst := none, op := Go.Op.store 2 (Go.Operand.tmp 42) (Go.Operand.tmp 39), type := 0, pos := "l13_thresholds.go:163", after := #[{ on := 27, ground := Go.Ground.data }, { on := 24, ground := Go.Ground.data }, { on := 22, ground := Go.Ground.chain }, { on := 0, ground := Go.Ground.phase }, { on := 1, ground := Go.Ground.phase }, { on := 2, ground := Go.Ground.phase }, { on := 3, ground := Go.Ground.phase }, { on := 4, ground := Go.Ground.phase }, { on := 5, ground := Go.Ground.phase }, { on := 6, ground := Go.Ground.phase }, { on := 7, ground := Go.Ground.phase }, { on := 8, ground := Go.Ground.phase }, { on := 9, ground := Go.Ground.phase }, { on := 10, ground := Go.Ground.phase }, { on := 11, ground := Go.Ground.phase }, { on := 12, ground := Go.Ground.phase }, { on := 13, ground := Go.Ground.phase }, { on := 14, ground := Go.Ground.phase }, { on := 15, ground := Go.Ground.phase }, { on := 16, ground := Go.Ground.phase }, { on := 17, ground := Go.Ground.phase }, { on := 18, ground := Go.Ground.phase }, { on := 19, ground := Go.Ground.phase }, { on := 20, ground := Go.Ground.phase }, { on := 21, ground := Go.Ground.phase }, { on := 22, ground := Go.Ground.phase }, { on := 23, ground := Go.Ground.phase }, { on := 24, ground := Go.Ground.phase }], guard := none }) rfl (fun Kn hK => ?_) AllReadyH.nil
      have hz := HI.out.zcell (by omega : k ≤ 13)
      have hf := HI.out.tk.bk.frozen (o + 3 + k)
      have hlt := HI.out.tk.bk.lt
      go_simp
      clear hz hf hlt
      generalize hX : World.setCell _ _ _ = V3
      replace HI := Lib.hid (HI.out.put HO.out (by omega : k ≤ 13) HR2.out)
      rw [hX] at HI
      replace bn : Bk V3 g0 #[.int .i64 (n : Int)] 2 := by rw [← hX]; exact bn.other n0 _ _
      replace bt : Bk V3 g1 #[.pointer (some ⟨b, o, none⟩)] 85 := by rw [← hX]; exact bt.other n1 _ _
      replace bp : Bk V3 g2 #[.pointer (some ⟨b, 0, none⟩)] 84 := by rw [← hX]; exact bp.other n2 _ _
      clear hX
      replace hca := HI.out.tk.ca
      refine hK.out _ _ (HSp.out _ bn bt bp hca) (fun _ => ?_)
      clear hK Kn
      refine wpAnyH_done (by kernel_rfl) ?_ _
      clear hca
      have hki : IntKind.wrap .i64 ((k : Int) + 1) = ((k + 1 : Nat) : Int) := by rw [IntWalk.i64_in _ (by omega)]; rfl
      go_wp2_with fail
      go_roundw
      case rel => exact ⟨k + 1, _, by first | rfl | go_num, by omega, by have := HK.out; omega, HI.out, bn, bt, bp⟩
      case measure => (have := HK.out; simp [intOf]; omega)
    case neg =>
      obtain rfl : k = n + 1 := by omega
      go_wp2
      go_end0
      exact ⟨rfl, _, HI.out⟩
end Go.Proofs.Ytgdnapioboodbaa
