import Derived.Test.YtgecbfbmmbfnmaaGreatArc2
import Derived.Deep.RegionHeld3
import Derived.Deep.DeepCutAuto
import Derived.Deep.DrawnRows
import Derived.Deep.RegionWith
namespace Go.Proofs.YtgecbfbmmbfnmaaGreat
/- Contracts of the program's arcs: the ranges of a ray that crosses and of one that turns. -/
open Go.ChangeShapes Go.WideShapes Go.ChangeAt Go.RowKit Go.Shelf Num
set_option linter.unusedVariables false
/-- two new structs of two numbers, in blocks of the call's own -/
def CrS (W wx : World) (s3 s4 : Value) (x y u v : Int) : Prop := ∃ g1 g2 : Nat, s3 = .pointer (some ⟨g1, 0, none⟩) ∧ s4 = .pointer (some ⟨g2, 0, none⟩) ∧ Bk wx g1 #[.int .i64 x, .int .i64 y] 34 ∧ Bk wx g2 #[.int .i64 u, .int .i64 v] 34 ∧ W.heap.size ≤ g1 ∧ W.heap.size ≤ g2 ∧ Below W.heap.size W wx
/-- one new struct of two numbers beside a number -/
def CrT (W wx : World) (s3 s4 : Value) (x y u : Int) : Prop := ∃ g1 : Nat, s3 = .pointer (some ⟨g1, 0, none⟩) ∧ s4 = .int .i64 u ∧ Bk wx g1 #[.int .i64 x, .int .i64 y] 34 ∧ W.heap.size ≤ g1 ∧ Below W.heap.size W wx

set_option maxRecDepth 100000 in
set_option maxHeartbeats 8000000 in
theorem acr_any (w : World) (a b : Option Addr) (ca cb : Nat) (zs ys : List Int) (i n f : Nat) (c s h : Int) (hp : Prof w w.heap.size a b zs ys) (r : RyOk zs ys i c s h) (hn : n < zs.length) (hf : f < zs.length) (e1 : crB ys (i : Int) c h (n : Int) = true) (e2 : crB ys (i : Int) c h (f : Int) = true) :
    Calls Tryz.prog 111 #[.agg #[.slice a zs.length ca, .slice b ys.length cb, .int .i64 (i : Int), .int .i64 c, .int .i64 s, .int .i64 h, .int .i64 (n : Int), .int .i64 (f : Int)]] w fun e w' => e = .returned (.agg #[.int .i64 ((((zs.getD f 0 - zs.getD n 0).natAbs : Int) * (c * ys.getD n 0 + c * ys.getD f 0)).fdiv (sHi ys i c h n + sHi ys i c h f)), .int .i64 (cdiv (((zs.getD f 0 - zs.getD n 0).natAbs : Int) * (c * ys.getD n 0 + c * ys.getD f 0)) (sLo ys i c h n + sLo ys i c h f))]) ∧ Below w.heap.size w w' := by
  have HP := Lib.hid hp
  have KN1 : Hid (∀ W : World, Below w.heap.size w W → Calls Tryz.prog 112 #[.agg #[.slice a zs.length ca, .slice b ys.length cb, .int .i64 (i : Int), .int .i64 c, .int .i64 s, .int .i64 h], .int .i64 (n : Int)] W fun e w' => e = .returned (.agg #[.int .i64 (sLo ys i c h n), .int .i64 (sHi ys i c h n)]) ∧ Below W.heap.size W w') := Lib.hid (fun W hb => rsn_any W a b ca cb zs ys i n c s h (HP.out.on hb) r.ok r.hi hn r.od (crB_lt e1))
  have KN2 : Hid (∀ W : World, Below w.heap.size w W → Calls Tryz.prog 112 #[.agg #[.slice a zs.length ca, .slice b ys.length cb, .int .i64 (i : Int), .int .i64 c, .int .i64 s, .int .i64 h], .int .i64 (f : Int)] W fun e w' => e = .returned (.agg #[.int .i64 (sLo ys i c h f), .int .i64 (sHi ys i c h f)]) ∧ Below W.heap.size W w') := Lib.hid (fun W hb => rsn_any W a b ca cb zs ys i f c s h (HP.out.on hb) r.ok r.hi hf r.od (crB_lt e2))
  have KC1 : Hid (∀ W : World, Below w.heap.size w W → Calls Tryz.prog 90 #[.agg #[.slice a zs.length ca, .slice b ys.length cb, .int .i64 (i : Int), .int .i64 c, .int .i64 s, .int .i64 h], .int .i64 (n : Int)] W fun e w' => e = .returned (.int .i64 (c * ys.getD n 0)) ∧ Below W.heap.size W w') := Lib.hid (fun W hb => rco_any W a b ca cb zs ys i n c s h (HP.out.on hb) r.ok hn r.od.c1 (by have := r.od.c2; have := r.od.h2; omega))
  have KC2 : Hid (∀ W : World, Below w.heap.size w W → Calls Tryz.prog 90 #[.agg #[.slice a zs.length ca, .slice b ys.length cb, .int .i64 (i : Int), .int .i64 c, .int .i64 s, .int .i64 h], .int .i64 (f : Int)] W fun e w' => e = .returned (.int .i64 (c * ys.getD f 0)) ∧ Below W.heap.size W w') := Lib.hid (fun W hb => rco_any W a b ca cb zs ys i f c s h (HP.out.on hb) r.ok hf r.od.c1 (by have := r.od.c2; have := r.od.h2; omega))
  have KW : Hid (∀ W : World, Below w.heap.size w W → Calls Tryz.prog 114 #[.agg #[.slice a zs.length ca, .slice b ys.length cb, .int .i64 (i : Int), .int .i64 c, .int .i64 s, .int .i64 h, .int .i64 (n : Int), .int .i64 (f : Int)]] W fun e w' => e = .returned (.int .i64 (zs.getD f 0 - zs.getD n 0)) ∧ Below W.heap.size W w') := Lib.hid (fun W hb => awy_any W a b ca cb zs ys i n f c s h (HP.out.on hb) r hn hf)
  have g1 := r.sn e1
  have g2 := r.sn e2
  have qn := r.B n
  have qf := r.B f
  have q1 := r.ok.lo n
  have q2 := r.ok.hi n
  have q3 := r.ok.lo f
  have q4 := r.ok.hi f
  obtain ⟨L1, hL1⟩ : ∃ u, sLo ys i c h n = u := ⟨_, rfl⟩
  obtain ⟨H1, hH1⟩ : ∃ u, sHi ys i c h n = u := ⟨_, rfl⟩
  obtain ⟨L2, hL2⟩ : ∃ u, sLo ys i c h f = u := ⟨_, rfl⟩
  obtain ⟨H2, hH2⟩ : ∃ u, sHi ys i c h f = u := ⟨_, rfl⟩
  rw [hL1, hH1] at KN1 g1
  rw [hL2, hH2] at KN2 g2
  rw [hL1, hH1, hL2, hH2]
  obtain ⟨A, hA⟩ : ∃ u, c * ys.getD n 0 = u := ⟨_, rfl⟩
  obtain ⟨B, hB⟩ : ∃ u, c * ys.getD f 0 = u := ⟨_, rfl⟩
  rw [hA] at qn KC1
  rw [hB] at qf KC2
  rw [hA, hB]
  obtain ⟨Y, hY⟩ : ∃ u, zs.getD f 0 - zs.getD n 0 = u := ⟨_, rfl⟩
  rw [hY] at KW ⊢
  have y1 : Y.natAbs ≤ 1000000 := by omega
  obtain ⟨Z, hZ⟩ : ∃ u, (Y.natAbs : Int) = u := ⟨_, rfl⟩
  have KZ : Hid (∀ W : World, Calls Tryz.prog 113 #[.int .i64 Y] W fun e w' => e = .returned (.int .i64 Z) ∧ W = w') := Lib.hid (fun W => by have := abs_any Y (by omega) (by omega) W; rwa [hZ] at this)
  rw [hZ]
  have a1 := g1.l1
  have a2 := g1.l2
  have a3 := g1.lh
  have a4 := g1.h2
  have a5 := g2.l1
  have a6 := g2.l2
  have a7 := g2.lh
  have a8 := g2.h2
  obtain ⟨S, hS⟩ : ∃ u, A + B = u := ⟨_, rfl⟩
  have w3_ : IntKind.wrap .i64 (A + B) = S := by rw [hS]; exact IntWalk.i64_in _ (by omega)
  rw [hS]
  have m := mul_in (a := Z) (b := S) (A := 1000000) (B := 3400000000) (by omega) (by omega) (by omega) (by omega)
  obtain ⟨N, hN⟩ : ∃ u, Z * S = u := ⟨_, rfl⟩
  have w4_ : IntKind.wrap .i64 (Z * S) = N := by rw [hN]; exact IntWalk.i64_in _ (by omega)
  rw [hN] at m ⊢
  obtain ⟨LL, hLL⟩ : ∃ u, L1 + L2 = u := ⟨_, rfl⟩
  obtain ⟨HH, hHH⟩ : ∃ u, H1 + H2 = u := ⟨_, rfl⟩
  have w1_ : IntKind.wrap .i64 (L1 + L2) = LL := by rw [hLL]; exact IntWalk.i64_in _ (by omega)
  have w2_ : IntKind.wrap .i64 (H1 + H2) = HH := by rw [hHH]; exact IntWalk.i64_in _ (by omega)
  rw [hLL, hHH]
  obtain ⟨x, hx⟩ : ∃ u, N.fdiv HH = u := ⟨_, rfl⟩
  obtain ⟨y, hy⟩ : ∃ u, cdiv N LL = u := ⟨_, rfl⟩
  rw [hx, hy]
  have KD : Hid (∀ W : World, Calls Tryz.prog 115 #[.agg #[.int .i64 N, .int .i64 N], .agg #[.int .i64 LL, .int .i64 HH]] W fun e w' => e = .returned (.agg #[.int .i64 x, .int .i64 y]) ∧ Below W.heap.size W w') := Lib.hid (fun W => by have := dvb_any N N LL HH (by omega) (by omega) (by omega) (by omega) (by omega) (by omega) (by omega) (by omega) (by omega) (by omega) W; have g := by_pos (a := N) (x := LL) (y := HH) (by omega) (by omega) (by omega); rwa [g.1, g.2, hx, hy] at this)
  have KE : Hid (∀ W : World, Calls Tryz.prog 40 #[.int .i64 N] W fun e w' => e = .returned (.agg #[.int .i64 N, .int .i64 N]) ∧ Below W.heap.size W w') := Lib.hid (fun W => exa_any N W)
  clear hL1 hH1 hL2 hH2 hA hB hY hZ hS hN hLL hHH hx hy a1 a2 a3 a4 a5 a6 a7 a8 y1 m q1 q2 q3 q4 qn qf g1 g2 e1 e2 hp r hn hf
  go_enter Tryz.func111, Tryz.ntmps111
  go_wp2_with fail
  generalize hW : World.alloc _ _ = W
  have bX : Bk W (w.heap.size) #[.slice a zs.length ca, .slice b ys.length cb, .int .i64 (i : Int), .int .i64 c, .int .i64 s, .int .i64 h, .int .i64 (n : Int), .int .i64 (f : Int)] 115 := by rw [← hW]; repeat (first | exact Bk.new' (by simp) | refine Bk.alloc ?_ _)
  have bR : Bk W (w.heap.size + 1) #[.int .i64 0, .int .i64 0] 34 := by rw [← hW]; repeat (first | exact Bk.new' (by simp) | refine Bk.alloc ?_ _)
  have HB : Hid (Below w.heap.size w W) := Lib.hid (by rw [← hW]; exact (by repeat (first | exact Below.refl _ _ | (refine Below.alloc ?_ (by simp <;> omega) _) | (refine Below.setCell ?_ (by simp <;> omega) _) | (refine Below.drew ?_) | (refine bel_drewN ?_ _))))
  clear hW
  go_cut [3, 4] (fun s3 s4 wx => CrS W wx s3 s4 L1 H1 L2 H2)
  case first =>
    have HW : Hid (Below W.heap.size W W) := Lib.hid (Below.refl _ _)
    clear bR
    obtain ⟨S, hSd⟩ : ∃ S : World → Prop, ∀ w', S w' ↔ (w'.cell? ⟨w.heap.size, 0, none⟩ = some (.slice a zs.length ca) ∧ w'.cell? ⟨w.heap.size, 1, none⟩ = some (.slice b ys.length cb) ∧ w'.cell? ⟨w.heap.size, 2, none⟩ = some (.int .i64 (i : Int)) ∧ w'.cell? ⟨w.heap.size, 3, none⟩ = some (.int .i64 c) ∧ w'.cell? ⟨w.heap.size, 4, none⟩ = some (.int .i64 s) ∧ w'.cell? ⟨w.heap.size, 5, none⟩ = some (.int .i64 h) ∧ w'.cell? ⟨w.heap.size, 6, none⟩ = some (.int .i64 (n : Int)) ∧ w'.cell? ⟨w.heap.size, 7, none⟩ = some (.int .i64 (f : Int))) := ⟨_, fun _ => Iff.rfl⟩
    have HSp : Hid (∀ w' : World, Bk w' (w.heap.size) #[.slice a zs.length ca, .slice b ys.length cb, .int .i64 (i : Int), .int .i64 c, .int .i64 s, .int .i64 h, .int .i64 (n : Int), .int .i64 (f : Int)] 115 → S w') := Lib.hid (fun w' bX => (hSd w').2 ⟨bX.cell 0 rfl, bX.cell 1 rfl, bX.cell 2 rfl, bX.cell 3 rfl, bX.cell 4 rfl, bX.cell 5 rfl, bX.cell 6 rfl, bX.cell 7 rfl⟩)
    have HSd := Lib.hid hSd
    clear hSd
    refine wp_region_held_drew (S := S) (by kernel_rfl) ?_ (fun hH => ?_)
    · exact (HSp.out _ bX : S (World.drew W))
    clear hH
    generalize hX : World.drew W = V0
    replace bX : Bk V0 (w.heap.size) #[.slice a zs.length ca, .slice b ys.length cb, .int .i64 (i : Int), .int .i64 c, .int .i64 s, .int .i64 h, .int .i64 (n : Int), .int .i64 (f : Int)] 115 := by rw [← hX]; exact bX
    have hb : Below W.heap.size W V0 := by rw [← hX]; exact (Below.refl _ _).drew
    clear hX
    replace HW := Lib.hid (bel_end HW.out hb)
    clear hb
    have hS := HSp.out _ bX
    refine wpAnyH_take (i := 0) (oi := { dst := some 7, op := Go.Op.fieldAddr 115 (Go.Operand.tmp 1) 0, type := 0, pos := "l06_arcs.go:143", after := #[], guard := none }) (v := ?_) rfl (by kernel_rfl) (by kernel_rfl) (by kernel_rfl) (fun _ _ _ h => h) (Or.inl ⟨by rfl, ?_⟩) hS ?_
    rotate_left
    · (intro w hSw; have hSw := (HSd.out w).1 hSw; go_split_ands; go_simp) <;> with_reducible rfl
    clear hS
    try simp only [Act.put, List.setIfInBounds_toArray, List.set_cons_zero, List.set_cons_succ]
    have hS := HSp.out _ bX
    refine wpAnyH_take (i := 1) (oi := { dst := some 8, op := Go.Op.load 74 (Go.Operand.tmp 7), type := 74, pos := "l06_arcs.go:143", after := #[{ on := 0, ground := Go.Ground.data }], guard := none }) (v := ?_) rfl (by kernel_rfl) (by kernel_rfl) (by kernel_rfl) (fun _ _ _ h => h) (Or.inl ⟨by rfl, ?_⟩) hS ?_
    rotate_left
    · (intro w hSw; have hSw := (HSd.out w).1 hSw; go_split_ands; go_simp) <;> with_reducible rfl
    clear hS
    try simp only [Act.put, List.setIfInBounds_toArray, List.set_cons_zero, List.set_cons_succ]
    have hS := HSp.out _ bX
    refine wpAnyH_take (i := 2) (oi := { dst := some 9, op := Go.Op.fieldAddr 115 (Go.Operand.tmp 1) 1, type := 0, pos := "l06_arcs.go:143", after := #[], guard := none }) (v := ?_) rfl (by kernel_rfl) (by kernel_rfl) (by kernel_rfl) (fun _ _ _ h => h) (Or.inl ⟨by rfl, ?_⟩) hS ?_
    rotate_left
    · (intro w hSw; have hSw := (HSd.out w).1 hSw; go_split_ands; go_simp) <;> with_reducible rfl
    clear hS
    try simp only [Act.put, List.setIfInBounds_toArray, List.set_cons_zero, List.set_cons_succ]
    have hS := HSp.out _ bX
    refine wpAnyH_take (i := 3) (oi := { dst := some 10, op := Go.Op.load 2 (Go.Operand.tmp 9), type := 2, pos := "l06_arcs.go:143", after := #[{ on := 2, ground := Go.Ground.data }], guard := none }) (v := ?_) rfl (by kernel_rfl) (by kernel_rfl) (by kernel_rfl) (fun _ _ _ h => h) (Or.inl ⟨by rfl, ?_⟩) hS ?_
    rotate_left
    · (intro w hSw; have hSw := (HSd.out w).1 hSw; go_split_ands; go_simp) <;> with_reducible rfl
    clear hS
    try simp only [Act.put, List.setIfInBounds_toArray, List.set_cons_zero, List.set_cons_succ]
    have hS := HSp.out _ bX
    refine wpAnyH_take (i := 5) (oi := { dst := some 12, op := Go.Op.fieldAddr 115 (Go.Operand.tmp 1) 0, type := 0, pos := "l06_arcs.go:143", after := #[], guard := none }) (v := ?_) rfl (by kernel_rfl) (by kernel_rfl) (by kernel_rfl) (fun _ _ _ h => h) (Or.inl ⟨by rfl, ?_⟩) hS ?_
    rotate_left
    · (intro w hSw; have hSw := (HSd.out w).1 hSw; go_split_ands; go_simp) <;> with_reducible rfl
    clear hS
    try simp only [Act.put, List.setIfInBounds_toArray, List.set_cons_zero, List.set_cons_succ]
    have hS := HSp.out _ bX
    refine wpAnyH_take (i := 6) (oi := { dst := some 13, op := Go.Op.load 74 (Go.Operand.tmp 12), type := 74, pos := "l06_arcs.go:143", after := #[{ on := 5, ground := Go.Ground.data }], guard := none }) (v := ?_) rfl (by kernel_rfl) (by kernel_rfl) (by kernel_rfl) (fun _ _ _ h => h) (Or.inl ⟨by rfl, ?_⟩) hS ?_
    rotate_left
    · (intro w hSw; have hSw := (HSd.out w).1 hSw; go_split_ands; go_simp) <;> with_reducible rfl
    clear hS
    try simp only [Act.put, List.setIfInBounds_toArray, List.set_cons_zero, List.set_cons_succ]
    have hS := HSp.out _ bX
    refine wpAnyH_take (i := 7) (oi := { dst := some 14, op := Go.Op.fieldAddr 115 (Go.Operand.tmp 1) 2, type := 0, pos := "l06_arcs.go:143", after := #[], guard := none }) (v := ?_) rfl (by kernel_rfl) (by kernel_rfl) (by kernel_rfl) (fun _ _ _ h => h) (Or.inl ⟨by rfl, ?_⟩) hS ?_
    rotate_left
    · (intro w hSw; have hSw := (HSd.out w).1 hSw; go_split_ands; go_simp) <;> with_reducible rfl
    clear hS
    try simp only [Act.put, List.setIfInBounds_toArray, List.set_cons_zero, List.set_cons_succ]
    have hS := HSp.out _ bX
    refine wpAnyH_take (i := 8) (oi := { dst := some 15, op := Go.Op.load 2 (Go.Operand.tmp 14), type := 2, pos := "l06_arcs.go:143", after := #[{ on := 7, ground := Go.Ground.data }], guard := none }) (v := ?_) rfl (by kernel_rfl) (by kernel_rfl) (by kernel_rfl) (fun _ _ _ h => h) (Or.inl ⟨by rfl, ?_⟩) hS ?_
    rotate_left
    · (intro w hSw; have hSw := (HSd.out w).1 hSw; go_split_ands; go_simp) <;> with_reducible rfl
    clear hS
    try simp only [Act.put, List.setIfInBounds_toArray, List.set_cons_zero, List.set_cons_succ]
    refine wpAnyH_ready (rs := [4, 10, 11]) (by decide +kernel) (by simp) ?_
    refine AllReadyH.cons (o := { dst := some 11, op := Go.Op.call { callee := Go.Callee.value (Go.Operand.func 112), args := #[Go.Operand.tmp 8, Go.Operand.tmp 10], argTypes := #[74, 2] }, type := 34, pos := "l06_arcs.go:143", after := #[{ on := 1, ground := Go.Ground.data }, { on := 3, ground := Go.Ground.data }], guard := none }) rfl (fun Kn hK => ?_) ?_
    first | go_at_call 112 | (go_simp; go_at_call 112)
    (with_reducible refine Calls.mono (KN1.out _ (bel_end HB.out HW.out)) ?_)
    rintro e V1 ⟨rfl, hb⟩
    try dsimp only
    try simp only [Act.put, List.setIfInBounds_toArray, List.set_cons_zero, List.set_cons_succ]
    replace bX := bX.on hb
    replace HW := Lib.hid (bel_end HW.out hb)
    clear hb
    refine hK.out _ _ (HSp.out _ bX) (fun _ => ?_)
    clear hK Kn
    rotate_left
    refine AllReadyH.cons (o := { dst := some 3, op := Go.Op.alloc 34, type := 0, pos := "l06_arcs.go:143", after := #[], guard := none }) rfl (fun Kn hK => ?_) ?_
    go_simp
    generalize hX : World.alloc V0 _ = V1
    obtain ⟨g10, hg⟩ : ∃ g, g = V0.heap.size := ⟨_, rfl⟩
    have bn10 : Bk V1 g10 #[.int .i64 0, .int .i64 0] 34 := by rw [← hX]; exact Bk.new' hg
    have le10 : W.heap.size ≤ g10 := by rw [hg]; exact HW.out.size
    have nebX_10 : w.heap.size ≠ g10 := by have := bX.lt; omega
    try rw [← hg]
    have hb : Below V0.heap.size V0 V1 := by rw [← hX]; exact (Below.refl _ _).alloc (Nat.le_refl _) _
    clear hX hg
    replace bX := bX.on hb
    replace HW := Lib.hid (bel_end HW.out hb)
    clear hb
    refine hK.out _ _ (HSp.out _ bX) (fun _ => ?_)
    clear hK Kn
    rotate_left
    refine AllReadyH.cons (o := { dst := some 4, op := Go.Op.alloc 34, type := 0, pos := "l06_arcs.go:143", after := #[], guard := none }) rfl (fun Kn hK => ?_) AllReadyH.nil
    go_simp
    generalize hX : World.alloc V0 _ = V1
    obtain ⟨g11, hg⟩ : ∃ g, g = V0.heap.size := ⟨_, rfl⟩
    have bn11 : Bk V1 g11 #[.int .i64 0, .int .i64 0] 34 := by rw [← hX]; exact Bk.new' hg
    have le11 : W.heap.size ≤ g11 := by rw [hg]; exact HW.out.size
    have nebX_11 : w.heap.size ≠ g11 := by have := bX.lt; omega
    try rw [← hg]
    have hb : Below V0.heap.size V0 V1 := by rw [← hX]; exact (Below.refl _ _).alloc (Nat.le_refl _) _
    clear hX hg
    replace bX := bX.on hb
    replace HW := Lib.hid (bel_end HW.out hb)
    clear hb
    refine hK.out _ _ (HSp.out _ bX) (fun _ => ?_)
    clear hK Kn
    all_goals
      first
      | (refine wpAnyH_ready (rs := [9, 10, 11]) (by decide +kernel) (by simp) ?_
         refine AllReadyH.cons (o := { dst := some 16, op := Go.Op.call { callee := Go.Callee.value (Go.Operand.func 112), args := #[Go.Operand.tmp 13, Go.Operand.tmp 15], argTypes := #[74, 2] }, type := 34, pos := "l06_arcs.go:143", after := #[{ on := 6, ground := Go.Ground.data }, { on := 8, ground := Go.Ground.data }, { on := 4, ground := Go.Ground.chain }], guard := none }) rfl (fun Kn hK => ?_) ?_
         first | go_at_call 112 | (go_simp; go_at_call 112)
         (with_reducible refine Calls.mono (KN2.out _ (bel_end HB.out HW.out)) ?_)
         rintro e V2 ⟨rfl, hb⟩
         try dsimp only
         try simp only [Act.put, List.setIfInBounds_toArray, List.set_cons_zero, List.set_cons_succ]
         replace bX := bX.on hb
         replace HW := Lib.hid (bel_end HW.out hb)
         clear hb
         refine hK.out _ _ (HSp.out _ bX) (fun _ => ?_)
         clear hK Kn
         rotate_left
         refine AllReadyH.cons (o := { dst := some 3, op := Go.Op.alloc 34, type := 0, pos := "l06_arcs.go:143", after := #[], guard := none }) rfl (fun Kn hK => ?_) ?_
         go_simp
         generalize hX : World.alloc V1 _ = V2
         obtain ⟨g10, hg⟩ : ∃ g, g = V1.heap.size := ⟨_, rfl⟩
         have bn10 : Bk V2 g10 #[.int .i64 0, .int .i64 0] 34 := by rw [← hX]; exact Bk.new' hg
         have le10 : W.heap.size ≤ g10 := by rw [hg]; exact HW.out.size
         have nebX_10 : w.heap.size ≠ g10 := by have := bX.lt; omega
         try rw [← hg]
         have hb : Below V1.heap.size V1 V2 := by rw [← hX]; exact (Below.refl _ _).alloc (Nat.le_refl _) _
         clear hX hg
         replace bX := bX.on hb
         replace HW := Lib.hid (bel_end HW.out hb)
         clear hb
         refine hK.out _ _ (HSp.out _ bX) (fun _ => ?_)
         clear hK Kn
         rotate_left
         refine AllReadyH.cons (o := { dst := some 4, op := Go.Op.alloc 34, type := 0, pos := "l06_arcs.go:143", after := #[], guard := none }) rfl (fun Kn hK => ?_) AllReadyH.nil
         go_simp
         generalize hX : World.alloc V1 _ = V2
         obtain ⟨g11, hg⟩ : ∃ g, g = V1.heap.size := ⟨_, rfl⟩
         have bn11 : Bk V2 g11 #[.int .i64 0, .int .i64 0] 34 := by rw [← hX]; exact Bk.new' hg
         have le11 : W.heap.size ≤ g11 := by rw [hg]; exact HW.out.size
         have nebX_11 : w.heap.size ≠ g11 := by have := bX.lt; omega
         try rw [← hg]
         have hb : Below V1.heap.size V1 V2 := by rw [← hX]; exact (Below.refl _ _).alloc (Nat.le_refl _) _
         clear hX hg
         replace bX := bX.on hb
         replace HW := Lib.hid (bel_end HW.out hb)
         clear hb
         refine hK.out _ _ (HSp.out _ bX) (fun _ => ?_)
         clear hK Kn)
      | (refine wpAnyH_ready (rs := [4, 11]) (by decide +kernel) (by simp) ?_
         refine AllReadyH.cons (o := { dst := some 11, op := Go.Op.call { callee := Go.Callee.value (Go.Operand.func 112), args := #[Go.Operand.tmp 8, Go.Operand.tmp 10], argTypes := #[74, 2] }, type := 34, pos := "l06_arcs.go:143", after := #[{ on := 1, ground := Go.Ground.data }, { on := 3, ground := Go.Ground.data }], guard := none }) rfl (fun Kn hK => ?_) ?_
         first | go_at_call 112 | (go_simp; go_at_call 112)
         (with_reducible refine Calls.mono (KN1.out _ (bel_end HB.out HW.out)) ?_)
         rintro e V2 ⟨rfl, hb⟩
         try dsimp only
         try simp only [Act.put, List.setIfInBounds_toArray, List.set_cons_zero, List.set_cons_succ]
         replace bX := bX.on hb
         replace bn10 := bn10.on hb
         replace HW := Lib.hid (bel_end HW.out hb)
         clear hb
         refine hK.out _ _ (HSp.out _ bX) (fun _ => ?_)
         clear hK Kn
         rotate_left
         refine AllReadyH.cons (o := { dst := some 4, op := Go.Op.alloc 34, type := 0, pos := "l06_arcs.go:143", after := #[], guard := none }) rfl (fun Kn hK => ?_) AllReadyH.nil
         go_simp
         generalize hX : World.alloc V1 _ = V2
         obtain ⟨g11, hg⟩ : ∃ g, g = V1.heap.size := ⟨_, rfl⟩
         have bn11 : Bk V2 g11 #[.int .i64 0, .int .i64 0] 34 := by rw [← hX]; exact Bk.new' hg
         have le11 : W.heap.size ≤ g11 := by rw [hg]; exact HW.out.size
         have nebX_11 : w.heap.size ≠ g11 := by have := bX.lt; omega
         have ne10_11 : g10 ≠ g11 := by have := bn10.lt; omega
         try rw [← hg]
         have hb : Below V1.heap.size V1 V2 := by rw [← hX]; exact (Below.refl _ _).alloc (Nat.le_refl _) _
         clear hX hg
         replace bX := bX.on hb
         replace bn10 := bn10.on hb
         replace HW := Lib.hid (bel_end HW.out hb)
         clear hb
         refine hK.out _ _ (HSp.out _ bX) (fun _ => ?_)
         clear hK Kn)
      | (refine wpAnyH_ready (rs := [4, 10]) (by decide +kernel) (by simp) ?_
         refine AllReadyH.cons (o := { dst := some 11, op := Go.Op.call { callee := Go.Callee.value (Go.Operand.func 112), args := #[Go.Operand.tmp 8, Go.Operand.tmp 10], argTypes := #[74, 2] }, type := 34, pos := "l06_arcs.go:143", after := #[{ on := 1, ground := Go.Ground.data }, { on := 3, ground := Go.Ground.data }], guard := none }) rfl (fun Kn hK => ?_) ?_
         first | go_at_call 112 | (go_simp; go_at_call 112)
         (with_reducible refine Calls.mono (KN1.out _ (bel_end HB.out HW.out)) ?_)
         rintro e V2 ⟨rfl, hb⟩
         try dsimp only
         try simp only [Act.put, List.setIfInBounds_toArray, List.set_cons_zero, List.set_cons_succ]
         replace bX := bX.on hb
         replace bn11 := bn11.on hb
         replace HW := Lib.hid (bel_end HW.out hb)
         clear hb
         refine hK.out _ _ (HSp.out _ bX) (fun _ => ?_)
         clear hK Kn
         rotate_left
         refine AllReadyH.cons (o := { dst := some 3, op := Go.Op.alloc 34, type := 0, pos := "l06_arcs.go:143", after := #[], guard := none }) rfl (fun Kn hK => ?_) AllReadyH.nil
         go_simp
         generalize hX : World.alloc V1 _ = V2
         obtain ⟨g10, hg⟩ : ∃ g, g = V1.heap.size := ⟨_, rfl⟩
         have bn10 : Bk V2 g10 #[.int .i64 0, .int .i64 0] 34 := by rw [← hX]; exact Bk.new' hg
         have le10 : W.heap.size ≤ g10 := by rw [hg]; exact HW.out.size
         have nebX_10 : w.heap.size ≠ g10 := by have := bX.lt; omega
         have ne10_11 : g10 ≠ g11 := by have := bn11.lt; omega
         try rw [← hg]
         have hb : Below V1.heap.size V1 V2 := by rw [← hX]; exact (Below.refl _ _).alloc (Nat.le_refl _) _
         clear hX hg
         replace bX := bX.on hb
         replace bn11 := bn11.on hb
         replace HW := Lib.hid (bel_end HW.out hb)
         clear hb
         refine hK.out _ _ (HSp.out _ bX) (fun _ => ?_)
         clear hK Kn)
    all_goals
      first
      | (refine wpAnyH_ready (rs := [10, 11]) (by decide +kernel) (by simp) ?_
         refine AllReadyH.cons (o := { dst := some 3, op := Go.Op.alloc 34, type := 0, pos := "l06_arcs.go:143", after := #[], guard := none }) rfl (fun Kn hK => ?_) ?_
         go_simp
         generalize hX : World.alloc V2 _ = V3
         obtain ⟨g10, hg⟩ : ∃ g, g = V2.heap.size := ⟨_, rfl⟩
         have bn10 : Bk V3 g10 #[.int .i64 0, .int .i64 0] 34 := by rw [← hX]; exact Bk.new' hg
         have le10 : W.heap.size ≤ g10 := by rw [hg]; exact HW.out.size
         have nebX_10 : w.heap.size ≠ g10 := by have := bX.lt; omega
         try rw [← hg]
         have hb : Below V2.heap.size V2 V3 := by rw [← hX]; exact (Below.refl _ _).alloc (Nat.le_refl _) _
         clear hX hg
         replace bX := bX.on hb
         replace HW := Lib.hid (bel_end HW.out hb)
         clear hb
         refine hK.out _ _ (HSp.out _ bX) (fun _ => ?_)
         clear hK Kn
         rotate_left
         refine AllReadyH.cons (o := { dst := some 4, op := Go.Op.alloc 34, type := 0, pos := "l06_arcs.go:143", after := #[], guard := none }) rfl (fun Kn hK => ?_) AllReadyH.nil
         go_simp
         generalize hX : World.alloc V2 _ = V3
         obtain ⟨g11, hg⟩ : ∃ g, g = V2.heap.size := ⟨_, rfl⟩
         have bn11 : Bk V3 g11 #[.int .i64 0, .int .i64 0] 34 := by rw [← hX]; exact Bk.new' hg
         have le11 : W.heap.size ≤ g11 := by rw [hg]; exact HW.out.size
         have nebX_11 : w.heap.size ≠ g11 := by have := bX.lt; omega
         try rw [← hg]
         have hb : Below V2.heap.size V2 V3 := by rw [← hX]; exact (Below.refl _ _).alloc (Nat.le_refl _) _
         clear hX hg
         replace bX := bX.on hb
         replace HW := Lib.hid (bel_end HW.out hb)
         clear hb
         refine hK.out _ _ (HSp.out _ bX) (fun _ => ?_)
         clear hK Kn)
      | (refine wpAnyH_ready (rs := [9, 11]) (by decide +kernel) (by simp) ?_
         refine AllReadyH.cons (o := { dst := some 16, op := Go.Op.call { callee := Go.Callee.value (Go.Operand.func 112), args := #[Go.Operand.tmp 13, Go.Operand.tmp 15], argTypes := #[74, 2] }, type := 34, pos := "l06_arcs.go:143", after := #[{ on := 6, ground := Go.Ground.data }, { on := 8, ground := Go.Ground.data }, { on := 4, ground := Go.Ground.chain }], guard := none }) rfl (fun Kn hK => ?_) ?_
         first | go_at_call 112 | (go_simp; go_at_call 112)
         (with_reducible refine Calls.mono (KN2.out _ (bel_end HB.out HW.out)) ?_)
         rintro e V3 ⟨rfl, hb⟩
         try dsimp only
         try simp only [Act.put, List.setIfInBounds_toArray, List.set_cons_zero, List.set_cons_succ]
         replace bX := bX.on hb
         replace bn10 := bn10.on hb
         replace HW := Lib.hid (bel_end HW.out hb)
         clear hb
         refine hK.out _ _ (HSp.out _ bX) (fun _ => ?_)
         clear hK Kn
         rotate_left
         refine AllReadyH.cons (o := { dst := some 4, op := Go.Op.alloc 34, type := 0, pos := "l06_arcs.go:143", after := #[], guard := none }) rfl (fun Kn hK => ?_) AllReadyH.nil
         go_simp
         generalize hX : World.alloc V2 _ = V3
         obtain ⟨g11, hg⟩ : ∃ g, g = V2.heap.size := ⟨_, rfl⟩
         have bn11 : Bk V3 g11 #[.int .i64 0, .int .i64 0] 34 := by rw [← hX]; exact Bk.new' hg
         have le11 : W.heap.size ≤ g11 := by rw [hg]; exact HW.out.size
         have nebX_11 : w.heap.size ≠ g11 := by have := bX.lt; omega
         have ne10_11 : g10 ≠ g11 := by have := bn10.lt; omega
         try rw [← hg]
         have hb : Below V2.heap.size V2 V3 := by rw [← hX]; exact (Below.refl _ _).alloc (Nat.le_refl _) _
         clear hX hg
         replace bX := bX.on hb
         replace bn10 := bn10.on hb
         replace HW := Lib.hid (bel_end HW.out hb)
         clear hb
         refine hK.out _ _ (HSp.out _ bX) (fun _ => ?_)
         clear hK Kn)
      | (refine wpAnyH_ready (rs := [9, 10]) (by decide +kernel) (by simp) ?_
         refine AllReadyH.cons (o := { dst := some 16, op := Go.Op.call { callee := Go.Callee.value (Go.Operand.func 112), args := #[Go.Operand.tmp 13, Go.Operand.tmp 15], argTypes := #[74, 2] }, type := 34, pos := "l06_arcs.go:143", after := #[{ on := 6, ground := Go.Ground.data }, { on := 8, ground := Go.Ground.data }, { on := 4, ground := Go.Ground.chain }], guard := none }) rfl (fun Kn hK => ?_) ?_
         first | go_at_call 112 | (go_simp; go_at_call 112)
         (with_reducible refine Calls.mono (KN2.out _ (bel_end HB.out HW.out)) ?_)
         rintro e V3 ⟨rfl, hb⟩
         try dsimp only
         try simp only [Act.put, List.setIfInBounds_toArray, List.set_cons_zero, List.set_cons_succ]
         replace bX := bX.on hb
         replace bn11 := bn11.on hb
         replace HW := Lib.hid (bel_end HW.out hb)
         clear hb
         refine hK.out _ _ (HSp.out _ bX) (fun _ => ?_)
         clear hK Kn
         rotate_left
         refine AllReadyH.cons (o := { dst := some 3, op := Go.Op.alloc 34, type := 0, pos := "l06_arcs.go:143", after := #[], guard := none }) rfl (fun Kn hK => ?_) AllReadyH.nil
         go_simp
         generalize hX : World.alloc V2 _ = V3
         obtain ⟨g10, hg⟩ : ∃ g, g = V2.heap.size := ⟨_, rfl⟩
         have bn10 : Bk V3 g10 #[.int .i64 0, .int .i64 0] 34 := by rw [← hX]; exact Bk.new' hg
         have le10 : W.heap.size ≤ g10 := by rw [hg]; exact HW.out.size
         have nebX_10 : w.heap.size ≠ g10 := by have := bX.lt; omega
         have ne10_11 : g10 ≠ g11 := by have := bn11.lt; omega
         try rw [← hg]
         have hb : Below V2.heap.size V2 V3 := by rw [← hX]; exact (Below.refl _ _).alloc (Nat.le_refl _) _
         clear hX hg
         replace bX := bX.on hb
         replace bn11 := bn11.on hb
         replace HW := Lib.hid (bel_end HW.out hb)
         clear hb
         refine hK.out _ _ (HSp.out _ bX) (fun _ => ?_)
         clear hK Kn)
      | (refine wpAnyH_ready (rs := [4]) (by decide +kernel) (by simp) ?_
         refine AllReadyH.cons (o := { dst := some 11, op := Go.Op.call { callee := Go.Callee.value (Go.Operand.func 112), args := #[Go.Operand.tmp 8, Go.Operand.tmp 10], argTypes := #[74, 2] }, type := 34, pos := "l06_arcs.go:143", after := #[{ on := 1, ground := Go.Ground.data }, { on := 3, ground := Go.Ground.data }], guard := none }) rfl (fun Kn hK => ?_) AllReadyH.nil
         first | go_at_call 112 | (go_simp; go_at_call 112)
         (with_reducible refine Calls.mono (KN1.out _ (bel_end HB.out HW.out)) ?_)
         rintro e V3 ⟨rfl, hb⟩
         try dsimp only
         try simp only [Act.put, List.setIfInBounds_toArray, List.set_cons_zero, List.set_cons_succ]
         replace bX := bX.on hb
         replace bn10 := bn10.on hb
         replace bn11 := bn11.on hb
         replace HW := Lib.hid (bel_end HW.out hb)
         clear hb
         refine hK.out _ _ (HSp.out _ bX) (fun _ => ?_)
         clear hK Kn)
    all_goals
      first
      | (refine wpAnyH_ready (rs := [11]) (by decide +kernel) (by simp) ?_
         refine AllReadyH.cons (o := { dst := some 4, op := Go.Op.alloc 34, type := 0, pos := "l06_arcs.go:143", after := #[], guard := none }) rfl (fun Kn hK => ?_) AllReadyH.nil
         go_simp
         generalize hX : World.alloc V3 _ = V4
         obtain ⟨g11, hg⟩ : ∃ g, g = V3.heap.size := ⟨_, rfl⟩
         have bn11 : Bk V4 g11 #[.int .i64 0, .int .i64 0] 34 := by rw [← hX]; exact Bk.new' hg
         have le11 : W.heap.size ≤ g11 := by rw [hg]; exact HW.out.size
         have nebX_11 : w.heap.size ≠ g11 := by have := bX.lt; omega
         have ne10_11 : g10 ≠ g11 := by have := bn10.lt; omega
         try rw [← hg]
         have hb : Below V3.heap.size V3 V4 := by rw [← hX]; exact (Below.refl _ _).alloc (Nat.le_refl _) _
         clear hX hg
         replace bX := bX.on hb
         replace bn10 := bn10.on hb
         replace HW := Lib.hid (bel_end HW.out hb)
         clear hb
         refine hK.out _ _ (HSp.out _ bX) (fun _ => ?_)
         clear hK Kn)
      | (refine wpAnyH_ready (rs := [10]) (by decide +kernel) (by simp) ?_
         refine AllReadyH.cons (o := { dst := some 3, op := Go.Op.alloc 34, type := 0, pos := "l06_arcs.go:143", after := #[], guard := none }) rfl (fun Kn hK => ?_) AllReadyH.nil
         go_simp
         generalize hX : World.alloc V3 _ = V4
         obtain ⟨g10, hg⟩ : ∃ g, g = V3.heap.size := ⟨_, rfl⟩
         have bn10 : Bk V4 g10 #[.int .i64 0, .int .i64 0] 34 := by rw [← hX]; exact Bk.new' hg
         have le10 : W.heap.size ≤ g10 := by rw [hg]; exact HW.out.size
         have nebX_10 : w.heap.size ≠ g10 := by have := bX.lt; omega
         have ne10_11 : g10 ≠ g11 := by have := bn11.lt; omega
         try rw [← hg]
         have hb : Below V3.heap.size V3 V4 := by rw [← hX]; exact (Below.refl _ _).alloc (Nat.le_refl _) _
         clear hX hg
         replace bX := bX.on hb
         replace bn11 := bn11.on hb
         replace HW := Lib.hid (bel_end HW.out hb)
         clear hb
         refine hK.out _ _ (HSp.out _ bX) (fun _ => ?_)
         clear hK Kn)
      | (refine wpAnyH_ready (rs := [9]) (by decide +kernel) (by simp) ?_
         refine AllReadyH.cons (o := { dst := some 16, op := Go.Op.call { callee := Go.Callee.value (Go.Operand.func 112), args := #[Go.Operand.tmp 13, Go.Operand.tmp 15], argTypes := #[74, 2] }, type := 34, pos := "l06_arcs.go:143", after := #[{ on := 6, ground := Go.Ground.data }, { on := 8, ground := Go.Ground.data }, { on := 4, ground := Go.Ground.chain }], guard := none }) rfl (fun Kn hK => ?_) AllReadyH.nil
         first | go_at_call 112 | (go_simp; go_at_call 112)
         (with_reducible refine Calls.mono (KN2.out _ (bel_end HB.out HW.out)) ?_)
         rintro e V4 ⟨rfl, hb⟩
         try dsimp only
         try simp only [Act.put, List.setIfInBounds_toArray, List.set_cons_zero, List.set_cons_succ]
         replace bX := bX.on hb
         replace bn10 := bn10.on hb
         replace bn11 := bn11.on hb
         replace HW := Lib.hid (bel_end HW.out hb)
         clear hb
         refine hK.out _ _ (HSp.out _ bX) (fun _ => ?_)
         clear hK Kn)
    all_goals
      refine wpAnyH_ready (rs := [12]) (by decide +kernel) (by simp) ?_
      refine AllReadyH.cons (o := { dst := none, op := Go.Op.store 34 (Go.Operand.tmp 3) (Go.Operand.tmp 11), type := 0, pos := "l06_arcs.go:143", after := #[{ on := 10, ground := Go.Ground.data }, { on := 4, ground := Go.Ground.data }, { on := 9, ground := Go.Ground.chain }, { on := 0, ground := Go.Ground.phase }, { on := 1, ground := Go.Ground.phase }, { on := 2, ground := Go.Ground.phase }, { on := 3, ground := Go.Ground.phase }, { on := 4, ground := Go.Ground.phase }, { on := 5, ground := Go.Ground.textOnly Go.Departure.lateStores }, { on := 6, ground := Go.Ground.textOnly Go.Departure.lateStores }, { on := 7, ground := Go.Ground.textOnly Go.Departure.lateStores }, { on := 8, ground := Go.Ground.textOnly Go.Departure.lateStores }, { on := 9, ground := Go.Ground.textOnly Go.Departure.lateStoresUnsure }, { on := 10, ground := Go.Ground.phase }, { on := 11, ground := Go.Ground.phase }], guard := none }) rfl (fun Kn hK => ?_) AllReadyH.nil
      have bn10_0 := bn10.cell 0 rfl
      have bn10_1 := bn10.cell 1 rfl
      have bn10_f0 := bn10.frozen 0
      have bn10_f1 := bn10.frozen 1
      have bn10_l := bn10.lt
      go_simp
      clear bn10_0 bn10_f0 bn10_1 bn10_f1 bn10_l
      generalize hX : World.setCell _ _ _ = V5
      have hb : Below W.heap.size W V5 := by rw [← hX]; exact ((HW.out.setCell (p := ⟨g10, 0, none⟩) le10 _).setCell (p := ⟨g10, 1, none⟩) le10 _)
      replace bX : Bk V5 (w.heap.size) #[.slice a zs.length ca, .slice b ys.length cb, .int .i64 (i : Int), .int .i64 c, .int .i64 s, .int .i64 h, .int .i64 (n : Int), .int .i64 (f : Int)] 115 := by rw [← hX]; exact (Bk.other (Bk.other bX nebX_10 0 _) nebX_10 1 _)
      replace bn11 : Bk V5 (g11) #[.int .i64 0, .int .i64 0] 34 := by rw [← hX]; exact (Bk.other (Bk.other bn11 (Ne.symm ne10_11) 0 _) (Ne.symm ne10_11) 1 _)
      replace bn10 : Bk V5 (g10) #[.int .i64 L1, .int .i64 H1] 34 := by rw [← hX]; exact (Bk.set (Bk.set bn10 0 _ rfl) 1 _ rfl)
      clear hX
      replace HW := Lib.hid hb
      clear hb
      refine hK.out _ _ (HSp.out _ bX) (fun _ => ?_)
      clear hK Kn
    all_goals
      refine wpAnyH_ready (rs := [13]) (by decide +kernel) (by simp) ?_
      refine AllReadyH.cons (o := { dst := none, op := Go.Op.store 34 (Go.Operand.tmp 4) (Go.Operand.tmp 16), type := 0, pos := "l06_arcs.go:143", after := #[{ on := 11, ground := Go.Ground.data }, { on := 9, ground := Go.Ground.data }, { on := 12, ground := Go.Ground.chain }, { on := 0, ground := Go.Ground.phase }, { on := 1, ground := Go.Ground.phase }, { on := 2, ground := Go.Ground.phase }, { on := 3, ground := Go.Ground.phase }, { on := 4, ground := Go.Ground.phase }, { on := 5, ground := Go.Ground.phase }, { on := 6, ground := Go.Ground.phase }, { on := 7, ground := Go.Ground.phase }, { on := 8, ground := Go.Ground.phase }, { on := 9, ground := Go.Ground.phase }, { on := 10, ground := Go.Ground.phase }, { on := 11, ground := Go.Ground.phase }, { on := 12, ground := Go.Ground.phase }], guard := none }) rfl (fun Kn hK => ?_) AllReadyH.nil
      have bn11_0 := bn11.cell 0 rfl
      have bn11_1 := bn11.cell 1 rfl
      have bn11_f0 := bn11.frozen 0
      have bn11_f1 := bn11.frozen 1
      have bn11_l := bn11.lt
      go_simp
      clear bn11_0 bn11_f0 bn11_1 bn11_f1 bn11_l
      generalize hX : World.setCell _ _ _ = V6
      have hb : Below W.heap.size W V6 := by rw [← hX]; exact ((HW.out.setCell (p := ⟨g11, 0, none⟩) le11 _).setCell (p := ⟨g11, 1, none⟩) le11 _)
      replace bX : Bk V6 (w.heap.size) #[.slice a zs.length ca, .slice b ys.length cb, .int .i64 (i : Int), .int .i64 c, .int .i64 s, .int .i64 h, .int .i64 (n : Int), .int .i64 (f : Int)] 115 := by rw [← hX]; exact (Bk.other (Bk.other bX nebX_11 0 _) nebX_11 1 _)
      replace bn10 : Bk V6 (g10) #[.int .i64 L1, .int .i64 H1] 34 := by rw [← hX]; exact (Bk.other (Bk.other bn10 ne10_11 0 _) ne10_11 1 _)
      replace bn11 : Bk V6 (g11) #[.int .i64 L2, .int .i64 H2] 34 := by rw [← hX]; exact (Bk.set (Bk.set bn11 0 _ rfl) 1 _ rfl)
      clear hX
      replace HW := Lib.hid hb
      clear hb
      refine hK.out _ _ (HSp.out _ bX) (fun _ => ?_)
      clear hK Kn
    all_goals
      refine wpAnyH_done (by kernel_rfl) ?_ _
      go_wp2_with fail
      go_meet
      exact ⟨_, _, rfl, rfl, bn10, bn11, le10, le11, HW.out⟩
  case rest =>
    obtain ⟨g1, g2, rfl, rfl, b1, b2, hg1, hg2, hB⟩ := hcut
    replace bX := bX.on hB
    replace bR := bR.on hB
    replace HB := Lib.hid (bel_end HB.out hB)
    clear hB hg1 hg2
    have c1 := b1.cell 0 rfl
    have c2 := b1.cell 1 rfl
    have c3 := b2.cell 0 rfl
    have c4 := b2.cell 1 rfl
    go_wp2_with fail
    generalize hW : World.alloc _ _ = W2
    have hb : Below wc.heap.size wc W2 := by rw [← hW]; exact (Below.refl _ _).alloc (Nat.le_refl _) _
    obtain ⟨gS, hgS⟩ : ∃ g, g = wc.heap.size := ⟨_, rfl⟩
    have bS : Bk W2 gS #[.int .i64 LL, .int .i64 HH] 34 := by rw [← hW]; exact Bk.new' hgS
    have hgl : w.heap.size + 1 < gS := by have := bR.lt; omega
    try rw [← hgS]
    replace bX := bX.on hb
    replace bR := bR.on hb
    replace HB := Lib.hid (bel_end HB.out hb)
    clear hgS hW hb c1 c2 c3 c4 b1 b2
    go_cut [6] (fun s6 wx => s6 = .int .i64 S ∧ Below W2.heap.size W2 wx)
    case first =>
      have HW : Hid (Below W2.heap.size W2 W2) := Lib.hid (Below.refl _ _)
      clear bR bS
      obtain ⟨S, hSd⟩ : ∃ S : World → Prop, ∀ w', S w' ↔ (w'.cell? ⟨w.heap.size, 0, none⟩ = some (.slice a zs.length ca) ∧ w'.cell? ⟨w.heap.size, 1, none⟩ = some (.slice b ys.length cb) ∧ w'.cell? ⟨w.heap.size, 2, none⟩ = some (.int .i64 (i : Int)) ∧ w'.cell? ⟨w.heap.size, 3, none⟩ = some (.int .i64 c) ∧ w'.cell? ⟨w.heap.size, 4, none⟩ = some (.int .i64 s) ∧ w'.cell? ⟨w.heap.size, 5, none⟩ = some (.int .i64 h) ∧ w'.cell? ⟨w.heap.size, 6, none⟩ = some (.int .i64 (n : Int)) ∧ w'.cell? ⟨w.heap.size, 7, none⟩ = some (.int .i64 (f : Int))) := ⟨_, fun _ => Iff.rfl⟩
      have HSp : Hid (∀ w' : World, Bk w' (w.heap.size) #[.slice a zs.length ca, .slice b ys.length cb, .int .i64 (i : Int), .int .i64 c, .int .i64 s, .int .i64 h, .int .i64 (n : Int), .int .i64 (f : Int)] 115 → S w') := Lib.hid (fun w' bX => (hSd w').2 ⟨bX.cell 0 rfl, bX.cell 1 rfl, bX.cell 2 rfl, bX.cell 3 rfl, bX.cell 4 rfl, bX.cell 5 rfl, bX.cell 6 rfl, bX.cell 7 rfl⟩)
      have HSd := Lib.hid hSd
      clear hSd
      refine wp_region_held_drew (S := S) (by kernel_rfl) ?_ (fun hH => ?_)
      · exact (HSp.out _ bX : S (World.drew W2))
      clear hH
      generalize hX : World.drew W2 = V0
      replace bX : Bk V0 (w.heap.size) #[.slice a zs.length ca, .slice b ys.length cb, .int .i64 (i : Int), .int .i64 c, .int .i64 s, .int .i64 h, .int .i64 (n : Int), .int .i64 (f : Int)] 115 := by rw [← hX]; exact bX
      have hb : Below W2.heap.size W2 V0 := by rw [← hX]; exact (Below.refl _ _).drew
      clear hX
      replace HW := Lib.hid (bel_end HW.out hb)
      clear hb
      have hS := HSp.out _ bX
      refine wpAnyH_take (i := 0) (oi := { dst := some 28, op := Go.Op.fieldAddr 115 (Go.Operand.tmp 1) 0, type := 0, pos := "l06_arcs.go:145", after := #[], guard := none }) (v := ?_) rfl (by kernel_rfl) (by kernel_rfl) (by kernel_rfl) (fun _ _ _ h => h) (Or.inl ⟨by rfl, ?_⟩) hS ?_
      rotate_left
      · (intro w hSw; have hSw := (HSd.out w).1 hSw; go_split_ands; go_simp) <;> with_reducible rfl
      clear hS
      try simp only [Act.put, List.setIfInBounds_toArray, List.set_cons_zero, List.set_cons_succ]
      have hS := HSp.out _ bX
      refine wpAnyH_take (i := 1) (oi := { dst := some 29, op := Go.Op.load 74 (Go.Operand.tmp 28), type := 74, pos := "l06_arcs.go:145", after := #[{ on := 0, ground := Go.Ground.data }], guard := none }) (v := ?_) rfl (by kernel_rfl) (by kernel_rfl) (by kernel_rfl) (fun _ _ _ h => h) (Or.inl ⟨by rfl, ?_⟩) hS ?_
      rotate_left
      · (intro w hSw; have hSw := (HSd.out w).1 hSw; go_split_ands; go_simp) <;> with_reducible rfl
      clear hS
      try simp only [Act.put, List.setIfInBounds_toArray, List.set_cons_zero, List.set_cons_succ]
      have hS := HSp.out _ bX
      refine wpAnyH_take (i := 2) (oi := { dst := some 30, op := Go.Op.fieldAddr 115 (Go.Operand.tmp 1) 1, type := 0, pos := "l06_arcs.go:145", after := #[], guard := none }) (v := ?_) rfl (by kernel_rfl) (by kernel_rfl) (by kernel_rfl) (fun _ _ _ h => h) (Or.inl ⟨by rfl, ?_⟩) hS ?_
      rotate_left
      · (intro w hSw; have hSw := (HSd.out w).1 hSw; go_split_ands; go_simp) <;> with_reducible rfl
      clear hS
      try simp only [Act.put, List.setIfInBounds_toArray, List.set_cons_zero, List.set_cons_succ]
      have hS := HSp.out _ bX
      refine wpAnyH_take (i := 3) (oi := { dst := some 31, op := Go.Op.load 2 (Go.Operand.tmp 30), type := 2, pos := "l06_arcs.go:145", after := #[{ on := 2, ground := Go.Ground.data }], guard := none }) (v := ?_) rfl (by kernel_rfl) (by kernel_rfl) (by kernel_rfl) (fun _ _ _ h => h) (Or.inl ⟨by rfl, ?_⟩) hS ?_
      rotate_left
      · (intro w hSw; have hSw := (HSd.out w).1 hSw; go_split_ands; go_simp) <;> with_reducible rfl
      clear hS
      try simp only [Act.put, List.setIfInBounds_toArray, List.set_cons_zero, List.set_cons_succ]
      have hS := HSp.out _ bX
      refine wpAnyH_take (i := 5) (oi := { dst := some 33, op := Go.Op.fieldAddr 115 (Go.Operand.tmp 1) 0, type := 0, pos := "l06_arcs.go:145", after := #[], guard := none }) (v := ?_) rfl (by kernel_rfl) (by kernel_rfl) (by kernel_rfl) (fun _ _ _ h => h) (Or.inl ⟨by rfl, ?_⟩) hS ?_
      rotate_left
      · (intro w hSw; have hSw := (HSd.out w).1 hSw; go_split_ands; go_simp) <;> with_reducible rfl
      clear hS
      try simp only [Act.put, List.setIfInBounds_toArray, List.set_cons_zero, List.set_cons_succ]
      have hS := HSp.out _ bX
      refine wpAnyH_take (i := 6) (oi := { dst := some 34, op := Go.Op.load 74 (Go.Operand.tmp 33), type := 74, pos := "l06_arcs.go:145", after := #[{ on := 5, ground := Go.Ground.data }], guard := none }) (v := ?_) rfl (by kernel_rfl) (by kernel_rfl) (by kernel_rfl) (fun _ _ _ h => h) (Or.inl ⟨by rfl, ?_⟩) hS ?_
      rotate_left
      · (intro w hSw; have hSw := (HSd.out w).1 hSw; go_split_ands; go_simp) <;> with_reducible rfl
      clear hS
      try simp only [Act.put, List.setIfInBounds_toArray, List.set_cons_zero, List.set_cons_succ]
      have hS := HSp.out _ bX
      refine wpAnyH_take (i := 7) (oi := { dst := some 35, op := Go.Op.fieldAddr 115 (Go.Operand.tmp 1) 2, type := 0, pos := "l06_arcs.go:145", after := #[], guard := none }) (v := ?_) rfl (by kernel_rfl) (by kernel_rfl) (by kernel_rfl) (fun _ _ _ h => h) (Or.inl ⟨by rfl, ?_⟩) hS ?_
      rotate_left
      · (intro w hSw; have hSw := (HSd.out w).1 hSw; go_split_ands; go_simp) <;> with_reducible rfl
      clear hS
      try simp only [Act.put, List.setIfInBounds_toArray, List.set_cons_zero, List.set_cons_succ]
      have hS := HSp.out _ bX
      refine wpAnyH_take (i := 8) (oi := { dst := some 36, op := Go.Op.load 2 (Go.Operand.tmp 35), type := 2, pos := "l06_arcs.go:145", after := #[{ on := 7, ground := Go.Ground.data }], guard := none }) (v := ?_) rfl (by kernel_rfl) (by kernel_rfl) (by kernel_rfl) (fun _ _ _ h => h) (Or.inl ⟨by rfl, ?_⟩) hS ?_
      rotate_left
      · (intro w hSw; have hSw := (HSd.out w).1 hSw; go_split_ands; go_simp) <;> with_reducible rfl
      clear hS
      try simp only [Act.put, List.setIfInBounds_toArray, List.set_cons_zero, List.set_cons_succ]
      refine wpAnyH_ready (rs := [4]) (by decide +kernel) (by simp) ?_
      refine AllReadyH.cons (o := { dst := some 32, op := Go.Op.call { callee := Go.Callee.value (Go.Operand.func 90), args := #[Go.Operand.tmp 29, Go.Operand.tmp 31], argTypes := #[74, 2] }, type := 2, pos := "l06_arcs.go:145", after := #[{ on := 1, ground := Go.Ground.data }, { on := 3, ground := Go.Ground.data }], guard := none }) rfl (fun Kn hK => ?_) AllReadyH.nil
      first | go_at_call 90 | (go_simp; go_at_call 90)
      (with_reducible refine Calls.mono (KC1.out _ (bel_end HB.out HW.out)) ?_)
      rintro e V1 ⟨rfl, hb⟩
      try dsimp only
      try simp only [Act.put, List.setIfInBounds_toArray, List.set_cons_zero, List.set_cons_succ]
      replace bX := bX.on hb
      replace HW := Lib.hid (bel_end HW.out hb)
      clear hb
      refine hK.out _ _ (HSp.out _ bX) (fun _ => ?_)
      clear hK Kn
      refine wpAnyH_ready (rs := [9]) (by decide +kernel) (by simp) ?_
      refine AllReadyH.cons (o := { dst := some 37, op := Go.Op.call { callee := Go.Callee.value (Go.Operand.func 90), args := #[Go.Operand.tmp 34, Go.Operand.tmp 36], argTypes := #[74, 2] }, type := 2, pos := "l06_arcs.go:145", after := #[{ on := 6, ground := Go.Ground.data }, { on := 8, ground := Go.Ground.data }, { on := 4, ground := Go.Ground.chain }], guard := none }) rfl (fun Kn hK => ?_) AllReadyH.nil
      first | go_at_call 90 | (go_simp; go_at_call 90)
      (with_reducible refine Calls.mono (KC2.out _ (bel_end HB.out HW.out)) ?_)
      rintro e V2 ⟨rfl, hb⟩
      try dsimp only
      try simp only [Act.put, List.setIfInBounds_toArray, List.set_cons_zero, List.set_cons_succ]
      replace bX := bX.on hb
      replace HW := Lib.hid (bel_end HW.out hb)
      clear hb
      refine hK.out _ _ (HSp.out _ bX) (fun _ => ?_)
      clear hK Kn
      have hS := HSp.out _ bX
      refine wpAnyH_take (i := 10) (oi := { dst := some 38, op := Go.Op.binOp Go.BinOp.add 2 (Go.Operand.tmp 32) (Go.Operand.tmp 37) 2, type := 2, pos := "l06_arcs.go:145", after := #[{ on := 4, ground := Go.Ground.data }, { on := 9, ground := Go.Ground.data }], guard := none }) (v := ?_) rfl (by kernel_rfl) (by kernel_rfl) (by kernel_rfl) (fun _ _ _ h => h) (Or.inl ⟨by rfl, ?_⟩) hS ?_
      rotate_left
      · (intro w hSw; have hSw := (HSd.out w).1 hSw; go_split_ands; go_simp) <;> with_reducible rfl
      clear hS
      try simp only [Act.put, List.setIfInBounds_toArray, List.set_cons_zero, List.set_cons_succ]
      have hS := HSp.out _ bX
      refine wpAnyH_take (i := 11) (oi := { dst := some 6, op := Go.Op.assign (Go.Operand.tmp 38), type := 2, pos := "l06_arcs.go:145", after := #[{ on := 10, ground := Go.Ground.data }, { on := 9, ground := Go.Ground.chain }, { on := 0, ground := Go.Ground.phase }, { on := 1, ground := Go.Ground.phase }, { on := 2, ground := Go.Ground.phase }, { on := 3, ground := Go.Ground.phase }, { on := 4, ground := Go.Ground.phase }, { on := 5, ground := Go.Ground.phase }, { on := 6, ground := Go.Ground.phase }, { on := 7, ground := Go.Ground.phase }, { on := 8, ground := Go.Ground.phase }, { on := 9, ground := Go.Ground.phase }, { on := 10, ground := Go.Ground.phase }], guard := none }) (v := ?_) rfl (by kernel_rfl) (by kernel_rfl) (by kernel_rfl) (fun _ _ _ h => h) (Or.inl ⟨by rfl, ?_⟩) hS ?_
      rotate_left
      · (intro w hSw; have hSw := (HSd.out w).1 hSw; go_split_ands; go_simp) <;> with_reducible rfl
      clear hS
      try simp only [Act.put, List.setIfInBounds_toArray, List.set_cons_zero, List.set_cons_succ]
      refine wpAnyH_done (by kernel_rfl) ?_ _
      go_wp2_with fail
      go_meet
      exact ⟨rfl, HW.out⟩
    case rest =>
      obtain ⟨rfl, hB⟩ := hcut
      replace bX := bX.on hB
      replace bR := bR.on hB
      replace bS := bS.on hB
      replace HB := Lib.hid (bel_end HB.out hB)
      clear hB
      go_wp2_with fail
      obtain ⟨S, hSd⟩ : ∃ S : World → Prop, ∀ w', S w' ↔ (w'.cell? ⟨w.heap.size, 0, none⟩ = some (.slice a zs.length ca) ∧ w'.cell? ⟨w.heap.size, 1, none⟩ = some (.slice b ys.length cb) ∧ w'.cell? ⟨w.heap.size, 2, none⟩ = some (.int .i64 (i : Int)) ∧ w'.cell? ⟨w.heap.size, 3, none⟩ = some (.int .i64 c) ∧ w'.cell? ⟨w.heap.size, 4, none⟩ = some (.int .i64 s) ∧ w'.cell? ⟨w.heap.size, 5, none⟩ = some (.int .i64 h) ∧ w'.cell? ⟨w.heap.size, 6, none⟩ = some (.int .i64 (n : Int)) ∧ w'.cell? ⟨w.heap.size, 7, none⟩ = some (.int .i64 (f : Int)) ∧ w'.cell? ⟨gS, 0, none⟩ = some (.int .i64 LL) ∧ w'.cell? ⟨gS, 1, none⟩ = some (.int .i64 HH)) := ⟨_, fun _ => Iff.rfl⟩
      have HSp : Hid (∀ w' : World, Bk w' (w.heap.size) #[.slice a zs.length ca, .slice b ys.length cb, .int .i64 (i : Int), .int .i64 c, .int .i64 s, .int .i64 h, .int .i64 (n : Int), .int .i64 (f : Int)] 115 → Bk w' (gS) #[.int .i64 LL, .int .i64 HH] 34 → S w') := Lib.hid (fun w' bX bS => (hSd w').2 ⟨bX.cell 0 rfl, bX.cell 1 rfl, bX.cell 2 rfl, bX.cell 3 rfl, bX.cell 4 rfl, bX.cell 5 rfl, bX.cell 6 rfl, bX.cell 7 rfl, bS.cell 0 rfl, bS.cell 1 rfl⟩)
      have HSd := Lib.hid hSd
      clear hSd
      refine wp_region_held_drew (S := S) (by kernel_rfl) ?_ (fun hH => ?_)
      · exact (HSp.out _ bX bS : S (World.drew wc))
      clear hH
      generalize hX : World.drew wc = V0
      replace bX : Bk V0 (w.heap.size) #[.slice a zs.length ca, .slice b ys.length cb, .int .i64 (i : Int), .int .i64 c, .int .i64 s, .int .i64 h, .int .i64 (n : Int), .int .i64 (f : Int)] 115 := by rw [← hX]; exact bX
      replace bR : Bk V0 (w.heap.size + 1) #[.int .i64 0, .int .i64 0] 34 := by rw [← hX]; exact bR
      replace bS : Bk V0 (gS) #[.int .i64 LL, .int .i64 HH] 34 := by rw [← hX]; exact bS
      have hb : Below wc.heap.size wc V0 := by rw [← hX]; exact (Below.refl _ _).drew
      clear hX
      replace HB := Lib.hid (bel_end HB.out hb)
      clear hb
      have hS := HSp.out _ bX bS
      refine wpAnyH_take (i := 0) (oi := { dst := some 39, op := Go.Op.load 115 (Go.Operand.tmp 1), type := 115, pos := "l06_arcs.go:146", after := #[], guard := none }) (v := ?_) rfl (by kernel_rfl) (by kernel_rfl) (by kernel_rfl) (fun _ _ _ h => h) (Or.inl ⟨by rfl, ?_⟩) hS ?_
      rotate_left
      · (intro w hSw; have hSw := (HSd.out w).1 hSw; go_split_ands; go_simp) <;> with_reducible rfl
      clear hS
      try simp only [Act.put, List.setIfInBounds_toArray, List.set_cons_zero, List.set_cons_succ]
      have hS := HSp.out _ bX bS
      refine wpAnyH_take (i := 3) (oi := { dst := some 42, op := Go.Op.move (Go.Operand.tmp 6), type := 2, pos := "l06_arcs.go:146", after := #[], guard := none }) (v := ?_) rfl (by kernel_rfl) (by kernel_rfl) (by kernel_rfl) (fun _ _ _ h => h) (Or.inl ⟨by rfl, ?_⟩) hS ?_
      rotate_left
      · (intro w hSw; have hSw := (HSd.out w).1 hSw; go_split_ands; go_simp) <;> with_reducible rfl
      clear hS
      try simp only [Act.put, List.setIfInBounds_toArray, List.set_cons_zero, List.set_cons_succ]
      have hS := HSp.out _ bX bS
      refine wpAnyH_take (i := 6) (oi := { dst := some 45, op := Go.Op.load 34 (Go.Operand.tmp 5), type := 34, pos := "l06_arcs.go:146", after := #[], guard := none }) (v := ?_) rfl (by kernel_rfl) (by kernel_rfl) (by kernel_rfl) (fun _ _ _ h => h) (Or.inl ⟨by rfl, ?_⟩) hS ?_
      rotate_left
      · (intro w hSw; have hSw := (HSd.out w).1 hSw; go_split_ands; go_simp) <;> with_reducible rfl
      clear hS
      try simp only [Act.put, List.setIfInBounds_toArray, List.set_cons_zero, List.set_cons_succ]
      refine wpAnyH_ready (rs := [1]) (by decide +kernel) (by simp) ?_
      refine AllReadyH.cons (o := { dst := some 40, op := Go.Op.call { callee := Go.Callee.value (Go.Operand.func 114), args := #[Go.Operand.tmp 39], argTypes := #[115] }, type := 2, pos := "l06_arcs.go:146", after := #[{ on := 0, ground := Go.Ground.data }], guard := none }) rfl (fun Kn hK => ?_) AllReadyH.nil
      first | go_at_call 114 | (go_simp; go_at_call 114)
      (with_reducible refine Calls.mono (KW.out _ HB.out) ?_)
      rintro e V1 ⟨rfl, hb⟩
      try dsimp only
      try simp only [Act.put, List.setIfInBounds_toArray, List.set_cons_zero, List.set_cons_succ]
      replace bX := bX.on hb
      replace bR := bR.on hb
      replace bS := bS.on hb
      replace HB := Lib.hid (bel_end HB.out hb)
      clear hb
      refine hK.out _ _ (HSp.out _ bX bS) (fun _ => ?_)
      clear hK Kn
      refine wpAnyH_ready (rs := [2]) (by decide +kernel) (by simp) ?_
      refine AllReadyH.cons (o := { dst := some 41, op := Go.Op.call { callee := Go.Callee.value (Go.Operand.func 113), args := #[Go.Operand.tmp 40], argTypes := #[2] }, type := 2, pos := "l06_arcs.go:146", after := #[{ on := 1, ground := Go.Ground.data }, { on := 1, ground := Go.Ground.chain }], guard := none }) rfl (fun Kn hK => ?_) AllReadyH.nil
      first | go_at_call 113 | (go_simp; go_at_call 113)
      (with_reducible refine Calls.mono (KZ.out _) ?_)
      rintro e V2 ⟨rfl, hw⟩
      have hb : Below V1.heap.size V1 V2 := hw ▸ Below.refl _ _
      clear hw
      try dsimp only
      try simp only [Act.put, List.setIfInBounds_toArray, List.set_cons_zero, List.set_cons_succ]
      replace bX := bX.on hb
      replace bR := bR.on hb
      replace bS := bS.on hb
      replace HB := Lib.hid (bel_end HB.out hb)
      clear hb
      refine hK.out _ _ (HSp.out _ bX bS) (fun _ => ?_)
      clear hK Kn
      have hS := HSp.out _ bX bS
      refine wpAnyH_take (i := 4) (oi := { dst := some 43, op := Go.Op.binOp Go.BinOp.mul 2 (Go.Operand.tmp 41) (Go.Operand.tmp 42) 2, type := 2, pos := "l06_arcs.go:146", after := #[{ on := 2, ground := Go.Ground.data }, { on := 3, ground := Go.Ground.data }], guard := none }) (v := ?_) rfl (by kernel_rfl) (by kernel_rfl) (by kernel_rfl) (fun _ _ _ h => h) (Or.inl ⟨by rfl, ?_⟩) hS ?_
      rotate_left
      · (intro w hSw; have hSw := (HSd.out w).1 hSw; go_split_ands; go_simp) <;> with_reducible rfl
      clear hS
      try simp only [Act.put, List.setIfInBounds_toArray, List.set_cons_zero, List.set_cons_succ]
      refine wpAnyH_ready (rs := [5]) (by decide +kernel) (by simp) ?_
      refine AllReadyH.cons (o := { dst := some 44, op := Go.Op.call { callee := Go.Callee.value (Go.Operand.func 40), args := #[Go.Operand.tmp 43], argTypes := #[2] }, type := 34, pos := "l06_arcs.go:146", after := #[{ on := 4, ground := Go.Ground.data }, { on := 2, ground := Go.Ground.chain }], guard := none }) rfl (fun Kn hK => ?_) AllReadyH.nil
      first | go_at_call 40 | (go_simp; go_at_call 40)
      (with_reducible refine Calls.mono (KE.out _) ?_)
      rintro e V3 ⟨rfl, hb⟩
      try dsimp only
      try simp only [Act.put, List.setIfInBounds_toArray, List.set_cons_zero, List.set_cons_succ]
      replace bX := bX.on hb
      replace bR := bR.on hb
      replace bS := bS.on hb
      replace HB := Lib.hid (bel_end HB.out hb)
      clear hb
      refine hK.out _ _ (HSp.out _ bX bS) (fun _ => ?_)
      clear hK Kn
      refine wpAnyH_ready (rs := [7]) (by decide +kernel) (by simp) ?_
      refine AllReadyH.cons (o := { dst := some 46, op := Go.Op.call { callee := Go.Callee.value (Go.Operand.func 115), args := #[Go.Operand.tmp 44, Go.Operand.tmp 45], argTypes := #[34, 34] }, type := 34, pos := "l06_arcs.go:146", after := #[{ on := 5, ground := Go.Ground.data }, { on := 6, ground := Go.Ground.data }, { on := 5, ground := Go.Ground.chain }], guard := none }) rfl (fun Kn hK => ?_) AllReadyH.nil
      first | go_at_call 115 | (go_simp; go_at_call 115)
      (with_reducible refine Calls.mono (KD.out _) ?_)
      rintro e V4 ⟨rfl, hb⟩
      try dsimp only
      try simp only [Act.put, List.setIfInBounds_toArray, List.set_cons_zero, List.set_cons_succ]
      replace bX := bX.on hb
      replace bR := bR.on hb
      replace bS := bS.on hb
      replace HB := Lib.hid (bel_end HB.out hb)
      clear hb
      refine hK.out _ _ (HSp.out _ bX bS) (fun _ => ?_)
      clear hK Kn
      refine wpAnyH_ready (rs := [8]) (by decide +kernel) (by simp) ?_
      refine AllReadyH.cons (o := { dst := none, op := Go.Op.store 34 (Go.Operand.tmp 2) (Go.Operand.tmp 46), type := 0, pos := "l06_arcs.go:146", after := #[{ on := 7, ground := Go.Ground.data }, { on := 7, ground := Go.Ground.chain }, { on := 0, ground := Go.Ground.phase }, { on := 1, ground := Go.Ground.phase }, { on := 2, ground := Go.Ground.phase }, { on := 3, ground := Go.Ground.phase }, { on := 4, ground := Go.Ground.phase }, { on := 5, ground := Go.Ground.phase }, { on := 6, ground := Go.Ground.phase }, { on := 7, ground := Go.Ground.phase }], guard := none }) rfl (fun Kn hK => ?_) AllReadyH.nil
      have bR_0 := bR.cell 0 rfl
      have bR_1 := bR.cell 1 rfl
      have bR_f0 := bR.frozen 0
      have bR_f1 := bR.frozen 1
      have bR_l := bR.lt
      go_simp
      clear bR_0 bR_f0 bR_1 bR_f1 bR_l
      generalize hX : World.setCell _ _ _ = V5
      have hb : Below w.heap.size w V5 := by rw [← hX]; exact ((HB.out.setCell (p := ⟨w.heap.size + 1, 0, none⟩) (by first | omega | (dsimp only; omega)) _).setCell (p := ⟨w.heap.size + 1, 1, none⟩) (by first | omega | (dsimp only; omega)) _)
      replace bX : Bk V5 (w.heap.size) #[.slice a zs.length ca, .slice b ys.length cb, .int .i64 (i : Int), .int .i64 c, .int .i64 s, .int .i64 h, .int .i64 (n : Int), .int .i64 (f : Int)] 115 := by rw [← hX]; exact (Bk.other (Bk.other bX (by omega) 0 _) (by omega) 1 _)
      replace bS : Bk V5 (gS) #[.int .i64 LL, .int .i64 HH] 34 := by rw [← hX]; exact (Bk.other (Bk.other bS (by omega) 0 _) (by omega) 1 _)
      replace bR : Bk V5 (w.heap.size + 1) #[.int .i64 x, .int .i64 y] 34 := by rw [← hX]; exact (Bk.set (Bk.set bR 0 _ rfl) 1 _ rfl)
      clear hX
      replace HB := Lib.hid hb
      clear hb
      refine hK.out _ _ (HSp.out _ bX bS) (fun _ => ?_)
      clear hK Kn
      refine wpAnyH_done (by kernel_rfl) ?_ _
      have c2 := bR.cell 0 rfl
      have c3 := bR.cell 1 rfl
      go_wp2
      exact bodyPost_ret (v := .agg #[.int .i64 x, .int .i64 y]) (by simp [results, Tryz.results111, go_sem, c2, c3]) rfl ⟨rfl, HB.out⟩

set_option maxRecDepth 100000 in
set_option maxHeartbeats 8000000 in
theorem atr_any (w : World) (a b : Option Addr) (ca cb : Nat) (zs ys : List Int) (i n f : Nat) (c s h : Int) (hp : Prof w w.heap.size a b zs ys) (r : RyOk zs ys i c s h) (hn : n < zs.length) (hf : f < zs.length) (e1 : crB ys (i : Int) c h (n : Int) = true) (hpos : 0 < riS ys c n f) :
    Calls Tryz.prog 124 #[.agg #[.slice a zs.length ca, .slice b ys.length cb, .int .i64 (i : Int), .int .i64 c, .int .i64 s, .int .i64 h, .int .i64 (n : Int), .int .i64 (f : Int)]] w fun e w' => e = .returned (.agg #[.int .i64 (((2 * ((zs.getD f 0 - zs.getD n 0).natAbs : Int)) * sLo ys i c h n).fdiv (riS ys c n f)), .int .i64 (cdiv ((2 * ((zs.getD f 0 - zs.getD n 0).natAbs : Int)) * sHi ys i c h n) (riS ys c n f))]) ∧ Below w.heap.size w w' := by
  have HP := Lib.hid hp
  have KN1 : Hid (∀ W : World, Below w.heap.size w W → Calls Tryz.prog 112 #[.agg #[.slice a zs.length ca, .slice b ys.length cb, .int .i64 (i : Int), .int .i64 c, .int .i64 s, .int .i64 h], .int .i64 (n : Int)] W fun e w' => e = .returned (.agg #[.int .i64 (sLo ys i c h n), .int .i64 (sHi ys i c h n)]) ∧ Below W.heap.size W w') := Lib.hid (fun W hb => rsn_any W a b ca cb zs ys i n c s h (HP.out.on hb) r.ok r.hi hn r.od (crB_lt e1))
  have KW : Hid (∀ W : World, Below w.heap.size w W → Calls Tryz.prog 114 #[.agg #[.slice a zs.length ca, .slice b ys.length cb, .int .i64 (i : Int), .int .i64 c, .int .i64 s, .int .i64 h, .int .i64 (n : Int), .int .i64 (f : Int)]] W fun e w' => e = .returned (.int .i64 (zs.getD f 0 - zs.getD n 0)) ∧ Below W.heap.size W w') := Lib.hid (fun W hb => awy_any W a b ca cb zs ys i n f c s h (HP.out.on hb) r hn hf)
  have KR : Hid (∀ W : World, Below w.heap.size w W → Calls Tryz.prog 109 #[.agg #[.slice a zs.length ca, .slice b ys.length cb, .int .i64 (i : Int), .int .i64 c, .int .i64 s, .int .i64 h, .int .i64 (n : Int), .int .i64 (f : Int)]] W fun e w' => e = .returned (.int .i64 (riS ys c n f)) ∧ Below W.heap.size W w') := Lib.hid (fun W hb => ari_any W a b ca cb zs ys i n f c s h (HP.out.on hb) r hn hf)
  have g1 := r.sn e1
  have qn := r.B n
  have qf := r.B f
  have q1 := r.ok.lo n
  have q2 := r.ok.hi n
  have q3 := r.ok.lo f
  have q4 := r.ok.hi f
  have er : riS ys c n f = c * ys.getD f 0 - c * ys.getD n 0 := by unfold riS; rw [Int.mul_sub]
  obtain ⟨L1, hL1⟩ : ∃ u, sLo ys i c h n = u := ⟨_, rfl⟩
  obtain ⟨H1, hH1⟩ : ∃ u, sHi ys i c h n = u := ⟨_, rfl⟩
  rw [hL1, hH1] at KN1 g1
  rw [hL1, hH1]
  obtain ⟨R, hR⟩ : ∃ u, riS ys c n f = u := ⟨_, rfl⟩
  rw [hR] at er KR hpos ⊢
  obtain ⟨Y, hY⟩ : ∃ u, zs.getD f 0 - zs.getD n 0 = u := ⟨_, rfl⟩
  rw [hY] at KW ⊢
  have y1 : Y.natAbs ≤ 1000000 := by omega
  obtain ⟨Z, hZ⟩ : ∃ u, (Y.natAbs : Int) = u := ⟨_, rfl⟩
  have KZ : Hid (∀ W : World, Calls Tryz.prog 113 #[.int .i64 Y] W fun e w' => e = .returned (.int .i64 Z) ∧ W = w') := Lib.hid (fun W => by have := abs_any Y (by omega) (by omega) W; rwa [hZ] at this)
  rw [hZ]
  have a1 := g1.l1
  have a2 := g1.l2
  have a3 := g1.lh
  have a4 := g1.h2
  obtain ⟨T, hT⟩ : ∃ u, 2 * Z = u := ⟨_, rfl⟩
  have w1_ : IntKind.wrap .i64 (2 * Z) = T := by rw [hT]; exact IntWalk.i64_in _ (by omega)
  have t0 : 0 ≤ T ∧ T ≤ 2000000 := by omega
  rw [hT]
  have m1 := mul_in (a := T) (b := L1) (A := 2000000) (B := 2000000001) (by omega) (by omega) (by omega) (by omega)
  have m2 := mul_in (a := T) (b := H1) (A := 2000000) (B := 2000000001) (by omega) (by omega) (by omega) (by omega)
  have m3 := Int.mul_le_mul_of_nonneg_left a3 (show 0 ≤ T by omega)
  obtain ⟨P1, hP1⟩ : ∃ u, T * L1 = u := ⟨_, rfl⟩
  obtain ⟨P2, hP2⟩ : ∃ u, T * H1 = u := ⟨_, rfl⟩
  have w2_ : IntKind.wrap .i64 (T * L1) = P1 := by rw [hP1]; exact IntWalk.i64_in _ (by omega)
  have w3_ : IntKind.wrap .i64 (T * H1) = P2 := by rw [hP2]; exact IntWalk.i64_in _ (by omega)
  rw [hP1] at m1 m3
  rw [hP2] at m2 m3
  rw [hP1, hP2]
  obtain ⟨x, hx⟩ : ∃ u, P1.fdiv R = u := ⟨_, rfl⟩
  obtain ⟨y, hy⟩ : ∃ u, cdiv P2 R = u := ⟨_, rfl⟩
  rw [hx, hy]
  have KD : Hid (∀ W : World, Calls Tryz.prog 115 #[.agg #[.int .i64 P1, .int .i64 P2], .agg #[.int .i64 R, .int .i64 R]] W fun e w' => e = .returned (.agg #[.int .i64 x, .int .i64 y]) ∧ Below W.heap.size W w') := Lib.hid (fun W => by have := dvb_any P1 P2 R R (by omega) (by omega) (by omega) (by omega) (by omega) (by omega) (by omega) (by omega) (by omega) (by omega) W; have g := by_one (a := P1) (b := P2) (m := R) m3 (by omega); rwa [g.1, g.2, hx, hy] at this)
  have KE : Hid (∀ W : World, Calls Tryz.prog 40 #[.int .i64 R] W fun e w' => e = .returned (.agg #[.int .i64 R, .int .i64 R]) ∧ Below W.heap.size W w') := Lib.hid (fun W => exa_any R W)
  clear hL1 hH1 hR hY hZ hT hP1 hP2 hx hy er a1 a2 a3 a4 y1 t0 m1 m2 m3 q1 q2 q3 q4 qn qf g1 e1 hpos hp r hn hf
  go_enter Tryz.func124, Tryz.ntmps124
  go_wp2_with fail
  generalize hW : World.alloc _ _ = W
  have bX : Bk W (w.heap.size) #[.slice a zs.length ca, .slice b ys.length cb, .int .i64 (i : Int), .int .i64 c, .int .i64 s, .int .i64 h, .int .i64 (n : Int), .int .i64 (f : Int)] 115 := by rw [← hW]; repeat (first | exact Bk.new' (by simp) | refine Bk.alloc ?_ _)
  have bR : Bk W (w.heap.size + 1) #[.int .i64 0, .int .i64 0] 34 := by rw [← hW]; repeat (first | exact Bk.new' (by simp) | refine Bk.alloc ?_ _)
  have HB : Hid (Below w.heap.size w W) := Lib.hid (by rw [← hW]; exact (by repeat (first | exact Below.refl _ _ | (refine Below.alloc ?_ (by simp <;> omega) _) | (refine Below.setCell ?_ (by simp <;> omega) _) | (refine Below.drew ?_) | (refine bel_drewN ?_ _))))
  clear hW
  go_cut [3, 4] (fun s3 s4 wx => CrT W wx s3 s4 L1 H1 T)
  case first =>
    have HW : Hid (Below W.heap.size W W) := Lib.hid (Below.refl _ _)
    clear bR
    obtain ⟨S, hSd⟩ : ∃ S : World → Prop, ∀ w', S w' ↔ (w'.cell? ⟨w.heap.size, 0, none⟩ = some (.slice a zs.length ca) ∧ w'.cell? ⟨w.heap.size, 1, none⟩ = some (.slice b ys.length cb) ∧ w'.cell? ⟨w.heap.size, 2, none⟩ = some (.int .i64 (i : Int)) ∧ w'.cell? ⟨w.heap.size, 3, none⟩ = some (.int .i64 c) ∧ w'.cell? ⟨w.heap.size, 4, none⟩ = some (.int .i64 s) ∧ w'.cell? ⟨w.heap.size, 5, none⟩ = some (.int .i64 h) ∧ w'.cell? ⟨w.heap.size, 6, none⟩ = some (.int .i64 (n : Int)) ∧ w'.cell? ⟨w.heap.size, 7, none⟩ = some (.int .i64 (f : Int))) := ⟨_, fun _ => Iff.rfl⟩
    have HSp : Hid (∀ w' : World, Bk w' (w.heap.size) #[.slice a zs.length ca, .slice b ys.length cb, .int .i64 (i : Int), .int .i64 c, .int .i64 s, .int .i64 h, .int .i64 (n : Int), .int .i64 (f : Int)] 115 → S w') := Lib.hid (fun w' bX => (hSd w').2 ⟨bX.cell 0 rfl, bX.cell 1 rfl, bX.cell 2 rfl, bX.cell 3 rfl, bX.cell 4 rfl, bX.cell 5 rfl, bX.cell 6 rfl, bX.cell 7 rfl⟩)
    have HSd := Lib.hid hSd
    clear hSd
    refine wp_region_held_drew (S := S) (by kernel_rfl) ?_ (fun hH => ?_)
    · exact (HSp.out _ bX : S (World.drew W))
    clear hH
    generalize hX : World.drew W = V0
    replace bX : Bk V0 (w.heap.size) #[.slice a zs.length ca, .slice b ys.length cb, .int .i64 (i : Int), .int .i64 c, .int .i64 s, .int .i64 h, .int .i64 (n : Int), .int .i64 (f : Int)] 115 := by rw [← hX]; exact bX
    have hb : Below W.heap.size W V0 := by rw [← hX]; exact (Below.refl _ _).drew
    clear hX
    replace HW := Lib.hid (bel_end HW.out hb)
    clear hb
    have hS := HSp.out _ bX
    refine wpAnyH_take (i := 0) (oi := { dst := some 6, op := Go.Op.fieldAddr 115 (Go.Operand.tmp 1) 0, type := 0, pos := "l06_arcs.go:151", after := #[], guard := none }) (v := ?_) rfl (by kernel_rfl) (by kernel_rfl) (by kernel_rfl) (fun _ _ _ h => h) (Or.inl ⟨by rfl, ?_⟩) hS ?_
    rotate_left
    · (intro w hSw; have hSw := (HSd.out w).1 hSw; go_split_ands; go_simp) <;> with_reducible rfl
    clear hS
    try simp only [Act.put, List.setIfInBounds_toArray, List.set_cons_zero, List.set_cons_succ]
    have hS := HSp.out _ bX
    refine wpAnyH_take (i := 1) (oi := { dst := some 7, op := Go.Op.load 74 (Go.Operand.tmp 6), type := 74, pos := "l06_arcs.go:151", after := #[{ on := 0, ground := Go.Ground.data }], guard := none }) (v := ?_) rfl (by kernel_rfl) (by kernel_rfl) (by kernel_rfl) (fun _ _ _ h => h) (Or.inl ⟨by rfl, ?_⟩) hS ?_
    rotate_left
    · (intro w hSw; have hSw := (HSd.out w).1 hSw; go_split_ands; go_simp) <;> with_reducible rfl
    clear hS
    try simp only [Act.put, List.setIfInBounds_toArray, List.set_cons_zero, List.set_cons_succ]
    have hS := HSp.out _ bX
    refine wpAnyH_take (i := 2) (oi := { dst := some 8, op := Go.Op.fieldAddr 115 (Go.Operand.tmp 1) 1, type := 0, pos := "l06_arcs.go:151", after := #[], guard := none }) (v := ?_) rfl (by kernel_rfl) (by kernel_rfl) (by kernel_rfl) (fun _ _ _ h => h) (Or.inl ⟨by rfl, ?_⟩) hS ?_
    rotate_left
    · (intro w hSw; have hSw := (HSd.out w).1 hSw; go_split_ands; go_simp) <;> with_reducible rfl
    clear hS
    try simp only [Act.put, List.setIfInBounds_toArray, List.set_cons_zero, List.set_cons_succ]
    have hS := HSp.out _ bX
    refine wpAnyH_take (i := 3) (oi := { dst := some 9, op := Go.Op.load 2 (Go.Operand.tmp 8), type := 2, pos := "l06_arcs.go:151", after := #[{ on := 2, ground := Go.Ground.data }], guard := none }) (v := ?_) rfl (by kernel_rfl) (by kernel_rfl) (by kernel_rfl) (fun _ _ _ h => h) (Or.inl ⟨by rfl, ?_⟩) hS ?_
    rotate_left
    · (intro w hSw; have hSw := (HSd.out w).1 hSw; go_split_ands; go_simp) <;> with_reducible rfl
    clear hS
    try simp only [Act.put, List.setIfInBounds_toArray, List.set_cons_zero, List.set_cons_succ]
    have hS := HSp.out _ bX
    refine wpAnyH_take (i := 5) (oi := { dst := some 11, op := Go.Op.load 115 (Go.Operand.tmp 1), type := 115, pos := "l06_arcs.go:151", after := #[], guard := none }) (v := ?_) rfl (by kernel_rfl) (by kernel_rfl) (by kernel_rfl) (fun _ _ _ h => h) (Or.inl ⟨by rfl, ?_⟩) hS ?_
    rotate_left
    · (intro w hSw; have hSw := (HSd.out w).1 hSw; go_split_ands; go_simp) <;> with_reducible rfl
    clear hS
    try simp only [Act.put, List.setIfInBounds_toArray, List.set_cons_zero, List.set_cons_succ]
    refine wpAnyH_ready (rs := [4, 9]) (by decide +kernel) (by simp) ?_
    refine AllReadyH.cons (o := { dst := some 10, op := Go.Op.call { callee := Go.Callee.value (Go.Operand.func 112), args := #[Go.Operand.tmp 7, Go.Operand.tmp 9], argTypes := #[74, 2] }, type := 34, pos := "l06_arcs.go:151", after := #[{ on := 1, ground := Go.Ground.data }, { on := 3, ground := Go.Ground.data }], guard := none }) rfl (fun Kn hK => ?_) ?_
    first | go_at_call 112 | (go_simp; go_at_call 112)
    (with_reducible refine Calls.mono (KN1.out _ (bel_end HB.out HW.out)) ?_)
    rintro e V1 ⟨rfl, hb⟩
    try dsimp only
    try simp only [Act.put, List.setIfInBounds_toArray, List.set_cons_zero, List.set_cons_succ]
    replace bX := bX.on hb
    replace HW := Lib.hid (bel_end HW.out hb)
    clear hb
    refine hK.out _ _ (HSp.out _ bX) (fun _ => ?_)
    clear hK Kn
    rotate_left
    refine AllReadyH.cons (o := { dst := some 3, op := Go.Op.alloc 34, type := 0, pos := "l06_arcs.go:151", after := #[], guard := none }) rfl (fun Kn hK => ?_) AllReadyH.nil
    go_simp
    generalize hX : World.alloc V0 _ = V1
    obtain ⟨g9, hg⟩ : ∃ g, g = V0.heap.size := ⟨_, rfl⟩
    have bn9 : Bk V1 g9 #[.int .i64 0, .int .i64 0] 34 := by rw [← hX]; exact Bk.new' hg
    have le9 : W.heap.size ≤ g9 := by rw [hg]; exact HW.out.size
    have nebX_9 : w.heap.size ≠ g9 := by have := bX.lt; omega
    try rw [← hg]
    have hb : Below V0.heap.size V0 V1 := by rw [← hX]; exact (Below.refl _ _).alloc (Nat.le_refl _) _
    clear hX hg
    replace bX := bX.on hb
    replace HW := Lib.hid (bel_end HW.out hb)
    clear hb
    refine hK.out _ _ (HSp.out _ bX) (fun _ => ?_)
    clear hK Kn
    all_goals
      first
      | (refine wpAnyH_ready (rs := [6, 9]) (by decide +kernel) (by simp) ?_
         refine AllReadyH.cons (o := { dst := some 12, op := Go.Op.call { callee := Go.Callee.value (Go.Operand.func 114), args := #[Go.Operand.tmp 11], argTypes := #[115] }, type := 2, pos := "l06_arcs.go:151", after := #[{ on := 5, ground := Go.Ground.data }, { on := 4, ground := Go.Ground.chain }], guard := none }) rfl (fun Kn hK => ?_) ?_
         first | go_at_call 114 | (go_simp; go_at_call 114)
         (with_reducible refine Calls.mono (KW.out _ (bel_end HB.out HW.out)) ?_)
         rintro e V2 ⟨rfl, hb⟩
         try dsimp only
         try simp only [Act.put, List.setIfInBounds_toArray, List.set_cons_zero, List.set_cons_succ]
         replace bX := bX.on hb
         replace HW := Lib.hid (bel_end HW.out hb)
         clear hb
         refine hK.out _ _ (HSp.out _ bX) (fun _ => ?_)
         clear hK Kn
         rotate_left
         refine AllReadyH.cons (o := { dst := some 3, op := Go.Op.alloc 34, type := 0, pos := "l06_arcs.go:151", after := #[], guard := none }) rfl (fun Kn hK => ?_) AllReadyH.nil
         go_simp
         generalize hX : World.alloc V1 _ = V2
         obtain ⟨g9, hg⟩ : ∃ g, g = V1.heap.size := ⟨_, rfl⟩
         have bn9 : Bk V2 g9 #[.int .i64 0, .int .i64 0] 34 := by rw [← hX]; exact Bk.new' hg
         have le9 : W.heap.size ≤ g9 := by rw [hg]; exact HW.out.size
         have nebX_9 : w.heap.size ≠ g9 := by have := bX.lt; omega
         try rw [← hg]
         have hb : Below V1.heap.size V1 V2 := by rw [← hX]; exact (Below.refl _ _).alloc (Nat.le_refl _) _
         clear hX hg
         replace bX := bX.on hb
         replace HW := Lib.hid (bel_end HW.out hb)
         clear hb
         refine hK.out _ _ (HSp.out _ bX) (fun _ => ?_)
         clear hK Kn)
      | (refine wpAnyH_ready (rs := [4]) (by decide +kernel) (by simp) ?_
         refine AllReadyH.cons (o := { dst := some 10, op := Go.Op.call { callee := Go.Callee.value (Go.Operand.func 112), args := #[Go.Operand.tmp 7, Go.Operand.tmp 9], argTypes := #[74, 2] }, type := 34, pos := "l06_arcs.go:151", after := #[{ on := 1, ground := Go.Ground.data }, { on := 3, ground := Go.Ground.data }], guard := none }) rfl (fun Kn hK => ?_) AllReadyH.nil
         first | go_at_call 112 | (go_simp; go_at_call 112)
         (with_reducible refine Calls.mono (KN1.out _ (bel_end HB.out HW.out)) ?_)
         rintro e V2 ⟨rfl, hb⟩
         try dsimp only
         try simp only [Act.put, List.setIfInBounds_toArray, List.set_cons_zero, List.set_cons_succ]
         replace bX := bX.on hb
         replace bn9 := bn9.on hb
         replace HW := Lib.hid (bel_end HW.out hb)
         clear hb
         refine hK.out _ _ (HSp.out _ bX) (fun _ => ?_)
         clear hK Kn)
    all_goals
      first
      | (refine wpAnyH_ready (rs := [7, 9]) (by decide +kernel) (by simp) ?_
         refine AllReadyH.cons (o := { dst := some 13, op := Go.Op.call { callee := Go.Callee.value (Go.Operand.func 113), args := #[Go.Operand.tmp 12], argTypes := #[2] }, type := 2, pos := "l06_arcs.go:151", after := #[{ on := 6, ground := Go.Ground.data }, { on := 6, ground := Go.Ground.chain }], guard := none }) rfl (fun Kn hK => ?_) ?_
         first | go_at_call 113 | (go_simp; go_at_call 113)
         (with_reducible refine Calls.mono (KZ.out _) ?_)
         rintro e V3 ⟨rfl, hw⟩
         have hb : Below V2.heap.size V2 V3 := hw ▸ Below.refl _ _
         clear hw
         try dsimp only
         try simp only [Act.put, List.setIfInBounds_toArray, List.set_cons_zero, List.set_cons_succ]
         replace bX := bX.on hb
         replace HW := Lib.hid (bel_end HW.out hb)
         clear hb
         refine hK.out _ _ (HSp.out _ bX) (fun _ => ?_)
         clear hK Kn
         rotate_left
         refine AllReadyH.cons (o := { dst := some 3, op := Go.Op.alloc 34, type := 0, pos := "l06_arcs.go:151", after := #[], guard := none }) rfl (fun Kn hK => ?_) AllReadyH.nil
         go_simp
         generalize hX : World.alloc V2 _ = V3
         obtain ⟨g9, hg⟩ : ∃ g, g = V2.heap.size := ⟨_, rfl⟩
         have bn9 : Bk V3 g9 #[.int .i64 0, .int .i64 0] 34 := by rw [← hX]; exact Bk.new' hg
         have le9 : W.heap.size ≤ g9 := by rw [hg]; exact HW.out.size
         have nebX_9 : w.heap.size ≠ g9 := by have := bX.lt; omega
         try rw [← hg]
         have hb : Below V2.heap.size V2 V3 := by rw [← hX]; exact (Below.refl _ _).alloc (Nat.le_refl _) _
         clear hX hg
         replace bX := bX.on hb
         replace HW := Lib.hid (bel_end HW.out hb)
         clear hb
         refine hK.out _ _ (HSp.out _ bX) (fun _ => ?_)
         clear hK Kn)
      | (refine wpAnyH_ready (rs := [6]) (by decide +kernel) (by simp) ?_
         refine AllReadyH.cons (o := { dst := some 12, op := Go.Op.call { callee := Go.Callee.value (Go.Operand.func 114), args := #[Go.Operand.tmp 11], argTypes := #[115] }, type := 2, pos := "l06_arcs.go:151", after := #[{ on := 5, ground := Go.Ground.data }, { on := 4, ground := Go.Ground.chain }], guard := none }) rfl (fun Kn hK => ?_) AllReadyH.nil
         first | go_at_call 114 | (go_simp; go_at_call 114)
         (with_reducible refine Calls.mono (KW.out _ (bel_end HB.out HW.out)) ?_)
         rintro e V3 ⟨rfl, hb⟩
         try dsimp only
         try simp only [Act.put, List.setIfInBounds_toArray, List.set_cons_zero, List.set_cons_succ]
         replace bX := bX.on hb
         replace bn9 := bn9.on hb
         replace HW := Lib.hid (bel_end HW.out hb)
         clear hb
         refine hK.out _ _ (HSp.out _ bX) (fun _ => ?_)
         clear hK Kn)
    all_goals
      first
      | (have hS := HSp.out _ bX
         refine wpAnyH_take (i := 8) (oi := { dst := some 14, op := Go.Op.binOp Go.BinOp.mul 2 (Go.Operand.const (Go.Value.int Go.IntKind.i64 2)) (Go.Operand.tmp 13) 2, type := 2, pos := "l06_arcs.go:151", after := #[{ on := 7, ground := Go.Ground.data }, { on := 10, ground := Go.Ground.gcOnly Go.Departure.lateStores }], guard := none }) (v := ?_) rfl (by kernel_rfl) (by kernel_rfl) (by kernel_rfl) (fun _ _ _ h => h) (Or.inl ⟨by rfl, ?_⟩) hS ?_
         rotate_left
         · (intro w hSw; have hSw := (HSd.out w).1 hSw; go_split_ands; go_simp) <;> with_reducible rfl
         clear hS
         try simp only [Act.put, List.setIfInBounds_toArray, List.set_cons_zero, List.set_cons_succ]
         refine wpAnyH_ready (rs := [9]) (by decide +kernel) (by simp) ?_
         refine AllReadyH.cons (o := { dst := some 3, op := Go.Op.alloc 34, type := 0, pos := "l06_arcs.go:151", after := #[], guard := none }) rfl (fun Kn hK => ?_) AllReadyH.nil
         go_simp
         generalize hX : World.alloc V3 _ = V4
         obtain ⟨g9, hg⟩ : ∃ g, g = V3.heap.size := ⟨_, rfl⟩
         have bn9 : Bk V4 g9 #[.int .i64 0, .int .i64 0] 34 := by rw [← hX]; exact Bk.new' hg
         have le9 : W.heap.size ≤ g9 := by rw [hg]; exact HW.out.size
         have nebX_9 : w.heap.size ≠ g9 := by have := bX.lt; omega
         try rw [← hg]
         have hb : Below V3.heap.size V3 V4 := by rw [← hX]; exact (Below.refl _ _).alloc (Nat.le_refl _) _
         clear hX hg
         replace bX := bX.on hb
         replace HW := Lib.hid (bel_end HW.out hb)
         clear hb
         refine hK.out _ _ (HSp.out _ bX) (fun _ => ?_)
         clear hK Kn)
      | (refine wpAnyH_ready (rs := [7]) (by decide +kernel) (by simp) ?_
         refine AllReadyH.cons (o := { dst := some 13, op := Go.Op.call { callee := Go.Callee.value (Go.Operand.func 113), args := #[Go.Operand.tmp 12], argTypes := #[2] }, type := 2, pos := "l06_arcs.go:151", after := #[{ on := 6, ground := Go.Ground.data }, { on := 6, ground := Go.Ground.chain }], guard := none }) rfl (fun Kn hK => ?_) AllReadyH.nil
         first | go_at_call 113 | (go_simp; go_at_call 113)
         (with_reducible refine Calls.mono (KZ.out _) ?_)
         rintro e V4 ⟨rfl, hw⟩
         have hb : Below V3.heap.size V3 V4 := hw ▸ Below.refl _ _
         clear hw
         try dsimp only
         try simp only [Act.put, List.setIfInBounds_toArray, List.set_cons_zero, List.set_cons_succ]
         replace bX := bX.on hb
         replace bn9 := bn9.on hb
         replace HW := Lib.hid (bel_end HW.out hb)
         clear hb
         refine hK.out _ _ (HSp.out _ bX) (fun _ => ?_)
         clear hK Kn)
    all_goals
      first
      | (refine wpAnyH_ready (rs := [10]) (by decide +kernel) (by simp) ?_
         refine AllReadyH.cons (o := { dst := none, op := Go.Op.store 34 (Go.Operand.tmp 3) (Go.Operand.tmp 10), type := 0, pos := "l06_arcs.go:151", after := #[{ on := 9, ground := Go.Ground.data }, { on := 4, ground := Go.Ground.data }, { on := 7, ground := Go.Ground.chain }, { on := 0, ground := Go.Ground.phase }, { on := 1, ground := Go.Ground.phase }, { on := 2, ground := Go.Ground.phase }, { on := 3, ground := Go.Ground.phase }, { on := 4, ground := Go.Ground.phase }, { on := 5, ground := Go.Ground.textOnly Go.Departure.lateStores }, { on := 6, ground := Go.Ground.textOnly Go.Departure.lateStoresUnsure }, { on := 7, ground := Go.Ground.textOnly Go.Departure.lateStoresUnsure }, { on := 8, ground := Go.Ground.textOnly Go.Departure.lateStores }, { on := 9, ground := Go.Ground.phase }], guard := none }) rfl (fun Kn hK => ?_) AllReadyH.nil
         have bn9_0 := bn9.cell 0 rfl
         have bn9_1 := bn9.cell 1 rfl
         have bn9_f0 := bn9.frozen 0
         have bn9_f1 := bn9.frozen 1
         have bn9_l := bn9.lt
         go_simp
         clear bn9_0 bn9_f0 bn9_1 bn9_f1 bn9_l
         generalize hX : World.setCell _ _ _ = V5
         have hb : Below W.heap.size W V5 := by rw [← hX]; exact ((HW.out.setCell (p := ⟨g9, 0, none⟩) le9 _).setCell (p := ⟨g9, 1, none⟩) le9 _)
         replace bX : Bk V5 (w.heap.size) #[.slice a zs.length ca, .slice b ys.length cb, .int .i64 (i : Int), .int .i64 c, .int .i64 s, .int .i64 h, .int .i64 (n : Int), .int .i64 (f : Int)] 115 := by rw [← hX]; exact (Bk.other (Bk.other bX nebX_9 0 _) nebX_9 1 _)
         replace bn9 : Bk V5 (g9) #[.int .i64 L1, .int .i64 H1] 34 := by rw [← hX]; exact (Bk.set (Bk.set bn9 0 _ rfl) 1 _ rfl)
         clear hX
         replace HW := Lib.hid hb
         clear hb
         refine hK.out _ _ (HSp.out _ bX) (fun _ => ?_)
         clear hK Kn)
      | (have hS := HSp.out _ bX
         refine wpAnyH_take (i := 8) (oi := { dst := some 14, op := Go.Op.binOp Go.BinOp.mul 2 (Go.Operand.const (Go.Value.int Go.IntKind.i64 2)) (Go.Operand.tmp 13) 2, type := 2, pos := "l06_arcs.go:151", after := #[{ on := 7, ground := Go.Ground.data }, { on := 10, ground := Go.Ground.gcOnly Go.Departure.lateStores }], guard := none }) (v := ?_) rfl (by kernel_rfl) (by kernel_rfl) (by kernel_rfl) (fun _ _ _ h => h) (Or.inl ⟨by rfl, ?_⟩) hS ?_
         rotate_left
         · (intro w hSw; have hSw := (HSd.out w).1 hSw; go_split_ands; go_simp) <;> with_reducible rfl
         clear hS
         try simp only [Act.put, List.setIfInBounds_toArray, List.set_cons_zero, List.set_cons_succ]
         refine wpAnyH_ready (rs := [10]) (by decide +kernel) (by simp) ?_
         refine AllReadyH.cons (o := { dst := none, op := Go.Op.store 34 (Go.Operand.tmp 3) (Go.Operand.tmp 10), type := 0, pos := "l06_arcs.go:151", after := #[{ on := 9, ground := Go.Ground.data }, { on := 4, ground := Go.Ground.data }, { on := 7, ground := Go.Ground.chain }, { on := 0, ground := Go.Ground.phase }, { on := 1, ground := Go.Ground.phase }, { on := 2, ground := Go.Ground.phase }, { on := 3, ground := Go.Ground.phase }, { on := 4, ground := Go.Ground.phase }, { on := 5, ground := Go.Ground.textOnly Go.Departure.lateStores }, { on := 6, ground := Go.Ground.textOnly Go.Departure.lateStoresUnsure }, { on := 7, ground := Go.Ground.textOnly Go.Departure.lateStoresUnsure }, { on := 8, ground := Go.Ground.textOnly Go.Departure.lateStores }, { on := 9, ground := Go.Ground.phase }], guard := none }) rfl (fun Kn hK => ?_) AllReadyH.nil
         have bn9_0 := bn9.cell 0 rfl
         have bn9_1 := bn9.cell 1 rfl
         have bn9_f0 := bn9.frozen 0
         have bn9_f1 := bn9.frozen 1
         have bn9_l := bn9.lt
         go_simp
         clear bn9_0 bn9_f0 bn9_1 bn9_f1 bn9_l
         generalize hX : World.setCell _ _ _ = V5
         have hb : Below W.heap.size W V5 := by rw [← hX]; exact ((HW.out.setCell (p := ⟨g9, 0, none⟩) le9 _).setCell (p := ⟨g9, 1, none⟩) le9 _)
         replace bX : Bk V5 (w.heap.size) #[.slice a zs.length ca, .slice b ys.length cb, .int .i64 (i : Int), .int .i64 c, .int .i64 s, .int .i64 h, .int .i64 (n : Int), .int .i64 (f : Int)] 115 := by rw [← hX]; exact (Bk.other (Bk.other bX nebX_9 0 _) nebX_9 1 _)
         replace bn9 : Bk V5 (g9) #[.int .i64 L1, .int .i64 H1] 34 := by rw [← hX]; exact (Bk.set (Bk.set bn9 0 _ rfl) 1 _ rfl)
         clear hX
         replace HW := Lib.hid hb
         clear hb
         refine hK.out _ _ (HSp.out _ bX) (fun _ => ?_)
         clear hK Kn)
    all_goals
      have hS := HSp.out _ bX
      refine wpAnyH_take (i := 11) (oi := { dst := some 4, op := Go.Op.assign (Go.Operand.tmp 14), type := 2, pos := "l06_arcs.go:151", after := #[{ on := 8, ground := Go.Ground.data }, { on := 10, ground := Go.Ground.chain }, { on := 0, ground := Go.Ground.phase }, { on := 1, ground := Go.Ground.phase }, { on := 2, ground := Go.Ground.phase }, { on := 3, ground := Go.Ground.phase }, { on := 4, ground := Go.Ground.phase }, { on := 5, ground := Go.Ground.phase }, { on := 6, ground := Go.Ground.phase }, { on := 7, ground := Go.Ground.phase }, { on := 8, ground := Go.Ground.phase }, { on := 9, ground := Go.Ground.phase }, { on := 10, ground := Go.Ground.phase }], guard := none }) (v := ?_) rfl (by kernel_rfl) (by kernel_rfl) (by kernel_rfl) (fun _ _ _ h => h) (Or.inl ⟨by rfl, ?_⟩) hS ?_
      rotate_left
      · (intro w hSw; have hSw := (HSd.out w).1 hSw; go_split_ands; go_simp) <;> with_reducible rfl
      clear hS
      try simp only [Act.put, List.setIfInBounds_toArray, List.set_cons_zero, List.set_cons_succ]
      refine wpAnyH_done (by kernel_rfl) ?_ _
      go_wp2_with fail
      go_meet
      exact ⟨_, rfl, rfl, bn9, le9, HW.out⟩
  case rest =>
    obtain ⟨g1, rfl, rfl, b1, hg1, hB⟩ := hcut
    replace bX := bX.on hB
    replace bR := bR.on hB
    replace HB := Lib.hid (bel_end HB.out hB)
    clear hB hg1
    have c1 := b1.cell 0 rfl
    have c2 := b1.cell 1 rfl
    go_wp2_with fail
    generalize hW : World.alloc _ _ = W2
    have hb : Below wc.heap.size wc W2 := by rw [← hW]; exact (Below.refl _ _).alloc (Nat.le_refl _) _
    obtain ⟨gS, hgS⟩ : ∃ g, g = wc.heap.size := ⟨_, rfl⟩
    have bS : Bk W2 gS #[.int .i64 P1, .int .i64 P2] 34 := by rw [← hW]; exact Bk.new' hgS
    have hgl : w.heap.size + 1 < gS := by have := bR.lt; omega
    try rw [← hgS]
    replace bX := bX.on hb
    replace bR := bR.on hb
    replace HB := Lib.hid (bel_end HB.out hb)
    clear hgS hW hb c1 c2 b1
    obtain ⟨S, hSd⟩ : ∃ S : World → Prop, ∀ w', S w' ↔ (w'.cell? ⟨w.heap.size, 0, none⟩ = some (.slice a zs.length ca) ∧ w'.cell? ⟨w.heap.size, 1, none⟩ = some (.slice b ys.length cb) ∧ w'.cell? ⟨w.heap.size, 2, none⟩ = some (.int .i64 (i : Int)) ∧ w'.cell? ⟨w.heap.size, 3, none⟩ = some (.int .i64 c) ∧ w'.cell? ⟨w.heap.size, 4, none⟩ = some (.int .i64 s) ∧ w'.cell? ⟨w.heap.size, 5, none⟩ = some (.int .i64 h) ∧ w'.cell? ⟨w.heap.size, 6, none⟩ = some (.int .i64 (n : Int)) ∧ w'.cell? ⟨w.heap.size, 7, none⟩ = some (.int .i64 (f : Int)) ∧ w'.cell? ⟨gS, 0, none⟩ = some (.int .i64 P1) ∧ w'.cell? ⟨gS, 1, none⟩ = some (.int .i64 P2)) := ⟨_, fun _ => Iff.rfl⟩
    have HSp : Hid (∀ w' : World, Bk w' (w.heap.size) #[.slice a zs.length ca, .slice b ys.length cb, .int .i64 (i : Int), .int .i64 c, .int .i64 s, .int .i64 h, .int .i64 (n : Int), .int .i64 (f : Int)] 115 → Bk w' (gS) #[.int .i64 P1, .int .i64 P2] 34 → S w') := Lib.hid (fun w' bX bS => (hSd w').2 ⟨bX.cell 0 rfl, bX.cell 1 rfl, bX.cell 2 rfl, bX.cell 3 rfl, bX.cell 4 rfl, bX.cell 5 rfl, bX.cell 6 rfl, bX.cell 7 rfl, bS.cell 0 rfl, bS.cell 1 rfl⟩)
    have HSd := Lib.hid hSd
    clear hSd
    refine wp_region_held_drew (S := S) (by kernel_rfl) ?_ (fun hH => ?_)
    · exact (HSp.out _ bX bS : S (World.drew W2))
    clear hH
    generalize hX : World.drew W2 = V0
    replace bX : Bk V0 (w.heap.size) #[.slice a zs.length ca, .slice b ys.length cb, .int .i64 (i : Int), .int .i64 c, .int .i64 s, .int .i64 h, .int .i64 (n : Int), .int .i64 (f : Int)] 115 := by rw [← hX]; exact bX
    replace bR : Bk V0 (w.heap.size + 1) #[.int .i64 0, .int .i64 0] 34 := by rw [← hX]; exact bR
    replace bS : Bk V0 (gS) #[.int .i64 P1, .int .i64 P2] 34 := by rw [← hX]; exact bS
    have hb : Below W2.heap.size W2 V0 := by rw [← hX]; exact (Below.refl _ _).drew
    clear hX
    replace HB := Lib.hid (bel_end HB.out hb)
    clear hb
    have hS := HSp.out _ bX bS
    refine wpAnyH_take (i := 0) (oi := { dst := some 24, op := Go.Op.load 34 (Go.Operand.tmp 5), type := 34, pos := "l06_arcs.go:153", after := #[], guard := none }) (v := ?_) rfl (by kernel_rfl) (by kernel_rfl) (by kernel_rfl) (fun _ _ _ h => h) (Or.inl ⟨by rfl, ?_⟩) hS ?_
    rotate_left
    · (intro w hSw; have hSw := (HSd.out w).1 hSw; go_split_ands; go_simp) <;> with_reducible rfl
    clear hS
    try simp only [Act.put, List.setIfInBounds_toArray, List.set_cons_zero, List.set_cons_succ]
    have hS := HSp.out _ bX bS
    refine wpAnyH_take (i := 1) (oi := { dst := some 25, op := Go.Op.load 115 (Go.Operand.tmp 1), type := 115, pos := "l06_arcs.go:153", after := #[], guard := none }) (v := ?_) rfl (by kernel_rfl) (by kernel_rfl) (by kernel_rfl) (fun _ _ _ h => h) (Or.inl ⟨by rfl, ?_⟩) hS ?_
    rotate_left
    · (intro w hSw; have hSw := (HSd.out w).1 hSw; go_split_ands; go_simp) <;> with_reducible rfl
    clear hS
    try simp only [Act.put, List.setIfInBounds_toArray, List.set_cons_zero, List.set_cons_succ]
    refine wpAnyH_ready (rs := [2]) (by decide +kernel) (by simp) ?_
    refine AllReadyH.cons (o := { dst := some 26, op := Go.Op.call { callee := Go.Callee.value (Go.Operand.func 109), args := #[Go.Operand.tmp 25], argTypes := #[115] }, type := 2, pos := "l06_arcs.go:153", after := #[{ on := 1, ground := Go.Ground.data }], guard := none }) rfl (fun Kn hK => ?_) AllReadyH.nil
    first | go_at_call 109 | (go_simp; go_at_call 109)
    (with_reducible refine Calls.mono (KR.out _ HB.out) ?_)
    rintro e V1 ⟨rfl, hb⟩
    try dsimp only
    try simp only [Act.put, List.setIfInBounds_toArray, List.set_cons_zero, List.set_cons_succ]
    replace bX := bX.on hb
    replace bR := bR.on hb
    replace bS := bS.on hb
    replace HB := Lib.hid (bel_end HB.out hb)
    clear hb
    refine hK.out _ _ (HSp.out _ bX bS) (fun _ => ?_)
    clear hK Kn
    refine wpAnyH_ready (rs := [3]) (by decide +kernel) (by simp) ?_
    refine AllReadyH.cons (o := { dst := some 27, op := Go.Op.call { callee := Go.Callee.value (Go.Operand.func 40), args := #[Go.Operand.tmp 26], argTypes := #[2] }, type := 34, pos := "l06_arcs.go:153", after := #[{ on := 2, ground := Go.Ground.data }, { on := 2, ground := Go.Ground.chain }], guard := none }) rfl (fun Kn hK => ?_) AllReadyH.nil
    first | go_at_call 40 | (go_simp; go_at_call 40)
    (with_reducible refine Calls.mono (KE.out _) ?_)
    rintro e V2 ⟨rfl, hb⟩
    try dsimp only
    try simp only [Act.put, List.setIfInBounds_toArray, List.set_cons_zero, List.set_cons_succ]
    replace bX := bX.on hb
    replace bR := bR.on hb
    replace bS := bS.on hb
    replace HB := Lib.hid (bel_end HB.out hb)
    clear hb
    refine hK.out _ _ (HSp.out _ bX bS) (fun _ => ?_)
    clear hK Kn
    refine wpAnyH_ready (rs := [4]) (by decide +kernel) (by simp) ?_
    refine AllReadyH.cons (o := { dst := some 28, op := Go.Op.call { callee := Go.Callee.value (Go.Operand.func 115), args := #[Go.Operand.tmp 24, Go.Operand.tmp 27], argTypes := #[34, 34] }, type := 34, pos := "l06_arcs.go:153", after := #[{ on := 0, ground := Go.Ground.data }, { on := 3, ground := Go.Ground.data }, { on := 3, ground := Go.Ground.chain }], guard := none }) rfl (fun Kn hK => ?_) AllReadyH.nil
    first | go_at_call 115 | (go_simp; go_at_call 115)
    (with_reducible refine Calls.mono (KD.out _) ?_)
    rintro e V3 ⟨rfl, hb⟩
    try dsimp only
    try simp only [Act.put, List.setIfInBounds_toArray, List.set_cons_zero, List.set_cons_succ]
    replace bX := bX.on hb
    replace bR := bR.on hb
    replace bS := bS.on hb
    replace HB := Lib.hid (bel_end HB.out hb)
    clear hb
    refine hK.out _ _ (HSp.out _ bX bS) (fun _ => ?_)
    clear hK Kn
    refine wpAnyH_ready (rs := [5]) (by decide +kernel) (by simp) ?_
    refine AllReadyH.cons (o := { dst := none, op := Go.Op.store 34 (Go.Operand.tmp 2) (Go.Operand.tmp 28), type := 0, pos := "l06_arcs.go:153", after := #[{ on := 4, ground := Go.Ground.data }, { on := 4, ground := Go.Ground.chain }, { on := 0, ground := Go.Ground.phase }, { on := 1, ground := Go.Ground.phase }, { on := 2, ground := Go.Ground.phase }, { on := 3, ground := Go.Ground.phase }, { on := 4, ground := Go.Ground.phase }], guard := none }) rfl (fun Kn hK => ?_) AllReadyH.nil
    have bR_0 := bR.cell 0 rfl
    have bR_1 := bR.cell 1 rfl
    have bR_f0 := bR.frozen 0
    have bR_f1 := bR.frozen 1
    have bR_l := bR.lt
    go_simp
    clear bR_0 bR_f0 bR_1 bR_f1 bR_l
    generalize hX : World.setCell _ _ _ = V4
    have hb : Below w.heap.size w V4 := by rw [← hX]; exact ((HB.out.setCell (p := ⟨w.heap.size + 1, 0, none⟩) (by first | omega | (dsimp only; omega)) _).setCell (p := ⟨w.heap.size + 1, 1, none⟩) (by first | omega | (dsimp only; omega)) _)
    replace bX : Bk V4 (w.heap.size) #[.slice a zs.length ca, .slice b ys.length cb, .int .i64 (i : Int), .int .i64 c, .int .i64 s, .int .i64 h, .int .i64 (n : Int), .int .i64 (f : Int)] 115 := by rw [← hX]; exact (Bk.other (Bk.other bX (by omega) 0 _) (by omega) 1 _)
    replace bS : Bk V4 (gS) #[.int .i64 P1, .int .i64 P2] 34 := by rw [← hX]; exact (Bk.other (Bk.other bS (by omega) 0 _) (by omega) 1 _)
    replace bR : Bk V4 (w.heap.size + 1) #[.int .i64 x, .int .i64 y] 34 := by rw [← hX]; exact (Bk.set (Bk.set bR 0 _ rfl) 1 _ rfl)
    clear hX
    replace HB := Lib.hid hb
    clear hb
    refine hK.out _ _ (HSp.out _ bX bS) (fun _ => ?_)
    clear hK Kn
    refine wpAnyH_done (by kernel_rfl) ?_ _
    have c2 := bR.cell 0 rfl
    have c3 := bR.cell 1 rfl
    go_wp2
    exact bodyPost_ret (v := .agg #[.int .i64 x, .int .i64 y]) (by simp [results, Tryz.results124, go_sem, c2, c3]) rfl ⟨rfl, HB.out⟩
end Go.Proofs.YtgecbfbmmbfnmaaGreat
