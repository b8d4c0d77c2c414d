import Derived.Test.YtgecbfbmmbfnmaaGreatArcU
import Derived.Test.YtgecbfbmmbfnmaaGreatArcR
import Derived.Test.YtgecbfbmmbfnmaaGreatArcG
import Derived.StillTailTactics
import Derived.Deep.QuietTactic
import Derived.BigQuiet
import Derived.Deep.DeepCutAuto
namespace Go.Proofs.YtgecbfbmmbfnmaaGreat
/- Contracts of the model's ranges of a ray in a layer. -/
open Go.ChangeShapes Go.WideShapes Go.ChangeAt Go.RowKit Go.Shelf Num
set_option linter.unusedVariables false
set_option linter.unusedSimpArgs false

set_option maxRecDepth 100000 in
set_option maxHeartbeats 8000000 in
theorem lcx_any (w : World) (a b : Option Addr) (ca cb : Nat) (zs ys : List Int) (i l : Nat) (c s h : Int) (hp : Prof w w.heap.size a b zs ys) (r : RyOk zs ys i c s h) (hl : l + 1 < zs.length) (hx : crB ys (i : Int) c h (l : Int) = true ∨ crB ys (i : Int) c h ((l + 1 : Nat) : Int) = true) :
    Calls Tryz.prog 76 #[.agg #[.slice a zs.length ca, .slice b ys.length cb], .int .i64 (i : Int), .agg #[.int .i64 c, .int .i64 s, .int .i64 h], .int .i64 (l : Int)] w fun e w' => e = .returned (.tuple #[.agg #[.int .i64 (lim ((crN zs ys c l).fdiv (sH ys i c h l + sH ys i c h (l + 1))) (cdiv (crN zs ys c l) (sL ys i c h l + sL ys i c h (l + 1)))).1, .int .i64 (lim ((crN zs ys c l).fdiv (sH ys i c h l + sH ys i c h (l + 1))) (cdiv (crN zs ys c l) (sL ys i c h l + sL ys i c h (l + 1)))).2.1], .int .i64 (lim ((crN zs ys c l).fdiv (sH ys i c h l + sH ys i c h (l + 1))) (cdiv (crN zs ys c l) (sL ys i c h l + sL ys i c h (l + 1)))).2.2]) ∧ Below w.heap.size w w' := by
  have HP := Lib.hid hp
  have s1 := r.sg l
  have s2 := r.sg (l + 1)
  have hN : crN zs ys c l = zD zs l * c * (ys.getD l 0 + ys.getD (l + 1) 0) := rfl
  obtain ⟨-, -, -, n0, n1⟩ := r.crb hl
  have hz := r.z hl
  have hZ : zD zs l = zs.getD (l + 1) 0 - zs.getD l 0 := rfl
  have hly := r.ok.len
  have u1 := r.ok.shi l
  have u2 := r.ok.sge l
  have u3 := r.ok.shi (l + 1)
  have u4 := r.ok.sge (l + 1)
  have h12 := r.ok.n12
  have hi := r.hi
  have q1 := r.od.c1
  have q2 := r.od.c2
  have q3 := r.od.h2
  have K1 : Hid (∀ W : World, Below w.heap.size w W → Calls Tryz.prog 83 #[.agg #[.slice a zs.length ca, .slice b ys.length cb], .int .i64 (i : Int), .agg #[.int .i64 c, .int .i64 s, .int .i64 h], .int .i64 (l : Int)] W fun e w' => e = .returned (.agg #[.int .i64 (sL ys i c h l), .int .i64 (sH ys i c h l)]) ∧ Below W.heap.size W w') := Lib.hid (fun W hb => lsg_any W a b ca cb zs ys i l c s h (HP.out.on hb) r (by omega))
  have K2 : Hid (∀ W : World, Below w.heap.size w W → Calls Tryz.prog 83 #[.agg #[.slice a zs.length ca, .slice b ys.length cb], .int .i64 (i : Int), .agg #[.int .i64 c, .int .i64 s, .int .i64 h], .int .i64 ((l : Int) + 1)] W fun e w' => e = .returned (.agg #[.int .i64 (sL ys i c h (l + 1)), .int .i64 (sH ys i c h (l + 1))]) ∧ Below W.heap.size W w') := Lib.hid (fun W hb => by rw [show ((l : Int) + 1) = ((l + 1 : Nat) : Int) by omega]; exact lsg_any W a b ca cb zs ys i (l + 1) c s h (HP.out.on hb) r hl)
  have pos : 1 ≤ sL ys i c h l + sL ys i c h (l + 1) := by
    rcases hx with e | e
    · have := s1.2.2.2 e; omega
    · have := s2.2.2.2 e; omega
  obtain ⟨p, o, p', o', rfl, rfl, hlp, hlq, h1, h2, h3, g1, g2, g3⟩ := six_at HP.out (k1 := l) (k2 := l + 1) (k3 := l) (l1 := l) (l2 := l + 1) (l3 := l) (by omega) hl (by omega) (by omega) (by omega) (by omega)
  obtain ⟨L1, e⟩ : ∃ q, sL ys i c h l = q := ⟨_, rfl⟩
  rw [e] at K1 s1 pos ⊢
  clear e
  obtain ⟨H1, e⟩ : ∃ q, sH ys i c h l = q := ⟨_, rfl⟩
  rw [e] at K1 s1 ⊢
  clear e
  obtain ⟨L2, e⟩ : ∃ q, sL ys i c h (l + 1) = q := ⟨_, rfl⟩
  rw [e] at K2 s2 pos ⊢
  clear e
  obtain ⟨H2, e⟩ : ∃ q, sH ys i c h (l + 1) = q := ⟨_, rfl⟩
  rw [e] at K2 s2 ⊢
  clear e
  obtain ⟨N, e⟩ : ∃ q, crN zs ys c l = q := ⟨_, rfl⟩
  rw [e] at hN n0 n1 ⊢
  clear e
  obtain ⟨dj, e⟩ : ∃ q, zs.getD l 0 = q := ⟨_, rfl⟩
  rw [e] at h1 h3 hZ
  clear e
  obtain ⟨dk, e⟩ : ∃ q, zs.getD (l + 1) 0 = q := ⟨_, rfl⟩
  rw [e] at h2 hZ
  clear e
  obtain ⟨un, e⟩ : ∃ q, ys.getD l 0 = q := ⟨_, rfl⟩
  rw [e] at g1 g3 hN u1 u2
  clear e
  obtain ⟨uf, e⟩ : ∃ q, ys.getD (l + 1) 0 = q := ⟨_, rfl⟩
  rw [e] at g2 hN u3 u4
  clear e
  obtain ⟨Z, e⟩ : ∃ q, zD zs l = q := ⟨_, rfl⟩
  rw [e] at hZ hz hN
  clear e
  have w1 : IntKind.wrap .i64 (dk - dj) = Z := by rw [← hZ]; exact IntWalk.i64_in _ (by omega)
  have m1 := mul_in (a := Z) (b := c) (A := 1000000) (B := 1000) (by omega) (by omega) (by omega) (by omega)
  obtain ⟨ZC, e⟩ : ∃ q, Z * c = q := ⟨_, rfl⟩
  rw [e] at hN m1
  have w_ZC : IntKind.wrap .i64 (Z * c) = ZC := by rw [e]; exact IntWalk.i64_in _ (by omega)
  clear e
  obtain ⟨SU, e⟩ : ∃ q, un + uf = q := ⟨_, rfl⟩
  rw [e] at hN
  have w_SU : IntKind.wrap .i64 (un + uf) = SU := by rw [e]; exact IntWalk.i64_in _ (by omega)
  clear e
  have w4 : IntKind.wrap .i64 (ZC * SU) = N := by rw [← hN]; exact IntWalk.i64_in _ (by omega)
  have lb : L1 + L2 ≤ 4000000002 := by omega
  have lb2 : H1 + H2 ≤ 4000000002 ∧ 1 ≤ H1 + H2 := by omega
  obtain ⟨LL, e⟩ : ∃ q, L1 + L2 = q := ⟨_, rfl⟩
  rw [e] at pos lb ⊢
  have w_LL : IntKind.wrap .i64 (L1 + L2) = LL := by rw [e]; exact IntWalk.i64_in _ (by omega)
  clear e
  obtain ⟨HH, e⟩ : ∃ q, H1 + H2 = q := ⟨_, rfl⟩
  rw [e] at lb2 ⊢
  have w_HH : IntKind.wrap .i64 (H1 + H2) = HH := by rw [e]; exact IntWalk.i64_in _ (by omega)
  clear e
  have KF : Hid (∀ W : World, Calls Tryz.prog 84 #[.int .i64 N, .int .i64 HH] W fun e w' => e = .returned (.int .i64 (N.fdiv HH)) ∧ W = w') := Lib.hid (fun W => lfl_any N HH (by omega) (by omega) (by omega) (by omega) (by omega) W)
  have KC : Hid (∀ W : World, Calls Tryz.prog 85 #[.int .i64 N, .int .i64 LL] W fun e w' => e = .returned (.int .i64 (cdiv N LL)) ∧ W = w') := Lib.hid (fun W => lce_any N LL (by omega) (by omega) (by omega) (by omega) (by omega) W)
  obtain ⟨F, e⟩ : ∃ q, N.fdiv HH = q := ⟨_, rfl⟩
  rw [e] at KF ⊢
  clear e
  obtain ⟨C, e⟩ : ∃ q, cdiv N LL = q := ⟨_, rfl⟩
  rw [e] at KC ⊢
  clear e
  have KL : Hid (∀ W : World, Calls Tryz.prog 48 #[.int .i64 F, .int .i64 C] W fun e w' => e = .returned (.tuple #[.agg #[.int .i64 (lim F C).1, .int .i64 (lim F C).2.1], .int .i64 (lim F C).2.2]) ∧ Below W.heap.size W w') := Lib.hid (fun W => llm_any F C W)
  obtain ⟨⟨x, y, e0⟩, hL⟩ : ∃ v, lim F C = v := ⟨_, rfl⟩
  rw [hL] at KL ⊢
  have i1 : (0 : Int) ≤ (l : Int) + 1 := by omega
  have i2 : ((l : Int) + 1).toNat = l + 1 := by omega
  have i3 : (l : Int) + 1 < (zs.length : Int) := by omega
  have i4 : (l : Int) < (zs.length : Int) := by omega
  have i6 : (l : Int) < (ys.length : Int) := by omega
  have i7 : (l : Int) + 1 < (ys.length : Int) := by omega
  have ew : IntKind.wrap .i64 ((l : Int) + 1) = (l : Int) + 1 := IntWalk.i64_in _ (by omega)
  clear hL hN hZ hz hly u1 u2 u3 u4 h12 hi q1 q2 q3 m1 s1 s2 n0 n1 pos lb lb2 hx r hl hp
  go_enter Tryz.func76, Tryz.ntmps76
  go_wp2_with fail
  generalize hW : World.alloc _ _ = W
  have bP : Bk W (w.heap.size) #[.slice (some ⟨p, o, none⟩) zs.length ca, .slice (some ⟨p', o', none⟩) ys.length cb] 26 := by rw [← hW]; repeat (first | (refine Bk.new' ?_; (simp; done)) | refine Bk.alloc ?_ _)
  have bD : Bk W (w.heap.size + 1) #[.int .i64 c, .int .i64 s, .int .i64 h] 28 := by rw [← hW]; repeat (first | (refine Bk.new' ?_; (simp; done)) | refine Bk.alloc ?_ _)
  have bR : Bk W (w.heap.size + 1 + 1) #[.int .i64 0, .int .i64 0] 34 := by rw [← hW]; repeat (first | (refine Bk.new' ?_; (simp; done)) | refine Bk.alloc ?_ _)
  have HB : Hid (Below w.heap.size w W) := Lib.hid (by rw [← hW]; exact (by repeat (first | exact Below.refl _ _ | (refine Below.alloc ?_ (by simp <;> omega) _) | (refine Below.setCell ?_ (by simp <;> omega) _) | (refine Below.drew ?_) | (refine bel_drewN ?_ _))))
  clear hW
  replace h1 := kc1 h1 HB.out
  replace h2 := kc1 h2 HB.out
  replace h3 := kc1 h3 HB.out
  replace g1 := kc1 g1 HB.out
  replace g2 := kc1 g2 HB.out
  replace g3 := kc1 g3 HB.out
  go_cut [10, 11] (fun s3 s4 wx => CrS W wx s3 s4 L1 H1 L2 H2)
  case first =>
    have HW : Hid (Below W.heap.size W W) := Lib.hid (Below.refl _ _)
    clear bR h1 h2 h3 g1 g2 g3
    obtain ⟨S, hSd⟩ : ∃ S : World → Prop, ∀ w', S w' ↔ (w'.cell? ⟨w.heap.size, 0, none⟩ = some (.slice (some ⟨p, o, none⟩) zs.length ca) ∧ w'.cell? ⟨w.heap.size, 1, none⟩ = some (.slice (some ⟨p', o', none⟩) ys.length cb) ∧ w'.cell? ⟨w.heap.size + 1, 0, none⟩ = some (.int .i64 c) ∧ w'.cell? ⟨w.heap.size + 1, 1, none⟩ = some (.int .i64 s) ∧ w'.cell? ⟨w.heap.size + 1, 2, none⟩ = some (.int .i64 h)) := ⟨_, fun _ => Iff.rfl⟩
    have HSp : Hid (∀ w' : World, Bk w' (w.heap.size) #[.slice (some ⟨p, o, none⟩) zs.length ca, .slice (some ⟨p', o', none⟩) ys.length cb] 26 → Bk w' (w.heap.size + 1) #[.int .i64 c, .int .i64 s, .int .i64 h] 28 → S w') := Lib.hid (fun w' bP bD => (hSd w').2 ⟨bP.cell 0 rfl, bP.cell 1 rfl, bD.cell 0 rfl, bD.cell 1 rfl, bD.cell 2 rfl⟩)
    have HSd := Lib.hid hSd
    clear hSd
    refine wp_region_held_drew (S := S) (by kernel_rfl) ?_ (fun hH => ?_)
    · exact (HSp.out _ bP bD : S (World.drew W))
    clear hH
    generalize hX : World.drew W = V0
    replace bP : Bk V0 (w.heap.size) #[.slice (some ⟨p, o, none⟩) zs.length ca, .slice (some ⟨p', o', none⟩) ys.length cb] 26 := by rw [← hX]; exact bP
    replace bD : Bk V0 (w.heap.size + 1) #[.int .i64 c, .int .i64 s, .int .i64 h] 28 := by rw [← hX]; exact bD
    have hb : Below W.heap.size W V0 := by rw [← hX]; exact (Below.refl _ _).drew
    clear hX
    replace HW := Lib.hid (bel_end HW.out hb)
    clear hb
    have hS := HSp.out _ bP bD
    refine wpAnyH_take (i := 0) (oi := { dst := some 13, op := Go.Op.load 26 (Go.Operand.tmp 4), type := 26, pos := "l06_arcs.go:52", after := #[], guard := none }) (v := ?_) rfl (by kernel_rfl) (by kernel_rfl) (by kernel_rfl) (fun _ _ _ h => h) (Or.inl ⟨by rfl, ?_⟩) hS ?_
    rotate_left
    · (intro w hSw; have hSw := (HSd.out w).1 hSw; go_split_ands; go_simp) <;> with_reducible rfl
    clear hS
    try simp only [Act.put, List.setIfInBounds_toArray, List.set_cons_zero, List.set_cons_succ]
    have hS := HSp.out _ bP bD
    refine wpAnyH_take (i := 1) (oi := { dst := some 14, op := Go.Op.move (Go.Operand.tmp 1), type := 2, pos := "l06_arcs.go:52", after := #[], guard := none }) (v := ?_) rfl (by kernel_rfl) (by kernel_rfl) (by kernel_rfl) (fun _ _ _ h => h) (Or.inl ⟨by rfl, ?_⟩) hS ?_
    rotate_left
    · (intro w hSw; have hSw := (HSd.out w).1 hSw; go_split_ands; go_simp) <;> with_reducible rfl
    clear hS
    try simp only [Act.put, List.setIfInBounds_toArray, List.set_cons_zero, List.set_cons_succ]
    have hS := HSp.out _ bP bD
    refine wpAnyH_take (i := 2) (oi := { dst := some 15, op := Go.Op.load 28 (Go.Operand.tmp 6), type := 28, pos := "l06_arcs.go:52", after := #[], guard := none }) (v := ?_) rfl (by kernel_rfl) (by kernel_rfl) (by kernel_rfl) (fun _ _ _ h => h) (Or.inl ⟨by rfl, ?_⟩) hS ?_
    rotate_left
    · (intro w hSw; have hSw := (HSd.out w).1 hSw; go_split_ands; go_simp) <;> with_reducible rfl
    clear hS
    try simp only [Act.put, List.setIfInBounds_toArray, List.set_cons_zero, List.set_cons_succ]
    have hS := HSp.out _ bP bD
    refine wpAnyH_take (i := 3) (oi := { dst := some 16, op := Go.Op.move (Go.Operand.tmp 3), type := 2, pos := "l06_arcs.go:52", after := #[], guard := none }) (v := ?_) rfl (by kernel_rfl) (by kernel_rfl) (by kernel_rfl) (fun _ _ _ h => h) (Or.inl ⟨by rfl, ?_⟩) hS ?_
    rotate_left
    · (intro w hSw; have hSw := (HSd.out w).1 hSw; go_split_ands; go_simp) <;> with_reducible rfl
    clear hS
    try simp only [Act.put, List.setIfInBounds_toArray, List.set_cons_zero, List.set_cons_succ]
    have hS := HSp.out _ bP bD
    refine wpAnyH_take (i := 5) (oi := { dst := some 18, op := Go.Op.load 26 (Go.Operand.tmp 4), type := 26, pos := "l06_arcs.go:52", after := #[], guard := none }) (v := ?_) rfl (by kernel_rfl) (by kernel_rfl) (by kernel_rfl) (fun _ _ _ h => h) (Or.inl ⟨by rfl, ?_⟩) hS ?_
    rotate_left
    · (intro w hSw; have hSw := (HSd.out w).1 hSw; go_split_ands; go_simp) <;> with_reducible rfl
    clear hS
    try simp only [Act.put, List.setIfInBounds_toArray, List.set_cons_zero, List.set_cons_succ]
    have hS := HSp.out _ bP bD
    refine wpAnyH_take (i := 6) (oi := { dst := some 19, op := Go.Op.move (Go.Operand.tmp 1), type := 2, pos := "l06_arcs.go:52", after := #[], guard := none }) (v := ?_) rfl (by kernel_rfl) (by kernel_rfl) (by kernel_rfl) (fun _ _ _ h => h) (Or.inl ⟨by rfl, ?_⟩) hS ?_
    rotate_left
    · (intro w hSw; have hSw := (HSd.out w).1 hSw; go_split_ands; go_simp) <;> with_reducible rfl
    clear hS
    try simp only [Act.put, List.setIfInBounds_toArray, List.set_cons_zero, List.set_cons_succ]
    have hS := HSp.out _ bP bD
    refine wpAnyH_take (i := 7) (oi := { dst := some 20, op := Go.Op.load 28 (Go.Operand.tmp 6), type := 28, pos := "l06_arcs.go:52", after := #[], guard := none }) (v := ?_) rfl (by kernel_rfl) (by kernel_rfl) (by kernel_rfl) (fun _ _ _ h => h) (Or.inl ⟨by rfl, ?_⟩) hS ?_
    rotate_left
    · (intro w hSw; have hSw := (HSd.out w).1 hSw; go_split_ands; go_simp) <;> with_reducible rfl
    clear hS
    try simp only [Act.put, List.setIfInBounds_toArray, List.set_cons_zero, List.set_cons_succ]
    have hS := HSp.out _ bP bD
    refine wpAnyH_take (i := 8) (oi := { dst := some 21, op := Go.Op.move (Go.Operand.tmp 3), type := 2, pos := "l06_arcs.go:52", after := #[], guard := none }) (v := ?_) rfl (by kernel_rfl) (by kernel_rfl) (by kernel_rfl) (fun _ _ _ h => h) (Or.inl ⟨by rfl, ?_⟩) hS ?_
    rotate_left
    · (intro w hSw; have hSw := (HSd.out w).1 hSw; go_split_ands; go_simp) <;> with_reducible rfl
    clear hS
    try simp only [Act.put, List.setIfInBounds_toArray, List.set_cons_zero, List.set_cons_succ]
    have hS := HSp.out _ bP bD
    refine wpAnyH_take (i := 9) (oi := { dst := some 22, op := Go.Op.binOp Go.BinOp.add 2 (Go.Operand.tmp 21) (Go.Operand.const (Go.Value.int Go.IntKind.i64 1)) 2, type := 2, pos := "l06_arcs.go:52", after := #[{ on := 8, ground := Go.Ground.data }], guard := none }) (v := ?_) rfl (by kernel_rfl) (by kernel_rfl) (by kernel_rfl) (fun _ _ _ h => h) (Or.inl ⟨by rfl, ?_⟩) hS ?_
    rotate_left
    · (intro w hSw; have hSw := (HSd.out w).1 hSw; go_split_ands; go_simp) <;> with_reducible rfl
    clear hS
    try simp only [Act.put, List.setIfInBounds_toArray, List.set_cons_zero, List.set_cons_succ]
    refine wpAnyH_ready (rs := [4, 11, 12]) (by decide +kernel) (by simp) ?_
    refine AllReadyH.cons (o := { dst := some 17, op := Go.Op.call { callee := Go.Callee.value (Go.Operand.func 83), args := #[Go.Operand.tmp 13, Go.Operand.tmp 14, Go.Operand.tmp 15, Go.Operand.tmp 16], argTypes := #[26, 2, 28, 2] }, type := 34, pos := "l06_arcs.go:52", after := #[{ on := 0, ground := Go.Ground.data }, { on := 1, ground := Go.Ground.data }, { on := 2, ground := Go.Ground.data }, { on := 3, ground := Go.Ground.data }], guard := none }) rfl (fun Kn hK => ?_) ?_
    first | go_at_call 83 | (go_simp; go_at_call 83)
    (with_reducible refine Calls.mono (K1.out _ (bel_end HB.out HW.out)) ?_)
    rintro e V1 ⟨rfl, hb⟩
    try dsimp only
    try simp only [Act.put, List.setIfInBounds_toArray, List.set_cons_zero, List.set_cons_succ]
    replace bP := bP.on hb
    replace bD := bD.on hb
    replace HW := Lib.hid (bel_end HW.out hb)
    clear hb
    refine hK.out _ _ (HSp.out _ bP bD) (fun _ => ?_)
    clear hK Kn
    rotate_left
    refine AllReadyH.cons (o := { dst := some 10, op := Go.Op.alloc 34, type := 0, pos := "l06_arcs.go:52", after := #[], guard := none }) rfl (fun Kn hK => ?_) ?_
    go_simp
    generalize hX : World.alloc V0 _ = V1
    obtain ⟨g11, hg⟩ : ∃ g, g = V0.heap.size := ⟨_, rfl⟩
    have bn11 : Bk V1 g11 #[.int .i64 0, .int .i64 0] 34 := by rw [← hX]; exact Bk.new' hg
    have le11 : W.heap.size ≤ g11 := by rw [hg]; exact HW.out.size
    have nebP_11 : w.heap.size ≠ g11 := by have := bP.lt; omega
    have nebD_11 : w.heap.size + 1 ≠ g11 := by have := bD.lt; omega
    try rw [← hg]
    have hb : Below V0.heap.size V0 V1 := by rw [← hX]; exact (Below.refl _ _).alloc (Nat.le_refl _) _
    clear hX hg
    replace bP := bP.on hb
    replace bD := bD.on hb
    replace HW := Lib.hid (bel_end HW.out hb)
    clear hb
    refine hK.out _ _ (HSp.out _ bP bD) (fun _ => ?_)
    clear hK Kn
    rotate_left
    refine AllReadyH.cons (o := { dst := some 11, op := Go.Op.alloc 34, type := 0, pos := "l06_arcs.go:52", after := #[], guard := none }) rfl (fun Kn hK => ?_) AllReadyH.nil
    go_simp
    generalize hX : World.alloc V0 _ = V1
    obtain ⟨g12, hg⟩ : ∃ g, g = V0.heap.size := ⟨_, rfl⟩
    have bn12 : Bk V1 g12 #[.int .i64 0, .int .i64 0] 34 := by rw [← hX]; exact Bk.new' hg
    have le12 : W.heap.size ≤ g12 := by rw [hg]; exact HW.out.size
    have nebP_12 : w.heap.size ≠ g12 := by have := bP.lt; omega
    have nebD_12 : w.heap.size + 1 ≠ g12 := by have := bD.lt; omega
    try rw [← hg]
    have hb : Below V0.heap.size V0 V1 := by rw [← hX]; exact (Below.refl _ _).alloc (Nat.le_refl _) _
    clear hX hg
    replace bP := bP.on hb
    replace bD := bD.on hb
    replace HW := Lib.hid (bel_end HW.out hb)
    clear hb
    refine hK.out _ _ (HSp.out _ bP bD) (fun _ => ?_)
    clear hK Kn
    all_goals
      first
      | (refine wpAnyH_ready (rs := [10, 11, 12]) (by decide +kernel) (by simp) ?_
         refine AllReadyH.cons (o := { dst := some 23, op := Go.Op.call { callee := Go.Callee.value (Go.Operand.func 83), args := #[Go.Operand.tmp 18, Go.Operand.tmp 19, Go.Operand.tmp 20, Go.Operand.tmp 22], argTypes := #[26, 2, 28, 2] }, type := 34, pos := "l06_arcs.go:52", after := #[{ on := 5, ground := Go.Ground.data }, { on := 6, ground := Go.Ground.data }, { on := 7, ground := Go.Ground.data }, { on := 9, ground := Go.Ground.data }, { on := 4, ground := Go.Ground.chain }], guard := none }) rfl (fun Kn hK => ?_) ?_
         first | go_at_call 83 | (go_simp; go_at_call 83)
         (with_reducible refine Calls.mono (K2.out _ (bel_end HB.out HW.out)) ?_)
         rintro e V2 ⟨rfl, hb⟩
         try dsimp only
         try simp only [Act.put, List.setIfInBounds_toArray, List.set_cons_zero, List.set_cons_succ]
         replace bP := bP.on hb
         replace bD := bD.on hb
         replace HW := Lib.hid (bel_end HW.out hb)
         clear hb
         refine hK.out _ _ (HSp.out _ bP bD) (fun _ => ?_)
         clear hK Kn
         rotate_left
         refine AllReadyH.cons (o := { dst := some 10, op := Go.Op.alloc 34, type := 0, pos := "l06_arcs.go:52", after := #[], guard := none }) rfl (fun Kn hK => ?_) ?_
         go_simp
         generalize hX : World.alloc V1 _ = V2
         obtain ⟨g11, hg⟩ : ∃ g, g = V1.heap.size := ⟨_, rfl⟩
         have bn11 : Bk V2 g11 #[.int .i64 0, .int .i64 0] 34 := by rw [← hX]; exact Bk.new' hg
         have le11 : W.heap.size ≤ g11 := by rw [hg]; exact HW.out.size
         have nebP_11 : w.heap.size ≠ g11 := by have := bP.lt; omega
         have nebD_11 : w.heap.size + 1 ≠ g11 := by have := bD.lt; omega
         try rw [← hg]
         have hb : Below V1.heap.size V1 V2 := by rw [← hX]; exact (Below.refl _ _).alloc (Nat.le_refl _) _
         clear hX hg
         replace bP := bP.on hb
         replace bD := bD.on hb
         replace HW := Lib.hid (bel_end HW.out hb)
         clear hb
         refine hK.out _ _ (HSp.out _ bP bD) (fun _ => ?_)
         clear hK Kn
         rotate_left
         refine AllReadyH.cons (o := { dst := some 11, op := Go.Op.alloc 34, type := 0, pos := "l06_arcs.go:52", after := #[], guard := none }) rfl (fun Kn hK => ?_) AllReadyH.nil
         go_simp
         generalize hX : World.alloc V1 _ = V2
         obtain ⟨g12, hg⟩ : ∃ g, g = V1.heap.size := ⟨_, rfl⟩
         have bn12 : Bk V2 g12 #[.int .i64 0, .int .i64 0] 34 := by rw [← hX]; exact Bk.new' hg
         have le12 : W.heap.size ≤ g12 := by rw [hg]; exact HW.out.size
         have nebP_12 : w.heap.size ≠ g12 := by have := bP.lt; omega
         have nebD_12 : w.heap.size + 1 ≠ g12 := by have := bD.lt; omega
         try rw [← hg]
         have hb : Below V1.heap.size V1 V2 := by rw [← hX]; exact (Below.refl _ _).alloc (Nat.le_refl _) _
         clear hX hg
         replace bP := bP.on hb
         replace bD := bD.on hb
         replace HW := Lib.hid (bel_end HW.out hb)
         clear hb
         refine hK.out _ _ (HSp.out _ bP bD) (fun _ => ?_)
         clear hK Kn)
      | (refine wpAnyH_ready (rs := [4, 12]) (by decide +kernel) (by simp) ?_
         refine AllReadyH.cons (o := { dst := some 17, op := Go.Op.call { callee := Go.Callee.value (Go.Operand.func 83), args := #[Go.Operand.tmp 13, Go.Operand.tmp 14, Go.Operand.tmp 15, Go.Operand.tmp 16], argTypes := #[26, 2, 28, 2] }, type := 34, pos := "l06_arcs.go:52", after := #[{ on := 0, ground := Go.Ground.data }, { on := 1, ground := Go.Ground.data }, { on := 2, ground := Go.Ground.data }, { on := 3, ground := Go.Ground.data }], guard := none }) rfl (fun Kn hK => ?_) ?_
         first | go_at_call 83 | (go_simp; go_at_call 83)
         (with_reducible refine Calls.mono (K1.out _ (bel_end HB.out HW.out)) ?_)
         rintro e V2 ⟨rfl, hb⟩
         try dsimp only
         try simp only [Act.put, List.setIfInBounds_toArray, List.set_cons_zero, List.set_cons_succ]
         replace bP := bP.on hb
         replace bD := bD.on hb
         replace bn11 := bn11.on hb
         replace HW := Lib.hid (bel_end HW.out hb)
         clear hb
         refine hK.out _ _ (HSp.out _ bP bD) (fun _ => ?_)
         clear hK Kn
         rotate_left
         refine AllReadyH.cons (o := { dst := some 11, op := Go.Op.alloc 34, type := 0, pos := "l06_arcs.go:52", after := #[], guard := none }) rfl (fun Kn hK => ?_) AllReadyH.nil
         go_simp
         generalize hX : World.alloc V1 _ = V2
         obtain ⟨g12, hg⟩ : ∃ g, g = V1.heap.size := ⟨_, rfl⟩
         have bn12 : Bk V2 g12 #[.int .i64 0, .int .i64 0] 34 := by rw [← hX]; exact Bk.new' hg
         have le12 : W.heap.size ≤ g12 := by rw [hg]; exact HW.out.size
         have nebP_12 : w.heap.size ≠ g12 := by have := bP.lt; omega
         have nebD_12 : w.heap.size + 1 ≠ g12 := by have := bD.lt; omega
         have ne11_12 : g11 ≠ g12 := by have := bn11.lt; omega
         try rw [← hg]
         have hb : Below V1.heap.size V1 V2 := by rw [← hX]; exact (Below.refl _ _).alloc (Nat.le_refl _) _
         clear hX hg
         replace bP := bP.on hb
         replace bD := bD.on hb
         replace bn11 := bn11.on hb
         replace HW := Lib.hid (bel_end HW.out hb)
         clear hb
         refine hK.out _ _ (HSp.out _ bP bD) (fun _ => ?_)
         clear hK Kn)
      | (refine wpAnyH_ready (rs := [4, 11]) (by decide +kernel) (by simp) ?_
         refine AllReadyH.cons (o := { dst := some 17, op := Go.Op.call { callee := Go.Callee.value (Go.Operand.func 83), args := #[Go.Operand.tmp 13, Go.Operand.tmp 14, Go.Operand.tmp 15, Go.Operand.tmp 16], argTypes := #[26, 2, 28, 2] }, type := 34, pos := "l06_arcs.go:52", after := #[{ on := 0, ground := Go.Ground.data }, { on := 1, ground := Go.Ground.data }, { on := 2, ground := Go.Ground.data }, { on := 3, ground := Go.Ground.data }], guard := none }) rfl (fun Kn hK => ?_) ?_
         first | go_at_call 83 | (go_simp; go_at_call 83)
         (with_reducible refine Calls.mono (K1.out _ (bel_end HB.out HW.out)) ?_)
         rintro e V2 ⟨rfl, hb⟩
         try dsimp only
         try simp only [Act.put, List.setIfInBounds_toArray, List.set_cons_zero, List.set_cons_succ]
         replace bP := bP.on hb
         replace bD := bD.on hb
         replace bn12 := bn12.on hb
         replace HW := Lib.hid (bel_end HW.out hb)
         clear hb
         refine hK.out _ _ (HSp.out _ bP bD) (fun _ => ?_)
         clear hK Kn
         rotate_left
         refine AllReadyH.cons (o := { dst := some 10, op := Go.Op.alloc 34, type := 0, pos := "l06_arcs.go:52", after := #[], guard := none }) rfl (fun Kn hK => ?_) AllReadyH.nil
         go_simp
         generalize hX : World.alloc V1 _ = V2
         obtain ⟨g11, hg⟩ : ∃ g, g = V1.heap.size := ⟨_, rfl⟩
         have bn11 : Bk V2 g11 #[.int .i64 0, .int .i64 0] 34 := by rw [← hX]; exact Bk.new' hg
         have le11 : W.heap.size ≤ g11 := by rw [hg]; exact HW.out.size
         have nebP_11 : w.heap.size ≠ g11 := by have := bP.lt; omega
         have nebD_11 : w.heap.size + 1 ≠ g11 := by have := bD.lt; omega
         have ne11_12 : g11 ≠ g12 := by have := bn12.lt; omega
         try rw [← hg]
         have hb : Below V1.heap.size V1 V2 := by rw [← hX]; exact (Below.refl _ _).alloc (Nat.le_refl _) _
         clear hX hg
         replace bP := bP.on hb
         replace bD := bD.on hb
         replace bn12 := bn12.on hb
         replace HW := Lib.hid (bel_end HW.out hb)
         clear hb
         refine hK.out _ _ (HSp.out _ bP bD) (fun _ => ?_)
         clear hK Kn)
    all_goals
      first
      | (refine wpAnyH_ready (rs := [11, 12]) (by decide +kernel) (by simp) ?_
         refine AllReadyH.cons (o := { dst := some 10, op := Go.Op.alloc 34, type := 0, pos := "l06_arcs.go:52", after := #[], guard := none }) rfl (fun Kn hK => ?_) ?_
         go_simp
         generalize hX : World.alloc V2 _ = V3
         obtain ⟨g11, hg⟩ : ∃ g, g = V2.heap.size := ⟨_, rfl⟩
         have bn11 : Bk V3 g11 #[.int .i64 0, .int .i64 0] 34 := by rw [← hX]; exact Bk.new' hg
         have le11 : W.heap.size ≤ g11 := by rw [hg]; exact HW.out.size
         have nebP_11 : w.heap.size ≠ g11 := by have := bP.lt; omega
         have nebD_11 : w.heap.size + 1 ≠ g11 := by have := bD.lt; omega
         try rw [← hg]
         have hb : Below V2.heap.size V2 V3 := by rw [← hX]; exact (Below.refl _ _).alloc (Nat.le_refl _) _
         clear hX hg
         replace bP := bP.on hb
         replace bD := bD.on hb
         replace HW := Lib.hid (bel_end HW.out hb)
         clear hb
         refine hK.out _ _ (HSp.out _ bP bD) (fun _ => ?_)
         clear hK Kn
         rotate_left
         refine AllReadyH.cons (o := { dst := some 11, op := Go.Op.alloc 34, type := 0, pos := "l06_arcs.go:52", after := #[], guard := none }) rfl (fun Kn hK => ?_) AllReadyH.nil
         go_simp
         generalize hX : World.alloc V2 _ = V3
         obtain ⟨g12, hg⟩ : ∃ g, g = V2.heap.size := ⟨_, rfl⟩
         have bn12 : Bk V3 g12 #[.int .i64 0, .int .i64 0] 34 := by rw [← hX]; exact Bk.new' hg
         have le12 : W.heap.size ≤ g12 := by rw [hg]; exact HW.out.size
         have nebP_12 : w.heap.size ≠ g12 := by have := bP.lt; omega
         have nebD_12 : w.heap.size + 1 ≠ g12 := by have := bD.lt; omega
         try rw [← hg]
         have hb : Below V2.heap.size V2 V3 := by rw [← hX]; exact (Below.refl _ _).alloc (Nat.le_refl _) _
         clear hX hg
         replace bP := bP.on hb
         replace bD := bD.on hb
         replace HW := Lib.hid (bel_end HW.out hb)
         clear hb
         refine hK.out _ _ (HSp.out _ bP bD) (fun _ => ?_)
         clear hK Kn)
      | (refine wpAnyH_ready (rs := [10, 12]) (by decide +kernel) (by simp) ?_
         refine AllReadyH.cons (o := { dst := some 23, op := Go.Op.call { callee := Go.Callee.value (Go.Operand.func 83), args := #[Go.Operand.tmp 18, Go.Operand.tmp 19, Go.Operand.tmp 20, Go.Operand.tmp 22], argTypes := #[26, 2, 28, 2] }, type := 34, pos := "l06_arcs.go:52", after := #[{ on := 5, ground := Go.Ground.data }, { on := 6, ground := Go.Ground.data }, { on := 7, ground := Go.Ground.data }, { on := 9, ground := Go.Ground.data }, { on := 4, ground := Go.Ground.chain }], guard := none }) rfl (fun Kn hK => ?_) ?_
         first | go_at_call 83 | (go_simp; go_at_call 83)
         (with_reducible refine Calls.mono (K2.out _ (bel_end HB.out HW.out)) ?_)
         rintro e V3 ⟨rfl, hb⟩
         try dsimp only
         try simp only [Act.put, List.setIfInBounds_toArray, List.set_cons_zero, List.set_cons_succ]
         replace bP := bP.on hb
         replace bD := bD.on hb
         replace bn11 := bn11.on hb
         replace HW := Lib.hid (bel_end HW.out hb)
         clear hb
         refine hK.out _ _ (HSp.out _ bP bD) (fun _ => ?_)
         clear hK Kn
         rotate_left
         refine AllReadyH.cons (o := { dst := some 11, op := Go.Op.alloc 34, type := 0, pos := "l06_arcs.go:52", after := #[], guard := none }) rfl (fun Kn hK => ?_) AllReadyH.nil
         go_simp
         generalize hX : World.alloc V2 _ = V3
         obtain ⟨g12, hg⟩ : ∃ g, g = V2.heap.size := ⟨_, rfl⟩
         have bn12 : Bk V3 g12 #[.int .i64 0, .int .i64 0] 34 := by rw [← hX]; exact Bk.new' hg
         have le12 : W.heap.size ≤ g12 := by rw [hg]; exact HW.out.size
         have nebP_12 : w.heap.size ≠ g12 := by have := bP.lt; omega
         have nebD_12 : w.heap.size + 1 ≠ g12 := by have := bD.lt; omega
         have ne11_12 : g11 ≠ g12 := by have := bn11.lt; omega
         try rw [← hg]
         have hb : Below V2.heap.size V2 V3 := by rw [← hX]; exact (Below.refl _ _).alloc (Nat.le_refl _) _
         clear hX hg
         replace bP := bP.on hb
         replace bD := bD.on hb
         replace bn11 := bn11.on hb
         replace HW := Lib.hid (bel_end HW.out hb)
         clear hb
         refine hK.out _ _ (HSp.out _ bP bD) (fun _ => ?_)
         clear hK Kn)
      | (refine wpAnyH_ready (rs := [10, 11]) (by decide +kernel) (by simp) ?_
         refine AllReadyH.cons (o := { dst := some 23, op := Go.Op.call { callee := Go.Callee.value (Go.Operand.func 83), args := #[Go.Operand.tmp 18, Go.Operand.tmp 19, Go.Operand.tmp 20, Go.Operand.tmp 22], argTypes := #[26, 2, 28, 2] }, type := 34, pos := "l06_arcs.go:52", after := #[{ on := 5, ground := Go.Ground.data }, { on := 6, ground := Go.Ground.data }, { on := 7, ground := Go.Ground.data }, { on := 9, ground := Go.Ground.data }, { on := 4, ground := Go.Ground.chain }], guard := none }) rfl (fun Kn hK => ?_) ?_
         first | go_at_call 83 | (go_simp; go_at_call 83)
         (with_reducible refine Calls.mono (K2.out _ (bel_end HB.out HW.out)) ?_)
         rintro e V3 ⟨rfl, hb⟩
         try dsimp only
         try simp only [Act.put, List.setIfInBounds_toArray, List.set_cons_zero, List.set_cons_succ]
         replace bP := bP.on hb
         replace bD := bD.on hb
         replace bn12 := bn12.on hb
         replace HW := Lib.hid (bel_end HW.out hb)
         clear hb
         refine hK.out _ _ (HSp.out _ bP bD) (fun _ => ?_)
         clear hK Kn
         rotate_left
         refine AllReadyH.cons (o := { dst := some 10, op := Go.Op.alloc 34, type := 0, pos := "l06_arcs.go:52", after := #[], guard := none }) rfl (fun Kn hK => ?_) AllReadyH.nil
         go_simp
         generalize hX : World.alloc V2 _ = V3
         obtain ⟨g11, hg⟩ : ∃ g, g = V2.heap.size := ⟨_, rfl⟩
         have bn11 : Bk V3 g11 #[.int .i64 0, .int .i64 0] 34 := by rw [← hX]; exact Bk.new' hg
         have le11 : W.heap.size ≤ g11 := by rw [hg]; exact HW.out.size
         have nebP_11 : w.heap.size ≠ g11 := by have := bP.lt; omega
         have nebD_11 : w.heap.size + 1 ≠ g11 := by have := bD.lt; omega
         have ne11_12 : g11 ≠ g12 := by have := bn12.lt; omega
         try rw [← hg]
         have hb : Below V2.heap.size V2 V3 := by rw [← hX]; exact (Below.refl _ _).alloc (Nat.le_refl _) _
         clear hX hg
         replace bP := bP.on hb
         replace bD := bD.on hb
         replace bn12 := bn12.on hb
         replace HW := Lib.hid (bel_end HW.out hb)
         clear hb
         refine hK.out _ _ (HSp.out _ bP bD) (fun _ => ?_)
         clear hK Kn)
      | (refine wpAnyH_ready (rs := [4]) (by decide +kernel) (by simp) ?_
         refine AllReadyH.cons (o := { dst := some 17, op := Go.Op.call { callee := Go.Callee.value (Go.Operand.func 83), args := #[Go.Operand.tmp 13, Go.Operand.tmp 14, Go.Operand.tmp 15, Go.Operand.tmp 16], argTypes := #[26, 2, 28, 2] }, type := 34, pos := "l06_arcs.go:52", after := #[{ on := 0, ground := Go.Ground.data }, { on := 1, ground := Go.Ground.data }, { on := 2, ground := Go.Ground.data }, { on := 3, ground := Go.Ground.data }], guard := none }) rfl (fun Kn hK => ?_) AllReadyH.nil
         first | go_at_call 83 | (go_simp; go_at_call 83)
         (with_reducible refine Calls.mono (K1.out _ (bel_end HB.out HW.out)) ?_)
         rintro e V3 ⟨rfl, hb⟩
         try dsimp only
         try simp only [Act.put, List.setIfInBounds_toArray, List.set_cons_zero, List.set_cons_succ]
         replace bP := bP.on hb
         replace bD := bD.on hb
         replace bn11 := bn11.on hb
         replace bn12 := bn12.on hb
         replace HW := Lib.hid (bel_end HW.out hb)
         clear hb
         refine hK.out _ _ (HSp.out _ bP bD) (fun _ => ?_)
         clear hK Kn)
    all_goals
      first
      | (refine wpAnyH_ready (rs := [12]) (by decide +kernel) (by simp) ?_
         refine AllReadyH.cons (o := { dst := some 11, op := Go.Op.alloc 34, type := 0, pos := "l06_arcs.go:52", after := #[], guard := none }) rfl (fun Kn hK => ?_) AllReadyH.nil
         go_simp
         generalize hX : World.alloc V3 _ = V4
         obtain ⟨g12, hg⟩ : ∃ g, g = V3.heap.size := ⟨_, rfl⟩
         have bn12 : Bk V4 g12 #[.int .i64 0, .int .i64 0] 34 := by rw [← hX]; exact Bk.new' hg
         have le12 : W.heap.size ≤ g12 := by rw [hg]; exact HW.out.size
         have nebP_12 : w.heap.size ≠ g12 := by have := bP.lt; omega
         have nebD_12 : w.heap.size + 1 ≠ g12 := by have := bD.lt; omega
         have ne11_12 : g11 ≠ g12 := by have := bn11.lt; omega
         try rw [← hg]
         have hb : Below V3.heap.size V3 V4 := by rw [← hX]; exact (Below.refl _ _).alloc (Nat.le_refl _) _
         clear hX hg
         replace bP := bP.on hb
         replace bD := bD.on hb
         replace bn11 := bn11.on hb
         replace HW := Lib.hid (bel_end HW.out hb)
         clear hb
         refine hK.out _ _ (HSp.out _ bP bD) (fun _ => ?_)
         clear hK Kn)
      | (refine wpAnyH_ready (rs := [11]) (by decide +kernel) (by simp) ?_
         refine AllReadyH.cons (o := { dst := some 10, op := Go.Op.alloc 34, type := 0, pos := "l06_arcs.go:52", after := #[], guard := none }) rfl (fun Kn hK => ?_) AllReadyH.nil
         go_simp
         generalize hX : World.alloc V3 _ = V4
         obtain ⟨g11, hg⟩ : ∃ g, g = V3.heap.size := ⟨_, rfl⟩
         have bn11 : Bk V4 g11 #[.int .i64 0, .int .i64 0] 34 := by rw [← hX]; exact Bk.new' hg
         have le11 : W.heap.size ≤ g11 := by rw [hg]; exact HW.out.size
         have nebP_11 : w.heap.size ≠ g11 := by have := bP.lt; omega
         have nebD_11 : w.heap.size + 1 ≠ g11 := by have := bD.lt; omega
         have ne11_12 : g11 ≠ g12 := by have := bn12.lt; omega
         try rw [← hg]
         have hb : Below V3.heap.size V3 V4 := by rw [← hX]; exact (Below.refl _ _).alloc (Nat.le_refl _) _
         clear hX hg
         replace bP := bP.on hb
         replace bD := bD.on hb
         replace bn12 := bn12.on hb
         replace HW := Lib.hid (bel_end HW.out hb)
         clear hb
         refine hK.out _ _ (HSp.out _ bP bD) (fun _ => ?_)
         clear hK Kn)
      | (refine wpAnyH_ready (rs := [10]) (by decide +kernel) (by simp) ?_
         refine AllReadyH.cons (o := { dst := some 23, op := Go.Op.call { callee := Go.Callee.value (Go.Operand.func 83), args := #[Go.Operand.tmp 18, Go.Operand.tmp 19, Go.Operand.tmp 20, Go.Operand.tmp 22], argTypes := #[26, 2, 28, 2] }, type := 34, pos := "l06_arcs.go:52", after := #[{ on := 5, ground := Go.Ground.data }, { on := 6, ground := Go.Ground.data }, { on := 7, ground := Go.Ground.data }, { on := 9, ground := Go.Ground.data }, { on := 4, ground := Go.Ground.chain }], guard := none }) rfl (fun Kn hK => ?_) AllReadyH.nil
         first | go_at_call 83 | (go_simp; go_at_call 83)
         (with_reducible refine Calls.mono (K2.out _ (bel_end HB.out HW.out)) ?_)
         rintro e V4 ⟨rfl, hb⟩
         try dsimp only
         try simp only [Act.put, List.setIfInBounds_toArray, List.set_cons_zero, List.set_cons_succ]
         replace bP := bP.on hb
         replace bD := bD.on hb
         replace bn11 := bn11.on hb
         replace bn12 := bn12.on hb
         replace HW := Lib.hid (bel_end HW.out hb)
         clear hb
         refine hK.out _ _ (HSp.out _ bP bD) (fun _ => ?_)
         clear hK Kn)
    all_goals
      refine wpAnyH_ready (rs := [13]) (by decide +kernel) (by simp) ?_
      refine AllReadyH.cons (o := { dst := none, op := Go.Op.store 34 (Go.Operand.tmp 10) (Go.Operand.tmp 17), type := 0, pos := "l06_arcs.go:52", after := #[{ on := 11, ground := Go.Ground.data }, { on := 4, ground := Go.Ground.data }, { on := 10, ground := Go.Ground.chain }, { on := 0, ground := Go.Ground.phase }, { on := 1, ground := Go.Ground.phase }, { on := 2, ground := Go.Ground.phase }, { on := 3, ground := Go.Ground.phase }, { on := 4, ground := Go.Ground.phase }, { on := 5, ground := Go.Ground.textOnly Go.Departure.lateStores }, { on := 6, ground := Go.Ground.textOnly Go.Departure.lateStores }, { on := 7, ground := Go.Ground.textOnly Go.Departure.lateStores }, { on := 8, ground := Go.Ground.textOnly Go.Departure.lateStores }, { on := 9, ground := Go.Ground.textOnly Go.Departure.lateStores }, { on := 10, ground := Go.Ground.textOnly Go.Departure.lateStoresUnsure }, { on := 11, ground := Go.Ground.phase }, { on := 12, ground := Go.Ground.phase }], guard := none }) rfl (fun Kn hK => ?_) AllReadyH.nil
      have bn11_0 := bn11.cell 0 rfl
      have bn11_1 := bn11.cell 1 rfl
      have bn11_f0 := bn11.frozen 0
      have bn11_f1 := bn11.frozen 1
      have bn11_l := bn11.lt
      go_simp
      clear bn11_0 bn11_f0 bn11_1 bn11_f1 bn11_l
      generalize hX : World.setCell _ _ _ = V5
      have hb : Below W.heap.size W V5 := by rw [← hX]; exact ((HW.out.setCell (p := ⟨g11, 0, none⟩) le11 _).setCell (p := ⟨g11, 1, none⟩) le11 _)
      replace bP : Bk V5 (w.heap.size) #[.slice (some ⟨p, o, none⟩) zs.length ca, .slice (some ⟨p', o', none⟩) ys.length cb] 26 := by rw [← hX]; exact (Bk.other (Bk.other bP nebP_11 0 _) nebP_11 1 _)
      replace bD : Bk V5 (w.heap.size + 1) #[.int .i64 c, .int .i64 s, .int .i64 h] 28 := by rw [← hX]; exact (Bk.other (Bk.other bD nebD_11 0 _) nebD_11 1 _)
      replace bn12 : Bk V5 (g12) #[.int .i64 0, .int .i64 0] 34 := by rw [← hX]; exact (Bk.other (Bk.other bn12 (Ne.symm ne11_12) 0 _) (Ne.symm ne11_12) 1 _)
      replace bn11 : Bk V5 (g11) #[.int .i64 L1, .int .i64 H1] 34 := by rw [← hX]; exact (Bk.set (Bk.set bn11 0 _ rfl) 1 _ rfl)
      clear hX
      replace HW := Lib.hid hb
      clear hb
      refine hK.out _ _ (HSp.out _ bP bD) (fun _ => ?_)
      clear hK Kn
    all_goals
      refine wpAnyH_ready (rs := [14]) (by decide +kernel) (by simp) ?_
      refine AllReadyH.cons (o := { dst := none, op := Go.Op.store 34 (Go.Operand.tmp 11) (Go.Operand.tmp 23), type := 0, pos := "l06_arcs.go:52", after := #[{ on := 12, ground := Go.Ground.data }, { on := 10, ground := Go.Ground.data }, { on := 13, ground := Go.Ground.chain }, { on := 0, ground := Go.Ground.phase }, { on := 1, ground := Go.Ground.phase }, { on := 2, ground := Go.Ground.phase }, { on := 3, ground := Go.Ground.phase }, { on := 4, ground := Go.Ground.phase }, { on := 5, ground := Go.Ground.phase }, { on := 6, ground := Go.Ground.phase }, { on := 7, ground := Go.Ground.phase }, { on := 8, ground := Go.Ground.phase }, { on := 9, ground := Go.Ground.phase }, { on := 10, ground := Go.Ground.phase }, { on := 11, ground := Go.Ground.phase }, { on := 12, ground := Go.Ground.phase }, { on := 13, ground := Go.Ground.phase }], guard := none }) rfl (fun Kn hK => ?_) AllReadyH.nil
      have bn12_0 := bn12.cell 0 rfl
      have bn12_1 := bn12.cell 1 rfl
      have bn12_f0 := bn12.frozen 0
      have bn12_f1 := bn12.frozen 1
      have bn12_l := bn12.lt
      go_simp
      clear bn12_0 bn12_f0 bn12_1 bn12_f1 bn12_l
      generalize hX : World.setCell _ _ _ = V6
      have hb : Below W.heap.size W V6 := by rw [← hX]; exact ((HW.out.setCell (p := ⟨g12, 0, none⟩) le12 _).setCell (p := ⟨g12, 1, none⟩) le12 _)
      replace bP : Bk V6 (w.heap.size) #[.slice (some ⟨p, o, none⟩) zs.length ca, .slice (some ⟨p', o', none⟩) ys.length cb] 26 := by rw [← hX]; exact (Bk.other (Bk.other bP nebP_12 0 _) nebP_12 1 _)
      replace bD : Bk V6 (w.heap.size + 1) #[.int .i64 c, .int .i64 s, .int .i64 h] 28 := by rw [← hX]; exact (Bk.other (Bk.other bD nebD_12 0 _) nebD_12 1 _)
      replace bn11 : Bk V6 (g11) #[.int .i64 L1, .int .i64 H1] 34 := by rw [← hX]; exact (Bk.other (Bk.other bn11 ne11_12 0 _) ne11_12 1 _)
      replace bn12 : Bk V6 (g12) #[.int .i64 L2, .int .i64 H2] 34 := by rw [← hX]; exact (Bk.set (Bk.set bn12 0 _ rfl) 1 _ rfl)
      clear hX
      replace HW := Lib.hid hb
      clear hb
      refine hK.out _ _ (HSp.out _ bP bD) (fun _ => ?_)
      clear hK Kn
    all_goals
      refine wpAnyH_done (by kernel_rfl) ?_ _
      go_wp2_with fail
      go_meet
      exact ⟨_, _, rfl, rfl, bn11, bn12, le11, le12, HW.out⟩
  case rest =>
    obtain ⟨q1, q2, rfl, rfl, b1, b2, hg1, hg2, hb⟩ := hcut
    have hlR := bR.lt
    have hq1 : w.heap.size + 1 + 1 < q1 := by omega
    have hq2 : w.heap.size + 1 + 1 < q2 := by omega
    replace bP := bP.on hb
    replace bD := bD.on hb
    replace bR := bR.on hb
    replace h1 := kc1 h1 hb
    replace h2 := kc1 h2 hb
    replace h3 := kc1 h3 hb
    replace g1 := kc1 g1 hb
    replace g2 := kc1 g2 hb
    replace g3 := kc1 g3 hb
    replace HB := Lib.hid (bel_end HB.out hb)
    clear hb hg1 hg2 hlR
    have bP_0 := bP.cell 0 rfl
    have bP_1 := bP.cell 1 rfl
    have bD_0 := bD.cell 0 rfl
    go_wp2_with fail
    go_quiet (fail)
    go_wp2_with fail
    clear bP_0 bP_1 bD_0
    generalize hW : World.drewN _ _ = wd
    have hb : Below wc.heap.size wc wd := by rw [← hW]; exact bel_drewN (Below.refl _ _) _
    clear hW
    replace bP := bP.on hb
    replace bD := bD.on hb
    replace bR := bR.on hb
    replace b1 := b1.on hb
    replace b2 := b2.on hb
    replace h1 := kc1 h1 hb
    replace h2 := kc1 h2 hb
    replace h3 := kc1 h3 hb
    replace g1 := kc1 g1 hb
    replace g2 := kc1 g2 hb
    replace g3 := kc1 g3 hb
    replace HB := Lib.hid (bel_end HB.out hb)
    clear hb
    clear bP bD h1 h2 h3 g1 g2 g3
    obtain ⟨S, hSd⟩ : ∃ S : World → Prop, ∀ w', S w' ↔ (w'.cell? ⟨q1, 0, none⟩ = some (.int .i64 L1) ∧ w'.cell? ⟨q1, 1, none⟩ = some (.int .i64 H1) ∧ w'.cell? ⟨q2, 0, none⟩ = some (.int .i64 L2) ∧ w'.cell? ⟨q2, 1, none⟩ = some (.int .i64 H2)) := ⟨_, fun _ => Iff.rfl⟩
    have HSp : Hid (∀ w' : World, Bk w' (q1) #[.int .i64 L1, .int .i64 H1] 34 → Bk w' (q2) #[.int .i64 L2, .int .i64 H2] 34 → S w') := Lib.hid (fun w' b1 b2 => (hSd w').2 ⟨b1.cell 0 rfl, b1.cell 1 rfl, b2.cell 0 rfl, b2.cell 1 rfl⟩)
    have HSd := Lib.hid hSd
    clear hSd
    refine wp_region_held_drew (S := S) (by kernel_rfl) ?_ (fun hH => ?_)
    · exact (HSp.out _ b1 b2 : S (World.drew wd))
    clear hH
    generalize hX : World.drew wd = V0
    replace b1 : Bk V0 (q1) #[.int .i64 L1, .int .i64 H1] 34 := by rw [← hX]; exact b1
    replace b2 : Bk V0 (q2) #[.int .i64 L2, .int .i64 H2] 34 := by rw [← hX]; exact b2
    replace bR : Bk V0 (w.heap.size + 1 + 1) #[.int .i64 0, .int .i64 0] 34 := by rw [← hX]; exact bR
    have hb : Below wd.heap.size wd V0 := by rw [← hX]; exact (Below.refl _ _).drew
    clear hX
    replace HB := Lib.hid (bel_end HB.out hb)
    clear hb
    have hS := HSp.out _ b1 b2
    refine wpAnyH_take (i := 0) (oi := { dst := some 52, op := Go.Op.move (Go.Operand.tmp 12), type := 2, pos := "l06_arcs.go:54", after := #[], guard := none }) (v := ?_) rfl (by kernel_rfl) (by kernel_rfl) (by kernel_rfl) (fun _ _ _ h => h) (Or.inl ⟨by rfl, ?_⟩) hS ?_
    rotate_left
    · (intro w hSw; have hSw := (HSd.out w).1 hSw; go_split_ands; go_simp) <;> with_reducible rfl
    clear hS
    try simp only [Act.put, List.setIfInBounds_toArray, List.set_cons_zero, List.set_cons_succ]
    have hS := HSp.out _ b1 b2
    refine wpAnyH_take (i := 1) (oi := { dst := some 53, op := Go.Op.fieldAddr 34 (Go.Operand.tmp 10) 1, type := 0, pos := "l06_arcs.go:54", after := #[], guard := none }) (v := ?_) rfl (by kernel_rfl) (by kernel_rfl) (by kernel_rfl) (fun _ _ _ h => h) (Or.inl ⟨by rfl, ?_⟩) hS ?_
    rotate_left
    · (intro w hSw; have hSw := (HSd.out w).1 hSw; go_split_ands; go_simp) <;> with_reducible rfl
    clear hS
    try simp only [Act.put, List.setIfInBounds_toArray, List.set_cons_zero, List.set_cons_succ]
    have hS := HSp.out _ b1 b2
    refine wpAnyH_take (i := 2) (oi := { dst := some 54, op := Go.Op.load 2 (Go.Operand.tmp 53), type := 2, pos := "l06_arcs.go:54", after := #[{ on := 1, ground := Go.Ground.data }], guard := none }) (v := ?_) rfl (by kernel_rfl) (by kernel_rfl) (by kernel_rfl) (fun _ _ _ h => h) (Or.inl ⟨by rfl, ?_⟩) hS ?_
    rotate_left
    · (intro w hSw; have hSw := (HSd.out w).1 hSw; go_split_ands; go_simp) <;> with_reducible rfl
    clear hS
    try simp only [Act.put, List.setIfInBounds_toArray, List.set_cons_zero, List.set_cons_succ]
    have hS := HSp.out _ b1 b2
    refine wpAnyH_take (i := 3) (oi := { dst := some 55, op := Go.Op.fieldAddr 34 (Go.Operand.tmp 11) 1, type := 0, pos := "l06_arcs.go:54", after := #[], guard := none }) (v := ?_) rfl (by kernel_rfl) (by kernel_rfl) (by kernel_rfl) (fun _ _ _ h => h) (Or.inl ⟨by rfl, ?_⟩) hS ?_
    rotate_left
    · (intro w hSw; have hSw := (HSd.out w).1 hSw; go_split_ands; go_simp) <;> with_reducible rfl
    clear hS
    try simp only [Act.put, List.setIfInBounds_toArray, List.set_cons_zero, List.set_cons_succ]
    have hS := HSp.out _ b1 b2
    refine wpAnyH_take (i := 4) (oi := { dst := some 56, op := Go.Op.load 2 (Go.Operand.tmp 55), type := 2, pos := "l06_arcs.go:54", after := #[{ on := 3, ground := Go.Ground.data }], guard := none }) (v := ?_) rfl (by kernel_rfl) (by kernel_rfl) (by kernel_rfl) (fun _ _ _ h => h) (Or.inl ⟨by rfl, ?_⟩) hS ?_
    rotate_left
    · (intro w hSw; have hSw := (HSd.out w).1 hSw; go_split_ands; go_simp) <;> with_reducible rfl
    clear hS
    try simp only [Act.put, List.setIfInBounds_toArray, List.set_cons_zero, List.set_cons_succ]
    have hS := HSp.out _ b1 b2
    refine wpAnyH_take (i := 5) (oi := { dst := some 57, op := Go.Op.binOp Go.BinOp.add 2 (Go.Operand.tmp 54) (Go.Operand.tmp 56) 2, type := 2, pos := "l06_arcs.go:54", after := #[{ on := 2, ground := Go.Ground.data }, { on := 4, ground := Go.Ground.data }], guard := none }) (v := ?_) rfl (by kernel_rfl) (by kernel_rfl) (by kernel_rfl) (fun _ _ _ h => h) (Or.inl ⟨by rfl, ?_⟩) hS ?_
    rotate_left
    · (intro w hSw; have hSw := (HSd.out w).1 hSw; go_split_ands; go_simp) <;> with_reducible rfl
    clear hS
    try simp only [Act.put, List.setIfInBounds_toArray, List.set_cons_zero, List.set_cons_succ]
    have hS := HSp.out _ b1 b2
    refine wpAnyH_take (i := 7) (oi := { dst := some 59, op := Go.Op.move (Go.Operand.tmp 12), type := 2, pos := "l06_arcs.go:54", after := #[], guard := none }) (v := ?_) rfl (by kernel_rfl) (by kernel_rfl) (by kernel_rfl) (fun _ _ _ h => h) (Or.inl ⟨by rfl, ?_⟩) hS ?_
    rotate_left
    · (intro w hSw; have hSw := (HSd.out w).1 hSw; go_split_ands; go_simp) <;> with_reducible rfl
    clear hS
    try simp only [Act.put, List.setIfInBounds_toArray, List.set_cons_zero, List.set_cons_succ]
    have hS := HSp.out _ b1 b2
    refine wpAnyH_take (i := 8) (oi := { dst := some 60, op := Go.Op.fieldAddr 34 (Go.Operand.tmp 10) 0, type := 0, pos := "l06_arcs.go:54", after := #[], guard := none }) (v := ?_) rfl (by kernel_rfl) (by kernel_rfl) (by kernel_rfl) (fun _ _ _ h => h) (Or.inl ⟨by rfl, ?_⟩) hS ?_
    rotate_left
    · (intro w hSw; have hSw := (HSd.out w).1 hSw; go_split_ands; go_simp) <;> with_reducible rfl
    clear hS
    try simp only [Act.put, List.setIfInBounds_toArray, List.set_cons_zero, List.set_cons_succ]
    have hS := HSp.out _ b1 b2
    refine wpAnyH_take (i := 9) (oi := { dst := some 61, op := Go.Op.load 2 (Go.Operand.tmp 60), type := 2, pos := "l06_arcs.go:54", after := #[{ on := 8, ground := Go.Ground.data }], guard := none }) (v := ?_) rfl (by kernel_rfl) (by kernel_rfl) (by kernel_rfl) (fun _ _ _ h => h) (Or.inl ⟨by rfl, ?_⟩) hS ?_
    rotate_left
    · (intro w hSw; have hSw := (HSd.out w).1 hSw; go_split_ands; go_simp) <;> with_reducible rfl
    clear hS
    try simp only [Act.put, List.setIfInBounds_toArray, List.set_cons_zero, List.set_cons_succ]
    have hS := HSp.out _ b1 b2
    refine wpAnyH_take (i := 10) (oi := { dst := some 62, op := Go.Op.fieldAddr 34 (Go.Operand.tmp 11) 0, type := 0, pos := "l06_arcs.go:54", after := #[], guard := none }) (v := ?_) rfl (by kernel_rfl) (by kernel_rfl) (by kernel_rfl) (fun _ _ _ h => h) (Or.inl ⟨by rfl, ?_⟩) hS ?_
    rotate_left
    · (intro w hSw; have hSw := (HSd.out w).1 hSw; go_split_ands; go_simp) <;> with_reducible rfl
    clear hS
    try simp only [Act.put, List.setIfInBounds_toArray, List.set_cons_zero, List.set_cons_succ]
    have hS := HSp.out _ b1 b2
    refine wpAnyH_take (i := 11) (oi := { dst := some 63, op := Go.Op.load 2 (Go.Operand.tmp 62), type := 2, pos := "l06_arcs.go:54", after := #[{ on := 10, ground := Go.Ground.data }], guard := none }) (v := ?_) rfl (by kernel_rfl) (by kernel_rfl) (by kernel_rfl) (fun _ _ _ h => h) (Or.inl ⟨by rfl, ?_⟩) hS ?_
    rotate_left
    · (intro w hSw; have hSw := (HSd.out w).1 hSw; go_split_ands; go_simp) <;> with_reducible rfl
    clear hS
    try simp only [Act.put, List.setIfInBounds_toArray, List.set_cons_zero, List.set_cons_succ]
    have hS := HSp.out _ b1 b2
    refine wpAnyH_take (i := 12) (oi := { dst := some 64, op := Go.Op.binOp Go.BinOp.add 2 (Go.Operand.tmp 61) (Go.Operand.tmp 63) 2, type := 2, pos := "l06_arcs.go:54", after := #[{ on := 9, ground := Go.Ground.data }, { on := 11, ground := Go.Ground.data }], guard := none }) (v := ?_) rfl (by kernel_rfl) (by kernel_rfl) (by kernel_rfl) (fun _ _ _ h => h) (Or.inl ⟨by rfl, ?_⟩) hS ?_
    rotate_left
    · (intro w hSw; have hSw := (HSd.out w).1 hSw; go_split_ands; go_simp) <;> with_reducible rfl
    clear hS
    try simp only [Act.put, List.setIfInBounds_toArray, List.set_cons_zero, List.set_cons_succ]
    refine wpAnyH_ready (rs := [6]) (by decide +kernel) (by simp) ?_
    refine AllReadyH.cons (o := { dst := some 58, op := Go.Op.call { callee := Go.Callee.value (Go.Operand.func 84), args := #[Go.Operand.tmp 52, Go.Operand.tmp 57], argTypes := #[2, 2] }, type := 2, pos := "l06_arcs.go:54", after := #[{ on := 0, ground := Go.Ground.data }, { on := 5, ground := Go.Ground.data }], guard := none }) rfl (fun Kn hK => ?_) AllReadyH.nil
    first | go_at_call 84 | (go_simp; go_at_call 84)
    (with_reducible refine Calls.mono (KF.out _) ?_)
    rintro e V1 ⟨rfl, hw⟩
    have hb : Below V0.heap.size V0 V1 := hw ▸ Below.refl _ _
    clear hw
    try dsimp only
    try simp only [Act.put, List.setIfInBounds_toArray, List.set_cons_zero, List.set_cons_succ]
    replace b1 := b1.on hb
    replace b2 := b2.on hb
    replace bR := bR.on hb
    replace HB := Lib.hid (bel_end HB.out hb)
    clear hb
    refine hK.out _ _ (HSp.out _ b1 b2) (fun _ => ?_)
    clear hK Kn
    refine wpAnyH_ready (rs := [13]) (by decide +kernel) (by simp) ?_
    refine AllReadyH.cons (o := { dst := some 65, op := Go.Op.call { callee := Go.Callee.value (Go.Operand.func 85), args := #[Go.Operand.tmp 59, Go.Operand.tmp 64], argTypes := #[2, 2] }, type := 2, pos := "l06_arcs.go:54", after := #[{ on := 7, ground := Go.Ground.data }, { on := 12, ground := Go.Ground.data }, { on := 6, ground := Go.Ground.chain }], guard := none }) rfl (fun Kn hK => ?_) AllReadyH.nil
    first | go_at_call 85 | (go_simp; go_at_call 85)
    (with_reducible refine Calls.mono (KC.out _) ?_)
    rintro e V2 ⟨rfl, hw⟩
    have hb : Below V1.heap.size V1 V2 := hw ▸ Below.refl _ _
    clear hw
    try dsimp only
    try simp only [Act.put, List.setIfInBounds_toArray, List.set_cons_zero, List.set_cons_succ]
    replace b1 := b1.on hb
    replace b2 := b2.on hb
    replace bR := bR.on hb
    replace HB := Lib.hid (bel_end HB.out hb)
    clear hb
    refine hK.out _ _ (HSp.out _ b1 b2) (fun _ => ?_)
    clear hK Kn
    refine wpAnyH_ready (rs := [14]) (by decide +kernel) (by simp) ?_
    refine AllReadyH.cons (o := { dst := some 66, op := Go.Op.call { callee := Go.Callee.value (Go.Operand.func 48), args := #[Go.Operand.tmp 58, Go.Operand.tmp 65], argTypes := #[2, 2] }, type := 35, pos := "l06_arcs.go:54", after := #[{ on := 6, ground := Go.Ground.data }, { on := 13, ground := Go.Ground.data }, { on := 13, ground := Go.Ground.chain }], guard := none }) rfl (fun Kn hK => ?_) AllReadyH.nil
    first | go_at_call 48 | (go_simp; go_at_call 48)
    (with_reducible refine Calls.mono (KL.out _) ?_)
    rintro e V3 ⟨rfl, hb⟩
    try dsimp only
    try simp only [Act.put, List.setIfInBounds_toArray, List.set_cons_zero, List.set_cons_succ]
    replace b1 := b1.on hb
    replace b2 := b2.on hb
    replace bR := bR.on hb
    replace HB := Lib.hid (bel_end HB.out hb)
    clear hb
    refine hK.out _ _ (HSp.out _ b1 b2) (fun _ => ?_)
    clear hK Kn
    have hS := HSp.out _ b1 b2
    refine wpAnyH_take (i := 15) (oi := { dst := some 67, op := Go.Op.extract (Go.Operand.tmp 66) 0, type := 34, pos := "l06_arcs.go:54", after := #[{ on := 14, ground := Go.Ground.data }], guard := none }) (v := ?_) rfl (by kernel_rfl) (by kernel_rfl) (by kernel_rfl) (fun _ _ _ h => h) (Or.inl ⟨by rfl, ?_⟩) hS ?_
    rotate_left
    · (intro w hSw; have hSw := (HSd.out w).1 hSw; go_split_ands; go_simp) <;> with_reducible rfl
    clear hS
    try simp only [Act.put, List.setIfInBounds_toArray, List.set_cons_zero, List.set_cons_succ]
    have hS := HSp.out _ b1 b2
    refine wpAnyH_take (i := 16) (oi := { dst := some 68, op := Go.Op.extract (Go.Operand.tmp 66) 1, type := 2, pos := "l06_arcs.go:54", after := #[{ on := 14, ground := Go.Ground.data }], guard := none }) (v := ?_) rfl (by kernel_rfl) (by kernel_rfl) (by kernel_rfl) (fun _ _ _ h => h) (Or.inl ⟨by rfl, ?_⟩) hS ?_
    rotate_left
    · (intro w hSw; have hSw := (HSd.out w).1 hSw; go_split_ands; go_simp) <;> with_reducible rfl
    clear hS
    try simp only [Act.put, List.setIfInBounds_toArray, List.set_cons_zero, List.set_cons_succ]
    refine wpAnyH_ready (rs := [17]) (by decide +kernel) (by simp) ?_
    refine AllReadyH.cons (o := { dst := none, op := Go.Op.store 34 (Go.Operand.tmp 8) (Go.Operand.tmp 67), type := 0, pos := "l06_arcs.go:54", after := #[{ on := 15, ground := Go.Ground.data }, { on := 14, ground := Go.Ground.chain }, { on := 0, ground := Go.Ground.phase }, { on := 1, ground := Go.Ground.phase }, { on := 2, ground := Go.Ground.phase }, { on := 3, ground := Go.Ground.phase }, { on := 4, ground := Go.Ground.phase }, { on := 5, ground := Go.Ground.phase }, { on := 6, ground := Go.Ground.phase }, { on := 7, ground := Go.Ground.phase }, { on := 8, ground := Go.Ground.phase }, { on := 9, ground := Go.Ground.phase }, { on := 10, ground := Go.Ground.phase }, { on := 11, ground := Go.Ground.phase }, { on := 12, ground := Go.Ground.phase }, { on := 13, ground := Go.Ground.phase }, { on := 14, ground := Go.Ground.phase }, { on := 15, ground := Go.Ground.phase }, { on := 16, ground := Go.Ground.phase }], guard := none }) rfl (fun Kn hK => ?_) AllReadyH.nil
    have bR_0 := bR.cell 0 rfl
    have bR_1 := bR.cell 1 rfl
    have bR_f0 := bR.frozen 0
    have bR_f1 := bR.frozen 1
    have bR_l := bR.lt
    go_simp
    clear bR_0 bR_f0 bR_1 bR_f1 bR_l
    generalize hX : World.setCell _ _ _ = V4
    have hb : Below w.heap.size w V4 := by rw [← hX]; exact ((HB.out.setCell (p := ⟨w.heap.size + 1 + 1, 0, none⟩) (by first | omega | (dsimp only; omega)) _).setCell (p := ⟨w.heap.size + 1 + 1, 1, none⟩) (by first | omega | (dsimp only; omega)) _)
    replace b1 : Bk V4 (q1) #[.int .i64 L1, .int .i64 H1] 34 := by rw [← hX]; exact (Bk.other (Bk.other b1 (by omega) 0 _) (by omega) 1 _)
    replace b2 : Bk V4 (q2) #[.int .i64 L2, .int .i64 H2] 34 := by rw [← hX]; exact (Bk.other (Bk.other b2 (by omega) 0 _) (by omega) 1 _)
    replace bR : Bk V4 (w.heap.size + 1 + 1) #[.int .i64 x, .int .i64 y] 34 := by rw [← hX]; exact (Bk.set (Bk.set bR 0 _ rfl) 1 _ rfl)
    clear hX
    replace HB := Lib.hid hb
    clear hb
    refine hK.out _ _ (HSp.out _ b1 b2) (fun _ => ?_)
    clear hK Kn
    have hS := HSp.out _ b1 b2
    refine wpAnyH_take (i := 18) (oi := { dst := some 9, op := Go.Op.assign (Go.Operand.tmp 68), type := 2, pos := "l06_arcs.go:54", after := #[{ on := 16, ground := Go.Ground.data }, { on := 17, ground := Go.Ground.chain }, { on := 0, ground := Go.Ground.phase }, { on := 1, ground := Go.Ground.phase }, { on := 2, ground := Go.Ground.phase }, { on := 3, ground := Go.Ground.phase }, { on := 4, ground := Go.Ground.phase }, { on := 5, ground := Go.Ground.phase }, { on := 6, ground := Go.Ground.phase }, { on := 7, ground := Go.Ground.phase }, { on := 8, ground := Go.Ground.phase }, { on := 9, ground := Go.Ground.phase }, { on := 10, ground := Go.Ground.phase }, { on := 11, ground := Go.Ground.phase }, { on := 12, ground := Go.Ground.phase }, { on := 13, ground := Go.Ground.phase }, { on := 14, ground := Go.Ground.phase }, { on := 15, ground := Go.Ground.phase }, { on := 16, ground := Go.Ground.phase }, { on := 17, ground := Go.Ground.phase }], guard := none }) (v := ?_) rfl (by kernel_rfl) (by kernel_rfl) (by kernel_rfl) (fun _ _ _ h => h) (Or.inl ⟨by rfl, ?_⟩) hS ?_
    rotate_left
    · (intro w hSw; have hSw := (HSd.out w).1 hSw; go_split_ands; go_simp) <;> with_reducible rfl
    clear hS
    try simp only [Act.put, List.setIfInBounds_toArray, List.set_cons_zero, List.set_cons_succ]
    refine wpAnyH_done (by kernel_rfl) ?_ _
    have c2 := bR.cell 0 rfl
    have c3 := bR.cell 1 rfl
    go_wp2
    exact bodyPost_ret (v := .tuple #[.agg #[.int .i64 x, .int .i64 y], .int .i64 e0]) (by simp [results, Tryz.results76, go_sem, c2, c3]) rfl ⟨rfl, HB.out⟩

set_option maxRecDepth 100000 in
set_option maxHeartbeats 8000000 in
theorem ltu_any (w : World) (a b : Option Addr) (ca cb : Nat) (zs ys : List Int) (i l : Nat) (c s h : Int) (ab : Bool) (hp : Prof w w.heap.size a b zs ys) (r : RyOk zs ys i c s h) (hl : l + 1 < zs.length) (e1 : crB ys (i : Int) c h (anr l ab : Nat) = true) (e2 : crB ys (i : Int) c h (afr l ab : Nat) = false) :
    Calls Tryz.prog 77 #[.agg #[.slice a zs.length ca, .slice b ys.length cb], .int .i64 (i : Int), .agg #[.int .i64 c, .int .i64 s, .int .i64 h], .int .i64 (l : Int), .bool ab] w fun e w' => e = .returned (.tuple #[.agg #[.int .i64 (lim (tnLo zs ys i c h l ab) (tnHi zs ys i c h l ab)).1, .int .i64 (lim (tnLo zs ys i c h l ab) (tnHi zs ys i c h l ab)).2.1], .int .i64 (lim (tnLo zs ys i c h l ab) (tnHi zs ys i c h l ab)).2.2]) ∧ Below w.heap.size w w' := by
  have HP := Lib.hid hp
  have hz := r.z hl
  have hZ : zD zs l = zs.getD (l + 1) 0 - zs.getD l 0 := rfl
  obtain ⟨t1, t2, t3, t4, -⟩ := r.turn e1 e2
  have g := r.sn e1
  have a1 := g.l1
  have a2 := g.l2
  have a3 := g.lh
  have a4 := g.h2
  clear g
  have hly := r.ok.len
  have hn := anr_lt (ab := ab) hl
  have hf := afr_lt (ab := ab) hl
  have u1 := r.ok.shi (anr l ab)
  have u2 := r.ok.sge (anr l ab)
  have u3 := r.ok.shi (afr l ab)
  have u4 := r.ok.sge (afr l ab)
  have h12 := r.ok.n12
  have q1 := r.od.c1
  have q2 := r.od.c2
  have q3 := r.od.h2
  have hR : riS ys c (anr l ab) (afr l ab) = c * (ys.getD (afr l ab) 0 - ys.getD (anr l ab) 0) := rfl
  unfold tnLo tnHi
  have K0 : Hid (∀ w : World, Calls Tryz.prog 68 #[.int .i64 (l : Int), .bool ab] w fun e w' => e = .returned (.tuple #[.int .i64 (anr l ab : Int), .int .i64 (afr l ab : Int)]) ∧ w = w') := Lib.hid (fun w => les_any l ab (by omega) w)
  have K1 : Hid (∀ W : World, Below w.heap.size w W → Calls Tryz.prog 83 #[.agg #[.slice a zs.length ca, .slice b ys.length cb], .int .i64 (i : Int), .agg #[.int .i64 c, .int .i64 s, .int .i64 h], .int .i64 (anr l ab : Int)] W fun e w' => e = .returned (.agg #[.int .i64 (sLo ys i c h (anr l ab)), .int .i64 (sHi ys i c h (anr l ab))]) ∧ Below W.heap.size W w') := Lib.hid (fun W hb => lsn_any W a b ca cb zs ys i (anr l ab) c s h (HP.out.on hb) r.ok r.hi hn r.od (crB_lt e1))
  obtain ⟨p, o, p', o', rfl, rfl, hlp, hlq, h1, h2, h3, g1, g2, g3⟩ := six_at HP.out (k1 := l) (k2 := l + 1) (k3 := l) (l1 := anr l ab) (l2 := afr l ab) (l3 := anr l ab) (by omega) hl (by omega) (by omega) (by omega) (by omega)
  obtain ⟨L1, e⟩ : ∃ q, sLo ys i c h (anr l ab) = q := ⟨_, rfl⟩
  rw [e] at K1 a1 a2 a3 a4 ⊢
  clear e
  obtain ⟨H1, e⟩ : ∃ q, sHi ys i c h (anr l ab) = q := ⟨_, rfl⟩
  rw [e] at K1 a3 a4 ⊢
  clear e
  obtain ⟨R, e⟩ : ∃ q, riS ys c (anr l ab) (afr l ab) = q := ⟨_, rfl⟩
  rw [e] at hR t1 t3 t4 ⊢
  clear e
  clear e1 e2
  obtain ⟨n, e⟩ : ∃ q, anr l ab = q := ⟨_, rfl⟩
  rw [e] at K0 K1 hn u1 u2 hR t1 t2 t3 g1 g3
  clear e
  obtain ⟨ff, e⟩ : ∃ q, afr l ab = q := ⟨_, rfl⟩
  rw [e] at K0 hf u3 u4 hR t1 g2
  clear e
  obtain ⟨dj, e⟩ : ∃ q, zs.getD l 0 = q := ⟨_, rfl⟩
  rw [e] at h1 h3 hZ
  clear e
  obtain ⟨dk, e⟩ : ∃ q, zs.getD (l + 1) 0 = q := ⟨_, rfl⟩
  rw [e] at h2 hZ
  clear e
  obtain ⟨un, e⟩ : ∃ q, ys.getD n 0 = q := ⟨_, rfl⟩
  rw [e] at g1 g3 hR u1 u2 t1 t2 t3
  clear e
  obtain ⟨uf, e⟩ : ∃ q, ys.getD ff 0 = q := ⟨_, rfl⟩
  rw [e] at g2 hR u3 u4 t1
  clear e
  obtain ⟨Z, e⟩ : ∃ q, zD zs l = q := ⟨_, rfl⟩
  rw [e] at hZ hz ⊢
  clear e
  have w1 : IntKind.wrap .i64 (dk - dj) = Z := by rw [← hZ]; exact IntWalk.i64_in _ (by omega)
  have tz : 0 ≤ 2 * Z ∧ 2 * Z ≤ 2000000 := by omega
  obtain ⟨TZ, e⟩ : ∃ q, 2 * Z = q := ⟨_, rfl⟩
  rw [e] at tz ⊢
  have w_TZ : IntKind.wrap .i64 (2 * Z) = TZ := by rw [e]; exact IntWalk.i64_in _ (by omega)
  clear e
  have m1 := mul_in (a := TZ) (b := L1) (A := 2000000) (B := 2000000001) (by omega) (by omega) (by omega) (by omega)
  have m2 := mul_in (a := TZ) (b := H1) (A := 2000000) (B := 2000000001) (by omega) (by omega) (by omega) (by omega)
  obtain ⟨P1, e⟩ : ∃ q, TZ * L1 = q := ⟨_, rfl⟩
  rw [e] at m1 ⊢
  have w_P1 : IntKind.wrap .i64 (TZ * L1) = P1 := by rw [e]; exact IntWalk.i64_in _ (by omega)
  clear e
  obtain ⟨P2, e⟩ : ∃ q, TZ * H1 = q := ⟨_, rfl⟩
  rw [e] at m2 ⊢
  have w_P2 : IntKind.wrap .i64 (TZ * H1) = P2 := by rw [e]; exact IntWalk.i64_in _ (by omega)
  clear e
  have uu : -1700000 ≤ uf - un ∧ uf - un ≤ 1700000 := by omega
  obtain ⟨G, e⟩ : ∃ q, uf - un = q := ⟨_, rfl⟩
  rw [e] at hR uu
  have w_G : IntKind.wrap .i64 (uf - un) = G := by rw [e]; exact IntWalk.i64_in _ (by omega)
  clear e
  have w7 : IntKind.wrap .i64 (c * G) = R := by rw [← hR]; exact IntWalk.i64_in _ (by omega)
  have KF : Hid (∀ W : World, Calls Tryz.prog 84 #[.int .i64 P1, .int .i64 R] W fun e w' => e = .returned (.int .i64 (P1.fdiv R)) ∧ W = w') := Lib.hid (fun W => lfl_any P1 R (by omega) (by omega) (by omega) (by omega) (by omega) W)
  have KC : Hid (∀ W : World, Calls Tryz.prog 85 #[.int .i64 P2, .int .i64 R] W fun e w' => e = .returned (.int .i64 (cdiv P2 R)) ∧ W = w') := Lib.hid (fun W => lce_any P2 R (by omega) (by omega) (by omega) (by omega) (by omega) W)
  obtain ⟨F, e⟩ : ∃ q, P1.fdiv R = q := ⟨_, rfl⟩
  rw [e] at KF ⊢
  clear e
  obtain ⟨C, e⟩ : ∃ q, cdiv P2 R = q := ⟨_, rfl⟩
  rw [e] at KC ⊢
  clear e
  have KL : Hid (∀ W : World, Calls Tryz.prog 48 #[.int .i64 F, .int .i64 C] W fun e w' => e = .returned (.tuple #[.agg #[.int .i64 (lim F C).1, .int .i64 (lim F C).2.1], .int .i64 (lim F C).2.2]) ∧ Below W.heap.size W w') := Lib.hid (fun W => llm_any F C W)
  obtain ⟨⟨x, y, e0⟩, hL⟩ : ∃ v, lim F C = v := ⟨_, rfl⟩
  rw [hL] at KL ⊢
  have i1 : (0 : Int) ≤ (l : Int) + 1 := by omega
  have i2 : ((l : Int) + 1).toNat = l + 1 := by omega
  have i3 : (l : Int) + 1 < (zs.length : Int) := by omega
  have i4 : (l : Int) < (zs.length : Int) := by omega
  have i6 : (n : Int) < (ys.length : Int) := by omega
  have i7 : (ff : Int) < (ys.length : Int) := by omega
  have ew : IntKind.wrap .i64 ((l : Int) + 1) = (l : Int) + 1 := IntWalk.i64_in _ (by omega)
  clear hL hR hZ hz hly u1 u2 u3 u4 h12 q1 q2 q3 m1 m2 tz uu a1 a2 a3 a4 t1 t2 t3 t4 hn hf r hl hp
  go_enter Tryz.func77, Tryz.ntmps77
  go_wp2_with (go_at_call 68; (with_reducible refine Calls.mono (K0.out _) ?_); rintro e w' ⟨rfl, hw⟩; subst hw)
  generalize hW : World.alloc _ _ = W
  have bP : Bk W (w.heap.size) #[.slice (some ⟨p, o, none⟩) zs.length ca, .slice (some ⟨p', o', none⟩) ys.length cb] 26 := by rw [← hW]; repeat (first | (refine Bk.new' ?_; (simp; done)) | refine Bk.alloc ?_ _)
  have bD : Bk W (w.heap.size + 1) #[.int .i64 c, .int .i64 s, .int .i64 h] 28 := by rw [← hW]; repeat (first | (refine Bk.new' ?_; (simp; done)) | refine Bk.alloc ?_ _)
  have bR : Bk W (w.heap.size + 1 + 1) #[.int .i64 0, .int .i64 0] 34 := by rw [← hW]; repeat (first | (refine Bk.new' ?_; (simp; done)) | refine Bk.alloc ?_ _)
  have HB : Hid (Below w.heap.size w W) := Lib.hid (by rw [← hW]; exact (by repeat (first | exact Below.refl _ _ | (refine Below.alloc ?_ (by simp <;> omega) _) | (refine Below.setCell ?_ (by simp <;> omega) _) | (refine Below.drew ?_) | (refine bel_drewN ?_ _))))
  clear hW
  replace h1 := kc1 h1 HB.out
  replace h2 := kc1 h2 HB.out
  replace h3 := kc1 h3 HB.out
  replace g1 := kc1 g1 HB.out
  replace g2 := kc1 g2 HB.out
  replace g3 := kc1 g3 HB.out
  (with_reducible refine Calls.mono (K1.out _ HB.out) ?_)
  rintro e wa ⟨rfl, hb⟩
  replace bP := bP.on hb
  replace bD := bD.on hb
  replace bR := bR.on hb
  replace h1 := kc1 h1 hb
  replace h2 := kc1 h2 hb
  replace h3 := kc1 h3 hb
  replace g1 := kc1 g1 hb
  replace g2 := kc1 g2 hb
  replace g3 := kc1 g3 hb
  replace HB := Lib.hid (bel_end HB.out hb)
  clear hb
  go_upto_region 3 with fail
  generalize hW : World.alloc _ _ = W2
  obtain ⟨q1, hg⟩ : ∃ g, g = wa.heap.size := ⟨_, rfl⟩
  have b1 : Bk W2 q1 #[.int .i64 L1, .int .i64 H1] 34 := by rw [← hW]; exact Bk.new' hg
  have hq1 : w.heap.size + 1 + 1 < q1 := by have := bR.lt; omega
  have hb : Below wa.heap.size wa W2 := by rw [← hW]; exact (Below.refl _ _).alloc (Nat.le_refl _) _
  try rw [← hg]
  clear hW hg
  replace bP := bP.on hb
  replace bD := bD.on hb
  replace bR := bR.on hb
  replace h1 := kc1 h1 hb
  replace h2 := kc1 h2 hb
  replace h3 := kc1 h3 hb
  replace g1 := kc1 g1 hb
  replace g2 := kc1 g2 hb
  replace g3 := kc1 g3 hb
  replace HB := Lib.hid (bel_end HB.out hb)
  clear hb
  have bP_0 := bP.cell 0 rfl
  have bP_1 := bP.cell 1 rfl
  have bD_0 := bD.cell 0 rfl
  go_wp2_with fail
  go_quiet (fail)
  go_wp2_with fail
  clear bP_0 bP_1 bD_0
  generalize hW : World.drewN _ _ = wd
  have hb : Below W2.heap.size W2 wd := by rw [← hW]; exact bel_drewN (Below.refl _ _) _
  clear hW
  replace bP := bP.on hb
  replace bD := bD.on hb
  replace bR := bR.on hb
  replace b1 := b1.on hb
  replace h1 := kc1 h1 hb
  replace h2 := kc1 h2 hb
  replace h3 := kc1 h3 hb
  replace g1 := kc1 g1 hb
  replace g2 := kc1 g2 hb
  replace g3 := kc1 g3 hb
  replace HB := Lib.hid (bel_end HB.out hb)
  clear hb
  have bP_0 := bP.cell 0 rfl
  have bP_1 := bP.cell 1 rfl
  have bD_0 := bD.cell 0 rfl
  go_quiet (fail)
  go_wp2_with fail
  clear bP_0 bP_1 bD_0
  generalize hW : World.drewN _ _ = we
  have hb : Below wd.heap.size wd we := by rw [← hW]; exact bel_drewN (Below.refl _ _) _
  clear hW
  replace bP := bP.on hb
  replace bD := bD.on hb
  replace bR := bR.on hb
  replace b1 := b1.on hb
  replace h1 := kc1 h1 hb
  replace h2 := kc1 h2 hb
  replace h3 := kc1 h3 hb
  replace g1 := kc1 g1 hb
  replace g2 := kc1 g2 hb
  replace g3 := kc1 g3 hb
  replace HB := Lib.hid (bel_end HB.out hb)
  clear hb
  clear bP bD h1 h2 h3 g1 g2 g3
  obtain ⟨S, hSd⟩ : ∃ S : World → Prop, ∀ w', S w' ↔ (w'.cell? ⟨q1, 0, none⟩ = some (.int .i64 L1) ∧ w'.cell? ⟨q1, 1, none⟩ = some (.int .i64 H1)) := ⟨_, fun _ => Iff.rfl⟩
  have HSp : Hid (∀ w' : World, Bk w' (q1) #[.int .i64 L1, .int .i64 H1] 34 → S w') := Lib.hid (fun w' b1 => (hSd w').2 ⟨b1.cell 0 rfl, b1.cell 1 rfl⟩)
  have HSd := Lib.hid hSd
  clear hSd
  refine wp_region_held_drew (S := S) (by kernel_rfl) ?_ (fun hH => ?_)
  · exact (HSp.out _ b1 : S (World.drew we))
  clear hH
  generalize hX : World.drew we = V0
  replace b1 : Bk V0 (q1) #[.int .i64 L1, .int .i64 H1] 34 := by rw [← hX]; exact b1
  replace bR : Bk V0 (w.heap.size + 1 + 1) #[.int .i64 0, .int .i64 0] 34 := by rw [← hX]; exact bR
  have hb : Below we.heap.size we V0 := by rw [← hX]; exact (Below.refl _ _).drew
  clear hX
  replace HB := Lib.hid (bel_end HB.out hb)
  clear hb
  have hS := HSp.out _ b1
  refine wpAnyH_take (i := 0) (oi := { dst := some 55, op := Go.Op.move (Go.Operand.tmp 15), type := 2, pos := "l06_arcs.go:63", after := #[], guard := none }) (v := ?_) rfl (by kernel_rfl) (by kernel_rfl) (by kernel_rfl) (fun _ _ _ h => h) (Or.inl ⟨by rfl, ?_⟩) hS ?_
  rotate_left
  · (intro w hSw; have hSw := (HSd.out w).1 hSw; go_split_ands; go_simp) <;> with_reducible rfl
  clear hS
  try simp only [Act.put, List.setIfInBounds_toArray, List.set_cons_zero, List.set_cons_succ]
  have hS := HSp.out _ b1
  refine wpAnyH_take (i := 1) (oi := { dst := some 56, op := Go.Op.fieldAddr 34 (Go.Operand.tmp 14) 0, type := 0, pos := "l06_arcs.go:63", after := #[], guard := none }) (v := ?_) rfl (by kernel_rfl) (by kernel_rfl) (by kernel_rfl) (fun _ _ _ h => h) (Or.inl ⟨by rfl, ?_⟩) hS ?_
  rotate_left
  · (intro w hSw; have hSw := (HSd.out w).1 hSw; go_split_ands; go_simp) <;> with_reducible rfl
  clear hS
  try simp only [Act.put, List.setIfInBounds_toArray, List.set_cons_zero, List.set_cons_succ]
  have hS := HSp.out _ b1
  refine wpAnyH_take (i := 2) (oi := { dst := some 57, op := Go.Op.load 2 (Go.Operand.tmp 56), type := 2, pos := "l06_arcs.go:63", after := #[{ on := 1, ground := Go.Ground.data }], guard := none }) (v := ?_) rfl (by kernel_rfl) (by kernel_rfl) (by kernel_rfl) (fun _ _ _ h => h) (Or.inl ⟨by rfl, ?_⟩) hS ?_
  rotate_left
  · (intro w hSw; have hSw := (HSd.out w).1 hSw; go_split_ands; go_simp) <;> with_reducible rfl
  clear hS
  try simp only [Act.put, List.setIfInBounds_toArray, List.set_cons_zero, List.set_cons_succ]
  have hS := HSp.out _ b1
  refine wpAnyH_take (i := 3) (oi := { dst := some 58, op := Go.Op.binOp Go.BinOp.mul 2 (Go.Operand.tmp 55) (Go.Operand.tmp 57) 2, type := 2, pos := "l06_arcs.go:63", after := #[{ on := 0, ground := Go.Ground.data }, { on := 2, ground := Go.Ground.data }], guard := none }) (v := ?_) rfl (by kernel_rfl) (by kernel_rfl) (by kernel_rfl) (fun _ _ _ h => h) (Or.inl ⟨by rfl, ?_⟩) hS ?_
  rotate_left
  · (intro w hSw; have hSw := (HSd.out w).1 hSw; go_split_ands; go_simp) <;> with_reducible rfl
  clear hS
  try simp only [Act.put, List.setIfInBounds_toArray, List.set_cons_zero, List.set_cons_succ]
  have hS := HSp.out _ b1
  refine wpAnyH_take (i := 4) (oi := { dst := some 59, op := Go.Op.move (Go.Operand.tmp 16), type := 2, pos := "l06_arcs.go:63", after := #[], guard := none }) (v := ?_) rfl (by kernel_rfl) (by kernel_rfl) (by kernel_rfl) (fun _ _ _ h => h) (Or.inl ⟨by rfl, ?_⟩) hS ?_
  rotate_left
  · (intro w hSw; have hSw := (HSd.out w).1 hSw; go_split_ands; go_simp) <;> with_reducible rfl
  clear hS
  try simp only [Act.put, List.setIfInBounds_toArray, List.set_cons_zero, List.set_cons_succ]
  have hS := HSp.out _ b1
  refine wpAnyH_take (i := 6) (oi := { dst := some 61, op := Go.Op.move (Go.Operand.tmp 15), type := 2, pos := "l06_arcs.go:63", after := #[], guard := none }) (v := ?_) rfl (by kernel_rfl) (by kernel_rfl) (by kernel_rfl) (fun _ _ _ h => h) (Or.inl ⟨by rfl, ?_⟩) hS ?_
  rotate_left
  · (intro w hSw; have hSw := (HSd.out w).1 hSw; go_split_ands; go_simp) <;> with_reducible rfl
  clear hS
  try simp only [Act.put, List.setIfInBounds_toArray, List.set_cons_zero, List.set_cons_succ]
  have hS := HSp.out _ b1
  refine wpAnyH_take (i := 7) (oi := { dst := some 62, op := Go.Op.fieldAddr 34 (Go.Operand.tmp 14) 1, type := 0, pos := "l06_arcs.go:63", after := #[], guard := none }) (v := ?_) rfl (by kernel_rfl) (by kernel_rfl) (by kernel_rfl) (fun _ _ _ h => h) (Or.inl ⟨by rfl, ?_⟩) hS ?_
  rotate_left
  · (intro w hSw; have hSw := (HSd.out w).1 hSw; go_split_ands; go_simp) <;> with_reducible rfl
  clear hS
  try simp only [Act.put, List.setIfInBounds_toArray, List.set_cons_zero, List.set_cons_succ]
  have hS := HSp.out _ b1
  refine wpAnyH_take (i := 8) (oi := { dst := some 63, op := Go.Op.load 2 (Go.Operand.tmp 62), type := 2, pos := "l06_arcs.go:63", after := #[{ on := 7, ground := Go.Ground.data }], guard := none }) (v := ?_) rfl (by kernel_rfl) (by kernel_rfl) (by kernel_rfl) (fun _ _ _ h => h) (Or.inl ⟨by rfl, ?_⟩) hS ?_
  rotate_left
  · (intro w hSw; have hSw := (HSd.out w).1 hSw; go_split_ands; go_simp) <;> with_reducible rfl
  clear hS
  try simp only [Act.put, List.setIfInBounds_toArray, List.set_cons_zero, List.set_cons_succ]
  have hS := HSp.out _ b1
  refine wpAnyH_take (i := 9) (oi := { dst := some 64, op := Go.Op.binOp Go.BinOp.mul 2 (Go.Operand.tmp 61) (Go.Operand.tmp 63) 2, type := 2, pos := "l06_arcs.go:63", after := #[{ on := 6, ground := Go.Ground.data }, { on := 8, ground := Go.Ground.data }], guard := none }) (v := ?_) rfl (by kernel_rfl) (by kernel_rfl) (by kernel_rfl) (fun _ _ _ h => h) (Or.inl ⟨by rfl, ?_⟩) hS ?_
  rotate_left
  · (intro w hSw; have hSw := (HSd.out w).1 hSw; go_split_ands; go_simp) <;> with_reducible rfl
  clear hS
  try simp only [Act.put, List.setIfInBounds_toArray, List.set_cons_zero, List.set_cons_succ]
  have hS := HSp.out _ b1
  refine wpAnyH_take (i := 10) (oi := { dst := some 65, op := Go.Op.move (Go.Operand.tmp 16), type := 2, pos := "l06_arcs.go:63", after := #[], guard := none }) (v := ?_) rfl (by kernel_rfl) (by kernel_rfl) (by kernel_rfl) (fun _ _ _ h => h) (Or.inl ⟨by rfl, ?_⟩) hS ?_
  rotate_left
  · (intro w hSw; have hSw := (HSd.out w).1 hSw; go_split_ands; go_simp) <;> with_reducible rfl
  clear hS
  try simp only [Act.put, List.setIfInBounds_toArray, List.set_cons_zero, List.set_cons_succ]
  refine wpAnyH_ready (rs := [5]) (by decide +kernel) (by simp) ?_
  refine AllReadyH.cons (o := { dst := some 60, op := Go.Op.call { callee := Go.Callee.value (Go.Operand.func 84), args := #[Go.Operand.tmp 58, Go.Operand.tmp 59], argTypes := #[2, 2] }, type := 2, pos := "l06_arcs.go:63", after := #[{ on := 3, ground := Go.Ground.data }, { on := 4, ground := Go.Ground.data }], guard := none }) rfl (fun Kn hK => ?_) AllReadyH.nil
  first | go_at_call 84 | (go_simp; go_at_call 84)
  (with_reducible refine Calls.mono (KF.out _) ?_)
  rintro e V1 ⟨rfl, hw⟩
  have hb : Below V0.heap.size V0 V1 := hw ▸ Below.refl _ _
  clear hw
  try dsimp only
  try simp only [Act.put, List.setIfInBounds_toArray, List.set_cons_zero, List.set_cons_succ]
  replace b1 := b1.on hb
  replace bR := bR.on hb
  replace HB := Lib.hid (bel_end HB.out hb)
  clear hb
  refine hK.out _ _ (HSp.out _ b1) (fun _ => ?_)
  clear hK Kn
  refine wpAnyH_ready (rs := [11]) (by decide +kernel) (by simp) ?_
  refine AllReadyH.cons (o := { dst := some 66, op := Go.Op.call { callee := Go.Callee.value (Go.Operand.func 85), args := #[Go.Operand.tmp 64, Go.Operand.tmp 65], argTypes := #[2, 2] }, type := 2, pos := "l06_arcs.go:63", after := #[{ on := 9, ground := Go.Ground.data }, { on := 10, ground := Go.Ground.data }, { on := 5, ground := Go.Ground.chain }], guard := none }) rfl (fun Kn hK => ?_) AllReadyH.nil
  first | go_at_call 85 | (go_simp; go_at_call 85)
  (with_reducible refine Calls.mono (KC.out _) ?_)
  rintro e V2 ⟨rfl, hw⟩
  have hb : Below V1.heap.size V1 V2 := hw ▸ Below.refl _ _
  clear hw
  try dsimp only
  try simp only [Act.put, List.setIfInBounds_toArray, List.set_cons_zero, List.set_cons_succ]
  replace b1 := b1.on hb
  replace bR := bR.on hb
  replace HB := Lib.hid (bel_end HB.out hb)
  clear hb
  refine hK.out _ _ (HSp.out _ b1) (fun _ => ?_)
  clear hK Kn
  refine wpAnyH_ready (rs := [12]) (by decide +kernel) (by simp) ?_
  refine AllReadyH.cons (o := { dst := some 67, op := Go.Op.call { callee := Go.Callee.value (Go.Operand.func 48), args := #[Go.Operand.tmp 60, Go.Operand.tmp 66], argTypes := #[2, 2] }, type := 35, pos := "l06_arcs.go:63", after := #[{ on := 5, ground := Go.Ground.data }, { on := 11, ground := Go.Ground.data }, { on := 11, ground := Go.Ground.chain }], guard := none }) rfl (fun Kn hK => ?_) AllReadyH.nil
  first | go_at_call 48 | (go_simp; go_at_call 48)
  (with_reducible refine Calls.mono (KL.out _) ?_)
  rintro e V3 ⟨rfl, hb⟩
  try dsimp only
  try simp only [Act.put, List.setIfInBounds_toArray, List.set_cons_zero, List.set_cons_succ]
  replace b1 := b1.on hb
  replace bR := bR.on hb
  replace HB := Lib.hid (bel_end HB.out hb)
  clear hb
  refine hK.out _ _ (HSp.out _ b1) (fun _ => ?_)
  clear hK Kn
  have hS := HSp.out _ b1
  refine wpAnyH_take (i := 13) (oi := { dst := some 68, op := Go.Op.extract (Go.Operand.tmp 67) 0, type := 34, pos := "l06_arcs.go:63", after := #[{ on := 12, ground := Go.Ground.data }], guard := none }) (v := ?_) rfl (by kernel_rfl) (by kernel_rfl) (by kernel_rfl) (fun _ _ _ h => h) (Or.inl ⟨by rfl, ?_⟩) hS ?_
  rotate_left
  · (intro w hSw; have hSw := (HSd.out w).1 hSw; go_split_ands; go_simp) <;> with_reducible rfl
  clear hS
  try simp only [Act.put, List.setIfInBounds_toArray, List.set_cons_zero, List.set_cons_succ]
  have hS := HSp.out _ b1
  refine wpAnyH_take (i := 14) (oi := { dst := some 69, op := Go.Op.extract (Go.Operand.tmp 67) 1, type := 2, pos := "l06_arcs.go:63", after := #[{ on := 12, ground := Go.Ground.data }], guard := none }) (v := ?_) rfl (by kernel_rfl) (by kernel_rfl) (by kernel_rfl) (fun _ _ _ h => h) (Or.inl ⟨by rfl, ?_⟩) hS ?_
  rotate_left
  · (intro w hSw; have hSw := (HSd.out w).1 hSw; go_split_ands; go_simp) <;> with_reducible rfl
  clear hS
  try simp only [Act.put, List.setIfInBounds_toArray, List.set_cons_zero, List.set_cons_succ]
  refine wpAnyH_ready (rs := [15]) (by decide +kernel) (by simp) ?_
  refine AllReadyH.cons (o := { dst := none, op := Go.Op.store 34 (Go.Operand.tmp 10) (Go.Operand.tmp 68), type := 0, pos := "l06_arcs.go:63", after := #[{ on := 13, ground := Go.Ground.data }, { on := 12, ground := Go.Ground.chain }, { on := 0, ground := Go.Ground.phase }, { on := 1, ground := Go.Ground.phase }, { on := 2, ground := Go.Ground.phase }, { on := 3, ground := Go.Ground.phase }, { on := 4, ground := Go.Ground.phase }, { on := 5, ground := Go.Ground.phase }, { on := 6, ground := Go.Ground.phase }, { on := 7, ground := Go.Ground.phase }, { on := 8, ground := Go.Ground.phase }, { on := 9, ground := Go.Ground.phase }, { on := 10, ground := Go.Ground.phase }, { on := 11, ground := Go.Ground.phase }, { on := 12, ground := Go.Ground.phase }, { on := 13, ground := Go.Ground.phase }, { on := 14, ground := Go.Ground.phase }], guard := none }) rfl (fun Kn hK => ?_) AllReadyH.nil
  have bR_0 := bR.cell 0 rfl
  have bR_1 := bR.cell 1 rfl
  have bR_f0 := bR.frozen 0
  have bR_f1 := bR.frozen 1
  have bR_l := bR.lt
  go_simp
  clear bR_0 bR_f0 bR_1 bR_f1 bR_l
  generalize hX : World.setCell _ _ _ = V4
  have hb : Below w.heap.size w V4 := by rw [← hX]; exact ((HB.out.setCell (p := ⟨w.heap.size + 1 + 1, 0, none⟩) (by first | omega | (dsimp only; omega)) _).setCell (p := ⟨w.heap.size + 1 + 1, 1, none⟩) (by first | omega | (dsimp only; omega)) _)
  replace b1 : Bk V4 (q1) #[.int .i64 L1, .int .i64 H1] 34 := by rw [← hX]; exact (Bk.other (Bk.other b1 (by omega) 0 _) (by omega) 1 _)
  replace bR : Bk V4 (w.heap.size + 1 + 1) #[.int .i64 x, .int .i64 y] 34 := by rw [← hX]; exact (Bk.set (Bk.set bR 0 _ rfl) 1 _ rfl)
  clear hX
  replace HB := Lib.hid hb
  clear hb
  refine hK.out _ _ (HSp.out _ b1) (fun _ => ?_)
  clear hK Kn
  have hS := HSp.out _ b1
  refine wpAnyH_take (i := 16) (oi := { dst := some 11, op := Go.Op.assign (Go.Operand.tmp 69), type := 2, pos := "l06_arcs.go:63", after := #[{ on := 14, ground := Go.Ground.data }, { on := 15, ground := Go.Ground.chain }, { on := 0, ground := Go.Ground.phase }, { on := 1, ground := Go.Ground.phase }, { on := 2, ground := Go.Ground.phase }, { on := 3, ground := Go.Ground.phase }, { on := 4, ground := Go.Ground.phase }, { on := 5, ground := Go.Ground.phase }, { on := 6, ground := Go.Ground.phase }, { on := 7, ground := Go.Ground.phase }, { on := 8, ground := Go.Ground.phase }, { on := 9, ground := Go.Ground.phase }, { on := 10, ground := Go.Ground.phase }, { on := 11, ground := Go.Ground.phase }, { on := 12, ground := Go.Ground.phase }, { on := 13, ground := Go.Ground.phase }, { on := 14, ground := Go.Ground.phase }, { on := 15, ground := Go.Ground.phase }], guard := none }) (v := ?_) rfl (by kernel_rfl) (by kernel_rfl) (by kernel_rfl) (fun _ _ _ h => h) (Or.inl ⟨by rfl, ?_⟩) hS ?_
  rotate_left
  · (intro w hSw; have hSw := (HSd.out w).1 hSw; go_split_ands; go_simp) <;> with_reducible rfl
  clear hS
  try simp only [Act.put, List.setIfInBounds_toArray, List.set_cons_zero, List.set_cons_succ]
  refine wpAnyH_done (by kernel_rfl) ?_ _
  have c2 := bR.cell 0 rfl
  have c3 := bR.cell 1 rfl
  go_wp2
  exact bodyPost_ret (v := .tuple #[.agg #[.int .i64 x, .int .i64 y], .int .i64 e0]) (by simp [results, Tryz.results77, go_sem, c2, c3]) rfl ⟨rfl, HB.out⟩
end Go.Proofs.YtgecbfbmmbfnmaaGreat
