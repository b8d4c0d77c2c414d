import Derived.Test.YtgecbfbmmbfnmaaGreatRyQ
import Derived.Test.YtgecbfbmmbfnmaaGreatArcR
import Derived.Handy
import Derived.Deep.RegionHeld3
import Derived.Deep.DeepCutAuto
import Derived.Deep.RegionWith
import Derived.Test.YtgecbfbmmbfnmaaGreatLys
import Derived.Outline
import Derived.LoopTactic
namespace Go.Proofs.YtgecbfbmmbfnmaaGreat
section
/- Contracts of the program's states and steps of a ray. -/
open Go.ChangeShapes Go.WideShapes Go.ChangeAt Go.RowKit Go.Shelf Num
set_option linter.unusedVariables false
set_option linter.unusedSimpArgs false
theorem evW_iface (a b : Option Addr) (ca cb : Nat) (zs ys : List Int) (i : Nat) (c s h : Int) (k : Nat) (dn : Bool) : ∃ t v, evW a b ca cb zs ys i c s h k dn = .iface t v := by
  unfold evW
  cases inP zs.length k dn <;> cases crB ys (i : Int) c h (fk k dn : Nat) <;> cases dn <;> exact ⟨_, _, rfl⟩
end
section
/- The contract of the first steps of the program's ray. -/
open Go.ChangeShapes Go.WideShapes Go.ChangeAt Go.RowKit Go.Shelf Num
set_option linter.unusedVariables false
set_option linter.unusedSimpArgs false
/-- the cells of the step number j -/
def stpC (a b : Option Addr) (ca cb : Nat) (zs ys : List Int) (i : Nat) (c s h : Int) (j : Nat) : List Value :=
  [evW a b ca cb zs ys i c s h (runS zs ys i c h (fst0 i s) j).k (runS zs ys i c h (fst0 i s) j).dn, .int .i64 ((runS zs ys i c h (fst0 i s) (j + 1)).k : Int), .bool (runS zs ys i c h (fst0 i s) (j + 1)).dn, .int .i64 (runS zs ys i c h (fst0 i s) (j + 1)).lo, .int .i64 (runS zs ys i c h (fst0 i s) (j + 1)).hi]
theorem stpC_len (a b : Option Addr) (ca cb : Nat) (zs ys : List Int) (i : Nat) (c s h : Int) (j : Nat) : (stpC a b ca cb zs ys i c s h j).length = 5 := rfl
theorem info_rst : (Tryz.prog.info? 81).map (fun i => (i.zero, i.size, i.bytes)) = some (some (.agg #[.nilIface, .int .i64 0, .bool false, .int .i64 0, .int .i64 0]), 5, 48) := by kernel_rfl
theorem heap_far4 {W : World} {B g : Nat} (hne : g ≠ B) (v0 v1 v2 v3 : Value) : ((((W.setCell ⟨B, 0, none⟩ v0).setCell ⟨B, 1, none⟩ v1).setCell ⟨B, 2, none⟩ v2).setCell ⟨B, 3, none⟩ v3).heap[g]? = W.heap[g]? :=
  (Below.heap_setCell _ ⟨B, 3, none⟩ v3 g hne).trans ((Below.heap_setCell _ ⟨B, 2, none⟩ v2 g hne).trans ((Below.heap_setCell _ ⟨B, 1, none⟩ v1 g hne).trans (Below.heap_setCell _ ⟨B, 0, none⟩ v0 g hne)))
theorem run_make_g {t e : TypeId} {Z : Value} {m by_ : Nat} (ht : Tryz.prog.underlying t = some (.slice e)) (hinfo : (Tryz.prog.info? e).map (fun i => (i.zero, i.size, i.bytes)) = some (some Z, m, by_)) (n : Nat) (hn : n ≤ 1000) (hby : by_ ≤ 1000) (w : World) :
    (Instr.makeSlice t (.int .i64 0) (.int .i64 (n : Int))).run Tryz.prog w = .ok (.slice (some ⟨w.heap.size, 0, none⟩) 0 n) (w.alloc (.cells (madeCells Z.cells (n * m)) e)) := by
  obtain ⟨i, hi, hzz⟩ := Option.map_eq_some_iff.1 hinfo
  simp only [Prod.mk.injEq] at hzz
  obtain ⟨hz, hs, hb⟩ := hzz
  have hm := Nat.mul_le_mul hby hn
  have hm2 : (by_ : Int) * (n : Int) ≤ 281474976710656 := by
    have h1 : ((by_ * n : Nat) : Int) ≤ 1000000 := by omega
    rw [Int.natCast_mul] at h1
    omega
  have h := run_make (P := Tryz.prog) (w := w) t e i _ ht hi hz .i64 .i64 0 (n : Int) (Int.le_refl _) (by omega) (by rw [hb]; exact hm2) (by omega)
  simpa only [Int.toNat_natCast, Int.toNat_zero, hs] using h
/-- what the first steps leave -/
def FssP (w : World) (f : Nat → List Value) (q : Int) (N : Nat) (e : Ending) (w' : World) : Prop :=
  (q = 0 ∧ ∃ g cp, e = .returned (.tuple #[.slice (some ⟨g, 0, none⟩) N cp, .int .i64 0]) ∧ RowG w 81 5 g cp N (rowL f N) w') ∨ (¬ q = 0 ∧ e = .returned (.tuple #[.slice none 0 0, .int .i64 q]) ∧ Below w.heap.size w w')

set_option maxRecDepth 100000 in
set_option maxHeartbeats 8000000 in
theorem fss_any (w : World) (a b : Option Addr) (ca cb : Nat) (zs ys : List Int) (src c s h n : Int) (hp : Prof w w.heap.size a b zs ys) :
    Calls Tryz.prog 26 #[.agg #[.slice a zs.length ca, .slice b ys.length cb, .int .i64 src, .int .i64 c, .int .i64 s, .int .i64 h], .int .i64 n] w (FssP w (stpC a b ca cb zs ys src.toNat c s h) (tcod zs ys src c s h n) n.toNat) := by
  have HP := Lib.hid hp
  have KE : Hid (∀ W : World, Below w.heap.size w W → Calls Tryz.prog 56 #[.agg #[.slice a zs.length ca, .slice b ys.length cb, .int .i64 src, .int .i64 c, .int .i64 s, .int .i64 h], .int .i64 src] W fun e w' => e = .returned (.int .i64 (fcod zs ys src c s h)) ∧ Below W.heap.size W w') := Lib.hid (fun W hb => rer_any W a b ca cb zs ys src src c s h (HP.out.on hb))
  by_cases hq : fcod zs ys src c s h = 0
  case neg =>
    have HT : Hid (tcod zs ys src c s h n = fcod zs ys src c s h) := Lib.hid (by unfold tcod; rw [if_neg hq])
    rw [HT.out]
    have HQ := Lib.hid hq
    obtain ⟨q, hqq⟩ : ∃ q, fcod zs ys src c s h = q := ⟨_, rfl⟩
    rw [hqq] at KE hq HQ ⊢
    have hq0 : (q != 0) = true := by simpa using hq
    clear hqq hq hp HT
    go_enter Tryz.func26, Tryz.ntmps26
    go_wp2_with fail
    generalize hW : World.alloc _ _ = W
    have bX : Bk W (w.heap.size) #[.slice a zs.length ca, .slice b ys.length cb, .int .i64 src, .int .i64 c, .int .i64 s, .int .i64 h] 74 := by rw [← hW]; repeat (first | (refine Bk.new' ?_; (simp; done)) | refine Bk.alloc ?_ _)
    have HB : Hid (Below w.heap.size w W) := Lib.hid (by rw [← hW]; exact (by repeat (first | exact Below.refl _ _ | (refine Below.alloc ?_ (by simp <;> omega) _) | (refine Below.setCell ?_ (by simp <;> omega) _) | (refine Below.drew ?_) | (refine bel_drewN ?_ _))))
    clear hW
    (with_reducible refine Calls.mono (KE.out _ HB.out) ?_)
    rintro e w1 ⟨rfl, hb⟩
    go_wp2
    go_ret2
    exact Or.inr ⟨HQ.out, rfl, bel_end HB.out hb⟩
  case pos =>
    have HT : Hid (tcod zs ys src c s h n = if inB n 0 100 then (if okN zs ys src.toNat c h (fst0 src.toNat s) n.toNat then 0 else 3) else 2) := Lib.hid (by unfold tcod; rw [if_pos hq])
    rw [hq] at KE
    obtain ⟨i, rfl, r⟩ := fcod_0 hq
    rw [Int.toNat_natCast] at HT ⊢
    have HRy := Lib.hid r
    clear hq hp r
    by_cases h0 : n < 0
    case pos =>
      have HQ : Hid (tcod zs ys (i : Int) c s h n = 2) := Lib.hid (by rw [HT.out, if_neg (by unfold inB; simp; omega)])
      rw [HQ.out]
      clear HT HQ
      go_enter Tryz.func26, Tryz.ntmps26
      go_wp2_with fail
      generalize hW : World.alloc _ _ = W
      have bX : Bk W (w.heap.size) #[.slice a zs.length ca, .slice b ys.length cb, .int .i64 (i : Int), .int .i64 c, .int .i64 s, .int .i64 h] 74 := by rw [← hW]; repeat (first | (refine Bk.new' ?_; (simp; done)) | refine Bk.alloc ?_ _)
      have HB : Hid (Below w.heap.size w W) := Lib.hid (by rw [← hW]; exact (by repeat (first | exact Below.refl _ _ | (refine Below.alloc ?_ (by simp <;> omega) _) | (refine Below.setCell ?_ (by simp <;> omega) _) | (refine Below.drew ?_) | (refine bel_drewN ?_ _))))
      clear hW
      (with_reducible refine Calls.mono (KE.out _ HB.out) ?_)
      rintro e w1 ⟨rfl, hb⟩
      go_wp2
      go_ret2
      exact Or.inr ⟨by decide, rfl, bel_end HB.out hb⟩
    case neg =>
      by_cases h1 : 100 < n
      case pos =>
        have HQ : Hid (tcod zs ys (i : Int) c s h n = 2) := Lib.hid (by rw [HT.out, if_neg (by unfold inB; simp; omega)])
        rw [HQ.out]
        clear HT HQ
        go_enter Tryz.func26, Tryz.ntmps26
        go_wp2_with fail
        generalize hW : World.alloc _ _ = W
        have bX : Bk W (w.heap.size) #[.slice a zs.length ca, .slice b ys.length cb, .int .i64 (i : Int), .int .i64 c, .int .i64 s, .int .i64 h] 74 := by rw [← hW]; repeat (first | (refine Bk.new' ?_; (simp; done)) | refine Bk.alloc ?_ _)
        have HB : Hid (Below w.heap.size w W) := Lib.hid (by rw [← hW]; exact (by repeat (first | exact Below.refl _ _ | (refine Below.alloc ?_ (by simp <;> omega) _) | (refine Below.setCell ?_ (by simp <;> omega) _) | (refine Below.drew ?_) | (refine bel_drewN ?_ _))))
        clear hW
        (with_reducible refine Calls.mono (KE.out _ HB.out) ?_)
        rintro e w1 ⟨rfl, hb⟩
        go_wp2
        go_ret2
        exact Or.inr ⟨by decide, rfl, bel_end HB.out hb⟩
      case neg =>
        obtain ⟨N, rfl⟩ : ∃ N : Nat, n = (N : Int) := ⟨n.toNat, by omega⟩
        have hN : N ≤ 100 := by omega
        have HQ : Hid (tcod zs ys (i : Int) c s h (N : Int) = if okN zs ys i c h (fst0 i s) N then 0 else 3) := Lib.hid (by rw [HT.out, if_pos (by unfold inB; simp; omega), Int.toNat_natCast])
        rw [Int.toNat_natCast]
        clear HT
        obtain ⟨i0, hi0, hz0, hz1, hz2⟩ := info_parts info_rst
        have hmk := run_make_g (t := 53) (e := 81) Tryz.underlying53 info_rst N (by omega) (by omega)
        obtain ⟨dd, hd⟩ : ∃ x, decide (0 < s) = x := ⟨_, rfl⟩
        have KF : Hid (∀ W : World, Calls Tryz.prog 27 #[.agg #[.slice a zs.length ca, .slice b ys.length cb, .int .i64 (i : Int), .int .i64 c, .int .i64 s, .int .i64 h]] W fun e w' => e = .returned (.agg #[.int .i64 (i : Int), .bool dd, .int .i64 0, .int .i64 0]) ∧ Below W.heap.size W w') := Lib.hid (fun W => by have := fs_any W a b ca cb zs ys (i : Int) c s h; rwa [hd] at this)
        have HX0 : Hid (runS zs ys i c h (fst0 i s) 0 = ⟨i, dd, 0, 0⟩) := Lib.hid (by rw [← hd]; rfl)
        clear hd
        go_enter Tryz.func26, Tryz.ntmps26
        go_wp2_with fail
        generalize hW : World.alloc _ _ = W
        have bX : Bk W (w.heap.size) #[.slice a zs.length ca, .slice b ys.length cb, .int .i64 (i : Int), .int .i64 c, .int .i64 s, .int .i64 h] 74 := by rw [← hW]; repeat (first | (refine Bk.new' ?_; (simp; done)) | refine Bk.alloc ?_ _)
        have HB : Hid (Below w.heap.size w W) := Lib.hid (by rw [← hW]; exact (by repeat (first | exact Below.refl _ _ | (refine Below.alloc ?_ (by simp <;> omega) _) | (refine Below.setCell ?_ (by simp <;> omega) _) | (refine Below.drew ?_) | (refine bel_drewN ?_ _))))
        clear hW
        (with_reducible refine Calls.mono (KE.out _ HB.out) ?_)
        rintro e w1 ⟨rfl, hb⟩
        replace bX := bX.on hb
        replace HB := Lib.hid (bel_end HB.out hb)
        clear hb
        go_upto_region 6 with fail
        go_cut [7, 8] (fun s7 s8 wx => ∃ gR gx : Nat, s7 = .slice (some ⟨gR, 0, none⟩) 0 N ∧ s8 = .pointer (some ⟨gx, 0, none⟩) ∧ Bk wx gR (madeCells (.agg #[.nilIface, .int .i64 0, .bool false, .int .i64 0, .int .i64 0] : Value).cells (N * 5)) 81 ∧ Bk wx gx #[.int .i64 (i : Int), .bool dd, .int .i64 0, .int .i64 0] 38 ∧ gR ≠ gx ∧ w1.heap.size ≤ gR ∧ w1.heap.size ≤ gx ∧ Below w1.heap.size w1 wx)
        case first =>
          have HW : Hid (Below w1.heap.size w1 w1) := Lib.hid (Below.refl _ _)
          obtain ⟨S, hSd⟩ : ∃ S : World → Prop, ∀ w', S w' ↔ (w'.cell? ⟨w.heap.size, 0, none⟩ = some (.slice a zs.length ca) ∧ w'.cell? ⟨w.heap.size, 1, none⟩ = some (.slice b ys.length cb) ∧ w'.cell? ⟨w.heap.size, 2, none⟩ = some (.int .i64 (i : Int)) ∧ w'.cell? ⟨w.heap.size, 3, none⟩ = some (.int .i64 c) ∧ w'.cell? ⟨w.heap.size, 4, none⟩ = some (.int .i64 s) ∧ w'.cell? ⟨w.heap.size, 5, none⟩ = some (.int .i64 h)) := ⟨_, fun _ => Iff.rfl⟩
          have HSp : Hid (∀ w' : World, Bk w' (w.heap.size) #[.slice a zs.length ca, .slice b ys.length cb, .int .i64 (i : Int), .int .i64 c, .int .i64 s, .int .i64 h] 74 → S w') := Lib.hid (fun w' bX => (hSd w').2 ⟨bX.cell 0 rfl, bX.cell 1 rfl, bX.cell 2 rfl, bX.cell 3 rfl, bX.cell 4 rfl, bX.cell 5 rfl⟩)
          have HSd := Lib.hid hSd
          clear hSd
          refine wp_region_held_drew (S := S) (by kernel_rfl) ?_ (fun hH => ?_)
          · exact (HSp.out _ bX : S (World.drew w1))
          clear hH
          generalize hX : World.drew w1 = V0
          replace bX : Bk V0 (w.heap.size) #[.slice a zs.length ca, .slice b ys.length cb, .int .i64 (i : Int), .int .i64 c, .int .i64 s, .int .i64 h] 74 := by rw [← hX]; exact bX
          have hb : Below w1.heap.size w1 V0 := by rw [← hX]; exact (Below.refl _ _).drew
          clear hX
          replace HW := Lib.hid (bel_end HW.out hb)
          clear hb
          have hS := HSp.out _ bX
          refine wpAnyH_take (i := 0) (oi := { dst := some 24, op := Go.Op.move (Go.Operand.tmp 1), type := 2, pos := "l07_rays.go:246", after := #[], guard := none }) (v := ?_) rfl (by kernel_rfl) (by kernel_rfl) (by kernel_rfl) (fun _ _ _ h => h) (Or.inl ⟨by rfl, ?_⟩) hS ?_
          rotate_left
          · (intro w hSw; have hSw := (HSd.out w).1 hSw; go_split_ands; go_simp) <;> with_reducible rfl
          clear hS
          try simp only [Act.put, List.setIfInBounds_toArray, List.set_cons_zero, List.set_cons_succ]
          have hS := HSp.out _ bX
          refine wpAnyH_take (i := 2) (oi := { dst := some 26, op := Go.Op.load 74 (Go.Operand.tmp 2), type := 74, pos := "l07_rays.go:246", after := #[], guard := none }) (v := ?_) rfl (by kernel_rfl) (by kernel_rfl) (by kernel_rfl) (fun _ _ _ h => h) (Or.inl ⟨by rfl, ?_⟩) hS ?_
          rotate_left
          · (intro w hSw; have hSw := (HSd.out w).1 hSw; go_split_ands; go_simp) <;> with_reducible rfl
          clear hS
          try simp only [Act.put, List.setIfInBounds_toArray, List.set_cons_zero, List.set_cons_succ]
          refine wpAnyH_ready (rs := [1, 3, 4]) (by decide +kernel) (by simp) ?_
          refine AllReadyH.cons (o := { dst := some 25, op := Go.Op.makeSlice 53 (Go.Operand.const (Go.Value.int Go.IntKind.i64 0)) (Go.Operand.tmp 24), type := 53, pos := "l07_rays.go:246", after := #[{ on := 0, ground := Go.Ground.data }], guard := none }) rfl (fun Kn hK => ?_) ?_
          go_simp
          generalize hX : World.alloc V0 _ = V1
          obtain ⟨g1, hg⟩ : ∃ g, g = V0.heap.size := ⟨_, rfl⟩
          have bn1 : Bk V1 g1 (madeCells (.agg #[.nilIface, .int .i64 0, .bool false, .int .i64 0, .int .i64 0] : Value).cells (N * 5)) 81 := by rw [← hX]; exact Bk.new' hg
          have le1 : w1.heap.size ≤ g1 := by rw [hg]; exact HW.out.size
          have nebX_1 : w.heap.size ≠ g1 := by have := bX.lt; omega
          try rw [← hg]
          have hb : Below V0.heap.size V0 V1 := by rw [← hX]; exact (Below.refl _ _).alloc (Nat.le_refl _) _
          clear hX hg
          replace bX := bX.on hb
          replace HW := Lib.hid (bel_end HW.out hb)
          clear hb
          refine hK.out _ _ (HSp.out _ bX) (fun _ => ?_)
          clear hK Kn
          rotate_left
          refine AllReadyH.cons (o := { dst := some 27, op := Go.Op.call { callee := Go.Callee.value (Go.Operand.func 27), args := #[Go.Operand.tmp 26], argTypes := #[74] }, type := 38, pos := "l07_rays.go:246", after := #[{ on := 2, ground := Go.Ground.data }], guard := none }) rfl (fun Kn hK => ?_) ?_
          first | go_at_call 27 | (go_simp; go_at_call 27)
          (with_reducible refine Calls.mono (KF.out _) ?_)
          rintro e V1 ⟨rfl, hb⟩
          try dsimp only
          try simp only [Act.put, List.setIfInBounds_toArray, List.set_cons_zero, List.set_cons_succ]
          replace bX := bX.on hb
          replace HW := Lib.hid (bel_end HW.out hb)
          clear hb
          refine hK.out _ _ (HSp.out _ bX) (fun _ => ?_)
          clear hK Kn
          rotate_left
          refine AllReadyH.cons (o := { dst := some 8, op := Go.Op.alloc 38, type := 0, pos := "l07_rays.go:246", after := #[], guard := none }) rfl (fun Kn hK => ?_) AllReadyH.nil
          go_simp
          generalize hX : World.alloc V0 _ = V1
          obtain ⟨g4, hg⟩ : ∃ g, g = V0.heap.size := ⟨_, rfl⟩
          have bn4 : Bk V1 g4 #[.int .i64 0, .bool false, .int .i64 0, .int .i64 0] 38 := by rw [← hX]; exact Bk.new' hg
          have le4 : w1.heap.size ≤ g4 := by rw [hg]; exact HW.out.size
          have nebX_4 : w.heap.size ≠ g4 := by have := bX.lt; omega
          try rw [← hg]
          have hb : Below V0.heap.size V0 V1 := by rw [← hX]; exact (Below.refl _ _).alloc (Nat.le_refl _) _
          clear hX hg
          replace bX := bX.on hb
          replace HW := Lib.hid (bel_end HW.out hb)
          clear hb
          refine hK.out _ _ (HSp.out _ bX) (fun _ => ?_)
          clear hK Kn
          all_goals
            first
            | (refine wpAnyH_ready (rs := [3, 4]) (by decide +kernel) (by simp) ?_
               refine AllReadyH.cons (o := { dst := some 27, op := Go.Op.call { callee := Go.Callee.value (Go.Operand.func 27), args := #[Go.Operand.tmp 26], argTypes := #[74] }, type := 38, pos := "l07_rays.go:246", after := #[{ on := 2, ground := Go.Ground.data }], guard := none }) rfl (fun Kn hK => ?_) ?_
               first | go_at_call 27 | (go_simp; go_at_call 27)
               (with_reducible refine Calls.mono (KF.out _) ?_)
               rintro e V2 ⟨rfl, hb⟩
               try dsimp only
               try simp only [Act.put, List.setIfInBounds_toArray, List.set_cons_zero, List.set_cons_succ]
               replace bX := bX.on hb
               replace bn1 := bn1.on hb
               replace HW := Lib.hid (bel_end HW.out hb)
               clear hb
               refine hK.out _ _ (HSp.out _ bX) (fun _ => ?_)
               clear hK Kn
               rotate_left
               refine AllReadyH.cons (o := { dst := some 8, op := Go.Op.alloc 38, type := 0, pos := "l07_rays.go:246", after := #[], guard := none }) rfl (fun Kn hK => ?_) AllReadyH.nil
               go_simp
               generalize hX : World.alloc V1 _ = V2
               obtain ⟨g4, hg⟩ : ∃ g, g = V1.heap.size := ⟨_, rfl⟩
               have bn4 : Bk V2 g4 #[.int .i64 0, .bool false, .int .i64 0, .int .i64 0] 38 := by rw [← hX]; exact Bk.new' hg
               have le4 : w1.heap.size ≤ g4 := by rw [hg]; exact HW.out.size
               have nebX_4 : w.heap.size ≠ g4 := by have := bX.lt; omega
               have ne1_4 : g1 ≠ g4 := by have := bn1.lt; omega
               try rw [← hg]
               have hb : Below V1.heap.size V1 V2 := by rw [← hX]; exact (Below.refl _ _).alloc (Nat.le_refl _) _
               clear hX hg
               replace bX := bX.on hb
               replace bn1 := bn1.on hb
               replace HW := Lib.hid (bel_end HW.out hb)
               clear hb
               refine hK.out _ _ (HSp.out _ bX) (fun _ => ?_)
               clear hK Kn)
            | (refine wpAnyH_ready (rs := [1, 4]) (by decide +kernel) (by simp) ?_
               refine AllReadyH.cons (o := { dst := some 25, op := Go.Op.makeSlice 53 (Go.Operand.const (Go.Value.int Go.IntKind.i64 0)) (Go.Operand.tmp 24), type := 53, pos := "l07_rays.go:246", after := #[{ on := 0, ground := Go.Ground.data }], guard := none }) rfl (fun Kn hK => ?_) ?_
               go_simp
               generalize hX : World.alloc V1 _ = V2
               obtain ⟨g1, hg⟩ : ∃ g, g = V1.heap.size := ⟨_, rfl⟩
               have bn1 : Bk V2 g1 (madeCells (.agg #[.nilIface, .int .i64 0, .bool false, .int .i64 0, .int .i64 0] : Value).cells (N * 5)) 81 := by rw [← hX]; exact Bk.new' hg
               have le1 : w1.heap.size ≤ g1 := by rw [hg]; exact HW.out.size
               have nebX_1 : w.heap.size ≠ g1 := by have := bX.lt; omega
               try rw [← hg]
               have hb : Below V1.heap.size V1 V2 := by rw [← hX]; exact (Below.refl _ _).alloc (Nat.le_refl _) _
               clear hX hg
               replace bX := bX.on hb
               replace HW := Lib.hid (bel_end HW.out hb)
               clear hb
               refine hK.out _ _ (HSp.out _ bX) (fun _ => ?_)
               clear hK Kn
               rotate_left
               refine AllReadyH.cons (o := { dst := some 8, op := Go.Op.alloc 38, type := 0, pos := "l07_rays.go:246", after := #[], guard := none }) rfl (fun Kn hK => ?_) AllReadyH.nil
               go_simp
               generalize hX : World.alloc V1 _ = V2
               obtain ⟨g4, hg⟩ : ∃ g, g = V1.heap.size := ⟨_, rfl⟩
               have bn4 : Bk V2 g4 #[.int .i64 0, .bool false, .int .i64 0, .int .i64 0] 38 := by rw [← hX]; exact Bk.new' hg
               have le4 : w1.heap.size ≤ g4 := by rw [hg]; exact HW.out.size
               have nebX_4 : w.heap.size ≠ g4 := by have := bX.lt; omega
               try rw [← hg]
               have hb : Below V1.heap.size V1 V2 := by rw [← hX]; exact (Below.refl _ _).alloc (Nat.le_refl _) _
               clear hX hg
               replace bX := bX.on hb
               replace HW := Lib.hid (bel_end HW.out hb)
               clear hb
               refine hK.out _ _ (HSp.out _ bX) (fun _ => ?_)
               clear hK Kn)
            | (refine wpAnyH_ready (rs := [1, 3]) (by decide +kernel) (by simp) ?_
               refine AllReadyH.cons (o := { dst := some 25, op := Go.Op.makeSlice 53 (Go.Operand.const (Go.Value.int Go.IntKind.i64 0)) (Go.Operand.tmp 24), type := 53, pos := "l07_rays.go:246", after := #[{ on := 0, ground := Go.Ground.data }], guard := none }) rfl (fun Kn hK => ?_) ?_
               go_simp
               generalize hX : World.alloc V1 _ = V2
               obtain ⟨g1, hg⟩ : ∃ g, g = V1.heap.size := ⟨_, rfl⟩
               have bn1 : Bk V2 g1 (madeCells (.agg #[.nilIface, .int .i64 0, .bool false, .int .i64 0, .int .i64 0] : Value).cells (N * 5)) 81 := by rw [← hX]; exact Bk.new' hg
               have le1 : w1.heap.size ≤ g1 := by rw [hg]; exact HW.out.size
               have nebX_1 : w.heap.size ≠ g1 := by have := bX.lt; omega
               have ne1_4 : g1 ≠ g4 := by have := bn4.lt; omega
               try rw [← hg]
               have hb : Below V1.heap.size V1 V2 := by rw [← hX]; exact (Below.refl _ _).alloc (Nat.le_refl _) _
               clear hX hg
               replace bX := bX.on hb
               replace bn4 := bn4.on hb
               replace HW := Lib.hid (bel_end HW.out hb)
               clear hb
               refine hK.out _ _ (HSp.out _ bX) (fun _ => ?_)
               clear hK Kn
               rotate_left
               refine AllReadyH.cons (o := { dst := some 27, op := Go.Op.call { callee := Go.Callee.value (Go.Operand.func 27), args := #[Go.Operand.tmp 26], argTypes := #[74] }, type := 38, pos := "l07_rays.go:246", after := #[{ on := 2, ground := Go.Ground.data }], guard := none }) rfl (fun Kn hK => ?_) AllReadyH.nil
               first | go_at_call 27 | (go_simp; go_at_call 27)
               (with_reducible refine Calls.mono (KF.out _) ?_)
               rintro e V2 ⟨rfl, hb⟩
               try dsimp only
               try simp only [Act.put, List.setIfInBounds_toArray, List.set_cons_zero, List.set_cons_succ]
               replace bX := bX.on hb
               replace bn4 := bn4.on hb
               replace HW := Lib.hid (bel_end HW.out hb)
               clear hb
               refine hK.out _ _ (HSp.out _ bX) (fun _ => ?_)
               clear hK Kn)
          all_goals
            first
            | (refine wpAnyH_ready (rs := [4]) (by decide +kernel) (by simp) ?_
               refine AllReadyH.cons (o := { dst := some 8, op := Go.Op.alloc 38, type := 0, pos := "l07_rays.go:246", after := #[], guard := none }) rfl (fun Kn hK => ?_) AllReadyH.nil
               go_simp
               generalize hX : World.alloc V2 _ = V3
               obtain ⟨g4, hg⟩ : ∃ g, g = V2.heap.size := ⟨_, rfl⟩
               have bn4 : Bk V3 g4 #[.int .i64 0, .bool false, .int .i64 0, .int .i64 0] 38 := by rw [← hX]; exact Bk.new' hg
               have le4 : w1.heap.size ≤ g4 := by rw [hg]; exact HW.out.size
               have nebX_4 : w.heap.size ≠ g4 := by have := bX.lt; omega
               have ne1_4 : g1 ≠ g4 := by have := bn1.lt; omega
               try rw [← hg]
               have hb : Below V2.heap.size V2 V3 := by rw [← hX]; exact (Below.refl _ _).alloc (Nat.le_refl _) _
               clear hX hg
               replace bX := bX.on hb
               replace bn1 := bn1.on hb
               replace HW := Lib.hid (bel_end HW.out hb)
               clear hb
               refine hK.out _ _ (HSp.out _ bX) (fun _ => ?_)
               clear hK Kn)
            | (refine wpAnyH_ready (rs := [3]) (by decide +kernel) (by simp) ?_
               refine AllReadyH.cons (o := { dst := some 27, op := Go.Op.call { callee := Go.Callee.value (Go.Operand.func 27), args := #[Go.Operand.tmp 26], argTypes := #[74] }, type := 38, pos := "l07_rays.go:246", after := #[{ on := 2, ground := Go.Ground.data }], guard := none }) rfl (fun Kn hK => ?_) AllReadyH.nil
               first | go_at_call 27 | (go_simp; go_at_call 27)
               (with_reducible refine Calls.mono (KF.out _) ?_)
               rintro e V3 ⟨rfl, hb⟩
               try dsimp only
               try simp only [Act.put, List.setIfInBounds_toArray, List.set_cons_zero, List.set_cons_succ]
               replace bX := bX.on hb
               replace bn1 := bn1.on hb
               replace bn4 := bn4.on hb
               replace HW := Lib.hid (bel_end HW.out hb)
               clear hb
               refine hK.out _ _ (HSp.out _ bX) (fun _ => ?_)
               clear hK Kn)
            | (refine wpAnyH_ready (rs := [1]) (by decide +kernel) (by simp) ?_
               refine AllReadyH.cons (o := { dst := some 25, op := Go.Op.makeSlice 53 (Go.Operand.const (Go.Value.int Go.IntKind.i64 0)) (Go.Operand.tmp 24), type := 53, pos := "l07_rays.go:246", after := #[{ on := 0, ground := Go.Ground.data }], guard := none }) rfl (fun Kn hK => ?_) AllReadyH.nil
               go_simp
               generalize hX : World.alloc V2 _ = V3
               obtain ⟨g1, hg⟩ : ∃ g, g = V2.heap.size := ⟨_, rfl⟩
               have bn1 : Bk V3 g1 (madeCells (.agg #[.nilIface, .int .i64 0, .bool false, .int .i64 0, .int .i64 0] : Value).cells (N * 5)) 81 := by rw [← hX]; exact Bk.new' hg
               have le1 : w1.heap.size ≤ g1 := by rw [hg]; exact HW.out.size
               have nebX_1 : w.heap.size ≠ g1 := by have := bX.lt; omega
               have ne1_4 : g1 ≠ g4 := by have := bn4.lt; omega
               try rw [← hg]
               have hb : Below V2.heap.size V2 V3 := by rw [← hX]; exact (Below.refl _ _).alloc (Nat.le_refl _) _
               clear hX hg
               replace bX := bX.on hb
               replace bn4 := bn4.on hb
               replace HW := Lib.hid (bel_end HW.out hb)
               clear hb
               refine hK.out _ _ (HSp.out _ bX) (fun _ => ?_)
               clear hK Kn)
          all_goals
            have hS := HSp.out _ bX
            refine wpAnyH_take (i := 5) (oi := { dst := some 7, op := Go.Op.assign (Go.Operand.tmp 25), type := 53, pos := "l07_rays.go:246", after := #[{ on := 1, ground := Go.Ground.data }, { on := 3, ground := Go.Ground.chain }, { on := 0, ground := Go.Ground.phase }, { on := 1, ground := Go.Ground.phase }, { on := 2, ground := Go.Ground.textOnly Go.Departure.lateStores }, { on := 3, ground := Go.Ground.textOnly Go.Departure.lateStoresUnsure }, { on := 4, ground := Go.Ground.phase }], guard := none }) (v := ?_) rfl (by kernel_rfl) (by kernel_rfl) (by kernel_rfl) (fun _ _ _ h => h) (Or.inl ⟨by rfl, ?_⟩) hS ?_
            rotate_left
            · (intro w hSw; have hSw := (HSd.out w).1 hSw; go_split_ands; go_simp) <;> with_reducible rfl
            clear hS
            try simp only [Act.put, List.setIfInBounds_toArray, List.set_cons_zero, List.set_cons_succ]
            refine wpAnyH_ready (rs := [6]) (by decide +kernel) (by simp) ?_
            refine AllReadyH.cons (o := { dst := none, op := Go.Op.store 38 (Go.Operand.tmp 8) (Go.Operand.tmp 27), type := 0, pos := "l07_rays.go:246", after := #[{ on := 4, ground := Go.Ground.data }, { on := 3, ground := Go.Ground.data }, { on := 5, ground := Go.Ground.chain }, { on := 0, ground := Go.Ground.phase }, { on := 1, ground := Go.Ground.phase }, { on := 2, ground := Go.Ground.phase }, { on := 3, ground := Go.Ground.phase }, { on := 4, ground := Go.Ground.phase }, { on := 5, ground := Go.Ground.phase }], guard := none }) rfl (fun Kn hK => ?_) AllReadyH.nil
            have bn4_0 := bn4.cell 0 rfl
            have bn4_1 := bn4.cell 1 rfl
            have bn4_2 := bn4.cell 2 rfl
            have bn4_3 := bn4.cell 3 rfl
            have bn4_f0 := bn4.frozen 0
            have bn4_f1 := bn4.frozen 1
            have bn4_f2 := bn4.frozen 2
            have bn4_f3 := bn4.frozen 3
            have bn4_l := bn4.lt
            go_simp
            clear bn4_0 bn4_f0 bn4_1 bn4_f1 bn4_2 bn4_f2 bn4_3 bn4_f3 bn4_l
            generalize hX : World.setCell _ _ _ = V4
            have hb : Below w1.heap.size w1 V4 := by rw [← hX]; exact ((((HW.out.setCell (p := ⟨g4, 0, none⟩) le4 _).setCell (p := ⟨g4, 1, none⟩) le4 _).setCell (p := ⟨g4, 2, none⟩) le4 _).setCell (p := ⟨g4, 3, none⟩) le4 _)
            replace bX : Bk V4 (w.heap.size) #[.slice a zs.length ca, .slice b ys.length cb, .int .i64 (i : Int), .int .i64 c, .int .i64 s, .int .i64 h] 74 := by rw [← hX]; exact (Bk.other (Bk.other (Bk.other (Bk.other bX nebX_4 0 _) nebX_4 1 _) nebX_4 2 _) nebX_4 3 _)
            replace bn1 : Bk V4 (g1) (madeCells (.agg #[.nilIface, .int .i64 0, .bool false, .int .i64 0, .int .i64 0] : Value).cells (N * 5)) 81 := by rw [← hX]; exact (Bk.other (Bk.other (Bk.other (Bk.other bn1 ne1_4 0 _) ne1_4 1 _) ne1_4 2 _) ne1_4 3 _)
            replace bn4 : Bk V4 (g4) #[.int .i64 (i : Int), .bool dd, .int .i64 0, .int .i64 0] 38 := by rw [← hX]; exact (Bk.set (Bk.set (Bk.set (Bk.set bn4 0 _ rfl) 1 _ rfl) 2 _ rfl) 3 _ rfl)
            clear hX
            replace HW := Lib.hid hb
            clear hb
            refine hK.out _ _ (HSp.out _ bX) (fun _ => ?_)
            clear hK Kn
          all_goals
            refine wpAnyH_done (by kernel_rfl) ?_ _
            go_wp2_with fail
            go_meet
            exact ⟨_, _, rfl, rfl, bn1, bn4, ne1_4, le1, le4, HW.out⟩
        case rest =>
          obtain ⟨gR, gx, rfl, rfl, hR0, hx0, hne0, hl1, hl2, hb⟩ := hcut
          have HR0 := Lib.hid (RowG.made (w1 := w1) (m := 5) (c := N) hR0 hl1 (by unfold maxLen; omega) hb)
          have HX1 := Lib.hid hx0
          have HB1 := Lib.hid hb
          have bX1 := bX.on hb
          have HNE := Lib.hid hne0
          clear hR0 hx0 hb hne0
          go_wp2_with fail
          go_loopw [7, 29] (fun v x wr => ∃ (k g cp k1 : Nat) (d1 : Bool) (l1 h1 : Int), v = .slice (some ⟨g, 0, none⟩) k cp ∧ x = .int .i64 (k : Int) ∧ k ≤ N ∧ okN zs ys i c h (fst0 i s) k = true ∧ runS zs ys i c h (fst0 i s) k = ⟨k1, d1, l1, h1⟩ ∧ RowG w1 81 5 g cp k (rowL (stpC a b ca cb zs ys i c s h) k) wr ∧ Bk wr gx #[.int .i64 (k1 : Int), .bool d1, .int .i64 l1, .int .i64 h1] 38 ∧ g ≠ gx) (fun _ x _ => N - (intOf x).toNat)
          case atStart => exact ⟨0, gR, N, i, dd, 0, 0, rfl, rfl, by omega, rfl, HX0.out, HR0.out, HX1.out, HNE.out⟩
          case round =>
            obtain ⟨k, g, cp, k1, d1, l1, h1, rfl, rfl, hk, hok, hX, hR, hx, hne⟩ := hrel
            have o := SOk.run HRy.out (SOk.first HRy.out) hok
            rw [hX] at o
            have HO := Lib.hid o
            have HOK := Lib.hid hok
            have HXk := Lib.hid hX
            have HR := Lib.hid hR
            have bX2 := bX.on hR.bel
            have HW := Lib.hid hR.bel
            have HB2 := Lib.hid (bel_end HB.out hR.bel)
            clear o hok hX hR HR0 HX1 HB1 bX1 bX
            have hgl := HR.out.up
            have hgx := hx.lt
            by_cases hkN : k < N
            case neg =>
              have EK : k = N := by omega
              subst EK
              have HQ0 : Hid (tcod zs ys (i : Int) c s h (k : Int) = 0) := Lib.hid (by rw [HQ.out, HOK.out]; rfl)
              have hkk : ¬ (k : Int) < (k : Int) := by omega
              clear hkN hk
              go_wp2
              go_ret2
              exact Or.inl ⟨HQ0.out, g, cp, rfl, ⟨World.ownsRow.mono HR.out.own HB.out.size, HB2.out⟩⟩
            case pos =>
              obtain ⟨et, evv, hE⟩ := evW_iface a b ca cb zs ys i c s h k1 d1
              obtain ⟨⟨k2, d2, l2, h2⟩, hN2⟩ : ∃ x, nxt zs ys i c h ⟨k1, d1, l1, h1⟩ = x := ⟨_, rfl⟩
              have KT0 : Hid (∀ W : World, Below w.heap.size w W → Calls Tryz.prog 57 #[.agg #[.slice a zs.length ca, .slice b ys.length cb, .int .i64 (i : Int), .int .i64 c, .int .i64 s, .int .i64 h], .agg #[.int .i64 (k1 : Int), .bool d1, .int .i64 l1, .int .i64 h1]] W fun e w' => e = .returned (if nxB zs ys i c h ⟨k1, d1, l1, h1⟩ then .tuple #[.agg #[.iface et evv, .int .i64 (k2 : Int), .bool d2, .int .i64 l2, .int .i64 h2], .int .i64 0] else .tuple #[.agg #[.nilIface, .int .i64 0, .bool false, .int .i64 0, .int .i64 0], .int .i64 3]) ∧ Below W.heap.size W w') := Lib.hid (fun W hb => by have := stf_any W a b ca cb zs ys i k1 c s h l1 h1 d1 (HP.out.on hb) HRy.out HO.out; rwa [hE, hN2] at this)
              have HN1 : Hid (runS zs ys i c h (fst0 i s) (k + 1) = ⟨k2, d2, l2, h2⟩) := Lib.hid (by show nxt zs ys i c h (runS zs ys i c h (fst0 i s) k) = _; rw [HXk.out, hN2])
              have HST : Hid (stpC a b ca cb zs ys i c s h k = [.iface et evv, .int .i64 (k2 : Int), .bool d2, .int .i64 l2, .int .i64 h2]) := Lib.hid (by unfold stpC; rw [HN1.out, HXk.out]; dsimp only; rw [hE])
              have HOK2 : Hid (okN zs ys i c h (fst0 i s) (k + 1) = nxB zs ys i c h ⟨k1, d1, l1, h1⟩) := Lib.hid (by show (okN zs ys i c h (fst0 i s) k && nxB zs ys i c h (runS zs ys i c h (fst0 i s) k)) = _; rw [HOK.out, HXk.out, Bool.true_and])
              clear hE hN2
              obtain ⟨NB, hNB⟩ : ∃ x, nxB zs ys i c h ⟨k1, d1, l1, h1⟩ = x := ⟨_, rfl⟩
              rw [hNB] at KT0 HOK2
              clear hNB
              cases NB
              case false =>
                have KT1 := KT0.out
                simp only [if_true, Bool.false_eq_true, if_false] at KT1
                have KT := Lib.hid KT1
                clear KT0 KT1
                have HQ0 : Hid (tcod zs ys (i : Int) c s h (N : Int) = 3) := Lib.hid (by rw [HQ.out, okN_more (m := k + 1) HOK2.out (by omega)]; rfl)
                have bX2_0 := bX2.cell 0 rfl
                have bX2_1 := bX2.cell 1 rfl
                have bX2_2 := bX2.cell 2 rfl
                have bX2_3 := bX2.cell 3 rfl
                have bX2_4 := bX2.cell 4 rfl
                have bX2_5 := bX2.cell 5 rfl
                have bX2_l := bX2.lt
                have hx_0 := hx.cell 0 rfl
                have hx_1 := hx.cell 1 rfl
                have hx_2 := hx.cell 2 rfl
                have hx_3 := hx.cell 3 rfl
                go_wp2_with fail
                clear hx_0 hx_1 hx_2 hx_3
                clear bX2_0 bX2_1 bX2_2 bX2_3 bX2_4 bX2_5 bX2_l
                (with_reducible refine Calls.mono (KT.out _ HB2.out) ?_)
                rintro e w2 ⟨rfl, hb⟩
                go_wp2
                go_ret2
                exact Or.inr ⟨by rw [HQ0.out]; decide, by rw [HQ0.out]; rfl, by first | exact bel_end HB2.out hb | exact (bel_end HB2.out hb).alloc (Nat.le_trans HB2.out.size hb.size) _⟩
              case true =>
                have KT1 := KT0.out
                simp only [if_true, Bool.false_eq_true, if_false] at KT1
                have KT := Lib.hid KT1
                clear KT0 KT1
                have bX2_0 := bX2.cell 0 rfl
                have bX2_1 := bX2.cell 1 rfl
                have bX2_2 := bX2.cell 2 rfl
                have bX2_3 := bX2.cell 3 rfl
                have bX2_4 := bX2.cell 4 rfl
                have bX2_5 := bX2.cell 5 rfl
                have bX2_l := bX2.lt
                have hx_0 := hx.cell 0 rfl
                have hx_1 := hx.cell 1 rfl
                have hx_2 := hx.cell 2 rfl
                have hx_3 := hx.cell 3 rfl
                go_wp2_with fail
                clear hx_0 hx_1 hx_2 hx_3
                clear bX2_0 bX2_1 bX2_2 bX2_3 bX2_4 bX2_5 bX2_l
                (with_reducible refine Calls.mono (KT.out _ HB2.out) ?_)
                rintro e w2 ⟨rfl, hb⟩
                replace bX2 := bX2.on hb
                replace hx := hx.on hb
                replace HR := Lib.hid (HR.out.on hb)
                replace HW := Lib.hid HR.out.bel
                clear hb
                go_upto_region 12 with fail
                generalize hW : World.alloc _ _ = W3
                obtain ⟨gN, hg⟩ : ∃ g, g = w2.heap.size := ⟨_, rfl⟩
                have bN : Bk W3 gN #[.iface et evv, .int .i64 (k2 : Int), .bool d2, .int .i64 l2, .int .i64 h2] 81 := by rw [← hW]; exact Bk.new' hg
                have hb : Below w2.heap.size w2 W3 := by rw [← hW]; exact (Below.refl _ _).alloc (Nat.le_refl _) _
                try rw [← hg]
                have hNx : gN ≠ gx := by have := hx.lt; omega
                have hNg : gN ≠ g := by have := HR.out.up; omega
                replace bX2 := bX2.on hb
                replace hx := hx.on hb
                replace HR := Lib.hid (HR.out.on hb)
                replace HW := Lib.hid HR.out.bel
                clear hW hg hb
                have le_gx : w1.heap.size ≤ gx := hl2
                go_wp2_with fail
                obtain ⟨S, hSd⟩ : ∃ S : World → Prop, ∀ w', S w' ↔ (w'.cell? ⟨gN, 0, none⟩ = some (.iface et evv) ∧ w'.cell? ⟨gN, 1, none⟩ = some (.int .i64 (k2 : Int)) ∧ w'.cell? ⟨gN, 2, none⟩ = some (.bool d2) ∧ w'.cell? ⟨gN, 3, none⟩ = some (.int .i64 l2) ∧ w'.cell? ⟨gN, 4, none⟩ = some (.int .i64 h2)) := ⟨_, fun _ => Iff.rfl⟩
                have HSp : Hid (∀ w' : World, Bk w' (gN) #[.iface et evv, .int .i64 (k2 : Int), .bool d2, .int .i64 l2, .int .i64 h2] 81 → S w') := Lib.hid (fun w' bN => (hSd w').2 ⟨bN.cell 0 rfl, bN.cell 1 rfl, bN.cell 2 rfl, bN.cell 3 rfl, bN.cell 4 rfl⟩)
                have HSd := Lib.hid hSd
                clear hSd
                refine wp_region_held_drew (S := S) (by kernel_rfl) ?_ (fun hH => ?_)
                · exact (HSp.out _ bN : S (World.drew W3))
                clear hH
                generalize hX : World.drew W3 = V0
                replace bN : Bk V0 (gN) #[.iface et evv, .int .i64 (k2 : Int), .bool d2, .int .i64 l2, .int .i64 h2] 81 := by rw [← hX]; exact bN
                replace hx : Bk V0 (gx) #[.int .i64 (k1 : Int), .bool d1, .int .i64 l1, .int .i64 h1] 38 := by rw [← hX]; exact hx
                have hb : Below W3.heap.size W3 V0 := by rw [← hX]; exact (Below.refl _ _).drew
                clear hX
                replace HR := Lib.hid (HR.out.on hb)
                replace HW := Lib.hid (bel_end HW.out hb)
                clear hb
                have hS := HSp.out _ bN
                refine wpAnyH_take (i := 0) (oi := { dst := some 40, op := Go.Op.move (Go.Operand.tmp 7), type := 53, pos := "l07_rays.go:252", after := #[], guard := none }) (v := ?_) rfl (by kernel_rfl) (by kernel_rfl) (by kernel_rfl) (fun _ _ _ h => h) (Or.inl ⟨by rfl, ?_⟩) hS ?_
                rotate_left
                · (intro w hSw; have hSw := (HSd.out w).1 hSw; go_split_ands; go_simp) <;> with_reducible rfl
                clear hS
                try simp only [Act.put, List.setIfInBounds_toArray, List.set_cons_zero, List.set_cons_succ]
                have hS := HSp.out _ bN
                refine wpAnyH_take (i := 1) (oi := { dst := some 41, op := Go.Op.load 81 (Go.Operand.tmp 9), type := 81, pos := "l07_rays.go:252", after := #[], guard := none }) (v := ?_) rfl (by kernel_rfl) (by kernel_rfl) (by kernel_rfl) (fun _ _ _ h => h) (Or.inl ⟨by rfl, ?_⟩) hS ?_
                rotate_left
                · (intro w hSw; have hSw := (HSd.out w).1 hSw; go_split_ands; go_simp) <;> with_reducible rfl
                clear hS
                try simp only [Act.put, List.setIfInBounds_toArray, List.set_cons_zero, List.set_cons_succ]
                have hS := HSp.out _ bN
                refine wpAnyH_take (i := 4) (oi := { dst := some 44, op := Go.Op.fieldAddr 81 (Go.Operand.tmp 9) 1, type := 0, pos := "l07_rays.go:252", after := #[{ on := 6, ground := Go.Ground.gcOnly Go.Departure.lateStores }], guard := none }) (v := ?_) rfl (by kernel_rfl) (by kernel_rfl) (by kernel_rfl) (fun _ _ _ h => h) (Or.inl ⟨by rfl, ?_⟩) hS ?_
                rotate_left
                · (intro w hSw; have hSw := (HSd.out w).1 hSw; go_split_ands; go_simp) <;> with_reducible rfl
                clear hS
                try simp only [Act.put, List.setIfInBounds_toArray, List.set_cons_zero, List.set_cons_succ]
                have hS := HSp.out _ bN
                refine wpAnyH_take (i := 5) (oi := { dst := some 45, op := Go.Op.load 38 (Go.Operand.tmp 44), type := 38, pos := "l07_rays.go:252", after := #[{ on := 4, ground := Go.Ground.data }, { on := 6, ground := Go.Ground.gcOnly Go.Departure.lateStores }], guard := none }) (v := ?_) rfl (by kernel_rfl) (by kernel_rfl) (by kernel_rfl) (fun _ _ _ h => h) (Or.inl ⟨by rfl, ?_⟩) hS ?_
                rotate_left
                · (intro w hSw; have hSw := (HSd.out w).1 hSw; go_split_ands; go_simp) <;> with_reducible rfl
                clear hS
                try simp only [Act.put, List.setIfInBounds_toArray, List.set_cons_zero, List.set_cons_succ]
                refine wpAnyH_ready (rs := [2]) (by decide +kernel) (by simp) ?_
                refine AllReadyH.cons (o := { dst := some 42, op := Go.Op.buildSlice 53 1 #[(0, Go.Operand.tmp 41)], type := 53, pos := "l07_rays.go:252", after := #[{ on := 1, ground := Go.Ground.data }], guard := none }) rfl (fun Kn hK => ?_) AllReadyH.nil
                go_simp
                generalize hX : World.alloc V0 _ = V1
                obtain ⟨g2, hg⟩ : ∃ g, g = V0.heap.size := ⟨_, rfl⟩
                have bn2 : Bk V1 g2 #[.iface et evv, .int .i64 (k2 : Int), .bool d2, .int .i64 l2, .int .i64 h2] 81 := by rw [← hX]; exact Bk.new' hg
                have le2 : w1.heap.size ≤ g2 := by rw [hg]; exact HW.out.size
                have nebN_2 : gN ≠ g2 := by have := bN.lt; omega
                have nehx_2 : gx ≠ g2 := by have := hx.lt; omega
                try rw [← hg]
                have hb : Below V0.heap.size V0 V1 := by rw [← hX]; exact (Below.refl _ _).alloc (Nat.le_refl _) _
                clear hX hg
                replace bN := bN.on hb
                replace hx := hx.on hb
                replace HR := Lib.hid (HR.out.on hb)
                replace HW := Lib.hid (bel_end HW.out hb)
                clear hb
                refine hK.out _ _ (HSp.out _ bN) (fun _ => ?_)
                clear hK Kn
                refine wpAnyH_ready (rs := [3]) (by decide +kernel) (by simp) ?_
                refine AllReadyH.cons (o := { dst := some 43, op := Go.Op.call { callee := Go.Callee.builtin Go.Builtin.append, args := #[Go.Operand.tmp 40, Go.Operand.tmp 42], argTypes := #[53, 53] }, type := 53, pos := "l07_rays.go:252", after := #[{ on := 0, ground := Go.Ground.data }, { on := 2, ground := Go.Ground.data }], guard := none }) rfl (fun Kn hK => ?_) AllReadyH.nil
                refine step_append_lies _ rfl _ _ 53 rfl w1.heap.size 81 i0 (.agg #[.nilIface, .int .i64 0, .bool false, .int .i64 0, .int .i64 0]) 5 48 Tryz.underlying53 hi0 hz0 hz1 hz2 rfl (by decide) (.slice (some ⟨g, 0, none⟩) k cp) k (rowL (stpC a b ca cb zs ys i c s h) k) rfl HR.out.own ⟨g2, 0, none⟩ 1 1 [.iface et evv, .int .i64 (k2 : Int), .bool d2, .int .i64 l2, .int .i64 h2] rfl rfl (World.news_of_block (cs := #[.iface et evv, .int .i64 (k2 : Int), .bool d2, .int .i64 l2, .int .i64 h2]) (t := 81) (fr := (0, 0)) bn2) (by simp [Value.oneCell']) (by decide) (by unfold maxLen; omega) (by omega) (HR.out.bel.size) V1.heap.size rfl ?_
                intro g2 cp2 V2 hown hgrow hat hlt9
                replace hgrow : V1.grownBy V2 (some g) := hgrow
                have hg2 : g2 ≠ gx := by
                  have := hx.lt
                  rcases hat with e | e
                  · have e : some g = some g2 := e
                    injection e with e
                    omega
                  · omega
                replace HR := Lib.hid (HR.out.snoc hown hgrow)
                replace hx := hx.kept hgrow (by intro e; injection e with e; omega)
                replace bN := bN.kept hgrow (by intro e; injection e with e; omega)
                replace HW := Lib.hid HR.out.bel
                clear hown hgrow hat hlt9 bn2
                try simp only [Act.put, List.setIfInBounds_toArray, List.set_cons_zero, List.set_cons_succ]
                refine hK.out _ _ (HSp.out _ bN) (fun _ => ?_)
                clear hK Kn
                have hS := HSp.out _ bN
                refine wpAnyH_take (i := 6) (oi := { dst := some 7, op := Go.Op.assign (Go.Operand.tmp 43), type := 53, pos := "l07_rays.go:252", after := #[{ on := 3, ground := Go.Ground.data }, { on := 3, ground := Go.Ground.chain }, { on := 0, ground := Go.Ground.phase }, { on := 1, ground := Go.Ground.phase }, { on := 2, ground := Go.Ground.phase }, { on := 3, ground := Go.Ground.phase }, { on := 4, ground := Go.Ground.textOnly Go.Departure.lateStores }, { on := 5, ground := Go.Ground.textOnly Go.Departure.lateStores }], guard := none }) (v := ?_) rfl (by kernel_rfl) (by kernel_rfl) (by kernel_rfl) (fun _ _ _ h => h) (Or.inl ⟨by rfl, ?_⟩) hS ?_
                rotate_left
                · (intro w hSw; have hSw := (HSd.out w).1 hSw; go_split_ands; go_simp) <;> with_reducible rfl
                clear hS
                try simp only [Act.put, List.setIfInBounds_toArray, List.set_cons_zero, List.set_cons_succ]
                refine wpAnyH_ready (rs := [7]) (by decide +kernel) (by simp) ?_
                refine AllReadyH.cons (o := { dst := none, op := Go.Op.store 38 (Go.Operand.tmp 8) (Go.Operand.tmp 45), type := 0, pos := "l07_rays.go:252", after := #[{ on := 5, ground := Go.Ground.data }, { on := 6, ground := Go.Ground.chain }, { on := 0, ground := Go.Ground.phase }, { on := 1, ground := Go.Ground.phase }, { on := 2, ground := Go.Ground.phase }, { on := 3, ground := Go.Ground.phase }, { on := 4, ground := Go.Ground.phase }, { on := 5, ground := Go.Ground.phase }, { on := 6, ground := Go.Ground.phase }], guard := none }) rfl (fun Kn hK => ?_) AllReadyH.nil
                have hx_0 := hx.cell 0 rfl
                have hx_1 := hx.cell 1 rfl
                have hx_2 := hx.cell 2 rfl
                have hx_3 := hx.cell 3 rfl
                have hx_f0 := hx.frozen 0
                have hx_f1 := hx.frozen 1
                have hx_f2 := hx.frozen 2
                have hx_f3 := hx.frozen 3
                have hx_l := hx.lt
                go_simp
                clear hx_0 hx_f0 hx_1 hx_f1 hx_2 hx_f2 hx_3 hx_f3 hx_l
                generalize hX : World.setCell _ _ _ = V3
                have hb : Below w1.heap.size w1 V3 := by rw [← hX]; exact ((((HW.out.setCell (p := ⟨gx, 0, none⟩) (by first | omega | (dsimp only; omega)) _).setCell (p := ⟨gx, 1, none⟩) (by first | omega | (dsimp only; omega)) _).setCell (p := ⟨gx, 2, none⟩) (by first | omega | (dsimp only; omega)) _).setCell (p := ⟨gx, 3, none⟩) (by first | omega | (dsimp only; omega)) _)
                have HR2 := Lib.hid (RowG.at_ HR.out (by rw [← hX]; exact heap_far4 hg2 _ _ _ _) hb)
                clear HR
                have HR := HR2
                clear HR2
                replace bN : Bk V3 (gN) #[.iface et evv, .int .i64 (k2 : Int), .bool d2, .int .i64 l2, .int .i64 h2] 81 := by rw [← hX]; exact (Bk.other (Bk.other (Bk.other (Bk.other bN (by omega) 0 _) (by omega) 1 _) (by omega) 2 _) (by omega) 3 _)
                replace hx : Bk V3 (gx) #[.int .i64 (k2 : Int), .bool d2, .int .i64 l2, .int .i64 h2] 38 := by rw [← hX]; exact (Bk.set (Bk.set (Bk.set (Bk.set hx 0 _ rfl) 1 _ rfl) 2 _ rfl) 3 _ rfl)
                clear hX
                replace HW := Lib.hid hb
                clear hb
                refine hK.out _ _ (HSp.out _ bN) (fun _ => ?_)
                clear hK Kn
                refine wpAnyH_done (by kernel_rfl) ?_ _
                rw [← HST.out, ← rowL_succ] at HR
                go_wp2
                go_roundw
                (case rel => exact ⟨k + 1, g2, cp2, k2, d2, l2, h2, rfl, by go_num, by omega, HOK2.out, HN1.out, HR.out, hx, hg2⟩)
                (case measure => simp [intOf]; omega)
end
end Go.Proofs.YtgecbfbmmbfnmaaGreat
