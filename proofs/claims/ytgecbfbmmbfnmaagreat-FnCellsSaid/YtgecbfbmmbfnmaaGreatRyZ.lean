import Derived.Test.YtgecbfbmmbfnmaaGreatRyW
import Derived.Test.YtgecbfbmmbfnmaaGreatRyY
import Derived.Test.YtgecbfbmmbfnmaaGreatLys
import Derived.Handy
import Derived.Outline
import Derived.LoopTactic
import Derived.Deep.RegionHeld3
import Derived.Deep.DeepCutAuto
import Derived.Deep.RegionWith
namespace Go.Proofs.YtgecbfbmmbfnmaaGreat
section
/- The contract of the program's TraceRay. -/
open Go.ChangeShapes Go.WideShapes Go.ChangeAt Go.RowKit Go.Shelf Num
set_option linter.unusedVariables false
set_option linter.unusedSimpArgs false
theorem tcod_0 {zs ys : List Int} {src c s h n : Int} (e : tcod zs ys src c s h n = 0) : ∃ i N : Nat, src = (i : Int) ∧ n = (N : Int) ∧ N ≤ 100 ∧ RyOk zs ys i c s h ∧ okN zs ys i c h (fst0 i s) N = true := by
  unfold tcod at e
  by_cases hq : fcod zs ys src c s h = 0
  · rw [if_pos hq] at e
    obtain ⟨i, rfl, r⟩ := fcod_0 hq
    cases hin : inB n 0 100
    · rw [hin] at e; simp at e
    · have hn : 0 ≤ n ∧ n ≤ 100 := by unfold inB at hin; simpa using hin
      rw [hin, if_pos rfl] at e
      refine ⟨i, n.toNat, rfl, by omega, by omega, r, ?_⟩
      cases hk : okN zs ys i c h (fst0 i s) n.toNat
      · rw [Int.toNat_natCast, hk] at e; simp at e
      · rfl
  · rw [if_neg hq] at e; exact absurd e hq
/-- the events; the state behind them; the ranges -/
def trL (zs ys : List Int) (src c s h n : Int) : List Int := if tcod zs ys src c s h n = 0 then evL zs ys src.toNat c h (fst0 src.toNat s) n.toNat else []
def trS (zs ys : List Int) (src c s h n : Int) : Int × Bool × Int × Int :=
  if tcod zs ys src c s h n = 0 then (((runS zs ys src.toNat c h (fst0 src.toNat s) n.toNat).k : Int), (runS zs ys src.toNat c h (fst0 src.toNat s) n.toNat).dn, (runS zs ys src.toNat c h (fst0 src.toNat s) n.toNat).lo, (runS zs ys src.toNat c h (fst0 src.toNat s) n.toNat).hi) else (0, false, 0, 0)
theorem RowG.ownA {w1 W : World} {g c N lo : Nat} {L : List Int} (h : RowG w1 2 1 g c N (L.map iv4) W) (hl : L.length = N) (hlo : lo ≤ w1.heap.size) : OwnA W lo W.heap.size (some ⟨g, 0, none⟩) c L := by
  subst hl
  exact ⟨World.ownsRow.mono h.own hlo, fun g e => (h.own.lt g e).2, Nat.le_refl _⟩
theorem OwnA.grow {w : World} {lo hi hi' : Nat} {a : Option Addr} {c : Nat} {L : List Int} (h : OwnA w lo hi a c L) (h1 : hi ≤ hi') (h2 : hi' ≤ w.heap.size) : OwnA w lo hi' a c L := ⟨h.own, fun g e => Nat.lt_of_lt_of_le (h.lt g e) h1, h2⟩
theorem OwnA.far4 {W : World} {lo hi g c B : Nat} {L : List Int} (h : OwnA W lo hi (some ⟨g, 0, none⟩) c L) (hne : g ≠ B) (v0 v1 v2 v3 : Value) : OwnA ((((W.setCell ⟨B, 0, none⟩ v0).setCell ⟨B, 1, none⟩ v1).setCell ⟨B, 2, none⟩ v2).setCell ⟨B, 3, none⟩ v3) lo hi (some ⟨g, 0, none⟩) c L :=
  ⟨own_atG h.own (fun g' e => by simp [Value.ownBlock] at e; subst e; exact heap_far4 hne _ _ _ _), h.lt, by simpa [World.setCell] using h.up⟩
theorem OwnA.none (W : World) (lo : Nat) (h : lo ≤ W.heap.size) : OwnA W lo W.heap.size none 0 [] := (RowIn.nil W).ownA h
set_option maxRecDepth 100000 in
set_option maxHeartbeats 8000000 in
theorem itr_any (w : World) (a b : Option Addr) (ca cb : Nat) (zs ys : List Int) (src c s h n : Int) (hp : Prof w w.heap.size a b zs ys) :
    Calls Tryz.prog 10 #[.agg #[.slice a zs.length ca, .slice b ys.length cb], .int .i64 src, .agg #[.int .i64 c, .int .i64 s, .int .i64 h], .int .i64 n] w fun e w' => ∃ (a' : Option Addr) (c' : Nat), e = .returned (.tuple #[.slice a' (trL zs ys src c s h n).length c', .agg #[.int .i64 (trS zs ys src c s h n).1, .bool (trS zs ys src c s h n).2.1, .int .i64 (trS zs ys src c s h n).2.2.1, .int .i64 (trS zs ys src c s h n).2.2.2], .int .i64 (tcod zs ys src c s h n)]) ∧ OwnA w' w.heap.size w'.heap.size a' c' (trL zs ys src c s h n) ∧ Below w.heap.size w w' := by
  have HP := Lib.hid hp
  have KF : Hid (∀ W : World, Below w.heap.size w W → Calls Tryz.prog 26 #[.agg #[.slice a zs.length ca, .slice b ys.length cb, .int .i64 src, .int .i64 c, .int .i64 s, .int .i64 h], .int .i64 n] W (FssP W (stpC a b ca cb zs ys src.toNat c s h) (tcod zs ys src c s h n) n.toNat)) := Lib.hid (fun W hb => fss_any W a b ca cb zs ys src c s h n (HP.out.on hb))
  by_cases hq : tcod zs ys src c s h n = 0
  case neg =>
    have H1 : Hid (trL zs ys src c s h n = []) := Lib.hid (by unfold trL; rw [if_neg hq])
    have H2 : Hid (trS zs ys src c s h n = (0, false, 0, 0)) := Lib.hid (by unfold trS; rw [if_neg hq])
    have HQ := Lib.hid hq
    obtain ⟨q, hqq⟩ : ∃ q, tcod zs ys src c s h n = q := ⟨_, rfl⟩
    rw [hqq] at KF HQ ⊢
    have hq0 : (q != 0) = true := by have := HQ.out; simpa using this
    clear hqq hq hp
    go_enter Tryz.func10, Tryz.ntmps10
    go_wp2_with fail
    generalize hW : World.alloc _ _ = W
    have bP : Bk W (w.heap.size) #[.slice a zs.length ca, .slice b ys.length cb] 26 := by rw [← hW]; repeat (first | (refine Bk.new' ?_; (simp; done)) | refine Bk.alloc ?_ _)
    have bD : Bk W (w.heap.size + 1) #[.int .i64 c, .int .i64 s, .int .i64 h] 28 := by rw [← hW]; repeat (first | (refine Bk.new' ?_; (simp; done)) | refine Bk.alloc ?_ _)
    have bR : Bk W (w.heap.size + 1 + 1) #[.int .i64 0, .bool false, .int .i64 0, .int .i64 0] 38 := by rw [← hW]; repeat (first | (refine Bk.new' ?_; (simp; done)) | refine Bk.alloc ?_ _)
    have bT : Bk W (w.heap.size + 1 + 1 + 1) #[.slice a zs.length ca, .slice b ys.length cb, .int .i64 src, .int .i64 c, .int .i64 s, .int .i64 h] 74 := by rw [← hW]; repeat (first | (refine Bk.new' ?_; (simp; done)) | refine Bk.alloc ?_ _)
    have HB : Hid (Below w.heap.size w W) := Lib.hid (by rw [← hW]; exact (by repeat (first | exact Below.refl _ _ | (refine Below.alloc ?_ (by simp <;> omega) _) | (refine Below.setCell ?_ (by simp <;> omega) _) | (refine Below.drew ?_) | (refine bel_drewN ?_ _))))
    clear hW
    (with_reducible refine Calls.mono (KF.out _ HB.out) ?_)
    rintro e w1 hF
    obtain ⟨rfl, hb⟩ : e = .returned (.tuple #[.slice none 0 0, .int .i64 q]) ∧ Below W.heap.size W w1 := by
      rcases hF with ⟨h0, -⟩ | ⟨-, h1, h2⟩
      · exact absurd h0 HQ.out
      · exact ⟨h1, h2⟩
    clear hF
    replace bR := bR.on hb
    replace HB := Lib.hid (bel_end HB.out hb)
    clear hb
    have bR_0 := bR.cell 0 rfl
    have bR_1 := bR.cell 1 rfl
    have bR_2 := bR.cell 2 rfl
    have bR_3 := bR.cell 3 rfl
    have bR_f0 := bR.frozen 0
    have bR_f1 := bR.frozen 1
    have bR_f2 := bR.frozen 2
    have bR_f3 := bR.frozen 3
    have bR_l := bR.lt
    go_wp2
    exact bodyPost_ret (v := .tuple #[.slice none 0 0, .agg #[.int .i64 0, .bool false, .int .i64 0, .int .i64 0], .int .i64 q]) (by simp [results, Tryz.results10, go_sem, bR_0, bR_1, bR_2, bR_3]) rfl ⟨none, 0, by rw [H1.out, H2.out]; rfl, by rw [H1.out]; exact OwnA.none _ _ (Below.size (show Below w.heap.size w _ from (by first | exact HB.out | exact ((((HB.out.setCell (p := ⟨w.heap.size + 1 + 1, 0, none⟩) (by dsimp only; omega) _).setCell (p := ⟨w.heap.size + 1 + 1, 1, none⟩) (by dsimp only; omega) _).setCell (p := ⟨w.heap.size + 1 + 1, 2, none⟩) (by dsimp only; omega) _).setCell (p := ⟨w.heap.size + 1 + 1, 3, none⟩) (by dsimp only; omega) _)))), (by first | exact HB.out | exact ((((HB.out.setCell (p := ⟨w.heap.size + 1 + 1, 0, none⟩) (by dsimp only; omega) _).setCell (p := ⟨w.heap.size + 1 + 1, 1, none⟩) (by dsimp only; omega) _).setCell (p := ⟨w.heap.size + 1 + 1, 2, none⟩) (by dsimp only; omega) _).setCell (p := ⟨w.heap.size + 1 + 1, 3, none⟩) (by dsimp only; omega) _))⟩
  case pos =>
    obtain ⟨i, N, rfl, rfl, hN, r, hok⟩ := tcod_0 hq
    have H1 : Hid (trL zs ys (i : Int) c s h (N : Int) = evL zs ys i c h (fst0 i s) N) := Lib.hid (by unfold trL; rw [if_pos hq]; rfl)
    have H2 : Hid (trS zs ys (i : Int) c s h (N : Int) = (((runS zs ys i c h (fst0 i s) N).k : Int), (runS zs ys i c h (fst0 i s) N).dn, (runS zs ys i c h (fst0 i s) N).lo, (runS zs ys i c h (fst0 i s) N).hi)) := Lib.hid (by unfold trS; rw [if_pos hq]; rfl)
    rw [hq] at KF ⊢
    rw [Int.toNat_natCast, Int.toNat_natCast] at KF
    clear hq hp hok r
    obtain ⟨j0, hj0, hy0, hy1, hy2⟩ := info_parts info_i64
    have hmk := run_make_g (t := 24) (e := 2) Tryz.underlying24 info_i64 N (by omega) (by omega)
    obtain ⟨dd, hd⟩ : ∃ x, decide (0 < s) = x := ⟨_, rfl⟩
    have KG : Hid (∀ W : World, Calls Tryz.prog 27 #[.agg #[.slice a zs.length ca, .slice b ys.length cb, .int .i64 (i : Int), .int .i64 c, .int .i64 s, .int .i64 h]] W fun e w' => e = .returned (.agg #[.int .i64 (i : Int), .bool dd, .int .i64 0, .int .i64 0]) ∧ Below W.heap.size W w') := Lib.hid (fun W => by have := fs_any W a b ca cb zs ys (i : Int) c s h; rwa [hd] at this)
    have HX0 : Hid (runS zs ys i c h (fst0 i s) 0 = ⟨i, dd, 0, 0⟩) := Lib.hid (by rw [← hd]; rfl)
    clear hd
    go_enter Tryz.func10, Tryz.ntmps10
    go_wp2_with fail
    generalize hW : World.alloc _ _ = W
    have bP : Bk W (w.heap.size) #[.slice a zs.length ca, .slice b ys.length cb] 26 := by rw [← hW]; repeat (first | (refine Bk.new' ?_; (simp; done)) | refine Bk.alloc ?_ _)
    have bD : Bk W (w.heap.size + 1) #[.int .i64 c, .int .i64 s, .int .i64 h] 28 := by rw [← hW]; repeat (first | (refine Bk.new' ?_; (simp; done)) | refine Bk.alloc ?_ _)
    have bR : Bk W (w.heap.size + 1 + 1) #[.int .i64 0, .bool false, .int .i64 0, .int .i64 0] 38 := by rw [← hW]; repeat (first | (refine Bk.new' ?_; (simp; done)) | refine Bk.alloc ?_ _)
    have bT : Bk W (w.heap.size + 1 + 1 + 1) #[.slice a zs.length ca, .slice b ys.length cb, .int .i64 (i : Int), .int .i64 c, .int .i64 s, .int .i64 h] 74 := by rw [← hW]; repeat (first | (refine Bk.new' ?_; (simp; done)) | refine Bk.alloc ?_ _)
    have HB : Hid (Below w.heap.size w W) := Lib.hid (by rw [← hW]; exact (by repeat (first | exact Below.refl _ _ | (refine Below.alloc ?_ (by simp <;> omega) _) | (refine Below.setCell ?_ (by simp <;> omega) _) | (refine Below.drew ?_) | (refine bel_drewN ?_ _))))
    clear hW
    (with_reducible refine Calls.mono (KF.out _ HB.out) ?_)
    rintro e w1 hF
    obtain ⟨g, cp, rfl, hst⟩ : ∃ g cp, e = .returned (.tuple #[.slice (some ⟨g, 0, none⟩) N cp, .int .i64 0]) ∧ RowG W 81 5 g cp N (rowL (stpC a b ca cb zs ys i c s h) N) w1 := by
      rcases hF with ⟨-, h1⟩ | ⟨h0, -⟩
      · exact h1
      · exact absurd rfl h0
    have HST := Lib.hid hst
    have hb := hst.bel
    clear hF hst
    replace bR := bR.on hb
    replace bT := bT.on hb
    replace HB := Lib.hid (bel_end HB.out hb)
    clear hb
    go_upto_region 5 with fail
    go_cut [14, 15] (fun s7 s8 wx => ∃ gR gx : Nat, s7 = .slice (some ⟨gR, 0, none⟩) 0 N ∧ s8 = .pointer (some ⟨gx, 0, none⟩) ∧ Bk wx gR (madeCells #[.int .i64 0] N) 2 ∧ Bk wx gx #[.int .i64 (i : Int), .bool dd, .int .i64 0, .int .i64 0] 38 ∧ gR ≠ gx ∧ w1.heap.size ≤ gR ∧ w1.heap.size ≤ gx ∧ Below w1.heap.size w1 wx)
    case first =>
      have HW : Hid (Below w1.heap.size w1 w1) := Lib.hid (Below.refl _ _)
      clear bR
      obtain ⟨S, hSd⟩ : ∃ S : World → Prop, ∀ w', S w' ↔ (w'.cell? ⟨w.heap.size + 1 + 1 + 1, 0, none⟩ = some (.slice a zs.length ca) ∧ w'.cell? ⟨w.heap.size + 1 + 1 + 1, 1, none⟩ = some (.slice b ys.length cb) ∧ w'.cell? ⟨w.heap.size + 1 + 1 + 1, 2, none⟩ = some (.int .i64 (i : Int)) ∧ w'.cell? ⟨w.heap.size + 1 + 1 + 1, 3, none⟩ = some (.int .i64 c) ∧ w'.cell? ⟨w.heap.size + 1 + 1 + 1, 4, none⟩ = some (.int .i64 s) ∧ w'.cell? ⟨w.heap.size + 1 + 1 + 1, 5, none⟩ = some (.int .i64 h)) := ⟨_, fun _ => Iff.rfl⟩
      have HSp : Hid (∀ w' : World, Bk w' (w.heap.size + 1 + 1 + 1) #[.slice a zs.length ca, .slice b ys.length cb, .int .i64 (i : Int), .int .i64 c, .int .i64 s, .int .i64 h] 74 → S w') := Lib.hid (fun w' bT => (hSd w').2 ⟨bT.cell 0 rfl, bT.cell 1 rfl, bT.cell 2 rfl, bT.cell 3 rfl, bT.cell 4 rfl, bT.cell 5 rfl⟩)
      have HSd := Lib.hid hSd
      clear hSd
      refine wp_region_held_drew (S := S) (by kernel_rfl) ?_ (fun hH => ?_)
      · exact (HSp.out _ bT : S (World.drew w1))
      clear hH
      generalize hX : World.drew w1 = V0
      replace bT : Bk V0 (w.heap.size + 1 + 1 + 1) #[.slice a zs.length ca, .slice b ys.length cb, .int .i64 (i : Int), .int .i64 c, .int .i64 s, .int .i64 h] 74 := by rw [← hX]; exact bT
      have hb : Below w1.heap.size w1 V0 := by rw [← hX]; exact (Below.refl _ _).drew
      clear hX
      replace HW := Lib.hid (bel_end HW.out hb)
      clear hb
      have hS := HSp.out _ bT
      refine wpAnyH_take (i := 0) (oi := { dst := some 32, op := Go.Op.move (Go.Operand.tmp 3), type := 2, pos := "l07_rays.go:85", after := #[], guard := none }) (v := ?_) rfl (by kernel_rfl) (by kernel_rfl) (by kernel_rfl) (fun _ _ _ h => h) (Or.inl ⟨by rfl, ?_⟩) hS ?_
      rotate_left
      · (intro w hSw; have hSw := (HSd.out w).1 hSw; go_split_ands; go_simp) <;> with_reducible rfl
      clear hS
      try simp only [Act.put, List.setIfInBounds_toArray, List.set_cons_zero, List.set_cons_succ]
      have hS := HSp.out _ bT
      refine wpAnyH_take (i := 2) (oi := { dst := some 34, op := Go.Op.load 74 (Go.Operand.tmp 11), type := 74, pos := "l07_rays.go:85", after := #[], guard := none }) (v := ?_) rfl (by kernel_rfl) (by kernel_rfl) (by kernel_rfl) (fun _ _ _ h => h) (Or.inl ⟨by rfl, ?_⟩) hS ?_
      rotate_left
      · (intro w hSw; have hSw := (HSd.out w).1 hSw; go_split_ands; go_simp) <;> with_reducible rfl
      clear hS
      try simp only [Act.put, List.setIfInBounds_toArray, List.set_cons_zero, List.set_cons_succ]
      refine wpAnyH_ready (rs := [1, 3, 4]) (by decide +kernel) (by simp) ?_
      refine AllReadyH.cons (o := { dst := some 33, op := Go.Op.makeSlice 24 (Go.Operand.const (Go.Value.int Go.IntKind.i64 0)) (Go.Operand.tmp 32), type := 24, pos := "l07_rays.go:85", after := #[{ on := 0, ground := Go.Ground.data }], guard := none }) rfl (fun Kn hK => ?_) ?_
      go_simp
      generalize hX : World.alloc V0 _ = V1
      obtain ⟨g1, hg⟩ : ∃ g, g = V0.heap.size := ⟨_, rfl⟩
      have bn1 : Bk V1 g1 (madeCells #[.int .i64 0] N) 2 := by rw [← hX]; exact Bk.new' hg
      have le1 : w1.heap.size ≤ g1 := by rw [hg]; exact HW.out.size
      have nebT_1 : w.heap.size + 1 + 1 + 1 ≠ g1 := by have := bT.lt; omega
      try rw [← hg]
      have hb : Below V0.heap.size V0 V1 := by rw [← hX]; exact (Below.refl _ _).alloc (Nat.le_refl _) _
      clear hX hg
      replace bT := bT.on hb
      replace HW := Lib.hid (bel_end HW.out hb)
      clear hb
      refine hK.out _ _ (HSp.out _ bT) (fun _ => ?_)
      clear hK Kn
      rotate_left
      refine AllReadyH.cons (o := { dst := some 35, op := Go.Op.call { callee := Go.Callee.value (Go.Operand.func 27), args := #[Go.Operand.tmp 34], argTypes := #[74] }, type := 38, pos := "l07_rays.go:85", after := #[{ on := 2, ground := Go.Ground.data }], guard := none }) rfl (fun Kn hK => ?_) ?_
      first | go_at_call 27 | (go_simp; go_at_call 27)
      (with_reducible refine Calls.mono (KG.out _) ?_)
      rintro e V1 ⟨rfl, hb⟩
      try dsimp only
      try simp only [Act.put, List.setIfInBounds_toArray, List.set_cons_zero, List.set_cons_succ]
      replace bT := bT.on hb
      replace HW := Lib.hid (bel_end HW.out hb)
      clear hb
      refine hK.out _ _ (HSp.out _ bT) (fun _ => ?_)
      clear hK Kn
      rotate_left
      refine AllReadyH.cons (o := { dst := some 15, op := Go.Op.alloc 38, type := 0, pos := "l07_rays.go:85", after := #[], guard := none }) rfl (fun Kn hK => ?_) AllReadyH.nil
      go_simp
      generalize hX : World.alloc V0 _ = V1
      obtain ⟨g4, hg⟩ : ∃ g, g = V0.heap.size := ⟨_, rfl⟩
      have bn4 : Bk V1 g4 #[.int .i64 0, .bool false, .int .i64 0, .int .i64 0] 38 := by rw [← hX]; exact Bk.new' hg
      have le4 : w1.heap.size ≤ g4 := by rw [hg]; exact HW.out.size
      have nebT_4 : w.heap.size + 1 + 1 + 1 ≠ g4 := by have := bT.lt; omega
      try rw [← hg]
      have hb : Below V0.heap.size V0 V1 := by rw [← hX]; exact (Below.refl _ _).alloc (Nat.le_refl _) _
      clear hX hg
      replace bT := bT.on hb
      replace HW := Lib.hid (bel_end HW.out hb)
      clear hb
      refine hK.out _ _ (HSp.out _ bT) (fun _ => ?_)
      clear hK Kn
      all_goals
        first
        | (refine wpAnyH_ready (rs := [3, 4]) (by decide +kernel) (by simp) ?_
           refine AllReadyH.cons (o := { dst := some 35, op := Go.Op.call { callee := Go.Callee.value (Go.Operand.func 27), args := #[Go.Operand.tmp 34], argTypes := #[74] }, type := 38, pos := "l07_rays.go:85", after := #[{ on := 2, ground := Go.Ground.data }], guard := none }) rfl (fun Kn hK => ?_) ?_
           first | go_at_call 27 | (go_simp; go_at_call 27)
           (with_reducible refine Calls.mono (KG.out _) ?_)
           rintro e V2 ⟨rfl, hb⟩
           try dsimp only
           try simp only [Act.put, List.setIfInBounds_toArray, List.set_cons_zero, List.set_cons_succ]
           replace bT := bT.on hb
           replace bn1 := bn1.on hb
           replace HW := Lib.hid (bel_end HW.out hb)
           clear hb
           refine hK.out _ _ (HSp.out _ bT) (fun _ => ?_)
           clear hK Kn
           rotate_left
           refine AllReadyH.cons (o := { dst := some 15, op := Go.Op.alloc 38, type := 0, pos := "l07_rays.go:85", after := #[], guard := none }) rfl (fun Kn hK => ?_) AllReadyH.nil
           go_simp
           generalize hX : World.alloc V1 _ = V2
           obtain ⟨g4, hg⟩ : ∃ g, g = V1.heap.size := ⟨_, rfl⟩
           have bn4 : Bk V2 g4 #[.int .i64 0, .bool false, .int .i64 0, .int .i64 0] 38 := by rw [← hX]; exact Bk.new' hg
           have le4 : w1.heap.size ≤ g4 := by rw [hg]; exact HW.out.size
           have nebT_4 : w.heap.size + 1 + 1 + 1 ≠ g4 := by have := bT.lt; omega
           have ne1_4 : g1 ≠ g4 := by have := bn1.lt; omega
           try rw [← hg]
           have hb : Below V1.heap.size V1 V2 := by rw [← hX]; exact (Below.refl _ _).alloc (Nat.le_refl _) _
           clear hX hg
           replace bT := bT.on hb
           replace bn1 := bn1.on hb
           replace HW := Lib.hid (bel_end HW.out hb)
           clear hb
           refine hK.out _ _ (HSp.out _ bT) (fun _ => ?_)
           clear hK Kn)
        | (refine wpAnyH_ready (rs := [1, 4]) (by decide +kernel) (by simp) ?_
           refine AllReadyH.cons (o := { dst := some 33, op := Go.Op.makeSlice 24 (Go.Operand.const (Go.Value.int Go.IntKind.i64 0)) (Go.Operand.tmp 32), type := 24, pos := "l07_rays.go:85", after := #[{ on := 0, ground := Go.Ground.data }], guard := none }) rfl (fun Kn hK => ?_) ?_
           go_simp
           generalize hX : World.alloc V1 _ = V2
           obtain ⟨g1, hg⟩ : ∃ g, g = V1.heap.size := ⟨_, rfl⟩
           have bn1 : Bk V2 g1 (madeCells #[.int .i64 0] N) 2 := by rw [← hX]; exact Bk.new' hg
           have le1 : w1.heap.size ≤ g1 := by rw [hg]; exact HW.out.size
           have nebT_1 : w.heap.size + 1 + 1 + 1 ≠ g1 := by have := bT.lt; omega
           try rw [← hg]
           have hb : Below V1.heap.size V1 V2 := by rw [← hX]; exact (Below.refl _ _).alloc (Nat.le_refl _) _
           clear hX hg
           replace bT := bT.on hb
           replace HW := Lib.hid (bel_end HW.out hb)
           clear hb
           refine hK.out _ _ (HSp.out _ bT) (fun _ => ?_)
           clear hK Kn
           rotate_left
           refine AllReadyH.cons (o := { dst := some 15, op := Go.Op.alloc 38, type := 0, pos := "l07_rays.go:85", after := #[], guard := none }) rfl (fun Kn hK => ?_) AllReadyH.nil
           go_simp
           generalize hX : World.alloc V1 _ = V2
           obtain ⟨g4, hg⟩ : ∃ g, g = V1.heap.size := ⟨_, rfl⟩
           have bn4 : Bk V2 g4 #[.int .i64 0, .bool false, .int .i64 0, .int .i64 0] 38 := by rw [← hX]; exact Bk.new' hg
           have le4 : w1.heap.size ≤ g4 := by rw [hg]; exact HW.out.size
           have nebT_4 : w.heap.size + 1 + 1 + 1 ≠ g4 := by have := bT.lt; omega
           try rw [← hg]
           have hb : Below V1.heap.size V1 V2 := by rw [← hX]; exact (Below.refl _ _).alloc (Nat.le_refl _) _
           clear hX hg
           replace bT := bT.on hb
           replace HW := Lib.hid (bel_end HW.out hb)
           clear hb
           refine hK.out _ _ (HSp.out _ bT) (fun _ => ?_)
           clear hK Kn)
        | (refine wpAnyH_ready (rs := [1, 3]) (by decide +kernel) (by simp) ?_
           refine AllReadyH.cons (o := { dst := some 33, op := Go.Op.makeSlice 24 (Go.Operand.const (Go.Value.int Go.IntKind.i64 0)) (Go.Operand.tmp 32), type := 24, pos := "l07_rays.go:85", after := #[{ on := 0, ground := Go.Ground.data }], guard := none }) rfl (fun Kn hK => ?_) ?_
           go_simp
           generalize hX : World.alloc V1 _ = V2
           obtain ⟨g1, hg⟩ : ∃ g, g = V1.heap.size := ⟨_, rfl⟩
           have bn1 : Bk V2 g1 (madeCells #[.int .i64 0] N) 2 := by rw [← hX]; exact Bk.new' hg
           have le1 : w1.heap.size ≤ g1 := by rw [hg]; exact HW.out.size
           have nebT_1 : w.heap.size + 1 + 1 + 1 ≠ g1 := by have := bT.lt; omega
           have ne1_4 : g1 ≠ g4 := by have := bn4.lt; omega
           try rw [← hg]
           have hb : Below V1.heap.size V1 V2 := by rw [← hX]; exact (Below.refl _ _).alloc (Nat.le_refl _) _
           clear hX hg
           replace bT := bT.on hb
           replace bn4 := bn4.on hb
           replace HW := Lib.hid (bel_end HW.out hb)
           clear hb
           refine hK.out _ _ (HSp.out _ bT) (fun _ => ?_)
           clear hK Kn
           rotate_left
           refine AllReadyH.cons (o := { dst := some 35, op := Go.Op.call { callee := Go.Callee.value (Go.Operand.func 27), args := #[Go.Operand.tmp 34], argTypes := #[74] }, type := 38, pos := "l07_rays.go:85", after := #[{ on := 2, ground := Go.Ground.data }], guard := none }) rfl (fun Kn hK => ?_) AllReadyH.nil
           first | go_at_call 27 | (go_simp; go_at_call 27)
           (with_reducible refine Calls.mono (KG.out _) ?_)
           rintro e V2 ⟨rfl, hb⟩
           try dsimp only
           try simp only [Act.put, List.setIfInBounds_toArray, List.set_cons_zero, List.set_cons_succ]
           replace bT := bT.on hb
           replace bn4 := bn4.on hb
           replace HW := Lib.hid (bel_end HW.out hb)
           clear hb
           refine hK.out _ _ (HSp.out _ bT) (fun _ => ?_)
           clear hK Kn)
      all_goals
        first
        | (refine wpAnyH_ready (rs := [4]) (by decide +kernel) (by simp) ?_
           refine AllReadyH.cons (o := { dst := some 15, op := Go.Op.alloc 38, type := 0, pos := "l07_rays.go:85", after := #[], guard := none }) rfl (fun Kn hK => ?_) AllReadyH.nil
           go_simp
           generalize hX : World.alloc V2 _ = V3
           obtain ⟨g4, hg⟩ : ∃ g, g = V2.heap.size := ⟨_, rfl⟩
           have bn4 : Bk V3 g4 #[.int .i64 0, .bool false, .int .i64 0, .int .i64 0] 38 := by rw [← hX]; exact Bk.new' hg
           have le4 : w1.heap.size ≤ g4 := by rw [hg]; exact HW.out.size
           have nebT_4 : w.heap.size + 1 + 1 + 1 ≠ g4 := by have := bT.lt; omega
           have ne1_4 : g1 ≠ g4 := by have := bn1.lt; omega
           try rw [← hg]
           have hb : Below V2.heap.size V2 V3 := by rw [← hX]; exact (Below.refl _ _).alloc (Nat.le_refl _) _
           clear hX hg
           replace bT := bT.on hb
           replace bn1 := bn1.on hb
           replace HW := Lib.hid (bel_end HW.out hb)
           clear hb
           refine hK.out _ _ (HSp.out _ bT) (fun _ => ?_)
           clear hK Kn)
        | (refine wpAnyH_ready (rs := [3]) (by decide +kernel) (by simp) ?_
           refine AllReadyH.cons (o := { dst := some 35, op := Go.Op.call { callee := Go.Callee.value (Go.Operand.func 27), args := #[Go.Operand.tmp 34], argTypes := #[74] }, type := 38, pos := "l07_rays.go:85", after := #[{ on := 2, ground := Go.Ground.data }], guard := none }) rfl (fun Kn hK => ?_) AllReadyH.nil
           first | go_at_call 27 | (go_simp; go_at_call 27)
           (with_reducible refine Calls.mono (KG.out _) ?_)
           rintro e V3 ⟨rfl, hb⟩
           try dsimp only
           try simp only [Act.put, List.setIfInBounds_toArray, List.set_cons_zero, List.set_cons_succ]
           replace bT := bT.on hb
           replace bn1 := bn1.on hb
           replace bn4 := bn4.on hb
           replace HW := Lib.hid (bel_end HW.out hb)
           clear hb
           refine hK.out _ _ (HSp.out _ bT) (fun _ => ?_)
           clear hK Kn)
        | (refine wpAnyH_ready (rs := [1]) (by decide +kernel) (by simp) ?_
           refine AllReadyH.cons (o := { dst := some 33, op := Go.Op.makeSlice 24 (Go.Operand.const (Go.Value.int Go.IntKind.i64 0)) (Go.Operand.tmp 32), type := 24, pos := "l07_rays.go:85", after := #[{ on := 0, ground := Go.Ground.data }], guard := none }) rfl (fun Kn hK => ?_) AllReadyH.nil
           go_simp
           generalize hX : World.alloc V2 _ = V3
           obtain ⟨g1, hg⟩ : ∃ g, g = V2.heap.size := ⟨_, rfl⟩
           have bn1 : Bk V3 g1 (madeCells #[.int .i64 0] N) 2 := by rw [← hX]; exact Bk.new' hg
           have le1 : w1.heap.size ≤ g1 := by rw [hg]; exact HW.out.size
           have nebT_1 : w.heap.size + 1 + 1 + 1 ≠ g1 := by have := bT.lt; omega
           have ne1_4 : g1 ≠ g4 := by have := bn4.lt; omega
           try rw [← hg]
           have hb : Below V2.heap.size V2 V3 := by rw [← hX]; exact (Below.refl _ _).alloc (Nat.le_refl _) _
           clear hX hg
           replace bT := bT.on hb
           replace bn4 := bn4.on hb
           replace HW := Lib.hid (bel_end HW.out hb)
           clear hb
           refine hK.out _ _ (HSp.out _ bT) (fun _ => ?_)
           clear hK Kn)
      all_goals
        have hS := HSp.out _ bT
        refine wpAnyH_take (i := 5) (oi := { dst := some 14, op := Go.Op.assign (Go.Operand.tmp 33), type := 24, pos := "l07_rays.go:85", after := #[{ on := 1, ground := Go.Ground.data }, { on := 3, ground := Go.Ground.chain }, { on := 0, ground := Go.Ground.phase }, { on := 1, ground := Go.Ground.phase }, { on := 2, ground := Go.Ground.textOnly Go.Departure.lateStores }, { on := 3, ground := Go.Ground.textOnly Go.Departure.lateStoresUnsure }, { on := 4, ground := Go.Ground.phase }], guard := none }) (v := ?_) rfl (by kernel_rfl) (by kernel_rfl) (by kernel_rfl) (fun _ _ _ h => h) (Or.inl ⟨by rfl, ?_⟩) hS ?_
        rotate_left
        · (intro w hSw; have hSw := (HSd.out w).1 hSw; go_split_ands; go_simp) <;> with_reducible rfl
        clear hS
        try simp only [Act.put, List.setIfInBounds_toArray, List.set_cons_zero, List.set_cons_succ]
        refine wpAnyH_ready (rs := [6]) (by decide +kernel) (by simp) ?_
        refine AllReadyH.cons (o := { dst := none, op := Go.Op.store 38 (Go.Operand.tmp 15) (Go.Operand.tmp 35), type := 0, pos := "l07_rays.go:85", after := #[{ on := 4, ground := Go.Ground.data }, { on := 3, ground := Go.Ground.data }, { on := 5, ground := Go.Ground.chain }, { on := 0, ground := Go.Ground.phase }, { on := 1, ground := Go.Ground.phase }, { on := 2, ground := Go.Ground.phase }, { on := 3, ground := Go.Ground.phase }, { on := 4, ground := Go.Ground.phase }, { on := 5, ground := Go.Ground.phase }], guard := none }) rfl (fun Kn hK => ?_) AllReadyH.nil
        have bn4_0 := bn4.cell 0 rfl
        have bn4_1 := bn4.cell 1 rfl
        have bn4_2 := bn4.cell 2 rfl
        have bn4_3 := bn4.cell 3 rfl
        have bn4_f0 := bn4.frozen 0
        have bn4_f1 := bn4.frozen 1
        have bn4_f2 := bn4.frozen 2
        have bn4_f3 := bn4.frozen 3
        have bn4_l := bn4.lt
        go_simp
        clear bn4_0 bn4_f0 bn4_1 bn4_f1 bn4_2 bn4_f2 bn4_3 bn4_f3 bn4_l
        generalize hX : World.setCell _ _ _ = V4
        have hb : Below w1.heap.size w1 V4 := by rw [← hX]; exact ((((HW.out.setCell (p := ⟨g4, 0, none⟩) le4 _).setCell (p := ⟨g4, 1, none⟩) le4 _).setCell (p := ⟨g4, 2, none⟩) le4 _).setCell (p := ⟨g4, 3, none⟩) le4 _)
        replace bT : Bk V4 (w.heap.size + 1 + 1 + 1) #[.slice a zs.length ca, .slice b ys.length cb, .int .i64 (i : Int), .int .i64 c, .int .i64 s, .int .i64 h] 74 := by rw [← hX]; exact (Bk.other (Bk.other (Bk.other (Bk.other bT nebT_4 0 _) nebT_4 1 _) nebT_4 2 _) nebT_4 3 _)
        replace bn1 : Bk V4 (g1) (madeCells #[.int .i64 0] N) 2 := by rw [← hX]; exact (Bk.other (Bk.other (Bk.other (Bk.other bn1 ne1_4 0 _) ne1_4 1 _) ne1_4 2 _) ne1_4 3 _)
        replace bn4 : Bk V4 (g4) #[.int .i64 (i : Int), .bool dd, .int .i64 0, .int .i64 0] 38 := by rw [← hX]; exact (Bk.set (Bk.set (Bk.set (Bk.set bn4 0 _ rfl) 1 _ rfl) 2 _ rfl) 3 _ rfl)
        clear hX
        replace HW := Lib.hid hb
        clear hb
        refine hK.out _ _ (HSp.out _ bT) (fun _ => ?_)
        clear hK Kn
      all_goals
        refine wpAnyH_done (by kernel_rfl) ?_ _
        go_wp2_with fail
        go_meet
        exact ⟨_, _, rfl, rfl, bn1, bn4, ne1_4, le1, le4, HW.out⟩
    case rest =>
      obtain ⟨gR, gx, rfl, rfl, hR0, hx0, hne0, hl1, hl2, hb⟩ := hcut
      have HR0 := Lib.hid (RowG.made (w1 := w1) (m := 1) (c := N) (Z := #[.int .i64 0]) (by rw [Nat.mul_one]; exact hR0) hl1 (by unfold maxLen; omega) hb)
      have HX1 := Lib.hid hx0
      have HNE := Lib.hid hne0
      have HBR1 := Lib.hid bR
      clear hR0 hx0 hb hne0 bT bR
      go_wp2_with fail
      go_loopw [14, 38] (fun v x wr => ∃ (k ge ce k1 : Nat) (d1 : Bool) (l1 h1 : Int), v = .slice (some ⟨ge, 0, none⟩) k ce ∧ x = .int .i64 (k : Int) ∧ k ≤ N ∧ runS zs ys i c h (fst0 i s) k = ⟨k1, d1, l1, h1⟩ ∧ RowG w1 2 1 ge ce k (rowL (evC zs ys i c s h) k) wr ∧ Bk wr gx #[.int .i64 (k1 : Int), .bool d1, .int .i64 l1, .int .i64 h1] 38 ∧ ge ≠ gx) (fun _ x _ => N - (intOf x).toNat)
      case atStart => exact ⟨0, gR, N, i, dd, 0, 0, rfl, rfl, by omega, HX0.out, HR0.out, HX1.out, HNE.out⟩
      case round =>
        obtain ⟨k, ge, ce, k1, d1, l1, h1, rfl, rfl, hk, hX, hR, hx, hne⟩ := hrel
        have HXk := Lib.hid hX
        have HR := Lib.hid hR
        have HS := Lib.hid (HST.out.on hR.bel)
        have bR := HBR1.out.on hR.bel
        have HBW := Lib.hid (bel_end HB.out hR.bel)
        clear hX hR HR0 HX1 HX0 HNE
        by_cases hkN : k < N
        case neg =>
          have EK : k = N := by omega
          subst EK
          have hkk : ¬ (k : Int) < (k : Int) := by omega
          have hgB : ge ≠ w.heap.size + 1 + 1 := by have := HR.out.lo; have := HBR1.out.lt; omega
          have hRA := HR.out
          rw [evC_map] at hRA
          have HA := Lib.hid (hRA.ownA (evL_len ..) HB.out.size)
          rw [HXk.out] at H2
          dsimp only at H2
          clear hkN hk HXk hRA HR HS
          go_upto_region 12 with fail
          have hxB : gx ≠ w.heap.size + 1 + 1 := by have := HBR1.out.lt; omega
          have hLE : w.heap.size ≤ w.heap.size + 1 + 1 := by omega
          obtain ⟨S, hSd⟩ : ∃ S : World → Prop, ∀ w', S w' ↔ (w'.cell? ⟨gx, 0, none⟩ = some (.int .i64 (k1 : Int)) ∧ w'.cell? ⟨gx, 1, none⟩ = some (.bool d1) ∧ w'.cell? ⟨gx, 2, none⟩ = some (.int .i64 l1) ∧ w'.cell? ⟨gx, 3, none⟩ = some (.int .i64 h1)) := ⟨_, fun _ => Iff.rfl⟩
          have HSp : Hid (∀ w' : World, Bk w' (gx) #[.int .i64 (k1 : Int), .bool d1, .int .i64 l1, .int .i64 h1] 38 → S w') := Lib.hid (fun w' hx => (hSd w').2 ⟨hx.cell 0 rfl, hx.cell 1 rfl, hx.cell 2 rfl, hx.cell 3 rfl⟩)
          have HSd := Lib.hid hSd
          clear hSd
          refine wp_region_held_drew (S := S) (by kernel_rfl) ?_ (fun hH => ?_)
          · exact (HSp.out _ hx : S (World.drew wr))
          clear hH
          generalize hX : World.drew wr = V0
          replace hx : Bk V0 (gx) #[.int .i64 (k1 : Int), .bool d1, .int .i64 l1, .int .i64 h1] 38 := by rw [← hX]; exact hx
          replace bR : Bk V0 (w.heap.size + 1 + 1) #[.int .i64 0, .bool false, .int .i64 0, .int .i64 0] 38 := by rw [← hX]; exact bR
          have hb : Below wr.heap.size wr V0 := by rw [← hX]; exact (Below.refl _ _).drew
          clear hX
          replace HA := Lib.hid (HA.out.on hb)
          replace HBW := Lib.hid (bel_end HBW.out hb)
          clear hb
          have hS := HSp.out _ hx
          refine wpAnyH_take (i := 0) (oi := { dst := some 51, op := Go.Op.move (Go.Operand.tmp 14), type := 24, pos := "l07_rays.go:90", after := #[], guard := none }) (v := ?_) rfl (by kernel_rfl) (by kernel_rfl) (by kernel_rfl) (fun _ _ _ h => h) (Or.inl ⟨by rfl, ?_⟩) hS ?_
          rotate_left
          · (intro w hSw; have hSw := (HSd.out w).1 hSw; go_split_ands; go_simp) <;> with_reducible rfl
          clear hS
          try simp only [Act.put, List.setIfInBounds_toArray, List.set_cons_zero, List.set_cons_succ]
          have hS := HSp.out _ hx
          refine wpAnyH_take (i := 1) (oi := { dst := some 52, op := Go.Op.load 38 (Go.Operand.tmp 15), type := 38, pos := "l07_rays.go:90", after := #[{ on := 2, ground := Go.Ground.gcOnly Go.Departure.lateStores }], guard := none }) (v := ?_) rfl (by kernel_rfl) (by kernel_rfl) (by kernel_rfl) (fun _ _ _ h => h) (Or.inl ⟨by rfl, ?_⟩) hS ?_
          rotate_left
          · (intro w hSw; have hSw := (HSd.out w).1 hSw; go_split_ands; go_simp) <;> with_reducible rfl
          clear hS
          try simp only [Act.put, List.setIfInBounds_toArray, List.set_cons_zero, List.set_cons_succ]
          have hS := HSp.out _ hx
          refine wpAnyH_take (i := 2) (oi := { dst := some 8, op := Go.Op.assign (Go.Operand.tmp 51), type := 24, pos := "l07_rays.go:90", after := #[{ on := 0, ground := Go.Ground.data }, { on := 0, ground := Go.Ground.phase }, { on := 1, ground := Go.Ground.textOnly Go.Departure.lateStores }], guard := none }) (v := ?_) rfl (by kernel_rfl) (by kernel_rfl) (by kernel_rfl) (fun _ _ _ h => h) (Or.inl ⟨by rfl, ?_⟩) hS ?_
          rotate_left
          · (intro w hSw; have hSw := (HSd.out w).1 hSw; go_split_ands; go_simp) <;> with_reducible rfl
          clear hS
          try simp only [Act.put, List.setIfInBounds_toArray, List.set_cons_zero, List.set_cons_succ]
          refine wpAnyH_ready (rs := [3]) (by decide +kernel) (by simp) ?_
          refine AllReadyH.cons (o := { dst := none, op := Go.Op.store 38 (Go.Operand.tmp 9) (Go.Operand.tmp 52), type := 0, pos := "l07_rays.go:90", after := #[{ on := 1, ground := Go.Ground.data }, { on := 2, ground := Go.Ground.chain }, { on := 0, ground := Go.Ground.phase }, { on := 1, ground := Go.Ground.phase }, { on := 2, ground := Go.Ground.phase }], guard := none }) rfl (fun Kn hK => ?_) AllReadyH.nil
          have bR_0 := bR.cell 0 rfl
          have bR_1 := bR.cell 1 rfl
          have bR_2 := bR.cell 2 rfl
          have bR_3 := bR.cell 3 rfl
          have bR_f0 := bR.frozen 0
          have bR_f1 := bR.frozen 1
          have bR_f2 := bR.frozen 2
          have bR_f3 := bR.frozen 3
          have bR_l := bR.lt
          go_simp
          clear bR_0 bR_f0 bR_1 bR_f1 bR_2 bR_f2 bR_3 bR_f3 bR_l
          generalize hX : World.setCell _ _ _ = V1
          have hb : Below w.heap.size w V1 := by rw [← hX]; exact ((((HBW.out.setCell (p := ⟨w.heap.size + 1 + 1, 0, none⟩) (by first | omega | (dsimp only; omega)) _).setCell (p := ⟨w.heap.size + 1 + 1, 1, none⟩) (by first | omega | (dsimp only; omega)) _).setCell (p := ⟨w.heap.size + 1 + 1, 2, none⟩) (by first | omega | (dsimp only; omega)) _).setCell (p := ⟨w.heap.size + 1 + 1, 3, none⟩) (by first | omega | (dsimp only; omega)) _)
          have HA2 := Lib.hid (show OwnA V1 _ _ _ _ _ from by rw [← hX]; exact HA.out.far4 hgB _ _ _ _)
          clear HA
          have HA := HA2
          clear HA2
          replace hx : Bk V1 (gx) #[.int .i64 (k1 : Int), .bool d1, .int .i64 l1, .int .i64 h1] 38 := by rw [← hX]; exact (Bk.other (Bk.other (Bk.other (Bk.other hx (by omega) 0 _) (by omega) 1 _) (by omega) 2 _) (by omega) 3 _)
          replace bR : Bk V1 (w.heap.size + 1 + 1) #[.int .i64 (k1 : Int), .bool d1, .int .i64 l1, .int .i64 h1] 38 := by rw [← hX]; exact (Bk.set (Bk.set (Bk.set (Bk.set bR 0 _ rfl) 1 _ rfl) 2 _ rfl) 3 _ rfl)
          clear hX
          replace HBW := Lib.hid hb
          clear hb
          refine hK.out _ _ (HSp.out _ hx) (fun _ => ?_)
          clear hK Kn
          have hS := HSp.out _ hx
          refine wpAnyH_take (i := 4) (oi := { dst := some 10, op := Go.Op.assign (Go.Operand.const (Go.Value.int Go.IntKind.i64 0)), type := 2, pos := "l07_rays.go:90", after := #[{ on := 3, ground := Go.Ground.chain }, { on := 0, ground := Go.Ground.phase }, { on := 1, ground := Go.Ground.phase }, { on := 2, ground := Go.Ground.phase }, { on := 3, ground := Go.Ground.phase }], guard := none }) (v := ?_) rfl (by kernel_rfl) (by kernel_rfl) (by kernel_rfl) (fun _ _ _ h => h) (Or.inl ⟨by rfl, ?_⟩) hS ?_
          rotate_left
          · (intro w hSw; have hSw := (HSd.out w).1 hSw; go_split_ands; go_simp) <;> with_reducible rfl
          clear hS
          try simp only [Act.put, List.setIfInBounds_toArray, List.set_cons_zero, List.set_cons_succ]
          refine wpAnyH_done (by kernel_rfl) ?_ _
          have c0 := bR.cell 0 rfl
          have c1 := bR.cell 1 rfl
          have c2 := bR.cell 2 rfl
          have c3 := bR.cell 3 rfl
          go_wp2
          exact bodyPost_ret (v := .tuple #[.slice (some ⟨ge, 0, none⟩) k ce, .agg #[.int .i64 (k1 : Int), .bool d1, .int .i64 l1, .int .i64 h1], .int .i64 0]) (by simp [results, Tryz.results10, go_sem, c0, c1, c2, c3]) rfl ⟨some ⟨ge, 0, none⟩, ce, by rw [H1.out, H2.out, evL_len], by rw [H1.out]; exact HA.out.grow HA.out.up (Nat.le_refl _), HBW.out⟩
        case pos =>
          obtain ⟨⟨k2, d2, l2, h2⟩, hN2⟩ : ∃ x, runS zs ys i c h (fst0 i s) (k + 1) = x := ⟨_, rfl⟩
          obtain ⟨et, evv, hE⟩ := evW_iface a b ca cb zs ys i c s h k1 d1
          obtain ⟨ev, hev⟩ : ∃ x, evV zs ys i c h k1 d1 = x := ⟨_, rfl⟩
          have KK : Hid (∀ W : World, Calls Tryz.prog 28 #[.iface et evv] W fun e w' => e = .returned (.int .i64 ev) ∧ Below W.heap.size W w') := Lib.hid (fun W => by have := kin_any W a b ca cb zs ys i c s h k1 d1; rwa [hE, hev] at this)
          have e5 : stpC a b ca cb zs ys i c s h k = [.iface et evv, .int .i64 (k2 : Int), .bool d2, .int .i64 l2, .int .i64 h2] := by unfold stpC; rw [hN2, HXk.out]; dsimp only; rw [hE]
          have HEV : Hid (evC zs ys i c s h k = [.int .i64 ev]) := Lib.hid (by unfold evC; rw [HXk.out]; dsimp only; rw [hev])
          have HN1 := Lib.hid hN2
          clear hE hev hN2
          have y0 := HS.out.cell (stpC_len _ _ _ _ _ _ _ _ _ _) hkN (show 0 < 5 by omega) (show (stpC a b ca cb zs ys i c s h k)[0]? = some _ from by rw [e5]; rfl)
          have y1 := HS.out.cell (stpC_len _ _ _ _ _ _ _ _ _ _) hkN (show 1 < 5 by omega) (show (stpC a b ca cb zs ys i c s h k)[1]? = some _ from by rw [e5]; rfl)
          have y2 := HS.out.cell (stpC_len _ _ _ _ _ _ _ _ _ _) hkN (show 2 < 5 by omega) (show (stpC a b ca cb zs ys i c s h k)[2]? = some _ from by rw [e5]; rfl)
          have y3 := HS.out.cell (stpC_len _ _ _ _ _ _ _ _ _ _) hkN (show 3 < 5 by omega) (show (stpC a b ca cb zs ys i c s h k)[3]? = some _ from by rw [e5]; rfl)
          have y4 := HS.out.cell (stpC_len _ _ _ _ _ _ _ _ _ _) hkN (show 4 < 5 by omega) (show (stpC a b ca cb zs ys i c s h k)[4]? = some _ from by rw [e5]; rfl)
          rw [Nat.add_zero] at y0
          have yl := HS.out.up
          have ik : (k : Int) < (N : Int) := by omega
          clear e5
          go_upto_region 9 with fail
          generalize hW : World.alloc _ _ = W3
          obtain ⟨gN, hg⟩ : ∃ g, g = wr.heap.size := ⟨_, rfl⟩
          have bN : Bk W3 gN #[.iface et evv, .int .i64 (k2 : Int), .bool d2, .int .i64 l2, .int .i64 h2] 81 := by rw [← hW]; exact Bk.new' hg
          have hb : Below wr.heap.size wr W3 := by rw [← hW]; exact (Below.refl _ _).alloc (Nat.le_refl _) _
          try rw [← hg]
          have hnx : gN ≠ gx := by have := hx.lt; omega
          have hng : gN ≠ ge := by have := HR.out.up; omega
          replace hx := hx.on hb
          replace HR := Lib.hid (HR.out.on hb)
          clear hW hb hg y0 y1 y2 y3 y4 yl HS bR
          have bN_0 := bN.cell 0 rfl
          have bN_1 := bN.cell 1 rfl
          have bN_2 := bN.cell 2 rfl
          have bN_3 := bN.cell 3 rfl
          have bN_4 := bN.cell 4 rfl
          go_wp2_with fail
          clear bN_0 bN_1 bN_2 bN_3 bN_4
          (with_reducible refine Calls.mono (KK.out _) ?_)
          rintro e w5 ⟨rfl, hb⟩
          replace bN := bN.on hb
          replace hx := hx.on hb
          replace HR := Lib.hid (HR.out.on hb)
          clear hb
          have hxl := hx.lt
          go_upto_region 10 with (at_builtin; refine wpList_append_lies _ rfl _ _ 24 rfl w1.heap.size 2 j0 (.int .i64 0) 1 8 Tryz.underlying24 hj0 hy0 hy1 hy2 rfl (by decide) (.slice (some ⟨ge, 0, none⟩) k ce) k (rowL (evC zs ys i c s h) k) rfl (HR.out.own.alloc _) ⟨w5.heap.size, 0, none⟩ 1 1 [.int .i64 ev] rfl rfl (World.news_of_block (cs := #[.int .i64 ev]) (t := 2) (fr := (0, 0)) (heap_alloc_new w5 _)) (by simp [Value.oneCell']) (by decide) (by unfold maxLen; omega) (by omega) (by simp; exact Nat.le_succ_of_le HR.out.bel.size) (w5.heap.size + 1) (by simp) ?_; intro g2 cp2 w9 hown hgrow hat hlt9; have HR9 := Lib.hid ((HR.out.on ((Below.refl _ _).alloc (Nat.le_refl _) _)).snoc hown hgrow); have hx9 := (hx.alloc _).kept hgrow (fun e => hne (by injection e with e; exact e.symm)); have bN9 := (bN.alloc _).kept hgrow (fun e => hng (by injection e)); have hg2 : g2 ≠ gx := (by rcases hat with e | e; (have e : some ge = some g2 := e; injection e with e; omega); omega); clear hown hgrow hat hlt9)
          clear bN hx HR hxl
          have bN := bN9
          have hx := hx9
          clear bN9 hx9
          have bN_0 := bN.cell 0 rfl
          have bN_1 := bN.cell 1 rfl
          have bN_2 := bN.cell 2 rfl
          have bN_3 := bN.cell 3 rfl
          have bN_4 := bN.cell 4 rfl
          have hx_0 := hx.cell 0 rfl
          have hx_1 := hx.cell 1 rfl
          have hx_2 := hx.cell 2 rfl
          have hx_3 := hx.cell 3 rfl
          have hx_f0 := hx.frozen 0
          have hx_f1 := hx.frozen 1
          have hx_f2 := hx.frozen 2
          have hx_f3 := hx.frozen 3
          have hx_l := hx.lt
          go_upto_region 11 with fail
          clear bN_0 bN_1 bN_2 bN_3 bN_4 hx_0 hx_1 hx_2 hx_3 hx_f0 hx_f1 hx_f2 hx_f3 hx_l
          generalize hW : World.setCell _ _ _ = W7
          have hb : Below w1.heap.size w1 W7 := by rw [← hW]; exact ((((HR9.out.bel.setCell (p := ⟨gx, 0, none⟩) hl2 _).setCell (p := ⟨gx, 1, none⟩) hl2 _).setCell (p := ⟨gx, 2, none⟩) hl2 _).setCell (p := ⟨gx, 3, none⟩) hl2 _)
          have HR7 := Lib.hid (RowG.at_ HR9.out (by rw [← hW]; exact heap_far4 hg2 _ _ _ _) hb)
          replace hx : Bk W7 gx #[.int .i64 (k2 : Int), .bool d2, .int .i64 l2, .int .i64 h2] 38 := by rw [← hW]; exact (((hx.set 0 _ rfl).set 1 _ rfl).set 2 _ rfl).set 3 _ rfl
          clear hW hb HR9 bN
          rw [← HEV.out, ← rowL_succ] at HR7
          go_wp2
          go_roundw
          (case rel => exact ⟨k + 1, g2, cp2, k2, d2, l2, h2, rfl, by go_num, by omega, HN1.out, HR7.out, hx, hg2⟩)
          (case measure => simp [intOf]; omega)
end
section
/- Contracts of RangesOf, the program's and the model's, and of the model's TraceRay. -/
open Go.ChangeShapes Go.WideShapes Go.ChangeAt Go.RowKit Go.Shelf Num
set_option linter.unusedVariables false
set_option linter.unusedSimpArgs false

set_option maxRecDepth 100000 in
set_option maxHeartbeats 8000000 in
theorem str_any (w : World) (a b : Option Addr) (ca cb : Nat) (zs ys : List Int) (src c s h n : Int) (hp : Prof w w.heap.size a b zs ys) :
    Calls Tryz.prog 34 #[.agg #[.slice a zs.length ca, .slice b ys.length cb], .int .i64 src, .agg #[.int .i64 c, .int .i64 s, .int .i64 h], .int .i64 n] w fun e w' => ∃ (a' : Option Addr) (c' : Nat), e = .returned (.tuple #[.slice a' (trL zs ys src c s h n).length c', .agg #[.int .i64 (trS zs ys src c s h n).1, .bool (trS zs ys src c s h n).2.1, .int .i64 (trS zs ys src c s h n).2.2.1, .int .i64 (trS zs ys src c s h n).2.2.2], .int .i64 (tcod zs ys src c s h n)]) ∧ OwnA w' w.heap.size w'.heap.size a' c' (trL zs ys src c s h n) ∧ Below w.heap.size w w' := by
  have HP := Lib.hid hp
  have KF : Hid (∀ W : World, Below w.heap.size w W → Calls Tryz.prog 60 #[.agg #[.slice a zs.length ca, .slice b ys.length cb], .int .i64 src, .agg #[.int .i64 c, .int .i64 s, .int .i64 h], .int .i64 n] W (TrcP W (staC zs ys src.toNat c s h) (evC zs ys src.toNat c s h) (tcod zs ys src c s h n) n.toNat)) := Lib.hid (fun W hb => trc_any W a b ca cb zs ys src c s h n (HP.out.on hb))
  by_cases hq : tcod zs ys src c s h n = 0
  case neg =>
    have H2 : Hid (trS zs ys src c s h n = (0, false, 0, 0)) := Lib.hid (by unfold trS; rw [if_neg hq])
    have H1 : Hid (trL zs ys src c s h n = []) := Lib.hid (by unfold trL; rw [if_neg hq])
    have HQ := Lib.hid hq
    obtain ⟨q, hqq⟩ : ∃ q, tcod zs ys src c s h n = q := ⟨_, rfl⟩
    rw [hqq] at KF HQ ⊢
    have hq0 : (q != 0) = true := by have := HQ.out; simpa using this
    clear hqq hq hp
    go_enter Tryz.func34, Tryz.ntmps34
    go_wp2_with fail
    generalize hW : World.alloc _ _ = W
    have bP : Bk W (w.heap.size) #[.slice a zs.length ca, .slice b ys.length cb] 26 := by rw [← hW]; repeat (first | (refine Bk.new' ?_; (simp; done)) | refine Bk.alloc ?_ _)
    have bD : Bk W (w.heap.size + 1) #[.int .i64 c, .int .i64 s, .int .i64 h] 28 := by rw [← hW]; repeat (first | (refine Bk.new' ?_; (simp; done)) | refine Bk.alloc ?_ _)
    have bR : Bk W (w.heap.size + 1 + 1) #[.int .i64 0, .bool false, .int .i64 0, .int .i64 0] 38 := by rw [← hW]; repeat (first | (refine Bk.new' ?_; (simp; done)) | refine Bk.alloc ?_ _)
    have HB : Hid (Below w.heap.size w W) := Lib.hid (by rw [← hW]; exact (by repeat (first | exact Below.refl _ _ | (refine Below.alloc ?_ (by simp <;> omega) _) | (refine Below.setCell ?_ (by simp <;> omega) _) | (refine Below.drew ?_) | (refine bel_drewN ?_ _))))
    clear hW
    (with_reducible refine Calls.mono (KF.out _ HB.out) ?_)
    rintro e w1 hF
    obtain ⟨rfl, hb⟩ : e = .returned (.tuple #[.slice none 0 0, .slice none 0 0, .int .i64 q]) ∧ Below W.heap.size W w1 := by
      rcases hF with ⟨h0, -⟩ | ⟨-, h1, h2⟩
      · exact absurd h0 HQ.out
      · exact ⟨h1, h2⟩
    clear hF
    replace bR := bR.on hb
    replace HB := Lib.hid (bel_end HB.out hb)
    clear hb
    have bR_0 := bR.cell 0 rfl
    have bR_1 := bR.cell 1 rfl
    have bR_2 := bR.cell 2 rfl
    have bR_3 := bR.cell 3 rfl
    have bR_f0 := bR.frozen 0
    have bR_f1 := bR.frozen 1
    have bR_f2 := bR.frozen 2
    have bR_f3 := bR.frozen 3
    have bR_l := bR.lt
    go_wp2
    exact bodyPost_ret (v := .tuple #[.slice none 0 0, .agg #[.int .i64 0, .bool false, .int .i64 0, .int .i64 0], .int .i64 q]) (by simp [results, Tryz.results34, go_sem, bR_0, bR_1, bR_2, bR_3]) rfl ⟨none, 0, by rw [H1.out, H2.out]; rfl, by rw [H1.out]; exact OwnA.none _ _ (Below.size (show Below w.heap.size w _ from (by first | exact HB.out | exact ((((HB.out.setCell (p := ⟨w.heap.size + 1 + 1, 0, none⟩) (by dsimp only; omega) _).setCell (p := ⟨w.heap.size + 1 + 1, 1, none⟩) (by dsimp only; omega) _).setCell (p := ⟨w.heap.size + 1 + 1, 2, none⟩) (by dsimp only; omega) _).setCell (p := ⟨w.heap.size + 1 + 1, 3, none⟩) (by dsimp only; omega) _)))), (by first | exact HB.out | exact ((((HB.out.setCell (p := ⟨w.heap.size + 1 + 1, 0, none⟩) (by dsimp only; omega) _).setCell (p := ⟨w.heap.size + 1 + 1, 1, none⟩) (by dsimp only; omega) _).setCell (p := ⟨w.heap.size + 1 + 1, 2, none⟩) (by dsimp only; omega) _).setCell (p := ⟨w.heap.size + 1 + 1, 3, none⟩) (by dsimp only; omega) _))⟩
  case pos =>
    obtain ⟨i, N, rfl, rfl, hN, r, hok⟩ := tcod_0 hq
    have H1 : Hid (trL zs ys (i : Int) c s h (N : Int) = evL zs ys i c h (fst0 i s) N) := Lib.hid (by unfold trL; rw [if_pos hq]; rfl)
    have H2 : Hid (trS zs ys (i : Int) c s h (N : Int) = (((runS zs ys i c h (fst0 i s) N).k : Int), (runS zs ys i c h (fst0 i s) N).dn, (runS zs ys i c h (fst0 i s) N).lo, (runS zs ys i c h (fst0 i s) N).hi)) := Lib.hid (by unfold trS; rw [if_pos hq]; rfl)
    rw [hq] at KF ⊢
    rw [Int.toNat_natCast, Int.toNat_natCast] at KF
    clear hq hp hok r
    obtain ⟨dd, hd⟩ : ∃ x, decide (0 < s) = x := ⟨_, rfl⟩
    have KG : Hid (∀ W : World, Calls Tryz.prog 46 #[.int .i64 (i : Int), .agg #[.int .i64 c, .int .i64 s, .int .i64 h]] W fun e w' => e = .returned (.agg #[.int .i64 (i : Int), .bool dd, .int .i64 0, .int .i64 0]) ∧ Below W.heap.size W w') := Lib.hid (fun W => by have := l7f_any W (i : Int) c s h; rwa [hd] at this)
    have HX0 : Hid (runS zs ys i c h (fst0 i s) 0 = ⟨i, dd, 0, 0⟩) := Lib.hid (by rw [← hd]; rfl)
    clear hd
    by_cases hz : N = 0
    case pos =>
      subst hz
      go_enter Tryz.func34, Tryz.ntmps34
      go_wp2_with fail
      generalize hW : World.alloc _ _ = W
      have bP : Bk W (w.heap.size) #[.slice a zs.length ca, .slice b ys.length cb] 26 := by rw [← hW]; repeat (first | (refine Bk.new' ?_; (simp; done)) | refine Bk.alloc ?_ _)
      have bD : Bk W (w.heap.size + 1) #[.int .i64 c, .int .i64 s, .int .i64 h] 28 := by rw [← hW]; repeat (first | (refine Bk.new' ?_; (simp; done)) | refine Bk.alloc ?_ _)
      have bR : Bk W (w.heap.size + 1 + 1) #[.int .i64 0, .bool false, .int .i64 0, .int .i64 0] 38 := by rw [← hW]; repeat (first | (refine Bk.new' ?_; (simp; done)) | refine Bk.alloc ?_ _)
      have HB : Hid (Below w.heap.size w W) := Lib.hid (by rw [← hW]; exact (by repeat (first | exact Below.refl _ _ | (refine Below.alloc ?_ (by simp <;> omega) _) | (refine Below.setCell ?_ (by simp <;> omega) _) | (refine Below.drew ?_) | (refine bel_drewN ?_ _))))
      clear hW
      (with_reducible refine Calls.mono (KF.out _ HB.out) ?_)
      rintro e w1 hF
      obtain ⟨gs, cs, ge0, ce0, rfl, hst, hev⟩ : ∃ gs cs ge ce, e = .returned (.tuple #[.slice (some ⟨gs, 0, none⟩) 0 cs, .slice (some ⟨ge, 0, none⟩) 0 ce, .int .i64 0]) ∧ RowG W 38 4 gs cs 0 (rowL (staC zs ys i c s h) 0) w1 ∧ RowG W 2 1 ge ce 0 (rowL (evC zs ys i c s h) 0) w1 := by
        rcases hF with ⟨-, h1⟩ | ⟨h0, -⟩
        · exact h1
        · exact absurd rfl h0
      have HST := Lib.hid hst
      have HEV := Lib.hid hev
      have hb := hst.bel
      replace bD := bD.on hb
      replace bR := bR.on hb
      replace HB := Lib.hid (bel_end HB.out hb)
      clear hF hst hev hb bP
      have n0 : (((0 : Nat) : Int) == 0) = true := rfl
      have bD_0 := bD.cell 0 rfl
      have bD_1 := bD.cell 1 rfl
      have bD_2 := bD.cell 2 rfl
      have bD_l := bD.lt
      go_wp2_with fail
      clear bD_0 bD_1 bD_2 bD_l
      (with_reducible refine Calls.mono (KG.out _) ?_)
      rintro e w2 ⟨rfl, hb⟩
      replace bR := bR.on hb
      replace HB := Lib.hid (bel_end HB.out hb)
      clear hb
      rw [HX0.out] at H2
      dsimp only at H2
      have bR_0 := bR.cell 0 rfl
      have bR_1 := bR.cell 1 rfl
      have bR_2 := bR.cell 2 rfl
      have bR_3 := bR.cell 3 rfl
      have bR_f0 := bR.frozen 0
      have bR_f1 := bR.frozen 1
      have bR_f2 := bR.frozen 2
      have bR_f3 := bR.frozen 3
      have bR_l := bR.lt
      go_wp2
      exact bodyPost_ret (v := .tuple #[.slice none 0 0, .agg #[.int .i64 (i : Int), .bool dd, .int .i64 0, .int .i64 0], .int .i64 0]) (by simp [results, Tryz.results34, go_sem, bR_0, bR_1, bR_2, bR_3]) rfl ⟨none, 0, by rw [H1.out, H2.out]; rfl, by rw [H1.out]; exact OwnA.none _ _ (Below.size (show Below w.heap.size w _ from (by first | exact HB.out | exact ((((HB.out.setCell (p := ⟨w.heap.size + 1 + 1, 0, none⟩) (by dsimp only; omega) _).setCell (p := ⟨w.heap.size + 1 + 1, 1, none⟩) (by dsimp only; omega) _).setCell (p := ⟨w.heap.size + 1 + 1, 2, none⟩) (by dsimp only; omega) _).setCell (p := ⟨w.heap.size + 1 + 1, 3, none⟩) (by dsimp only; omega) _)))), (by first | exact HB.out | exact ((((HB.out.setCell (p := ⟨w.heap.size + 1 + 1, 0, none⟩) (by dsimp only; omega) _).setCell (p := ⟨w.heap.size + 1 + 1, 1, none⟩) (by dsimp only; omega) _).setCell (p := ⟨w.heap.size + 1 + 1, 2, none⟩) (by dsimp only; omega) _).setCell (p := ⟨w.heap.size + 1 + 1, 3, none⟩) (by dsimp only; omega) _))⟩
    case neg =>
      obtain ⟨M, hM⟩ : ∃ M, N = M + 1 := ⟨N - 1, by omega⟩
      obtain ⟨⟨k1, d1, l1, h1⟩, hX⟩ : ∃ x, runS zs ys i c h (fst0 i s) N = x := ⟨_, rfl⟩
      rw [hX] at H2
      dsimp only at H2
      have e5 : staC zs ys i c s h M = [.int .i64 (k1 : Int), .bool d1, .int .i64 l1, .int .i64 h1] := by unfold staC; rw [← hM, hX]
      have HE5 := Lib.hid e5
      clear hX e5
      have n0 : ((N : Int) == 0) = false := by simp; omega
      have ew : IntKind.wrap .i64 ((N : Int) - 1) = (M : Int) := by rw [IntWalk.i64_in _ (by omega)]; omega
      have ik : (M : Int) < (N : Int) := by omega
      have hMN : M < N := by omega
      clear hM hz
      go_enter Tryz.func34, Tryz.ntmps34
      go_wp2_with fail
      generalize hW : World.alloc _ _ = W
      have bP : Bk W (w.heap.size) #[.slice a zs.length ca, .slice b ys.length cb] 26 := by rw [← hW]; repeat (first | (refine Bk.new' ?_; (simp; done)) | refine Bk.alloc ?_ _)
      have bD : Bk W (w.heap.size + 1) #[.int .i64 c, .int .i64 s, .int .i64 h] 28 := by rw [← hW]; repeat (first | (refine Bk.new' ?_; (simp; done)) | refine Bk.alloc ?_ _)
      have bR : Bk W (w.heap.size + 1 + 1) #[.int .i64 0, .bool false, .int .i64 0, .int .i64 0] 38 := by rw [← hW]; repeat (first | (refine Bk.new' ?_; (simp; done)) | refine Bk.alloc ?_ _)
      have HB : Hid (Below w.heap.size w W) := Lib.hid (by rw [← hW]; exact (by repeat (first | exact Below.refl _ _ | (refine Below.alloc ?_ (by simp <;> omega) _) | (refine Below.setCell ?_ (by simp <;> omega) _) | (refine Below.drew ?_) | (refine bel_drewN ?_ _))))
      clear hW
      (with_reducible refine Calls.mono (KF.out _ HB.out) ?_)
      rintro e w1 hF
      obtain ⟨gs, cs, ge0, ce0, rfl, hst, hev⟩ : ∃ gs cs ge ce, e = .returned (.tuple #[.slice (some ⟨gs, 0, none⟩) N cs, .slice (some ⟨ge, 0, none⟩) N ce, .int .i64 0]) ∧ RowG W 38 4 gs cs N (rowL (staC zs ys i c s h) N) w1 ∧ RowG W 2 1 ge ce N (rowL (evC zs ys i c s h) N) w1 := by
        rcases hF with ⟨-, h1⟩ | ⟨h0, -⟩
        · exact h1
        · exact absurd rfl h0
      have HST := Lib.hid hst
      have HEV := Lib.hid hev
      have hb := hst.bel
      have hlW : w.heap.size + 1 + 1 < W.heap.size := bR.lt
      have HB0 := HB
      replace bD := bD.on hb
      replace bR := bR.on hb
      replace HB := Lib.hid (bel_end HB.out hb)
      clear hF hst hev hb bP
      have hgB : ge0 ≠ w.heap.size + 1 + 1 := by have := HEV.out.lo; have := bR.lt; have := hlW; omega
      have hsB : gs ≠ w.heap.size + 1 + 1 := by have := HST.out.lo; have := hlW; omega
      have hRA := HEV.out
      rw [evC_map] at hRA
      have HA := Lib.hid (hRA.ownA (evL_len ..) HB0.out.size)
      have HY0 := Lib.hid (HST.out.cell (staC_len _ _ _ _ _ _) (show M < N by omega) (show 0 < 4 by omega) (show (staC zs ys i c s h M)[0]? = some _ from by rw [HE5.out]; rfl))
      have HY1 := Lib.hid (HST.out.cell (staC_len _ _ _ _ _ _) (show M < N by omega) (show 1 < 4 by omega) (show (staC zs ys i c s h M)[1]? = some _ from by rw [HE5.out]; rfl))
      have HY2 := Lib.hid (HST.out.cell (staC_len _ _ _ _ _ _) (show M < N by omega) (show 2 < 4 by omega) (show (staC zs ys i c s h M)[2]? = some _ from by rw [HE5.out]; rfl))
      have HY3 := Lib.hid (HST.out.cell (staC_len _ _ _ _ _ _) (show M < N by omega) (show 3 < 4 by omega) (show (staC zs ys i c s h M)[3]? = some _ from by rw [HE5.out]; rfl))
      rw [Nat.add_zero] at HY0
      clear hRA HEV HST bD HX0 KG
      go_upto_region 6 with fail
      have hLE : w.heap.size ≤ w.heap.size + 1 + 1 := by omega
      obtain ⟨S, hSd⟩ : ∃ S : World → Prop, ∀ w', S w' ↔ (w'.cell? ⟨gs, M * 4, none⟩ = some (.int .i64 (k1 : Int)) ∧ w'.cell? ⟨gs, M * 4 + 1, none⟩ = some (.bool d1) ∧ w'.cell? ⟨gs, M * 4 + 2, none⟩ = some (.int .i64 l1) ∧ w'.cell? ⟨gs, M * 4 + 3, none⟩ = some (.int .i64 h1)) := ⟨_, fun _ => Iff.rfl⟩
      have HSp : Hid (∀ w' : World, w'.cell? ⟨gs, M * 4, none⟩ = some (.int .i64 (k1 : Int)) → w'.cell? ⟨gs, M * 4 + 1, none⟩ = some (.bool d1) → w'.cell? ⟨gs, M * 4 + 2, none⟩ = some (.int .i64 l1) → w'.cell? ⟨gs, M * 4 + 3, none⟩ = some (.int .i64 h1) → S w') := Lib.hid (fun w' y0 y1 y2 y3 => (hSd w').2 ⟨y0, y1, y2, y3⟩)
      have HSd := Lib.hid hSd
      clear hSd
      refine wp_region_held_drew (S := S) (by kernel_rfl) ?_ (fun hH => ?_)
      · exact (HSp.out _ HY0.out HY1.out HY2.out HY3.out : S (World.drew w1))
      clear hH
      generalize hX : World.drew w1 = V0
      replace bR : Bk V0 (w.heap.size + 1 + 1) #[.int .i64 0, .bool false, .int .i64 0, .int .i64 0] 38 := by rw [← hX]; exact bR
      have hb : Below w1.heap.size w1 V0 := by rw [← hX]; exact (Below.refl _ _).drew
      clear hX
      replace HA := Lib.hid (HA.out.on hb)
      replace HY0 := Lib.hid (kc1 HY0.out hb)
      replace HY1 := Lib.hid (kc1 HY1.out hb)
      replace HY2 := Lib.hid (kc1 HY2.out hb)
      replace HY3 := Lib.hid (kc1 HY3.out hb)
      replace HB := Lib.hid (bel_end HB.out hb)
      clear hb
      have hS := HSp.out _ HY0.out HY1.out HY2.out HY3.out
      refine wpAnyH_take (i := 0) (oi := { dst := some 32, op := Go.Op.move (Go.Operand.tmp 12), type := 24, pos := "l07_rays.go:100", after := #[], guard := none }) (v := ?_) rfl (by kernel_rfl) (by kernel_rfl) (by kernel_rfl) (fun _ _ _ h => h) (Or.inl ⟨by rfl, ?_⟩) hS ?_
      rotate_left
      · (intro w hSw; have hSw := (HSd.out w).1 hSw; go_split_ands; go_simp) <;> with_reducible rfl
      clear hS
      try simp only [Act.put, List.setIfInBounds_toArray, List.set_cons_zero, List.set_cons_succ]
      have hS := HSp.out _ HY0.out HY1.out HY2.out HY3.out
      refine wpAnyH_take (i := 1) (oi := { dst := some 33, op := Go.Op.move (Go.Operand.tmp 11), type := 124, pos := "l07_rays.go:100", after := #[{ on := 6, ground := Go.Ground.gcOnly Go.Departure.lateStores }], guard := none }) (v := ?_) rfl (by kernel_rfl) (by kernel_rfl) (by kernel_rfl) (fun _ _ _ h => h) (Or.inl ⟨by rfl, ?_⟩) hS ?_
      rotate_left
      · (intro w hSw; have hSw := (HSd.out w).1 hSw; go_split_ands; go_simp) <;> with_reducible rfl
      clear hS
      try simp only [Act.put, List.setIfInBounds_toArray, List.set_cons_zero, List.set_cons_succ]
      have hS := HSp.out _ HY0.out HY1.out HY2.out HY3.out
      refine wpAnyH_take (i := 2) (oi := { dst := some 34, op := Go.Op.move (Go.Operand.tmp 3), type := 2, pos := "l07_rays.go:100", after := #[{ on := 6, ground := Go.Ground.gcOnly Go.Departure.lateStores }], guard := none }) (v := ?_) rfl (by kernel_rfl) (by kernel_rfl) (by kernel_rfl) (fun _ _ _ h => h) (Or.inl ⟨by rfl, ?_⟩) hS ?_
      rotate_left
      · (intro w hSw; have hSw := (HSd.out w).1 hSw; go_split_ands; go_simp) <;> with_reducible rfl
      clear hS
      try simp only [Act.put, List.setIfInBounds_toArray, List.set_cons_zero, List.set_cons_succ]
      have hS := HSp.out _ HY0.out HY1.out HY2.out HY3.out
      refine wpAnyH_take (i := 3) (oi := { dst := some 35, op := Go.Op.binOp Go.BinOp.sub 2 (Go.Operand.tmp 34) (Go.Operand.const (Go.Value.int Go.IntKind.i64 1)) 2, type := 2, pos := "l07_rays.go:100", after := #[{ on := 2, ground := Go.Ground.data }, { on := 6, ground := Go.Ground.gcOnly Go.Departure.lateStores }], guard := none }) (v := ?_) rfl (by kernel_rfl) (by kernel_rfl) (by kernel_rfl) (fun _ _ _ h => h) (Or.inl ⟨by rfl, ?_⟩) hS ?_
      rotate_left
      · (intro w hSw; have hSw := (HSd.out w).1 hSw; go_split_ands; go_simp) <;> with_reducible rfl
      clear hS
      try simp only [Act.put, List.setIfInBounds_toArray, List.set_cons_zero, List.set_cons_succ]
      have hS := HSp.out _ HY0.out HY1.out HY2.out HY3.out
      refine wpAnyH_take (i := 4) (oi := { dst := some 36, op := Go.Op.indexAddr 124 (Go.Operand.tmp 33) (Go.Operand.tmp 35), type := 0, pos := "l07_rays.go:100", after := #[{ on := 1, ground := Go.Ground.data }, { on := 3, ground := Go.Ground.data }, { on := 6, ground := Go.Ground.gcOnly Go.Departure.lateStores }], guard := none }) (v := ?_) rfl (by kernel_rfl) (by kernel_rfl) (by kernel_rfl) (fun _ _ _ h => h) (Or.inl ⟨by rfl, ?_⟩) hS ?_
      rotate_left
      · (intro w hSw; have hSw := (HSd.out w).1 hSw; go_split_ands; go_simp) <;> with_reducible rfl
      clear hS
      try simp only [Act.put, List.setIfInBounds_toArray, List.set_cons_zero, List.set_cons_succ]
      have hS := HSp.out _ HY0.out HY1.out HY2.out HY3.out
      refine wpAnyH_take (i := 5) (oi := { dst := some 37, op := Go.Op.load 38 (Go.Operand.tmp 36), type := 38, pos := "l07_rays.go:100", after := #[{ on := 4, ground := Go.Ground.data }, { on := 6, ground := Go.Ground.gcOnly Go.Departure.lateStores }], guard := none }) (v := ?_) rfl (by kernel_rfl) (by kernel_rfl) (by kernel_rfl) (fun _ _ _ h => h) (Or.inl ⟨by rfl, ?_⟩) hS ?_
      rotate_left
      · (intro w hSw; have hSw := (HSd.out w).1 hSw; go_split_ands; go_simp) <;> with_reducible rfl
      clear hS
      try simp only [Act.put, List.setIfInBounds_toArray, List.set_cons_zero, List.set_cons_succ]
      have hS := HSp.out _ HY0.out HY1.out HY2.out HY3.out
      refine wpAnyH_take (i := 6) (oi := { dst := some 8, op := Go.Op.assign (Go.Operand.tmp 32), type := 24, pos := "l07_rays.go:100", after := #[{ on := 0, ground := Go.Ground.data }, { on := 0, ground := Go.Ground.phase }, { on := 1, ground := Go.Ground.textOnly Go.Departure.lateStores }, { on := 2, ground := Go.Ground.textOnly Go.Departure.lateStores }, { on := 3, ground := Go.Ground.textOnly Go.Departure.lateStores }, { on := 4, ground := Go.Ground.textOnly Go.Departure.lateStores }, { on := 5, ground := Go.Ground.textOnly Go.Departure.lateStores }], guard := none }) (v := ?_) rfl (by kernel_rfl) (by kernel_rfl) (by kernel_rfl) (fun _ _ _ h => h) (Or.inl ⟨by rfl, ?_⟩) hS ?_
      rotate_left
      · (intro w hSw; have hSw := (HSd.out w).1 hSw; go_split_ands; go_simp) <;> with_reducible rfl
      clear hS
      try simp only [Act.put, List.setIfInBounds_toArray, List.set_cons_zero, List.set_cons_succ]
      refine wpAnyH_ready (rs := [7]) (by decide +kernel) (by simp) ?_
      refine AllReadyH.cons (o := { dst := none, op := Go.Op.store 38 (Go.Operand.tmp 9) (Go.Operand.tmp 37), type := 0, pos := "l07_rays.go:100", after := #[{ on := 5, ground := Go.Ground.data }, { on := 6, ground := Go.Ground.chain }, { on := 0, ground := Go.Ground.phase }, { on := 1, ground := Go.Ground.phase }, { on := 2, ground := Go.Ground.phase }, { on := 3, ground := Go.Ground.phase }, { on := 4, ground := Go.Ground.phase }, { on := 5, ground := Go.Ground.phase }, { on := 6, ground := Go.Ground.phase }], guard := none }) rfl (fun Kn hK => ?_) AllReadyH.nil
      have bR_0 := bR.cell 0 rfl
      have bR_1 := bR.cell 1 rfl
      have bR_2 := bR.cell 2 rfl
      have bR_3 := bR.cell 3 rfl
      have bR_f0 := bR.frozen 0
      have bR_f1 := bR.frozen 1
      have bR_f2 := bR.frozen 2
      have bR_f3 := bR.frozen 3
      have bR_l := bR.lt
      go_simp
      clear bR_0 bR_f0 bR_1 bR_f1 bR_2 bR_f2 bR_3 bR_f3 bR_l
      generalize hX : World.setCell _ _ _ = V1
      have hb : Below w.heap.size w V1 := by rw [← hX]; exact ((((HB.out.setCell (p := ⟨w.heap.size + 1 + 1, 0, none⟩) (by first | omega | (dsimp only; omega)) _).setCell (p := ⟨w.heap.size + 1 + 1, 1, none⟩) (by first | omega | (dsimp only; omega)) _).setCell (p := ⟨w.heap.size + 1 + 1, 2, none⟩) (by first | omega | (dsimp only; omega)) _).setCell (p := ⟨w.heap.size + 1 + 1, 3, none⟩) (by first | omega | (dsimp only; omega)) _)
      have HA2 := Lib.hid (show OwnA V1 _ _ _ _ _ from by rw [← hX]; exact HA.out.far4 hgB _ _ _ _)
      clear HA
      have HA := HA2
      clear HA2
      have hfar : ∀ o, World.cell? V1 ⟨gs, o, none⟩ = World.cell? V0 ⟨gs, o, none⟩ := fun o => by rw [← hX]; simp only [World.cell?]; rw [heap_far4 hsB]
      replace HY0 := Lib.hid ((hfar _).trans HY0.out)
      replace HY1 := Lib.hid ((hfar _).trans HY1.out)
      replace HY2 := Lib.hid ((hfar _).trans HY2.out)
      replace HY3 := Lib.hid ((hfar _).trans HY3.out)
      clear hfar
      replace bR : Bk V1 (w.heap.size + 1 + 1) #[.int .i64 (k1 : Int), .bool d1, .int .i64 l1, .int .i64 h1] 38 := by rw [← hX]; exact (Bk.set (Bk.set (Bk.set (Bk.set bR 0 _ rfl) 1 _ rfl) 2 _ rfl) 3 _ rfl)
      clear hX
      replace HB := Lib.hid hb
      clear hb
      refine hK.out _ _ (HSp.out _ HY0.out HY1.out HY2.out HY3.out) (fun _ => ?_)
      clear hK Kn
      have hS := HSp.out _ HY0.out HY1.out HY2.out HY3.out
      refine wpAnyH_take (i := 8) (oi := { dst := some 10, op := Go.Op.assign (Go.Operand.const (Go.Value.int Go.IntKind.i64 0)), type := 2, pos := "l07_rays.go:100", after := #[{ on := 7, ground := Go.Ground.chain }, { on := 0, ground := Go.Ground.phase }, { on := 1, ground := Go.Ground.phase }, { on := 2, ground := Go.Ground.phase }, { on := 3, ground := Go.Ground.phase }, { on := 4, ground := Go.Ground.phase }, { on := 5, ground := Go.Ground.phase }, { on := 6, ground := Go.Ground.phase }, { on := 7, ground := Go.Ground.phase }], guard := none }) (v := ?_) rfl (by kernel_rfl) (by kernel_rfl) (by kernel_rfl) (fun _ _ _ h => h) (Or.inl ⟨by rfl, ?_⟩) hS ?_
      rotate_left
      · (intro w hSw; have hSw := (HSd.out w).1 hSw; go_split_ands; go_simp) <;> with_reducible rfl
      clear hS
      try simp only [Act.put, List.setIfInBounds_toArray, List.set_cons_zero, List.set_cons_succ]
      refine wpAnyH_done (by kernel_rfl) ?_ _
      have c0 := bR.cell 0 rfl
      have c1 := bR.cell 1 rfl
      have c2 := bR.cell 2 rfl
      have c3 := bR.cell 3 rfl
      go_wp2
      exact bodyPost_ret (v := .tuple #[.slice (some ⟨ge0, 0, none⟩) N ce0, .agg #[.int .i64 (k1 : Int), .bool d1, .int .i64 l1, .int .i64 h1], .int .i64 0]) (by simp [results, Tryz.results34, go_sem, c0, c1, c2, c3]) rfl ⟨some ⟨ge0, 0, none⟩, ce0, by rw [H1.out, H2.out, evL_len], by rw [H1.out]; exact HA.out.grow HA.out.up (Nat.le_refl _), HB.out⟩
end
end Go.Proofs.YtgecbfbmmbfnmaaGreat
