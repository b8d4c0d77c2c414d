import Derived.Test.YtgecbfbmmbfnmaaGreatCelM
import Derived.Test.YtgecbfbmmbfnmaaGreatRyU
import Derived.Handy
import Derived.Outline
import Derived.LoopTactic
import Derived.Deep.RegionHeld3
import Derived.Deep.DeepCutAuto
import Derived.Deep.RegionWith
namespace Go.Proofs.YtgecbfbmmbfnmaaGreat
/- The contract of the model's trace of a cell. -/
open Go.ChangeShapes Go.WideShapes Go.ChangeAt Go.RowKit Go.Shelf Num
set_option linter.unusedVariables false
set_option linter.unusedSimpArgs false
theorem bk_set11 {W : World} {g : Nat} {t : TypeId} {a0 a1 a2 a3 a4 a5 a6 a7 a8 a9 a10 : Value} (b : Bk W g #[a0, a1, a2, a3, a4, a5, a6, a7, a8, a9, a10] t) (v0 v1 v2 v3 v4 v5 v6 v7 v8 v9 v10 : Value) : Bk (((((((((((W.setCell ⟨g, 0, none⟩ v0).setCell ⟨g, 1, none⟩ v1).setCell ⟨g, 2, none⟩ v2).setCell ⟨g, 3, none⟩ v3).setCell ⟨g, 4, none⟩ v4).setCell ⟨g, 5, none⟩ v5).setCell ⟨g, 6, none⟩ v6).setCell ⟨g, 7, none⟩ v7).setCell ⟨g, 8, none⟩ v8).setCell ⟨g, 9, none⟩ v9).setCell ⟨g, 10, none⟩ v10) g #[v0, v1, v2, v3, v4, v5, v6, v7, v8, v9, v10] t := by
  have b0 : Bk (W.setCell ⟨g, 0, none⟩ v0) g #[v0, a1, a2, a3, a4, a5, a6, a7, a8, a9, a10] t := Bk.set b 0 _ rfl
  have b1 : Bk ((W.setCell ⟨g, 0, none⟩ v0).setCell ⟨g, 1, none⟩ v1) g #[v0, v1, a2, a3, a4, a5, a6, a7, a8, a9, a10] t := Bk.set b0 1 _ rfl
  have b2 : Bk (((W.setCell ⟨g, 0, none⟩ v0).setCell ⟨g, 1, none⟩ v1).setCell ⟨g, 2, none⟩ v2) g #[v0, v1, v2, a3, a4, a5, a6, a7, a8, a9, a10] t := Bk.set b1 2 _ rfl
  have b3 : Bk ((((W.setCell ⟨g, 0, none⟩ v0).setCell ⟨g, 1, none⟩ v1).setCell ⟨g, 2, none⟩ v2).setCell ⟨g, 3, none⟩ v3) g #[v0, v1, v2, v3, a4, a5, a6, a7, a8, a9, a10] t := Bk.set b2 3 _ rfl
  have b4 : Bk (((((W.setCell ⟨g, 0, none⟩ v0).setCell ⟨g, 1, none⟩ v1).setCell ⟨g, 2, none⟩ v2).setCell ⟨g, 3, none⟩ v3).setCell ⟨g, 4, none⟩ v4) g #[v0, v1, v2, v3, v4, a5, a6, a7, a8, a9, a10] t := Bk.set b3 4 _ rfl
  have b5 : Bk ((((((W.setCell ⟨g, 0, none⟩ v0).setCell ⟨g, 1, none⟩ v1).setCell ⟨g, 2, none⟩ v2).setCell ⟨g, 3, none⟩ v3).setCell ⟨g, 4, none⟩ v4).setCell ⟨g, 5, none⟩ v5) g #[v0, v1, v2, v3, v4, v5, a6, a7, a8, a9, a10] t := Bk.set b4 5 _ rfl
  have b6 : Bk (((((((W.setCell ⟨g, 0, none⟩ v0).setCell ⟨g, 1, none⟩ v1).setCell ⟨g, 2, none⟩ v2).setCell ⟨g, 3, none⟩ v3).setCell ⟨g, 4, none⟩ v4).setCell ⟨g, 5, none⟩ v5).setCell ⟨g, 6, none⟩ v6) g #[v0, v1, v2, v3, v4, v5, v6, a7, a8, a9, a10] t := Bk.set b5 6 _ rfl
  have b7 : Bk ((((((((W.setCell ⟨g, 0, none⟩ v0).setCell ⟨g, 1, none⟩ v1).setCell ⟨g, 2, none⟩ v2).setCell ⟨g, 3, none⟩ v3).setCell ⟨g, 4, none⟩ v4).setCell ⟨g, 5, none⟩ v5).setCell ⟨g, 6, none⟩ v6).setCell ⟨g, 7, none⟩ v7) g #[v0, v1, v2, v3, v4, v5, v6, v7, a8, a9, a10] t := Bk.set b6 7 _ rfl
  have b8 : Bk (((((((((W.setCell ⟨g, 0, none⟩ v0).setCell ⟨g, 1, none⟩ v1).setCell ⟨g, 2, none⟩ v2).setCell ⟨g, 3, none⟩ v3).setCell ⟨g, 4, none⟩ v4).setCell ⟨g, 5, none⟩ v5).setCell ⟨g, 6, none⟩ v6).setCell ⟨g, 7, none⟩ v7).setCell ⟨g, 8, none⟩ v8) g #[v0, v1, v2, v3, v4, v5, v6, v7, v8, a9, a10] t := Bk.set b7 8 _ rfl
  have b9 : Bk ((((((((((W.setCell ⟨g, 0, none⟩ v0).setCell ⟨g, 1, none⟩ v1).setCell ⟨g, 2, none⟩ v2).setCell ⟨g, 3, none⟩ v3).setCell ⟨g, 4, none⟩ v4).setCell ⟨g, 5, none⟩ v5).setCell ⟨g, 6, none⟩ v6).setCell ⟨g, 7, none⟩ v7).setCell ⟨g, 8, none⟩ v8).setCell ⟨g, 9, none⟩ v9) g #[v0, v1, v2, v3, v4, v5, v6, v7, v8, v9, a10] t := Bk.set b8 9 _ rfl
  have b10 : Bk (((((((((((W.setCell ⟨g, 0, none⟩ v0).setCell ⟨g, 1, none⟩ v1).setCell ⟨g, 2, none⟩ v2).setCell ⟨g, 3, none⟩ v3).setCell ⟨g, 4, none⟩ v4).setCell ⟨g, 5, none⟩ v5).setCell ⟨g, 6, none⟩ v6).setCell ⟨g, 7, none⟩ v7).setCell ⟨g, 8, none⟩ v8).setCell ⟨g, 9, none⟩ v9).setCell ⟨g, 10, none⟩ v10) g #[v0, v1, v2, v3, v4, v5, v6, v7, v8, v9, v10] t := Bk.set b9 10 _ rfl
  exact b10
theorem tlB_less {zs ys : List Int} {i : Nat} {c s h x y z : Int} : ∀ {n : Nat}, tlB zs ys i c s h x y z n = true → ∀ {m : Nat}, m ≤ n → tlB zs ys i c s h x y z m = true
  | 0, _, m, hm => by obtain rfl : m = 0 := by omega
                      rfl
  | n + 1, g, m, hm => by
    rcases Nat.lt_or_ge m (n + 1) with l | l
    · unfold tlB at g
      simp only [Bool.and_eq_true] at g
      exact tlB_less g.1.1.1 (by omega)
    · obtain rfl : m = n + 1 := by omega
      exact g
theorem tlB_f {zs ys : List Int} {i : Nat} {c s h x y z : Int} {k n : Nat} (hk : tlB zs ys i c s h x y z (k + 1) = false) (hn : k < n) : tlB zs ys i c s h x y z n = false := by
  cases e : tlB zs ys i c s h x y z n
  · rfl
  · have := tlB_less e (show k + 1 ≤ n by omega)
    rw [hk] at this
    cases this
/-- what the model's trace of a cell returns -/
def T8P (w : World) (zs ys : List Int) (i : Nat) (c s h x y z : Int) (N : Nat) (e : Ending) (w' : World) : Prop :=
  (tlB zs ys i c s h x y z N = true ∧ e = .returned (.tuple #[.agg #[.int .i64 ((runS zs ys i c h (fst0 i s) N).k : Int), .bool (runS zs ys i c h (fst0 i s) N).dn, .int .i64 (runS zs ys i c h (fst0 i s) N).lo, .int .i64 (runS zs ys i c h (fst0 i s) N).hi, .int .i64 ((runS zs ys i x z (fst0 i y) N).k : Int), .bool (runS zs ys i x z (fst0 i y) N).dn, .int .i64 (runS zs ys i x z (fst0 i y) N).lo, .int .i64 (runS zs ys i x z (fst0 i y) N).hi, .bool (hsB zs ys i c s h x y z N), .int .i64 (enS zs ys i c s h x y z N).1, .int .i64 (enS zs ys i c s h x y z N).2], .int .i64 0]) ∧ Below w.heap.size w w') ∨ (tlB zs ys i c s h x y z N = false ∧ e = .returned (.tuple #[.agg #[.int .i64 0, .bool false, .int .i64 0, .int .i64 0, .int .i64 0, .bool false, .int .i64 0, .int .i64 0, .bool false, .int .i64 0, .int .i64 0], .int .i64 3]) ∧ Below w.heap.size w w')

set_option maxRecDepth 100000 in
set_option maxHeartbeats 8000000 in
theorem tr8_any (w : World) (a b : Option Addr) (ca cb : Nat) (zs ys : List Int) (i N : Nat) (c s h x y z : Int) (hN : N ≤ 100) (hp : Prof w w.heap.size a b zs ys) (r : RyOk zs ys i c s h) (q : RyOk zs ys i x y z) :
    Calls Tryz.prog 21 #[.agg #[.slice a zs.length ca, .slice b ys.length cb], .int .i64 (i : Int), .agg #[.int .i64 c, .int .i64 s, .int .i64 h], .agg #[.int .i64 x, .int .i64 y, .int .i64 z], .int .i64 (N : Int)] w (T8P w zs ys i c s h x y z N) := by
  have HP := Lib.hid hp
  have K1 : Hid (∀ W : World, Calls Tryz.prog 46 #[.int .i64 (i : Int), .agg #[.int .i64 c, .int .i64 s, .int .i64 h]] W fun e w' => e = .returned (.agg #[.int .i64 (i : Int), .bool (decide (0 < s)), .int .i64 0, .int .i64 0]) ∧ Below W.heap.size W w') := Lib.hid (fun W => l7f_any W (i : Int) c s h)
  have K2 : Hid (∀ W : World, Calls Tryz.prog 46 #[.int .i64 (i : Int), .agg #[.int .i64 x, .int .i64 y, .int .i64 z]] W fun e w' => e = .returned (.agg #[.int .i64 (i : Int), .bool (decide (0 < y)), .int .i64 0, .int .i64 0]) ∧ Below W.heap.size W w') := Lib.hid (fun W => l7f_any W (i : Int) x y z)
  have RQ := Lib.hid (And.intro r q)
  have HZ : Hid (runS zs ys i c h (fst0 i s) 0 = ⟨i, decide (0 < s), 0, 0⟩ ∧ runS zs ys i x z (fst0 i y) 0 = ⟨i, decide (0 < y), 0, 0⟩) := Lib.hid ⟨rfl, rfl⟩
  obtain ⟨dd, hdd⟩ : ∃ u, decide (0 < s) = u := ⟨_, rfl⟩
  obtain ⟨de, hde⟩ : ∃ u, decide (0 < y) = u := ⟨_, rfl⟩
  rw [hdd] at K1 HZ
  rw [hde] at K2 HZ
  clear hdd hde hp r q
  go_enter Tryz.func21, Tryz.ntmps21
  go_upto_region 1 with fail
  generalize hW : World.alloc _ _ = W
  have bX : Bk W (w.heap.size) #[.slice a zs.length ca, .slice b ys.length cb] 26 := by rw [← hW]; repeat (first | (refine Bk.new' ?_; (simp; done)) | refine Bk.alloc ?_ _)
  have bD : Bk W (w.heap.size + 1) #[.int .i64 c, .int .i64 s, .int .i64 h] 28 := by rw [← hW]; repeat (first | (refine Bk.new' ?_; (simp; done)) | refine Bk.alloc ?_ _)
  have bE : Bk W (w.heap.size + 1 + 1) #[.int .i64 x, .int .i64 y, .int .i64 z] 28 := by rw [← hW]; repeat (first | (refine Bk.new' ?_; (simp; done)) | refine Bk.alloc ?_ _)
  have bR : Bk W (w.heap.size + 1 + 1 + 1) #[.int .i64 0, .bool false, .int .i64 0, .int .i64 0, .int .i64 0, .bool false, .int .i64 0, .int .i64 0, .bool false, .int .i64 0, .int .i64 0] 66 := by rw [← hW]; repeat (first | (refine Bk.new' ?_; (simp; done)) | refine Bk.alloc ?_ _)
  have HB : Hid (Below w.heap.size w W) := Lib.hid (by rw [← hW]; exact (by repeat (first | exact Below.refl _ _ | (refine Below.alloc ?_ (by simp <;> omega) _) | (refine Below.setCell ?_ (by simp <;> omega) _) | (refine Below.drew ?_) | (refine bel_drewN ?_ _))))
  clear hW
  have lR := bR.lt
  go_cut [12] (fun s12 wx => ∃ g, s12 = .pointer (some ⟨g, 0, none⟩) ∧ Bk wx g #[.int .i64 (i : Int), .bool dd, .int .i64 0, .int .i64 0, .int .i64 (i : Int), .bool de, .int .i64 0, .int .i64 0, .bool true, .int .i64 0, .int .i64 0] 66 ∧ W.heap.size ≤ g ∧ g < wx.heap.size ∧ Below W.heap.size W wx)
  case first =>
    have HW : Hid (Below W.heap.size W W) := Lib.hid (Below.refl _ _)
    obtain ⟨S, hSd⟩ : ∃ S : World → Prop, ∀ w', S w' ↔ (w'.cell? ⟨w.heap.size + 1, 0, none⟩ = some (.int .i64 c) ∧ w'.cell? ⟨w.heap.size + 1, 1, none⟩ = some (.int .i64 s) ∧ w'.cell? ⟨w.heap.size + 1, 2, none⟩ = some (.int .i64 h) ∧ w'.cell? ⟨w.heap.size + 1 + 1, 0, none⟩ = some (.int .i64 x) ∧ w'.cell? ⟨w.heap.size + 1 + 1, 1, none⟩ = some (.int .i64 y) ∧ w'.cell? ⟨w.heap.size + 1 + 1, 2, none⟩ = some (.int .i64 z)) := ⟨_, fun _ => Iff.rfl⟩
    have HSp : Hid (∀ w' : World, Bk w' (w.heap.size + 1) #[.int .i64 c, .int .i64 s, .int .i64 h] 28 → Bk w' (w.heap.size + 1 + 1) #[.int .i64 x, .int .i64 y, .int .i64 z] 28 → S w') := Lib.hid (fun w' bD bE => (hSd w').2 ⟨bD.cell 0 rfl, bD.cell 1 rfl, bD.cell 2 rfl, bE.cell 0 rfl, bE.cell 1 rfl, bE.cell 2 rfl⟩)
    have HSd := Lib.hid hSd
    clear hSd
    refine wp_region_held_drew (S := S) (by kernel_rfl) ?_ (fun hH => ?_)
    · exact (HSp.out _ bD bE : S (World.drew W))
    clear hH
    generalize hX : World.drew W = V0
    replace bD : Bk V0 (w.heap.size + 1) #[.int .i64 c, .int .i64 s, .int .i64 h] 28 := by rw [← hX]; exact bD
    replace bE : Bk V0 (w.heap.size + 1 + 1) #[.int .i64 x, .int .i64 y, .int .i64 z] 28 := by rw [← hX]; exact bE
    have hb : Below W.heap.size W V0 := by rw [← hX]; exact (Below.refl _ _).drew
    clear hX
    replace HW := Lib.hid (bel_end HW.out hb)
    clear hb
    have hS := HSp.out _ bD bE
    refine wpAnyH_take (i := 0) (oi := { dst := some 24, op := Go.Op.move (Go.Operand.tmp 1), type := 2, pos := "l08_sectors.go:46", after := #[], guard := none }) (v := ?_) rfl (by kernel_rfl) (by kernel_rfl) (by kernel_rfl) (fun _ _ _ h => h) (Or.inl ⟨by rfl, ?_⟩) hS ?_
    rotate_left
    · (intro w hSw; have hSw := (HSd.out w).1 hSw; go_split_ands; go_simp) <;> with_reducible rfl
    clear hS
    try simp only [Act.put, List.setIfInBounds_toArray, List.set_cons_zero, List.set_cons_succ]
    have hS := HSp.out _ bD bE
    refine wpAnyH_take (i := 1) (oi := { dst := some 25, op := Go.Op.load 28 (Go.Operand.tmp 7), type := 28, pos := "l08_sectors.go:46", after := #[], guard := none }) (v := ?_) rfl (by kernel_rfl) (by kernel_rfl) (by kernel_rfl) (fun _ _ _ h => h) (Or.inl ⟨by rfl, ?_⟩) hS ?_
    rotate_left
    · (intro w hSw; have hSw := (HSd.out w).1 hSw; go_split_ands; go_simp) <;> with_reducible rfl
    clear hS
    try simp only [Act.put, List.setIfInBounds_toArray, List.set_cons_zero, List.set_cons_succ]
    have hS := HSp.out _ bD bE
    refine wpAnyH_take (i := 3) (oi := { dst := some 27, op := Go.Op.move (Go.Operand.tmp 1), type := 2, pos := "l08_sectors.go:46", after := #[], guard := none }) (v := ?_) rfl (by kernel_rfl) (by kernel_rfl) (by kernel_rfl) (fun _ _ _ h => h) (Or.inl ⟨by rfl, ?_⟩) hS ?_
    rotate_left
    · (intro w hSw; have hSw := (HSd.out w).1 hSw; go_split_ands; go_simp) <;> with_reducible rfl
    clear hS
    try simp only [Act.put, List.setIfInBounds_toArray, List.set_cons_zero, List.set_cons_succ]
    have hS := HSp.out _ bD bE
    refine wpAnyH_take (i := 4) (oi := { dst := some 28, op := Go.Op.load 28 (Go.Operand.tmp 8), type := 28, pos := "l08_sectors.go:46", after := #[], guard := none }) (v := ?_) rfl (by kernel_rfl) (by kernel_rfl) (by kernel_rfl) (fun _ _ _ h => h) (Or.inl ⟨by rfl, ?_⟩) hS ?_
    rotate_left
    · (intro w hSw; have hSw := (HSd.out w).1 hSw; go_split_ands; go_simp) <;> with_reducible rfl
    clear hS
    try simp only [Act.put, List.setIfInBounds_toArray, List.set_cons_zero, List.set_cons_succ]
    refine wpAnyH_ready (rs := [2, 7]) (by kernel_rfl) (by simp) ?_
    refine AllReadyH.cons (o := { dst := some 26, op := Go.Op.call { callee := Go.Callee.value (Go.Operand.func 46), args := #[Go.Operand.tmp 24, Go.Operand.tmp 25], argTypes := #[2, 28] }, type := 38, pos := "l08_sectors.go:46", after := #[{ on := 0, ground := Go.Ground.data }, { on := 1, ground := Go.Ground.data }], guard := none }) rfl (fun Kn hK => ?_) ?_
    · first | go_at_call 46 | (go_simp; go_at_call 46)
      (with_reducible refine Calls.mono (K1.out _) ?_)
      rintro e V1 ⟨rfl, hb⟩
      try dsimp only
      try simp only [Act.put, List.setIfInBounds_toArray, List.set_cons_zero, List.set_cons_succ]
      replace bD := bD.on hb
      replace bE := bE.on hb
      replace HW := Lib.hid (bel_end HW.out hb)
      clear hb
      refine hK.out _ _ (HSp.out _ bD bE) (fun _ => ?_)
      clear hK Kn
      refine wpAnyH_ready (rs := [5, 7]) (by kernel_rfl) (by simp) ?_
      refine AllReadyH.cons (o := { dst := some 29, op := Go.Op.call { callee := Go.Callee.value (Go.Operand.func 46), args := #[Go.Operand.tmp 27, Go.Operand.tmp 28], argTypes := #[2, 28] }, type := 38, pos := "l08_sectors.go:46", after := #[{ on := 3, ground := Go.Ground.data }, { on := 4, ground := Go.Ground.data }, { on := 2, ground := Go.Ground.chain }], guard := none }) rfl (fun Kn hK => ?_) ?_
      · first | go_at_call 46 | (go_simp; go_at_call 46)
        (with_reducible refine Calls.mono (K2.out _) ?_)
        rintro e V2 ⟨rfl, hb⟩
        try dsimp only
        try simp only [Act.put, List.setIfInBounds_toArray, List.set_cons_zero, List.set_cons_succ]
        replace bD := bD.on hb
        replace bE := bE.on hb
        replace HW := Lib.hid (bel_end HW.out hb)
        clear hb
        refine hK.out _ _ (HSp.out _ bD bE) (fun _ => ?_)
        clear hK Kn
        have hS := HSp.out _ bD bE
        refine wpAnyH_take (i := 6) (oi := { dst := some 30, op := Go.Op.build 66 #[(0, Go.Operand.tmp 26), (1, Go.Operand.tmp 29), (2, Go.Operand.const (Go.Value.bool true))], type := 66, pos := "l08_sectors.go:46", after := #[{ on := 2, ground := Go.Ground.data }, { on := 5, ground := Go.Ground.data }], guard := none }) (v := ?_) rfl (by kernel_rfl) (by kernel_rfl) (by kernel_rfl) (fun _ _ _ h => h) (Or.inl ⟨by rfl, ?_⟩) hS ?_
        rotate_left
        · (intro w hSw; have hSw := (HSd.out w).1 hSw; go_split_ands; go_simp) <;> with_reducible rfl
        clear hS
        try simp only [Act.put, List.setIfInBounds_toArray, List.set_cons_zero, List.set_cons_succ]
        refine wpAnyH_ready (rs := [7]) (by kernel_rfl) (by simp) ?_
        refine AllReadyH.cons (o := { dst := some 12, op := Go.Op.alloc 66, type := 0, pos := "l08_sectors.go:46", after := #[], guard := none }) rfl (fun Kn hK => ?_) AllReadyH.nil
        go_simp
        generalize hX : World.alloc V2 _ = V3
        obtain ⟨g7, hg⟩ : ∃ g, g = V2.heap.size := ⟨_, rfl⟩
        have bn7 : Bk V3 g7 #[.int .i64 0, .bool false, .int .i64 0, .int .i64 0, .int .i64 0, .bool false, .int .i64 0, .int .i64 0, .bool false, .int .i64 0, .int .i64 0] 66 := by rw [← hX]; exact Bk.new' hg
        have le7 : W.heap.size ≤ g7 := by rw [hg]; exact HW.out.size
        have nebD_7 : w.heap.size + 1 ≠ g7 := by have := bD.lt; omega
        replace bD : Bk V3 (w.heap.size + 1) #[.int .i64 c, .int .i64 s, .int .i64 h] 28 := by rw [← hX]; exact bD.alloc _
        have nebE_7 : w.heap.size + 1 + 1 ≠ g7 := by have := bE.lt; omega
        replace bE : Bk V3 (w.heap.size + 1 + 1) #[.int .i64 x, .int .i64 y, .int .i64 z] 28 := by rw [← hX]; exact bE.alloc _
        try rw [← hg]
        have hb : Below V2.heap.size V2 V3 := by rw [← hX]; exact (Below.refl _ _).alloc (Nat.le_refl _) _
        clear hX hg
        replace HW := Lib.hid (bel_end HW.out hb)
        clear hb
        refine hK.out _ _ (HSp.out _ bD bE) (fun _ => ?_)
        clear hK Kn
        refine wpAnyH_ready (rs := [8]) (by kernel_rfl) (by simp) ?_
        refine AllReadyH.cons (o := { dst := none, op := Go.Op.store 66 (Go.Operand.tmp 12) (Go.Operand.tmp 30), type := 0, pos := "l08_sectors.go:46", after := #[{ on := 7, ground := Go.Ground.data }, { on := 6, ground := Go.Ground.data }, { on := 5, ground := Go.Ground.chain }, { on := 0, ground := Go.Ground.phase }, { on := 1, ground := Go.Ground.phase }, { on := 2, ground := Go.Ground.phase }, { on := 3, ground := Go.Ground.phase }, { on := 4, ground := Go.Ground.phase }, { on := 5, ground := Go.Ground.phase }, { on := 6, ground := Go.Ground.phase }, { on := 7, ground := Go.Ground.phase }], guard := none }) rfl (fun Kn hK => ?_) AllReadyH.nil
        have bn7_0 := bn7.cell 0 rfl
        have bn7_1 := bn7.cell 1 rfl
        have bn7_2 := bn7.cell 2 rfl
        have bn7_3 := bn7.cell 3 rfl
        have bn7_4 := bn7.cell 4 rfl
        have bn7_5 := bn7.cell 5 rfl
        have bn7_6 := bn7.cell 6 rfl
        have bn7_7 := bn7.cell 7 rfl
        have bn7_8 := bn7.cell 8 rfl
        have bn7_9 := bn7.cell 9 rfl
        have bn7_10 := bn7.cell 10 rfl
        have bn7_f0 := bn7.frozen 0
        have bn7_f1 := bn7.frozen 1
        have bn7_f2 := bn7.frozen 2
        have bn7_f3 := bn7.frozen 3
        have bn7_f4 := bn7.frozen 4
        have bn7_f5 := bn7.frozen 5
        have bn7_f6 := bn7.frozen 6
        have bn7_f7 := bn7.frozen 7
        have bn7_f8 := bn7.frozen 8
        have bn7_f9 := bn7.frozen 9
        have bn7_f10 := bn7.frozen 10
        have bn7_l := bn7.lt
        go_simp
        clear bn7_0 bn7_f0 bn7_1 bn7_f1 bn7_2 bn7_f2 bn7_3 bn7_f3 bn7_4 bn7_f4 bn7_5 bn7_f5 bn7_6 bn7_f6 bn7_7 bn7_f7 bn7_8 bn7_f8 bn7_9 bn7_f9 bn7_10 bn7_f10 bn7_l
        generalize hX : World.setCell _ _ _ = V4
        have hb : Below W.heap.size W V4 := by rw [← hX]; exact (((((((((((HW.out.setCell (p := ⟨g7, 0, none⟩) le7 _).setCell (p := ⟨g7, 1, none⟩) le7 _).setCell (p := ⟨g7, 2, none⟩) le7 _).setCell (p := ⟨g7, 3, none⟩) le7 _).setCell (p := ⟨g7, 4, none⟩) le7 _).setCell (p := ⟨g7, 5, none⟩) le7 _).setCell (p := ⟨g7, 6, none⟩) le7 _).setCell (p := ⟨g7, 7, none⟩) le7 _).setCell (p := ⟨g7, 8, none⟩) le7 _).setCell (p := ⟨g7, 9, none⟩) le7 _).setCell (p := ⟨g7, 10, none⟩) le7 _)
        replace bD : Bk V4 (w.heap.size + 1) #[.int .i64 c, .int .i64 s, .int .i64 h] 28 := by rw [← hX]; exact (Bk.other (Bk.other (Bk.other (Bk.other (Bk.other (Bk.other (Bk.other (Bk.other (Bk.other (Bk.other (Bk.other bD nebD_7 0 _) nebD_7 1 _) nebD_7 2 _) nebD_7 3 _) nebD_7 4 _) nebD_7 5 _) nebD_7 6 _) nebD_7 7 _) nebD_7 8 _) nebD_7 9 _) nebD_7 10 _)
        replace bE : Bk V4 (w.heap.size + 1 + 1) #[.int .i64 x, .int .i64 y, .int .i64 z] 28 := by rw [← hX]; exact (Bk.other (Bk.other (Bk.other (Bk.other (Bk.other (Bk.other (Bk.other (Bk.other (Bk.other (Bk.other (Bk.other bE nebE_7 0 _) nebE_7 1 _) nebE_7 2 _) nebE_7 3 _) nebE_7 4 _) nebE_7 5 _) nebE_7 6 _) nebE_7 7 _) nebE_7 8 _) nebE_7 9 _) nebE_7 10 _)
        replace bn7 : Bk V4 (g7) #[.int .i64 (i : Int), .bool dd, .int .i64 0, .int .i64 0, .int .i64 (i : Int), .bool de, .int .i64 0, .int .i64 0, .bool true, .int .i64 0, .int .i64 0] 66 := by rw [← hX]; exact bk_set11 bn7 _ _ _ _ _ _ _ _ _ _ _
        clear hX
        replace HW := Lib.hid hb
        clear hb
        refine hK.out _ _ (HSp.out _ bD bE) (fun _ => ?_)
        clear hK Kn
        refine wpAnyH_done (by kernel_rfl) ?_ _
        go_wp2_with fail
        go_meet
        exact ⟨_, rfl, bn7, le7, bn7.lt, HW.out⟩
      refine AllReadyH.cons (o := { dst := some 12, op := Go.Op.alloc 66, type := 0, pos := "l08_sectors.go:46", after := #[], guard := none }) rfl (fun Kn hK => ?_) AllReadyH.nil
      go_simp
      generalize hX : World.alloc V1 _ = V5
      obtain ⟨g7, hg⟩ : ∃ g, g = V1.heap.size := ⟨_, rfl⟩
      have bn7 : Bk V5 g7 #[.int .i64 0, .bool false, .int .i64 0, .int .i64 0, .int .i64 0, .bool false, .int .i64 0, .int .i64 0, .bool false, .int .i64 0, .int .i64 0] 66 := by rw [← hX]; exact Bk.new' hg
      have le7 : W.heap.size ≤ g7 := by rw [hg]; exact HW.out.size
      have nebD_7 : w.heap.size + 1 ≠ g7 := by have := bD.lt; omega
      replace bD : Bk V5 (w.heap.size + 1) #[.int .i64 c, .int .i64 s, .int .i64 h] 28 := by rw [← hX]; exact bD.alloc _
      have nebE_7 : w.heap.size + 1 + 1 ≠ g7 := by have := bE.lt; omega
      replace bE : Bk V5 (w.heap.size + 1 + 1) #[.int .i64 x, .int .i64 y, .int .i64 z] 28 := by rw [← hX]; exact bE.alloc _
      try rw [← hg]
      have hb : Below V1.heap.size V1 V5 := by rw [← hX]; exact (Below.refl _ _).alloc (Nat.le_refl _) _
      clear hX hg
      replace HW := Lib.hid (bel_end HW.out hb)
      clear hb
      refine hK.out _ _ (HSp.out _ bD bE) (fun _ => ?_)
      clear hK Kn
      refine wpAnyH_ready (rs := [5]) (by kernel_rfl) (by simp) ?_
      refine AllReadyH.cons (o := { dst := some 29, op := Go.Op.call { callee := Go.Callee.value (Go.Operand.func 46), args := #[Go.Operand.tmp 27, Go.Operand.tmp 28], argTypes := #[2, 28] }, type := 38, pos := "l08_sectors.go:46", after := #[{ on := 3, ground := Go.Ground.data }, { on := 4, ground := Go.Ground.data }, { on := 2, ground := Go.Ground.chain }], guard := none }) rfl (fun Kn hK => ?_) AllReadyH.nil
      first | go_at_call 46 | (go_simp; go_at_call 46)
      (with_reducible refine Calls.mono (K2.out _) ?_)
      rintro e V6 ⟨rfl, hb⟩
      try dsimp only
      try simp only [Act.put, List.setIfInBounds_toArray, List.set_cons_zero, List.set_cons_succ]
      replace bD := bD.on hb
      replace bE := bE.on hb
      replace bn7 := bn7.on hb
      replace HW := Lib.hid (bel_end HW.out hb)
      clear hb
      refine hK.out _ _ (HSp.out _ bD bE) (fun _ => ?_)
      clear hK Kn
      have hS := HSp.out _ bD bE
      refine wpAnyH_take (i := 6) (oi := { dst := some 30, op := Go.Op.build 66 #[(0, Go.Operand.tmp 26), (1, Go.Operand.tmp 29), (2, Go.Operand.const (Go.Value.bool true))], type := 66, pos := "l08_sectors.go:46", after := #[{ on := 2, ground := Go.Ground.data }, { on := 5, ground := Go.Ground.data }], guard := none }) (v := ?_) rfl (by kernel_rfl) (by kernel_rfl) (by kernel_rfl) (fun _ _ _ h => h) (Or.inl ⟨by rfl, ?_⟩) hS ?_
      rotate_left
      · (intro w hSw; have hSw := (HSd.out w).1 hSw; go_split_ands; go_simp) <;> with_reducible rfl
      clear hS
      try simp only [Act.put, List.setIfInBounds_toArray, List.set_cons_zero, List.set_cons_succ]
      refine wpAnyH_ready (rs := [8]) (by kernel_rfl) (by simp) ?_
      refine AllReadyH.cons (o := { dst := none, op := Go.Op.store 66 (Go.Operand.tmp 12) (Go.Operand.tmp 30), type := 0, pos := "l08_sectors.go:46", after := #[{ on := 7, ground := Go.Ground.data }, { on := 6, ground := Go.Ground.data }, { on := 5, ground := Go.Ground.chain }, { on := 0, ground := Go.Ground.phase }, { on := 1, ground := Go.Ground.phase }, { on := 2, ground := Go.Ground.phase }, { on := 3, ground := Go.Ground.phase }, { on := 4, ground := Go.Ground.phase }, { on := 5, ground := Go.Ground.phase }, { on := 6, ground := Go.Ground.phase }, { on := 7, ground := Go.Ground.phase }], guard := none }) rfl (fun Kn hK => ?_) AllReadyH.nil
      have bn7_0 := bn7.cell 0 rfl
      have bn7_1 := bn7.cell 1 rfl
      have bn7_2 := bn7.cell 2 rfl
      have bn7_3 := bn7.cell 3 rfl
      have bn7_4 := bn7.cell 4 rfl
      have bn7_5 := bn7.cell 5 rfl
      have bn7_6 := bn7.cell 6 rfl
      have bn7_7 := bn7.cell 7 rfl
      have bn7_8 := bn7.cell 8 rfl
      have bn7_9 := bn7.cell 9 rfl
      have bn7_10 := bn7.cell 10 rfl
      have bn7_f0 := bn7.frozen 0
      have bn7_f1 := bn7.frozen 1
      have bn7_f2 := bn7.frozen 2
      have bn7_f3 := bn7.frozen 3
      have bn7_f4 := bn7.frozen 4
      have bn7_f5 := bn7.frozen 5
      have bn7_f6 := bn7.frozen 6
      have bn7_f7 := bn7.frozen 7
      have bn7_f8 := bn7.frozen 8
      have bn7_f9 := bn7.frozen 9
      have bn7_f10 := bn7.frozen 10
      have bn7_l := bn7.lt
      go_simp
      clear bn7_0 bn7_f0 bn7_1 bn7_f1 bn7_2 bn7_f2 bn7_3 bn7_f3 bn7_4 bn7_f4 bn7_5 bn7_f5 bn7_6 bn7_f6 bn7_7 bn7_f7 bn7_8 bn7_f8 bn7_9 bn7_f9 bn7_10 bn7_f10 bn7_l
      generalize hX : World.setCell _ _ _ = V7
      have hb : Below W.heap.size W V7 := by rw [← hX]; exact (((((((((((HW.out.setCell (p := ⟨g7, 0, none⟩) le7 _).setCell (p := ⟨g7, 1, none⟩) le7 _).setCell (p := ⟨g7, 2, none⟩) le7 _).setCell (p := ⟨g7, 3, none⟩) le7 _).setCell (p := ⟨g7, 4, none⟩) le7 _).setCell (p := ⟨g7, 5, none⟩) le7 _).setCell (p := ⟨g7, 6, none⟩) le7 _).setCell (p := ⟨g7, 7, none⟩) le7 _).setCell (p := ⟨g7, 8, none⟩) le7 _).setCell (p := ⟨g7, 9, none⟩) le7 _).setCell (p := ⟨g7, 10, none⟩) le7 _)
      replace bD : Bk V7 (w.heap.size + 1) #[.int .i64 c, .int .i64 s, .int .i64 h] 28 := by rw [← hX]; exact (Bk.other (Bk.other (Bk.other (Bk.other (Bk.other (Bk.other (Bk.other (Bk.other (Bk.other (Bk.other (Bk.other bD nebD_7 0 _) nebD_7 1 _) nebD_7 2 _) nebD_7 3 _) nebD_7 4 _) nebD_7 5 _) nebD_7 6 _) nebD_7 7 _) nebD_7 8 _) nebD_7 9 _) nebD_7 10 _)
      replace bE : Bk V7 (w.heap.size + 1 + 1) #[.int .i64 x, .int .i64 y, .int .i64 z] 28 := by rw [← hX]; exact (Bk.other (Bk.other (Bk.other (Bk.other (Bk.other (Bk.other (Bk.other (Bk.other (Bk.other (Bk.other (Bk.other bE nebE_7 0 _) nebE_7 1 _) nebE_7 2 _) nebE_7 3 _) nebE_7 4 _) nebE_7 5 _) nebE_7 6 _) nebE_7 7 _) nebE_7 8 _) nebE_7 9 _) nebE_7 10 _)
      replace bn7 : Bk V7 (g7) #[.int .i64 (i : Int), .bool dd, .int .i64 0, .int .i64 0, .int .i64 (i : Int), .bool de, .int .i64 0, .int .i64 0, .bool true, .int .i64 0, .int .i64 0] 66 := by rw [← hX]; exact bk_set11 bn7 _ _ _ _ _ _ _ _ _ _ _
      clear hX
      replace HW := Lib.hid hb
      clear hb
      refine hK.out _ _ (HSp.out _ bD bE) (fun _ => ?_)
      clear hK Kn
      refine wpAnyH_done (by kernel_rfl) ?_ _
      go_wp2_with fail
      go_meet
      exact ⟨_, rfl, bn7, le7, bn7.lt, HW.out⟩
    refine AllReadyH.cons (o := { dst := some 12, op := Go.Op.alloc 66, type := 0, pos := "l08_sectors.go:46", after := #[], guard := none }) rfl (fun Kn hK => ?_) AllReadyH.nil
    go_simp
    generalize hX : World.alloc V0 _ = V8
    obtain ⟨g7, hg⟩ : ∃ g, g = V0.heap.size := ⟨_, rfl⟩
    have bn7 : Bk V8 g7 #[.int .i64 0, .bool false, .int .i64 0, .int .i64 0, .int .i64 0, .bool false, .int .i64 0, .int .i64 0, .bool false, .int .i64 0, .int .i64 0] 66 := by rw [← hX]; exact Bk.new' hg
    have le7 : W.heap.size ≤ g7 := by rw [hg]; exact HW.out.size
    have nebD_7 : w.heap.size + 1 ≠ g7 := by have := bD.lt; omega
    replace bD : Bk V8 (w.heap.size + 1) #[.int .i64 c, .int .i64 s, .int .i64 h] 28 := by rw [← hX]; exact bD.alloc _
    have nebE_7 : w.heap.size + 1 + 1 ≠ g7 := by have := bE.lt; omega
    replace bE : Bk V8 (w.heap.size + 1 + 1) #[.int .i64 x, .int .i64 y, .int .i64 z] 28 := by rw [← hX]; exact bE.alloc _
    try rw [← hg]
    have hb : Below V0.heap.size V0 V8 := by rw [← hX]; exact (Below.refl _ _).alloc (Nat.le_refl _) _
    clear hX hg
    replace HW := Lib.hid (bel_end HW.out hb)
    clear hb
    refine hK.out _ _ (HSp.out _ bD bE) (fun _ => ?_)
    clear hK Kn
    refine wpAnyH_ready (rs := [2]) (by kernel_rfl) (by simp) ?_
    refine AllReadyH.cons (o := { dst := some 26, op := Go.Op.call { callee := Go.Callee.value (Go.Operand.func 46), args := #[Go.Operand.tmp 24, Go.Operand.tmp 25], argTypes := #[2, 28] }, type := 38, pos := "l08_sectors.go:46", after := #[{ on := 0, ground := Go.Ground.data }, { on := 1, ground := Go.Ground.data }], guard := none }) rfl (fun Kn hK => ?_) AllReadyH.nil
    first | go_at_call 46 | (go_simp; go_at_call 46)
    (with_reducible refine Calls.mono (K1.out _) ?_)
    rintro e V9 ⟨rfl, hb⟩
    try dsimp only
    try simp only [Act.put, List.setIfInBounds_toArray, List.set_cons_zero, List.set_cons_succ]
    replace bD := bD.on hb
    replace bE := bE.on hb
    replace bn7 := bn7.on hb
    replace HW := Lib.hid (bel_end HW.out hb)
    clear hb
    refine hK.out _ _ (HSp.out _ bD bE) (fun _ => ?_)
    clear hK Kn
    refine wpAnyH_ready (rs := [5]) (by kernel_rfl) (by simp) ?_
    refine AllReadyH.cons (o := { dst := some 29, op := Go.Op.call { callee := Go.Callee.value (Go.Operand.func 46), args := #[Go.Operand.tmp 27, Go.Operand.tmp 28], argTypes := #[2, 28] }, type := 38, pos := "l08_sectors.go:46", after := #[{ on := 3, ground := Go.Ground.data }, { on := 4, ground := Go.Ground.data }, { on := 2, ground := Go.Ground.chain }], guard := none }) rfl (fun Kn hK => ?_) AllReadyH.nil
    first | go_at_call 46 | (go_simp; go_at_call 46)
    (with_reducible refine Calls.mono (K2.out _) ?_)
    rintro e V10 ⟨rfl, hb⟩
    try dsimp only
    try simp only [Act.put, List.setIfInBounds_toArray, List.set_cons_zero, List.set_cons_succ]
    replace bD := bD.on hb
    replace bE := bE.on hb
    replace bn7 := bn7.on hb
    replace HW := Lib.hid (bel_end HW.out hb)
    clear hb
    refine hK.out _ _ (HSp.out _ bD bE) (fun _ => ?_)
    clear hK Kn
    have hS := HSp.out _ bD bE
    refine wpAnyH_take (i := 6) (oi := { dst := some 30, op := Go.Op.build 66 #[(0, Go.Operand.tmp 26), (1, Go.Operand.tmp 29), (2, Go.Operand.const (Go.Value.bool true))], type := 66, pos := "l08_sectors.go:46", after := #[{ on := 2, ground := Go.Ground.data }, { on := 5, ground := Go.Ground.data }], guard := none }) (v := ?_) rfl (by kernel_rfl) (by kernel_rfl) (by kernel_rfl) (fun _ _ _ h => h) (Or.inl ⟨by rfl, ?_⟩) hS ?_
    rotate_left
    · (intro w hSw; have hSw := (HSd.out w).1 hSw; go_split_ands; go_simp) <;> with_reducible rfl
    clear hS
    try simp only [Act.put, List.setIfInBounds_toArray, List.set_cons_zero, List.set_cons_succ]
    refine wpAnyH_ready (rs := [8]) (by kernel_rfl) (by simp) ?_
    refine AllReadyH.cons (o := { dst := none, op := Go.Op.store 66 (Go.Operand.tmp 12) (Go.Operand.tmp 30), type := 0, pos := "l08_sectors.go:46", after := #[{ on := 7, ground := Go.Ground.data }, { on := 6, ground := Go.Ground.data }, { on := 5, ground := Go.Ground.chain }, { on := 0, ground := Go.Ground.phase }, { on := 1, ground := Go.Ground.phase }, { on := 2, ground := Go.Ground.phase }, { on := 3, ground := Go.Ground.phase }, { on := 4, ground := Go.Ground.phase }, { on := 5, ground := Go.Ground.phase }, { on := 6, ground := Go.Ground.phase }, { on := 7, ground := Go.Ground.phase }], guard := none }) rfl (fun Kn hK => ?_) AllReadyH.nil
    have bn7_0 := bn7.cell 0 rfl
    have bn7_1 := bn7.cell 1 rfl
    have bn7_2 := bn7.cell 2 rfl
    have bn7_3 := bn7.cell 3 rfl
    have bn7_4 := bn7.cell 4 rfl
    have bn7_5 := bn7.cell 5 rfl
    have bn7_6 := bn7.cell 6 rfl
    have bn7_7 := bn7.cell 7 rfl
    have bn7_8 := bn7.cell 8 rfl
    have bn7_9 := bn7.cell 9 rfl
    have bn7_10 := bn7.cell 10 rfl
    have bn7_f0 := bn7.frozen 0
    have bn7_f1 := bn7.frozen 1
    have bn7_f2 := bn7.frozen 2
    have bn7_f3 := bn7.frozen 3
    have bn7_f4 := bn7.frozen 4
    have bn7_f5 := bn7.frozen 5
    have bn7_f6 := bn7.frozen 6
    have bn7_f7 := bn7.frozen 7
    have bn7_f8 := bn7.frozen 8
    have bn7_f9 := bn7.frozen 9
    have bn7_f10 := bn7.frozen 10
    have bn7_l := bn7.lt
    go_simp
    clear bn7_0 bn7_f0 bn7_1 bn7_f1 bn7_2 bn7_f2 bn7_3 bn7_f3 bn7_4 bn7_f4 bn7_5 bn7_f5 bn7_6 bn7_f6 bn7_7 bn7_f7 bn7_8 bn7_f8 bn7_9 bn7_f9 bn7_10 bn7_f10 bn7_l
    generalize hX : World.setCell _ _ _ = V11
    have hb : Below W.heap.size W V11 := by rw [← hX]; exact (((((((((((HW.out.setCell (p := ⟨g7, 0, none⟩) le7 _).setCell (p := ⟨g7, 1, none⟩) le7 _).setCell (p := ⟨g7, 2, none⟩) le7 _).setCell (p := ⟨g7, 3, none⟩) le7 _).setCell (p := ⟨g7, 4, none⟩) le7 _).setCell (p := ⟨g7, 5, none⟩) le7 _).setCell (p := ⟨g7, 6, none⟩) le7 _).setCell (p := ⟨g7, 7, none⟩) le7 _).setCell (p := ⟨g7, 8, none⟩) le7 _).setCell (p := ⟨g7, 9, none⟩) le7 _).setCell (p := ⟨g7, 10, none⟩) le7 _)
    replace bD : Bk V11 (w.heap.size + 1) #[.int .i64 c, .int .i64 s, .int .i64 h] 28 := by rw [← hX]; exact (Bk.other (Bk.other (Bk.other (Bk.other (Bk.other (Bk.other (Bk.other (Bk.other (Bk.other (Bk.other (Bk.other bD nebD_7 0 _) nebD_7 1 _) nebD_7 2 _) nebD_7 3 _) nebD_7 4 _) nebD_7 5 _) nebD_7 6 _) nebD_7 7 _) nebD_7 8 _) nebD_7 9 _) nebD_7 10 _)
    replace bE : Bk V11 (w.heap.size + 1 + 1) #[.int .i64 x, .int .i64 y, .int .i64 z] 28 := by rw [← hX]; exact (Bk.other (Bk.other (Bk.other (Bk.other (Bk.other (Bk.other (Bk.other (Bk.other (Bk.other (Bk.other (Bk.other bE nebE_7 0 _) nebE_7 1 _) nebE_7 2 _) nebE_7 3 _) nebE_7 4 _) nebE_7 5 _) nebE_7 6 _) nebE_7 7 _) nebE_7 8 _) nebE_7 9 _) nebE_7 10 _)
    replace bn7 : Bk V11 (g7) #[.int .i64 (i : Int), .bool dd, .int .i64 0, .int .i64 0, .int .i64 (i : Int), .bool de, .int .i64 0, .int .i64 0, .bool true, .int .i64 0, .int .i64 0] 66 := by rw [← hX]; exact bk_set11 bn7 _ _ _ _ _ _ _ _ _ _ _
    clear hX
    replace HW := Lib.hid hb
    clear hb
    refine hK.out _ _ (HSp.out _ bD bE) (fun _ => ?_)
    clear hK Kn
    refine wpAnyH_done (by kernel_rfl) ?_ _
    go_wp2_with fail
    go_meet
    exact ⟨_, rfl, bn7, le7, bn7.lt, HW.out⟩
  case rest =>
    obtain ⟨gC, rfl, bC, leC, ltC, hb⟩ := hcut
    obtain ⟨w1, hwc⟩ : ∃ X, X = wc := ⟨_, rfl⟩
    rw [← hwc] at bC ltC hb ⊢
    clear hwc
    replace bX := bX.on hb
    replace bD := bD.on hb
    replace bE := bE.on hb
    replace bR := bR.on hb
    replace HB := Lib.hid (bel_end HB.out hb)
    clear hb
    have H1 := Lib.hid bX
    have H2 := Lib.hid bD
    have H3 := Lib.hid bE
    have H4 := Lib.hid bR
    have H5 := Lib.hid bC
    clear bX bD bE bR bC ltC K1 K2
    go_wp2_with fail
    go_loopw [13] (fun v wr => ∃ k : Nat, v = .int .i64 (k : Int) ∧ k ≤ N ∧ tlB zs ys i c s h x y z k = true ∧ Below w.heap.size w wr ∧ Bk wr (w.heap.size) #[.slice a zs.length ca, .slice b ys.length cb] 26 ∧ Bk wr (w.heap.size + 1) #[.int .i64 c, .int .i64 s, .int .i64 h] 28 ∧ Bk wr (w.heap.size + 1 + 1) #[.int .i64 x, .int .i64 y, .int .i64 z] 28 ∧ Bk wr (w.heap.size + 1 + 1 + 1) #[.int .i64 0, .bool false, .int .i64 0, .int .i64 0, .int .i64 0, .bool false, .int .i64 0, .int .i64 0, .bool false, .int .i64 0, .int .i64 0] 66 ∧ Bk wr gC #[.int .i64 ((runS zs ys i c h (fst0 i s) k).k : Int), .bool (runS zs ys i c h (fst0 i s) k).dn, .int .i64 (runS zs ys i c h (fst0 i s) k).lo, .int .i64 (runS zs ys i c h (fst0 i s) k).hi, .int .i64 ((runS zs ys i x z (fst0 i y) k).k : Int), .bool (runS zs ys i x z (fst0 i y) k).dn, .int .i64 (runS zs ys i x z (fst0 i y) k).lo, .int .i64 (runS zs ys i x z (fst0 i y) k).hi, .bool (hsB zs ys i c s h x y z k), .int .i64 (enS zs ys i c s h x y z k).1, .int .i64 (enS zs ys i c s h x y z k).2] 66) (fun v _ => N - (intOf v).toNat)
    case atStart => exact ⟨0, rfl, by omega, rfl, HB.out, H1.out, H2.out, H3.out, H4.out, by rw [HZ.out.1, HZ.out.2]; exact H5.out⟩
    case round =>
      obtain ⟨k, rfl, hk, ht, hb, bX, bD, bE, bR, bC⟩ := hrel
      clear HB H1 H2 H3 H4 H5 HZ
      have HB := Lib.hid hb
      have HT := Lib.hid ht
      clear hb
      obtain ⟨ok1, ok2, -, -⟩ := tlB_ok ht
      have o1 := SOk.run RQ.out.1 (SOk.first RQ.out.1) ok1
      have o2 := SOk.run RQ.out.2 (SOk.first RQ.out.2) ok2
      have HI := enS_in RQ.out.1 RQ.out.2 ok1 ok2 k (Nat.le_refl _)
      by_cases hkN : k < N
      case neg =>
        obtain rfl : k = N := by omega
        have hkk : ¬ (k : Int) < (k : Int) := by omega
        obtain ⟨⟨k1, d1, l1, h1⟩, hx1⟩ : ∃ u, runS zs ys i c h (fst0 i s) k = u := ⟨_, rfl⟩
        obtain ⟨⟨k2, d2, l2, h2⟩, hx2⟩ : ∃ u, runS zs ys i x z (fst0 i y) k = u := ⟨_, rfl⟩
        obtain ⟨⟨A, E⟩, hS⟩ : ∃ u, enS zs ys i c s h x y z k = u := ⟨_, rfl⟩
        obtain ⟨sm, hm⟩ : ∃ u, hsB zs ys i c s h x y z k = u := ⟨_, rfl⟩
        rw [hx1, hx2, hS, hm] at bC
        dsimp only at bC
        have HSM := Lib.hid (And.intro hS hm)
        have HXX := Lib.hid (And.intro hx1 hx2)
        clear hx1 hx2 hS hm o1 o2 ok1 ok2 HI ht
        have bC_0 := bC.cell 0 rfl
        have bC_1 := bC.cell 1 rfl
        have bC_2 := bC.cell 2 rfl
        have bC_3 := bC.cell 3 rfl
        have bC_4 := bC.cell 4 rfl
        have bC_5 := bC.cell 5 rfl
        have bC_6 := bC.cell 6 rfl
        have bC_7 := bC.cell 7 rfl
        have bC_8 := bC.cell 8 rfl
        have bC_9 := bC.cell 9 rfl
        have bC_10 := bC.cell 10 rfl
        have bC_l := bC.lt
        have bR_0 := bR.cell 0 rfl
        have bR_1 := bR.cell 1 rfl
        have bR_2 := bR.cell 2 rfl
        have bR_3 := bR.cell 3 rfl
        have bR_4 := bR.cell 4 rfl
        have bR_5 := bR.cell 5 rfl
        have bR_6 := bR.cell 6 rfl
        have bR_7 := bR.cell 7 rfl
        have bR_8 := bR.cell 8 rfl
        have bR_9 := bR.cell 9 rfl
        have bR_10 := bR.cell 10 rfl
        have bR_f0 := bR.frozen 0
        have bR_f1 := bR.frozen 1
        have bR_f2 := bR.frozen 2
        have bR_f3 := bR.frozen 3
        have bR_f4 := bR.frozen 4
        have bR_f5 := bR.frozen 5
        have bR_f6 := bR.frozen 6
        have bR_f7 := bR.frozen 7
        have bR_f8 := bR.frozen 8
        have bR_f9 := bR.frozen 9
        have bR_f10 := bR.frozen 10
        have bR_l := bR.lt
        go_wp2
        clear bR_0 bR_1 bR_2 bR_3 bR_4 bR_5 bR_6 bR_7 bR_8 bR_9 bR_10 bR_f0 bR_f1 bR_f2 bR_f3 bR_f4 bR_f5 bR_f6 bR_f7 bR_f8 bR_f9 bR_f10 bR_l
        clear bC_0 bC_1 bC_2 bC_3 bC_4 bC_5 bC_6 bC_7 bC_8 bC_9 bC_10 bC_l
        generalize hX : World.setCell _ _ _ = W9
        have hb : Below w.heap.size w W9 := by rw [← hX]; exact (((((((((((HB.out.setCell (p := ⟨w.heap.size + 1 + 1 + 1, 0, none⟩) (by dsimp only; omega) _).setCell (p := ⟨w.heap.size + 1 + 1 + 1, 1, none⟩) (by dsimp only; omega) _).setCell (p := ⟨w.heap.size + 1 + 1 + 1, 2, none⟩) (by dsimp only; omega) _).setCell (p := ⟨w.heap.size + 1 + 1 + 1, 3, none⟩) (by dsimp only; omega) _).setCell (p := ⟨w.heap.size + 1 + 1 + 1, 4, none⟩) (by dsimp only; omega) _).setCell (p := ⟨w.heap.size + 1 + 1 + 1, 5, none⟩) (by dsimp only; omega) _).setCell (p := ⟨w.heap.size + 1 + 1 + 1, 6, none⟩) (by dsimp only; omega) _).setCell (p := ⟨w.heap.size + 1 + 1 + 1, 7, none⟩) (by dsimp only; omega) _).setCell (p := ⟨w.heap.size + 1 + 1 + 1, 8, none⟩) (by dsimp only; omega) _).setCell (p := ⟨w.heap.size + 1 + 1 + 1, 9, none⟩) (by dsimp only; omega) _).setCell (p := ⟨w.heap.size + 1 + 1 + 1, 10, none⟩) (by dsimp only; omega) _)
        have bR9 : Bk W9 (w.heap.size + 1 + 1 + 1) #[.int .i64 (k1 : Int), .bool d1, .int .i64 l1, .int .i64 h1, .int .i64 (k2 : Int), .bool d2, .int .i64 l2, .int .i64 h2, .bool sm, .int .i64 A, .int .i64 E] 66 := by rw [← hX]; exact bk_set11 bR _ _ _ _ _ _ _ _ _ _ _
        have HB9 := Lib.hid hb
        clear hX hb
        have r0 := bR9.cell 0 rfl
        have r1 := bR9.cell 1 rfl
        have r2 := bR9.cell 2 rfl
        have r3 := bR9.cell 3 rfl
        have r4 := bR9.cell 4 rfl
        have r5 := bR9.cell 5 rfl
        have r6 := bR9.cell 6 rfl
        have r7 := bR9.cell 7 rfl
        have r8 := bR9.cell 8 rfl
        have r9 := bR9.cell 9 rfl
        have r10 := bR9.cell 10 rfl
        exact bodyPost_ret (v := .tuple #[.agg #[.int .i64 (k1 : Int), .bool d1, .int .i64 l1, .int .i64 h1, .int .i64 (k2 : Int), .bool d2, .int .i64 l2, .int .i64 h2, .bool sm, .int .i64 A, .int .i64 E], .int .i64 0]) (by simp [results, Tryz.results21, go_sem, r0, r1, r2, r3, r4, r5, r6, r7, r8, r9, r10]) rfl (Or.inl ⟨HT.out, by rw [HXX.out.1, HXX.out.2, HSM.out.1, HSM.out.2], HB9.out⟩)
      case pos =>
        have ik : (k : Int) < (N : Int) := by omega
        skip
        have KS1 : Hid (∀ W : World, Below w.heap.size w W → _) := Lib.hid (fun W hb => l7s_any W a b ca cb zs ys i (runS zs ys i c h (fst0 i s) k).k c s h (runS zs ys i c h (fst0 i s) k).lo (runS zs ys i c h (fst0 i s) k).hi (runS zs ys i c h (fst0 i s) k).dn (HP.out.on hb) RQ.out.1 o1)
        have KS2 : Hid (∀ W : World, Below w.heap.size w W → _) := Lib.hid (fun W hb => l7s_any W a b ca cb zs ys i (runS zs ys i x z (fst0 i y) k).k x y z (runS zs ys i x z (fst0 i y) k).lo (runS zs ys i x z (fst0 i y) k).hi (runS zs ys i x z (fst0 i y) k).dn (HP.out.on hb) RQ.out.2 o2)
        have FS1 : (runS zs ys i c h (fst0 i s) (k + 1)) = nxt zs ys i c h (runS zs ys i c h (fst0 i s) k) := rfl
        obtain ⟨n1, hn1⟩ : ∃ u, nxB zs ys i c h (runS zs ys i c h (fst0 i s) k) = u := ⟨_, rfl⟩
        have hT1 : stpT zs ys i c h (runS zs ys i c h (fst0 i s) k).k (runS zs ys i c h (fst0 i s) k).dn (runS zs ys i c h (fst0 i s) k).lo (runS zs ys i c h (fst0 i s) k).hi = if n1 then (((runS zs ys i c h (fst0 i s) (k + 1)).k : Int), (runS zs ys i c h (fst0 i s) (k + 1)).dn, (runS zs ys i c h (fst0 i s) (k + 1)).lo, (runS zs ys i c h (fst0 i s) (k + 1)).hi, evV zs ys i c h (runS zs ys i c h (fst0 i s) k).k (runS zs ys i c h (fst0 i s) k).dn, (0 : Int)) else ((0 : Int), false, (0 : Int), (0 : Int), (0 : Int), (3 : Int)) := by rw [← hn1]; rfl
        obtain ⟨⟨K1, D1, L1, M1, E1, Q1⟩, hU1⟩ : ∃ u, stpT zs ys i c h (runS zs ys i c h (fst0 i s) k).k (runS zs ys i c h (fst0 i s) k).dn (runS zs ys i c h (fst0 i s) k).lo (runS zs ys i c h (fst0 i s) k).hi = u := ⟨_, rfl⟩
        rw [hU1] at hT1 KS1
        clear hU1
        have FS2 : (runS zs ys i x z (fst0 i y) (k + 1)) = nxt zs ys i x z (runS zs ys i x z (fst0 i y) k) := rfl
        obtain ⟨n2, hn2⟩ : ∃ u, nxB zs ys i x z (runS zs ys i x z (fst0 i y) k) = u := ⟨_, rfl⟩
        have hT2 : stpT zs ys i x z (runS zs ys i x z (fst0 i y) k).k (runS zs ys i x z (fst0 i y) k).dn (runS zs ys i x z (fst0 i y) k).lo (runS zs ys i x z (fst0 i y) k).hi = if n2 then (((runS zs ys i x z (fst0 i y) (k + 1)).k : Int), (runS zs ys i x z (fst0 i y) (k + 1)).dn, (runS zs ys i x z (fst0 i y) (k + 1)).lo, (runS zs ys i x z (fst0 i y) (k + 1)).hi, evV zs ys i x z (runS zs ys i x z (fst0 i y) k).k (runS zs ys i x z (fst0 i y) k).dn, (0 : Int)) else ((0 : Int), false, (0 : Int), (0 : Int), (0 : Int), (3 : Int)) := by rw [← hn2]; rfl
        obtain ⟨⟨K2, D2, L2, M2, E2, Q2⟩, hU2⟩ : ∃ u, stpT zs ys i x z (runS zs ys i x z (fst0 i y) k).k (runS zs ys i x z (fst0 i y) k).dn (runS zs ys i x z (fst0 i y) k).lo (runS zs ys i x z (fst0 i y) k).hi = u := ⟨_, rfl⟩
        rw [hU2] at hT2 KS2
        clear hU2
        have AD1 := SOk.ad RQ.out.1 o1
        have AD2 := SOk.ad RQ.out.2 o2
        have G1 : Hid ((runS zs ys i c h (fst0 i s) (k + 1)).lo = (runS zs ys i c h (fst0 i s) k).lo + adLo zs ys i c h (runS zs ys i c h (fst0 i s) k).k (runS zs ys i c h (fst0 i s) k).dn ∧ (runS zs ys i c h (fst0 i s) (k + 1)).hi = (runS zs ys i c h (fst0 i s) k).hi + adHi zs ys i c h (runS zs ys i c h (fst0 i s) k).k (runS zs ys i c h (fst0 i s) k).dn) := Lib.hid ⟨rfl, rfl⟩
        have G2 : Hid ((runS zs ys i x z (fst0 i y) (k + 1)).lo = (runS zs ys i x z (fst0 i y) k).lo + adLo zs ys i x z (runS zs ys i x z (fst0 i y) k).k (runS zs ys i x z (fst0 i y) k).dn ∧ (runS zs ys i x z (fst0 i y) (k + 1)).hi = (runS zs ys i x z (fst0 i y) k).hi + adHi zs ys i x z (runS zs ys i x z (fst0 i y) k).k (runS zs ys i x z (fst0 i y) k).dn) := Lib.hid ⟨rfl, rfl⟩
        have GT : Hid (tlB zs ys i c s h x y z (k + 1) = (tlB zs ys i c s h x y z k && n1 && n2 && (valB (enS zs ys i c s h x y z (k + 1)).1 && valB (enS zs ys i c s h x y z (k + 1)).2))) := Lib.hid (by rw [← hn1, ← hn2]; rfl)
        have GS : Hid (enS zs ys i c s h x y z (k + 1) = ((enS zs ys i c s h x y z k).1 + mnI (adLo zs ys i c h (runS zs ys i c h (fst0 i s) k).k (runS zs ys i c h (fst0 i s) k).dn) (adLo zs ys i x z (runS zs ys i x z (fst0 i y) k).k (runS zs ys i x z (fst0 i y) k).dn), (enS zs ys i c s h x y z k).2 + mxI (adHi zs ys i c h (runS zs ys i c h (fst0 i s) k).k (runS zs ys i c h (fst0 i s) k).dn) (adHi zs ys i x z (runS zs ys i x z (fst0 i y) k).k (runS zs ys i x z (fst0 i y) k).dn))) := Lib.hid rfl
        have GH : Hid (hsB zs ys i c s h x y z (k + 1) = (hsB zs ys i c s h x y z k && (evV zs ys i c h (runS zs ys i c h (fst0 i s) k).k (runS zs ys i c h (fst0 i s) k).dn == evV zs ys i x z (runS zs ys i x z (fst0 i y) k).k (runS zs ys i x z (fst0 i y) k).dn))) := Lib.hid rfl
        obtain ⟨A1, hA1⟩ : ∃ u, adLo zs ys i c h (runS zs ys i c h (fst0 i s) k).k (runS zs ys i c h (fst0 i s) k).dn = u := ⟨_, rfl⟩
        rw [hA1] at GS AD1 G1
        clear hA1
        obtain ⟨B1, hB1⟩ : ∃ u, adHi zs ys i c h (runS zs ys i c h (fst0 i s) k).k (runS zs ys i c h (fst0 i s) k).dn = u := ⟨_, rfl⟩
        rw [hB1] at GS AD1 G1
        clear hB1
        obtain ⟨A2, hA2⟩ : ∃ u, adLo zs ys i x z (runS zs ys i x z (fst0 i y) k).k (runS zs ys i x z (fst0 i y) k).dn = u := ⟨_, rfl⟩
        rw [hA2] at GS AD2 G2
        clear hA2
        obtain ⟨B2, hB2⟩ : ∃ u, adHi zs ys i x z (runS zs ys i x z (fst0 i y) k).k (runS zs ys i x z (fst0 i y) k).dn = u := ⟨_, rfl⟩
        rw [hB2] at GS AD2 G2
        clear hB2
        obtain ⟨V1, hV1⟩ : ∃ u, evV zs ys i c h (runS zs ys i c h (fst0 i s) k).k (runS zs ys i c h (fst0 i s) k).dn = u := ⟨_, rfl⟩
        rw [hV1] at GH hT1
        clear hV1
        obtain ⟨V2, hV2⟩ : ∃ u, evV zs ys i x z (runS zs ys i x z (fst0 i y) k).k (runS zs ys i x z (fst0 i y) k).dn = u := ⟨_, rfl⟩
        rw [hV2] at GH hT2
        clear hV2
        obtain ⟨⟨k1, d1, l1, h1⟩, hx1⟩ : ∃ u, runS zs ys i c h (fst0 i s) k = u := ⟨_, rfl⟩
        obtain ⟨⟨k2, d2, l2, h2⟩, hx2⟩ : ∃ u, runS zs ys i x z (fst0 i y) k = u := ⟨_, rfl⟩
        obtain ⟨⟨A, E⟩, hS⟩ : ∃ u, enS zs ys i c s h x y z k = u := ⟨_, rfl⟩
        obtain ⟨sm, hm⟩ : ∃ u, hsB zs ys i c s h x y z k = u := ⟨_, rfl⟩
        rw [hx1, hx2, hS, hm] at bC
        rw [hx1] at KS1 G1 o1
        rw [hx2] at KS2 G2 o2
        rw [hS] at GS HI
        rw [hm] at GH
        dsimp only at bC KS1 KS2 HI GS G1 G2
        rw [ht] at GT
        have b1 := o1.l0
        have b2 := o1.lh
        have b3 := o1.h1
        have c1 := o2.l0
        have c2 := o2.lh
        have c3 := o2.h1
        dsimp only at b1 b2 b3 c1 c2 c3
        have T1 := Lib.hid hT1
        have T2 := Lib.hid hT2
        clear hx1 hx2 hS hm o1 o2 ok1 ok2 ht hT1 hT2 FS1 FS2 hn1 hn2
        have bX_0 := bX.cell 0 rfl
        have bX_1 := bX.cell 1 rfl
        have bX_l := bX.lt
        have bD_0 := bD.cell 0 rfl
        have bD_1 := bD.cell 1 rfl
        have bD_2 := bD.cell 2 rfl
        have bD_l := bD.lt
        have bC_0 := bC.cell 0 rfl
        have bC_1 := bC.cell 1 rfl
        have bC_2 := bC.cell 2 rfl
        have bC_3 := bC.cell 3 rfl
        have bC_l := bC.lt
        go_wp2_with fail
        (with_reducible refine Calls.mono (KS1.out _ HB.out) ?_)
        rintro e w2 ⟨rfl, hb⟩
        clear bX_0 bX_1 bX_l
        clear bD_0 bD_1 bD_2 bD_l
        clear bC_0 bC_1 bC_2 bC_3 bC_l
        replace bX := bX.on hb
        replace bD := bD.on hb
        replace bE := bE.on hb
        replace bR := bR.on hb
        replace bC := bC.on hb
        replace HB := Lib.hid (bel_end HB.out hb)
        clear hb
        clear KS1
        go_upto_region 6 with fail
        obtain ⟨W3, hW⟩ : ∃ X, X = w2.alloc (.cells #[.int .i64 K1, .bool D1, .int .i64 L1, .int .i64 M1] 38) := ⟨_, rfl⟩
        rw [← hW]
        obtain ⟨gF, hg⟩ : ∃ u, u = w2.heap.size := ⟨_, rfl⟩
        have bF : Bk W3 gF #[.int .i64 K1, .bool D1, .int .i64 L1, .int .i64 M1] 38 := by rw [hW]; exact Bk.new' hg
        have hb : Below w2.heap.size w2 W3 := by rw [hW]; exact (Below.refl _ _).alloc (Nat.le_refl _) _
        try rw [← hg]
        have l_gF : gC < gF := by have := bC.lt; omega
        have r_gF : w.heap.size + 1 + 1 + 1 < gF := by have := bR.lt; omega
        clear hW hg
        replace bX := bX.on hb
        replace bD := bD.on hb
        replace bE := bE.on hb
        replace bR := bR.on hb
        replace bC := bC.on hb
        replace HB := Lib.hid (bel_end HB.out hb)
        clear hb
        have bX_0 := bX.cell 0 rfl
        have bX_1 := bX.cell 1 rfl
        have bX_l := bX.lt
        have bE_0 := bE.cell 0 rfl
        have bE_1 := bE.cell 1 rfl
        have bE_2 := bE.cell 2 rfl
        have bE_l := bE.lt
        have bC_0 := bC.cell 0 rfl
        have bC_1 := bC.cell 1 rfl
        have bC_2 := bC.cell 2 rfl
        have bC_3 := bC.cell 3 rfl
        have bC_4 := bC.cell 4 rfl
        have bC_5 := bC.cell 5 rfl
        have bC_6 := bC.cell 6 rfl
        have bC_7 := bC.cell 7 rfl
        have bC_l := bC.lt
        go_wp2_with fail
        (with_reducible refine Calls.mono (KS2.out _ HB.out) ?_)
        rintro e w4 ⟨rfl, hb⟩
        clear bX_0 bX_1 bX_l
        clear bE_0 bE_1 bE_2 bE_l
        clear bC_0 bC_1 bC_2 bC_3 bC_4 bC_5 bC_6 bC_7 bC_l
        replace bX := bX.on hb
        replace bD := bD.on hb
        replace bE := bE.on hb
        replace bR := bR.on hb
        replace bC := bC.on hb
        replace bF := bF.on hb
        replace HB := Lib.hid (bel_end HB.out hb)
        clear hb
        clear KS2
        go_upto_region 7 with fail
        obtain ⟨W5, hW⟩ : ∃ X, X = w4.alloc (.cells #[.int .i64 K2, .bool D2, .int .i64 L2, .int .i64 M2] 38) := ⟨_, rfl⟩
        rw [← hW]
        obtain ⟨gG, hg⟩ : ∃ u, u = w4.heap.size := ⟨_, rfl⟩
        have bG : Bk W5 gG #[.int .i64 K2, .bool D2, .int .i64 L2, .int .i64 M2] 38 := by rw [hW]; exact Bk.new' hg
        have hb : Below w4.heap.size w4 W5 := by rw [hW]; exact (Below.refl _ _).alloc (Nat.le_refl _) _
        try rw [← hg]
        have l_gG : gC < gG := by have := bC.lt; omega
        have r_gG : w.heap.size + 1 + 1 + 1 < gG := by have := bR.lt; omega
        clear hW hg
        replace bX := bX.on hb
        replace bD := bD.on hb
        replace bE := bE.on hb
        replace bR := bR.on hb
        replace bC := bC.on hb
        replace bF := bF.on hb
        replace HB := Lib.hid (bel_end HB.out hb)
        clear hb
        cases n1
        case false =>
          have g1 := T1.out
          simp only [Bool.false_eq_true, if_false, Prod.mk.injEq] at g1
          obtain ⟨rfl, rfl, rfl, rfl, rfl, rfl⟩ := g1
          have HF : Hid (tlB zs ys i c s h x y z N = false) := Lib.hid (tlB_f (by rw [GT.out]; simp) hkN)
          have bR_0 := bR.cell 0 rfl
          have bR_1 := bR.cell 1 rfl
          have bR_2 := bR.cell 2 rfl
          have bR_3 := bR.cell 3 rfl
          have bR_4 := bR.cell 4 rfl
          have bR_5 := bR.cell 5 rfl
          have bR_6 := bR.cell 6 rfl
          have bR_7 := bR.cell 7 rfl
          have bR_8 := bR.cell 8 rfl
          have bR_9 := bR.cell 9 rfl
          have bR_10 := bR.cell 10 rfl
          have bR_f0 := bR.frozen 0
          have bR_f1 := bR.frozen 1
          have bR_f2 := bR.frozen 2
          have bR_f3 := bR.frozen 3
          have bR_f4 := bR.frozen 4
          have bR_f5 := bR.frozen 5
          have bR_f6 := bR.frozen 6
          have bR_f7 := bR.frozen 7
          have bR_f8 := bR.frozen 8
          have bR_f9 := bR.frozen 9
          have bR_f10 := bR.frozen 10
          have bR_l := bR.lt
          go_wp2
          clear bR_0 bR_1 bR_2 bR_3 bR_4 bR_5 bR_6 bR_7 bR_8 bR_9 bR_10 bR_f0 bR_f1 bR_f2 bR_f3 bR_f4 bR_f5 bR_f6 bR_f7 bR_f8 bR_f9 bR_f10 bR_l
          generalize hX : World.setCell _ _ _ = W9
          have hb : Below w.heap.size w W9 := by rw [← hX]; exact (((((((((((HB.out.setCell (p := ⟨w.heap.size + 1 + 1 + 1, 0, none⟩) (by dsimp only; omega) _).setCell (p := ⟨w.heap.size + 1 + 1 + 1, 1, none⟩) (by dsimp only; omega) _).setCell (p := ⟨w.heap.size + 1 + 1 + 1, 2, none⟩) (by dsimp only; omega) _).setCell (p := ⟨w.heap.size + 1 + 1 + 1, 3, none⟩) (by dsimp only; omega) _).setCell (p := ⟨w.heap.size + 1 + 1 + 1, 4, none⟩) (by dsimp only; omega) _).setCell (p := ⟨w.heap.size + 1 + 1 + 1, 5, none⟩) (by dsimp only; omega) _).setCell (p := ⟨w.heap.size + 1 + 1 + 1, 6, none⟩) (by dsimp only; omega) _).setCell (p := ⟨w.heap.size + 1 + 1 + 1, 7, none⟩) (by dsimp only; omega) _).setCell (p := ⟨w.heap.size + 1 + 1 + 1, 8, none⟩) (by dsimp only; omega) _).setCell (p := ⟨w.heap.size + 1 + 1 + 1, 9, none⟩) (by dsimp only; omega) _).setCell (p := ⟨w.heap.size + 1 + 1 + 1, 10, none⟩) (by dsimp only; omega) _)
          have bR9 : Bk W9 (w.heap.size + 1 + 1 + 1) #[.int .i64 0, .bool false, .int .i64 0, .int .i64 0, .int .i64 0, .bool false, .int .i64 0, .int .i64 0, .bool false, .int .i64 0, .int .i64 0] 66 := by rw [← hX]; exact bk_set11 bR _ _ _ _ _ _ _ _ _ _ _
          have HB9 := Lib.hid hb
          clear hX hb
          have r0 := bR9.cell 0 rfl
          have r1 := bR9.cell 1 rfl
          have r2 := bR9.cell 2 rfl
          have r3 := bR9.cell 3 rfl
          have r4 := bR9.cell 4 rfl
          have r5 := bR9.cell 5 rfl
          have r6 := bR9.cell 6 rfl
          have r7 := bR9.cell 7 rfl
          have r8 := bR9.cell 8 rfl
          have r9 := bR9.cell 9 rfl
          have r10 := bR9.cell 10 rfl
          exact bodyPost_ret (v := .tuple #[.agg #[.int .i64 0, .bool false, .int .i64 0, .int .i64 0, .int .i64 0, .bool false, .int .i64 0, .int .i64 0, .bool false, .int .i64 0, .int .i64 0], .int .i64 3]) (by simp [results, Tryz.results21, go_sem, r0, r1, r2, r3, r4, r5, r6, r7, r8, r9, r10]) rfl (Or.inr ⟨HF.out, rfl, HB9.out⟩)
        case true =>
          cases n2
          case false =>
            have g1 := T1.out
            simp only [if_true, Prod.mk.injEq] at g1
            obtain ⟨-, -, -, -, -, rfl⟩ := g1
            have g2 := T2.out
            simp only [Bool.false_eq_true, if_false, Prod.mk.injEq] at g2
            obtain ⟨rfl, rfl, rfl, rfl, rfl, rfl⟩ := g2
            have HF : Hid (tlB zs ys i c s h x y z N = false) := Lib.hid (tlB_f (by rw [GT.out]; simp) hkN)
            have bR_0 := bR.cell 0 rfl
            have bR_1 := bR.cell 1 rfl
            have bR_2 := bR.cell 2 rfl
            have bR_3 := bR.cell 3 rfl
            have bR_4 := bR.cell 4 rfl
            have bR_5 := bR.cell 5 rfl
            have bR_6 := bR.cell 6 rfl
            have bR_7 := bR.cell 7 rfl
            have bR_8 := bR.cell 8 rfl
            have bR_9 := bR.cell 9 rfl
            have bR_10 := bR.cell 10 rfl
            have bR_f0 := bR.frozen 0
            have bR_f1 := bR.frozen 1
            have bR_f2 := bR.frozen 2
            have bR_f3 := bR.frozen 3
            have bR_f4 := bR.frozen 4
            have bR_f5 := bR.frozen 5
            have bR_f6 := bR.frozen 6
            have bR_f7 := bR.frozen 7
            have bR_f8 := bR.frozen 8
            have bR_f9 := bR.frozen 9
            have bR_f10 := bR.frozen 10
            have bR_l := bR.lt
            go_wp2
            clear bR_0 bR_1 bR_2 bR_3 bR_4 bR_5 bR_6 bR_7 bR_8 bR_9 bR_10 bR_f0 bR_f1 bR_f2 bR_f3 bR_f4 bR_f5 bR_f6 bR_f7 bR_f8 bR_f9 bR_f10 bR_l
            generalize hX : World.setCell _ _ _ = W9
            have hb : Below w.heap.size w W9 := by rw [← hX]; exact (((((((((((HB.out.setCell (p := ⟨w.heap.size + 1 + 1 + 1, 0, none⟩) (by dsimp only; omega) _).setCell (p := ⟨w.heap.size + 1 + 1 + 1, 1, none⟩) (by dsimp only; omega) _).setCell (p := ⟨w.heap.size + 1 + 1 + 1, 2, none⟩) (by dsimp only; omega) _).setCell (p := ⟨w.heap.size + 1 + 1 + 1, 3, none⟩) (by dsimp only; omega) _).setCell (p := ⟨w.heap.size + 1 + 1 + 1, 4, none⟩) (by dsimp only; omega) _).setCell (p := ⟨w.heap.size + 1 + 1 + 1, 5, none⟩) (by dsimp only; omega) _).setCell (p := ⟨w.heap.size + 1 + 1 + 1, 6, none⟩) (by dsimp only; omega) _).setCell (p := ⟨w.heap.size + 1 + 1 + 1, 7, none⟩) (by dsimp only; omega) _).setCell (p := ⟨w.heap.size + 1 + 1 + 1, 8, none⟩) (by dsimp only; omega) _).setCell (p := ⟨w.heap.size + 1 + 1 + 1, 9, none⟩) (by dsimp only; omega) _).setCell (p := ⟨w.heap.size + 1 + 1 + 1, 10, none⟩) (by dsimp only; omega) _)
            have bR9 : Bk W9 (w.heap.size + 1 + 1 + 1) #[.int .i64 0, .bool false, .int .i64 0, .int .i64 0, .int .i64 0, .bool false, .int .i64 0, .int .i64 0, .bool false, .int .i64 0, .int .i64 0] 66 := by rw [← hX]; exact bk_set11 bR _ _ _ _ _ _ _ _ _ _ _
            have HB9 := Lib.hid hb
            clear hX hb
            have r0 := bR9.cell 0 rfl
            have r1 := bR9.cell 1 rfl
            have r2 := bR9.cell 2 rfl
            have r3 := bR9.cell 3 rfl
            have r4 := bR9.cell 4 rfl
            have r5 := bR9.cell 5 rfl
            have r6 := bR9.cell 6 rfl
            have r7 := bR9.cell 7 rfl
            have r8 := bR9.cell 8 rfl
            have r9 := bR9.cell 9 rfl
            have r10 := bR9.cell 10 rfl
            exact bodyPost_ret (v := .tuple #[.agg #[.int .i64 0, .bool false, .int .i64 0, .int .i64 0, .int .i64 0, .bool false, .int .i64 0, .int .i64 0, .bool false, .int .i64 0, .int .i64 0], .int .i64 3]) (by simp [results, Tryz.results21, go_sem, r0, r1, r2, r3, r4, r5, r6, r7, r8, r9, r10]) rfl (Or.inr ⟨HF.out, rfl, HB9.out⟩)
          case true =>
            have g1 := T1.out
            simp only [if_true, Prod.mk.injEq] at g1
            obtain ⟨x1, x2, x3, x4, rfl, rfl⟩ := g1
            have g2 := T2.out
            simp only [if_true, Prod.mk.injEq] at g2
            obtain ⟨y1, y2, y3, y4, rfl, rfl⟩ := g2
            have HX := Lib.hid (And.intro (And.intro x1 (And.intro x2 (And.intro x3 x4))) (And.intro y1 (And.intro y2 (And.intro y3 y4))))
            have eL1 : L1 = l1 + A1 := by rw [x3]; exact G1.out.1
            have eM1 : M1 = h1 + B1 := by rw [x4]; exact G1.out.2
            have eL2 : L2 = l2 + A2 := by rw [y3]; exact G2.out.1
            have eM2 : M2 = h2 + B2 := by rw [y4]; exact G2.out.2
            have w1_ : IntKind.wrap .i64 (L1 - l1) = A1 := by rw [eL1, show l1 + A1 - l1 = A1 by omega]; exact IntWalk.i64_in _ (by omega)
            have w2_ : IntKind.wrap .i64 (M1 - h1) = B1 := by rw [eM1, show h1 + B1 - h1 = B1 by omega]; exact IntWalk.i64_in _ (by omega)
            have w3_ : IntKind.wrap .i64 (L2 - l2) = A2 := by rw [eL2, show l2 + A2 - l2 = A2 by omega]; exact IntWalk.i64_in _ (by omega)
            have w4_ : IntKind.wrap .i64 (M2 - h2) = B2 := by rw [eM2, show h2 + B2 - h2 = B2 by omega]; exact IntWalk.i64_in _ (by omega)
            clear x1 x2 x3 x4 y1 y2 y3 y4 T1 T2 G1 G2 eL1 eM1 eL2 eM2
            obtain ⟨U, hU⟩ : ∃ u : Int, (if A2 < A1 then A2 else A1) = u := ⟨_, rfl⟩
            obtain ⟨O, hO⟩ : ∃ u : Int, (if B1 < B2 then B2 else B1) = u := ⟨_, rfl⟩
            have uo : 0 ≤ U ∧ U ≤ O ∧ O ≤ 4000002000000000 := by rw [← hU, ← hO]; split <;> split <;> omega
            have GS2 : Hid (enS zs ys i c s h x y z (k + 1) = (A + U, E + O)) := Lib.hid (by rw [← hU, ← hO]; exact GS.out)
            have wA : IntKind.wrap .i64 (A + U) = A + U := IntWalk.i64_in _ (by omega)
            have wE : IntKind.wrap .i64 (E + O) = E + O := IntWalk.i64_in _ (by omega)
            obtain ⟨ev, hev⟩ : ∃ u, (E1 == E2) = u := ⟨_, rfl⟩
            rw [hev] at GH
            clear GS b1 b2 b3 c1 c2 c3 AD1 AD2 HI uo
            have KL : Hid (∀ W : World, Calls Tryz.prog 48 #[.int .i64 (A + U), .int .i64 (E + O)] W fun e w' => e = .returned (.tuple #[.agg #[.int .i64 (lim (A + U) (E + O)).1, .int .i64 (lim (A + U) (E + O)).2.1], .int .i64 (lim (A + U) (E + O)).2.2]) ∧ Below W.heap.size W w') := Lib.hid (fun W => llm_any (A + U) (E + O) W)
            have neXC : ¬ w.heap.size = gC := by omega
            have neDC : ¬ w.heap.size + 1 = gC := by omega
            have neEC : ¬ w.heap.size + 1 + 1 = gC := by omega
            have neRC : ¬ w.heap.size + 1 + 1 + 1 = gC := by omega
            have neFC : ¬ gF = gC := by omega
            have neGC : ¬ gG = gC := by omega
            have leCw : w.heap.size ≤ gC := by omega
            have HV := Lib.hid hev
            cases sm
            case false =>
              have bC_0 := bC.cell 0 rfl
              have bC_1 := bC.cell 1 rfl
              have bC_2 := bC.cell 2 rfl
              have bC_3 := bC.cell 3 rfl
              have bC_4 := bC.cell 4 rfl
              have bC_5 := bC.cell 5 rfl
              have bC_6 := bC.cell 6 rfl
              have bC_7 := bC.cell 7 rfl
              have bC_8 := bC.cell 8 rfl
              have bC_9 := bC.cell 9 rfl
              have bC_10 := bC.cell 10 rfl
              have bC_f0 := bC.frozen 0
              have bC_f1 := bC.frozen 1
              have bC_f2 := bC.frozen 2
              have bC_f3 := bC.frozen 3
              have bC_f4 := bC.frozen 4
              have bC_f5 := bC.frozen 5
              have bC_f6 := bC.frozen 6
              have bC_f7 := bC.frozen 7
              have bC_f8 := bC.frozen 8
              have bC_f9 := bC.frozen 9
              have bC_f10 := bC.frozen 10
              have bC_l := bC.lt
              go_upto_region 10 with fail
              clear bC_0 bC_1 bC_2 bC_3 bC_4 bC_5 bC_6 bC_7 bC_8 bC_9 bC_10 bC_f0 bC_f1 bC_f2 bC_f3 bC_f4 bC_f5 bC_f6 bC_f7 bC_f8 bC_f9 bC_f10 bC_l
              generalize hX : World.setCell _ _ _ = W6
              have hb : Below w.heap.size w W6 := by rw [← hX]; exact (HB.out.setCell (p := ⟨gC, 8, none⟩) leCw _)
              replace bX : Bk W6 (w.heap.size) #[.slice a zs.length ca, .slice b ys.length cb] 26 := by rw [← hX]; exact (Bk.other bX neXC 8 _)
              replace bD : Bk W6 (w.heap.size + 1) #[.int .i64 c, .int .i64 s, .int .i64 h] 28 := by rw [← hX]; exact (Bk.other bD neDC 8 _)
              replace bE : Bk W6 (w.heap.size + 1 + 1) #[.int .i64 x, .int .i64 y, .int .i64 z] 28 := by rw [← hX]; exact (Bk.other bE neEC 8 _)
              replace bR : Bk W6 (w.heap.size + 1 + 1 + 1) #[.int .i64 0, .bool false, .int .i64 0, .int .i64 0, .int .i64 0, .bool false, .int .i64 0, .int .i64 0, .bool false, .int .i64 0, .int .i64 0] 66 := by rw [← hX]; exact (Bk.other bR neRC 8 _)
              replace bF : Bk W6 (gF) #[.int .i64 K1, .bool D1, .int .i64 L1, .int .i64 M1] 38 := by rw [← hX]; exact (Bk.other bF neFC 8 _)
              replace bG : Bk W6 (gG) #[.int .i64 K2, .bool D2, .int .i64 L2, .int .i64 M2] 38 := by rw [← hX]; exact (Bk.other bG neGC 8 _)
              replace bC : Bk W6 gC #[.int .i64 (k1 : Int), .bool d1, .int .i64 l1, .int .i64 h1, .int .i64 (k2 : Int), .bool d2, .int .i64 l2, .int .i64 h2, .bool false, .int .i64 A, .int .i64 E] 66 := by rw [← hX]; exact (Bk.set bC 8 _ rfl)
              replace HB := Lib.hid hb
              clear hX hb
              have bC_0 := bC.cell 0 rfl
              have bC_1 := bC.cell 1 rfl
              have bC_2 := bC.cell 2 rfl
              have bC_3 := bC.cell 3 rfl
              have bC_4 := bC.cell 4 rfl
              have bC_5 := bC.cell 5 rfl
              have bC_6 := bC.cell 6 rfl
              have bC_7 := bC.cell 7 rfl
              have bC_8 := bC.cell 8 rfl
              have bC_9 := bC.cell 9 rfl
              have bC_10 := bC.cell 10 rfl
              have bC_l := bC.lt
              have bF_0 := bF.cell 0 rfl
              have bF_1 := bF.cell 1 rfl
              have bF_2 := bF.cell 2 rfl
              have bF_3 := bF.cell 3 rfl
              have bF_l := bF.lt
              have bG_0 := bG.cell 0 rfl
              have bG_1 := bG.cell 1 rfl
              have bG_2 := bG.cell 2 rfl
              have bG_3 := bG.cell 3 rfl
              have bG_l := bG.lt
              go_wp2_with fail
              (with_reducible refine Calls.mono (KL.out _) ?_)
              rintro e w7 ⟨rfl, hb⟩
              clear bC_0 bC_1 bC_2 bC_3 bC_4 bC_5 bC_6 bC_7 bC_8 bC_9 bC_10 bC_l
              clear bF_0 bF_1 bF_2 bF_3 bF_l
              clear bG_0 bG_1 bG_2 bG_3 bG_l
              replace bX := bX.on hb
              replace bD := bD.on hb
              replace bE := bE.on hb
              replace bR := bR.on hb
              replace bC := bC.on hb
              replace bF := bF.on hb
              replace bG := bG.on hb
              replace HB := Lib.hid (bel_end HB.out hb)
              clear hb
              clear KL w1_ w2_ w3_ w4_ wA wE hU hO
              obtain ⟨vv, hvv⟩ : ∃ u, (valB (A + U) && valB (E + O)) = u := ⟨_, rfl⟩
              have GT2 : Hid (tlB zs ys i c s h x y z (k + 1) = vv) := Lib.hid (by rw [GT.out, GS2.out, ← hvv]; rfl)
              have HL : lim (A + U) (E + O) = if vv then (A + U, E + O, 0) else (0, 0, 3) := by unfold lim; rw [hvv]
              rw [HL]
              clear HL hvv
              cases vv
              case false =>
                simp only [Bool.false_eq_true, if_false]
                have HF : Hid (tlB zs ys i c s h x y z N = false) := Lib.hid (tlB_f GT2.out hkN)
                go_upto_region 14 with fail
                obtain ⟨W8, hW⟩ : ∃ X, X = w7.alloc (.cells #[.int .i64 0, .int .i64 0] 34) := ⟨_, rfl⟩
                rw [← hW]
                obtain ⟨gI, hg⟩ : ∃ u, u = w7.heap.size := ⟨_, rfl⟩
                have bI : Bk W8 gI #[.int .i64 0, .int .i64 0] 34 := by rw [hW]; exact Bk.new' hg
                have hb : Below w7.heap.size w7 W8 := by rw [hW]; exact (Below.refl _ _).alloc (Nat.le_refl _) _
                try rw [← hg]
                have l_gI : gC < gI := by have := bC.lt; omega
                have r_gI : w.heap.size + 1 + 1 + 1 < gI := by have := bR.lt; omega
                clear hW hg
                replace bR := bR.on hb
                replace bC := bC.on hb
                replace HB := Lib.hid (bel_end HB.out hb)
                clear hb
                have bR_0 := bR.cell 0 rfl
                have bR_1 := bR.cell 1 rfl
                have bR_2 := bR.cell 2 rfl
                have bR_3 := bR.cell 3 rfl
                have bR_4 := bR.cell 4 rfl
                have bR_5 := bR.cell 5 rfl
                have bR_6 := bR.cell 6 rfl
                have bR_7 := bR.cell 7 rfl
                have bR_8 := bR.cell 8 rfl
                have bR_9 := bR.cell 9 rfl
                have bR_10 := bR.cell 10 rfl
                have bR_f0 := bR.frozen 0
                have bR_f1 := bR.frozen 1
                have bR_f2 := bR.frozen 2
                have bR_f3 := bR.frozen 3
                have bR_f4 := bR.frozen 4
                have bR_f5 := bR.frozen 5
                have bR_f6 := bR.frozen 6
                have bR_f7 := bR.frozen 7
                have bR_f8 := bR.frozen 8
                have bR_f9 := bR.frozen 9
                have bR_f10 := bR.frozen 10
                have bR_l := bR.lt
                go_wp2
                clear bR_0 bR_1 bR_2 bR_3 bR_4 bR_5 bR_6 bR_7 bR_8 bR_9 bR_10 bR_f0 bR_f1 bR_f2 bR_f3 bR_f4 bR_f5 bR_f6 bR_f7 bR_f8 bR_f9 bR_f10 bR_l
                generalize hX : World.setCell _ _ _ = W9
                have hb : Below w.heap.size w W9 := by rw [← hX]; exact (((((((((((HB.out.setCell (p := ⟨w.heap.size + 1 + 1 + 1, 0, none⟩) (by dsimp only; omega) _).setCell (p := ⟨w.heap.size + 1 + 1 + 1, 1, none⟩) (by dsimp only; omega) _).setCell (p := ⟨w.heap.size + 1 + 1 + 1, 2, none⟩) (by dsimp only; omega) _).setCell (p := ⟨w.heap.size + 1 + 1 + 1, 3, none⟩) (by dsimp only; omega) _).setCell (p := ⟨w.heap.size + 1 + 1 + 1, 4, none⟩) (by dsimp only; omega) _).setCell (p := ⟨w.heap.size + 1 + 1 + 1, 5, none⟩) (by dsimp only; omega) _).setCell (p := ⟨w.heap.size + 1 + 1 + 1, 6, none⟩) (by dsimp only; omega) _).setCell (p := ⟨w.heap.size + 1 + 1 + 1, 7, none⟩) (by dsimp only; omega) _).setCell (p := ⟨w.heap.size + 1 + 1 + 1, 8, none⟩) (by dsimp only; omega) _).setCell (p := ⟨w.heap.size + 1 + 1 + 1, 9, none⟩) (by dsimp only; omega) _).setCell (p := ⟨w.heap.size + 1 + 1 + 1, 10, none⟩) (by dsimp only; omega) _)
                have bR9 : Bk W9 (w.heap.size + 1 + 1 + 1) #[.int .i64 0, .bool false, .int .i64 0, .int .i64 0, .int .i64 0, .bool false, .int .i64 0, .int .i64 0, .bool false, .int .i64 0, .int .i64 0] 66 := by rw [← hX]; exact bk_set11 bR _ _ _ _ _ _ _ _ _ _ _
                have HB9 := Lib.hid hb
                clear hX hb
                have r0 := bR9.cell 0 rfl
                have r1 := bR9.cell 1 rfl
                have r2 := bR9.cell 2 rfl
                have r3 := bR9.cell 3 rfl
                have r4 := bR9.cell 4 rfl
                have r5 := bR9.cell 5 rfl
                have r6 := bR9.cell 6 rfl
                have r7 := bR9.cell 7 rfl
                have r8 := bR9.cell 8 rfl
                have r9 := bR9.cell 9 rfl
                have r10 := bR9.cell 10 rfl
                exact bodyPost_ret (v := .tuple #[.agg #[.int .i64 0, .bool false, .int .i64 0, .int .i64 0, .int .i64 0, .bool false, .int .i64 0, .int .i64 0, .bool false, .int .i64 0, .int .i64 0], .int .i64 3]) (by simp [results, Tryz.results21, go_sem, r0, r1, r2, r3, r4, r5, r6, r7, r8, r9, r10]) rfl (Or.inr ⟨HF.out, rfl, HB9.out⟩)
              case true =>
                simp only [if_true]
                go_upto_region 15 with fail
                obtain ⟨W8, hW⟩ : ∃ X, X = w7.alloc (.cells #[.int .i64 (A + U), .int .i64 (E + O)] 34) := ⟨_, rfl⟩
                rw [← hW]
                obtain ⟨gI, hg⟩ : ∃ u, u = w7.heap.size := ⟨_, rfl⟩
                have bI : Bk W8 gI #[.int .i64 (A + U), .int .i64 (E + O)] 34 := by rw [hW]; exact Bk.new' hg
                have hb : Below w7.heap.size w7 W8 := by rw [hW]; exact (Below.refl _ _).alloc (Nat.le_refl _) _
                try rw [← hg]
                have l_gI : gC < gI := by have := bC.lt; omega
                have r_gI : w.heap.size + 1 + 1 + 1 < gI := by have := bR.lt; omega
                clear hW hg
                replace bX := bX.on hb
                replace bD := bD.on hb
                replace bE := bE.on hb
                replace bR := bR.on hb
                replace bC := bC.on hb
                replace bF := bF.on hb
                replace bG := bG.on hb
                replace HB := Lib.hid (bel_end HB.out hb)
                clear hb
                have neIC : ¬ gI = gC := by omega
                have bF_0 := bF.cell 0 rfl
                have bF_1 := bF.cell 1 rfl
                have bF_2 := bF.cell 2 rfl
                have bF_3 := bF.cell 3 rfl
                have bF_l := bF.lt
                have bC_0 := bC.cell 0 rfl
                have bC_1 := bC.cell 1 rfl
                have bC_2 := bC.cell 2 rfl
                have bC_3 := bC.cell 3 rfl
                have bC_4 := bC.cell 4 rfl
                have bC_5 := bC.cell 5 rfl
                have bC_6 := bC.cell 6 rfl
                have bC_7 := bC.cell 7 rfl
                have bC_8 := bC.cell 8 rfl
                have bC_9 := bC.cell 9 rfl
                have bC_10 := bC.cell 10 rfl
                have bC_f0 := bC.frozen 0
                have bC_f1 := bC.frozen 1
                have bC_f2 := bC.frozen 2
                have bC_f3 := bC.frozen 3
                have bC_f4 := bC.frozen 4
                have bC_f5 := bC.frozen 5
                have bC_f6 := bC.frozen 6
                have bC_f7 := bC.frozen 7
                have bC_f8 := bC.frozen 8
                have bC_f9 := bC.frozen 9
                have bC_f10 := bC.frozen 10
                have bC_l := bC.lt
                go_upto_region 16 with fail
                clear bF_0 bF_1 bF_2 bF_3 bF_l
                clear bC_0 bC_1 bC_2 bC_3 bC_4 bC_5 bC_6 bC_7 bC_8 bC_9 bC_10 bC_f0 bC_f1 bC_f2 bC_f3 bC_f4 bC_f5 bC_f6 bC_f7 bC_f8 bC_f9 bC_f10 bC_l
                generalize hX : World.setCell _ _ _ = W10
                have hb : Below w.heap.size w W10 := by rw [← hX]; exact ((((HB.out.setCell (p := ⟨gC, 0, none⟩) leCw _).setCell (p := ⟨gC, 1, none⟩) leCw _).setCell (p := ⟨gC, 2, none⟩) leCw _).setCell (p := ⟨gC, 3, none⟩) leCw _)
                replace bX : Bk W10 (w.heap.size) #[.slice a zs.length ca, .slice b ys.length cb] 26 := by rw [← hX]; exact (Bk.other (Bk.other (Bk.other (Bk.other bX neXC 0 _) neXC 1 _) neXC 2 _) neXC 3 _)
                replace bD : Bk W10 (w.heap.size + 1) #[.int .i64 c, .int .i64 s, .int .i64 h] 28 := by rw [← hX]; exact (Bk.other (Bk.other (Bk.other (Bk.other bD neDC 0 _) neDC 1 _) neDC 2 _) neDC 3 _)
                replace bE : Bk W10 (w.heap.size + 1 + 1) #[.int .i64 x, .int .i64 y, .int .i64 z] 28 := by rw [← hX]; exact (Bk.other (Bk.other (Bk.other (Bk.other bE neEC 0 _) neEC 1 _) neEC 2 _) neEC 3 _)
                replace bR : Bk W10 (w.heap.size + 1 + 1 + 1) #[.int .i64 0, .bool false, .int .i64 0, .int .i64 0, .int .i64 0, .bool false, .int .i64 0, .int .i64 0, .bool false, .int .i64 0, .int .i64 0] 66 := by rw [← hX]; exact (Bk.other (Bk.other (Bk.other (Bk.other bR neRC 0 _) neRC 1 _) neRC 2 _) neRC 3 _)
                replace bF : Bk W10 (gF) #[.int .i64 K1, .bool D1, .int .i64 L1, .int .i64 M1] 38 := by rw [← hX]; exact (Bk.other (Bk.other (Bk.other (Bk.other bF neFC 0 _) neFC 1 _) neFC 2 _) neFC 3 _)
                replace bG : Bk W10 (gG) #[.int .i64 K2, .bool D2, .int .i64 L2, .int .i64 M2] 38 := by rw [← hX]; exact (Bk.other (Bk.other (Bk.other (Bk.other bG neGC 0 _) neGC 1 _) neGC 2 _) neGC 3 _)
                replace bI : Bk W10 (gI) #[.int .i64 (A + U), .int .i64 (E + O)] 34 := by rw [← hX]; exact (Bk.other (Bk.other (Bk.other (Bk.other bI neIC 0 _) neIC 1 _) neIC 2 _) neIC 3 _)
                replace bC : Bk W10 gC #[.int .i64 K1, .bool D1, .int .i64 L1, .int .i64 M1, .int .i64 (k2 : Int), .bool d2, .int .i64 l2, .int .i64 h2, .bool false, .int .i64 A, .int .i64 E] 66 := by rw [← hX]; exact (Bk.set (Bk.set (Bk.set (Bk.set bC 0 _ rfl) 1 _ rfl) 2 _ rfl) 3 _ rfl)
                replace HB := Lib.hid hb
                clear hX hb
                have bG_0 := bG.cell 0 rfl
                have bG_1 := bG.cell 1 rfl
                have bG_2 := bG.cell 2 rfl
                have bG_3 := bG.cell 3 rfl
                have bG_l := bG.lt
                have bC_0 := bC.cell 0 rfl
                have bC_1 := bC.cell 1 rfl
                have bC_2 := bC.cell 2 rfl
                have bC_3 := bC.cell 3 rfl
                have bC_4 := bC.cell 4 rfl
                have bC_5 := bC.cell 5 rfl
                have bC_6 := bC.cell 6 rfl
                have bC_7 := bC.cell 7 rfl
                have bC_8 := bC.cell 8 rfl
                have bC_9 := bC.cell 9 rfl
                have bC_10 := bC.cell 10 rfl
                have bC_f0 := bC.frozen 0
                have bC_f1 := bC.frozen 1
                have bC_f2 := bC.frozen 2
                have bC_f3 := bC.frozen 3
                have bC_f4 := bC.frozen 4
                have bC_f5 := bC.frozen 5
                have bC_f6 := bC.frozen 6
                have bC_f7 := bC.frozen 7
                have bC_f8 := bC.frozen 8
                have bC_f9 := bC.frozen 9
                have bC_f10 := bC.frozen 10
                have bC_l := bC.lt
                go_upto_region 17 with fail
                clear bG_0 bG_1 bG_2 bG_3 bG_l
                clear bC_0 bC_1 bC_2 bC_3 bC_4 bC_5 bC_6 bC_7 bC_8 bC_9 bC_10 bC_f0 bC_f1 bC_f2 bC_f3 bC_f4 bC_f5 bC_f6 bC_f7 bC_f8 bC_f9 bC_f10 bC_l
                generalize hX : World.setCell _ _ _ = W11
                have hb : Below w.heap.size w W11 := by rw [← hX]; exact ((((HB.out.setCell (p := ⟨gC, 4, none⟩) leCw _).setCell (p := ⟨gC, 5, none⟩) leCw _).setCell (p := ⟨gC, 6, none⟩) leCw _).setCell (p := ⟨gC, 7, none⟩) leCw _)
                replace bX : Bk W11 (w.heap.size) #[.slice a zs.length ca, .slice b ys.length cb] 26 := by rw [← hX]; exact (Bk.other (Bk.other (Bk.other (Bk.other bX neXC 4 _) neXC 5 _) neXC 6 _) neXC 7 _)
                replace bD : Bk W11 (w.heap.size + 1) #[.int .i64 c, .int .i64 s, .int .i64 h] 28 := by rw [← hX]; exact (Bk.other (Bk.other (Bk.other (Bk.other bD neDC 4 _) neDC 5 _) neDC 6 _) neDC 7 _)
                replace bE : Bk W11 (w.heap.size + 1 + 1) #[.int .i64 x, .int .i64 y, .int .i64 z] 28 := by rw [← hX]; exact (Bk.other (Bk.other (Bk.other (Bk.other bE neEC 4 _) neEC 5 _) neEC 6 _) neEC 7 _)
                replace bR : Bk W11 (w.heap.size + 1 + 1 + 1) #[.int .i64 0, .bool false, .int .i64 0, .int .i64 0, .int .i64 0, .bool false, .int .i64 0, .int .i64 0, .bool false, .int .i64 0, .int .i64 0] 66 := by rw [← hX]; exact (Bk.other (Bk.other (Bk.other (Bk.other bR neRC 4 _) neRC 5 _) neRC 6 _) neRC 7 _)
                replace bF : Bk W11 (gF) #[.int .i64 K1, .bool D1, .int .i64 L1, .int .i64 M1] 38 := by rw [← hX]; exact (Bk.other (Bk.other (Bk.other (Bk.other bF neFC 4 _) neFC 5 _) neFC 6 _) neFC 7 _)
                replace bG : Bk W11 (gG) #[.int .i64 K2, .bool D2, .int .i64 L2, .int .i64 M2] 38 := by rw [← hX]; exact (Bk.other (Bk.other (Bk.other (Bk.other bG neGC 4 _) neGC 5 _) neGC 6 _) neGC 7 _)
                replace bI : Bk W11 (gI) #[.int .i64 (A + U), .int .i64 (E + O)] 34 := by rw [← hX]; exact (Bk.other (Bk.other (Bk.other (Bk.other bI neIC 4 _) neIC 5 _) neIC 6 _) neIC 7 _)
                replace bC : Bk W11 gC #[.int .i64 K1, .bool D1, .int .i64 L1, .int .i64 M1, .int .i64 K2, .bool D2, .int .i64 L2, .int .i64 M2, .bool false, .int .i64 A, .int .i64 E] 66 := by rw [← hX]; exact (Bk.set (Bk.set (Bk.set (Bk.set bC 4 _ rfl) 5 _ rfl) 6 _ rfl) 7 _ rfl)
                replace HB := Lib.hid hb
                clear hX hb
                have bI_0 := bI.cell 0 rfl
                have bI_1 := bI.cell 1 rfl
                have bI_l := bI.lt
                have bC_0 := bC.cell 0 rfl
                have bC_1 := bC.cell 1 rfl
                have bC_2 := bC.cell 2 rfl
                have bC_3 := bC.cell 3 rfl
                have bC_4 := bC.cell 4 rfl
                have bC_5 := bC.cell 5 rfl
                have bC_6 := bC.cell 6 rfl
                have bC_7 := bC.cell 7 rfl
                have bC_8 := bC.cell 8 rfl
                have bC_9 := bC.cell 9 rfl
                have bC_10 := bC.cell 10 rfl
                have bC_f0 := bC.frozen 0
                have bC_f1 := bC.frozen 1
                have bC_f2 := bC.frozen 2
                have bC_f3 := bC.frozen 3
                have bC_f4 := bC.frozen 4
                have bC_f5 := bC.frozen 5
                have bC_f6 := bC.frozen 6
                have bC_f7 := bC.frozen 7
                have bC_f8 := bC.frozen 8
                have bC_f9 := bC.frozen 9
                have bC_f10 := bC.frozen 10
                have bC_l := bC.lt
                go_upto_region 4 with fail
                clear bI_0 bI_1 bI_l
                clear bC_0 bC_1 bC_2 bC_3 bC_4 bC_5 bC_6 bC_7 bC_8 bC_9 bC_10 bC_f0 bC_f1 bC_f2 bC_f3 bC_f4 bC_f5 bC_f6 bC_f7 bC_f8 bC_f9 bC_f10 bC_l
                generalize hX : World.setCell _ _ _ = W12
                have hb : Below w.heap.size w W12 := by rw [← hX]; exact ((HB.out.setCell (p := ⟨gC, 9, none⟩) leCw _).setCell (p := ⟨gC, 10, none⟩) leCw _)
                replace bX : Bk W12 (w.heap.size) #[.slice a zs.length ca, .slice b ys.length cb] 26 := by rw [← hX]; exact (Bk.other (Bk.other bX neXC 9 _) neXC 10 _)
                replace bD : Bk W12 (w.heap.size + 1) #[.int .i64 c, .int .i64 s, .int .i64 h] 28 := by rw [← hX]; exact (Bk.other (Bk.other bD neDC 9 _) neDC 10 _)
                replace bE : Bk W12 (w.heap.size + 1 + 1) #[.int .i64 x, .int .i64 y, .int .i64 z] 28 := by rw [← hX]; exact (Bk.other (Bk.other bE neEC 9 _) neEC 10 _)
                replace bR : Bk W12 (w.heap.size + 1 + 1 + 1) #[.int .i64 0, .bool false, .int .i64 0, .int .i64 0, .int .i64 0, .bool false, .int .i64 0, .int .i64 0, .bool false, .int .i64 0, .int .i64 0] 66 := by rw [← hX]; exact (Bk.other (Bk.other bR neRC 9 _) neRC 10 _)
                replace bF : Bk W12 (gF) #[.int .i64 K1, .bool D1, .int .i64 L1, .int .i64 M1] 38 := by rw [← hX]; exact (Bk.other (Bk.other bF neFC 9 _) neFC 10 _)
                replace bG : Bk W12 (gG) #[.int .i64 K2, .bool D2, .int .i64 L2, .int .i64 M2] 38 := by rw [← hX]; exact (Bk.other (Bk.other bG neGC 9 _) neGC 10 _)
                replace bI : Bk W12 (gI) #[.int .i64 (A + U), .int .i64 (E + O)] 34 := by rw [← hX]; exact (Bk.other (Bk.other bI neIC 9 _) neIC 10 _)
                replace bC : Bk W12 gC #[.int .i64 K1, .bool D1, .int .i64 L1, .int .i64 M1, .int .i64 K2, .bool D2, .int .i64 L2, .int .i64 M2, .bool false, .int .i64 (A + U), .int .i64 (E + O)] 66 := by rw [← hX]; exact (Bk.set (Bk.set bC 9 _ rfl) 10 _ rfl)
                replace HB := Lib.hid hb
                clear hX hb
                have GH2 := GH.out
                simp only [Bool.true_and, Bool.false_and] at GH2
                have HGH := Lib.hid GH2
                clear GH2
                go_wp2
                go_roundw
                (case rel => exact ⟨k + 1, by go_num, by omega, GT2.out, HB.out, bX, bD, bE, bR, by rw [GS2.out, HGH.out, ← HX.out.1.1, ← HX.out.1.2.1, ← HX.out.1.2.2.1, ← HX.out.1.2.2.2, ← HX.out.2.1, ← HX.out.2.2.1, ← HX.out.2.2.2.1, ← HX.out.2.2.2.2]; exact bC⟩)
                (case measure => simp [intOf]; omega)
            case true =>
              have bC_0 := bC.cell 0 rfl
              have bC_1 := bC.cell 1 rfl
              have bC_2 := bC.cell 2 rfl
              have bC_3 := bC.cell 3 rfl
              have bC_4 := bC.cell 4 rfl
              have bC_5 := bC.cell 5 rfl
              have bC_6 := bC.cell 6 rfl
              have bC_7 := bC.cell 7 rfl
              have bC_8 := bC.cell 8 rfl
              have bC_9 := bC.cell 9 rfl
              have bC_10 := bC.cell 10 rfl
              have bC_f0 := bC.frozen 0
              have bC_f1 := bC.frozen 1
              have bC_f2 := bC.frozen 2
              have bC_f3 := bC.frozen 3
              have bC_f4 := bC.frozen 4
              have bC_f5 := bC.frozen 5
              have bC_f6 := bC.frozen 6
              have bC_f7 := bC.frozen 7
              have bC_f8 := bC.frozen 8
              have bC_f9 := bC.frozen 9
              have bC_f10 := bC.frozen 10
              have bC_l := bC.lt
              go_upto_region 10 with fail
              clear bC_0 bC_1 bC_2 bC_3 bC_4 bC_5 bC_6 bC_7 bC_8 bC_9 bC_10 bC_f0 bC_f1 bC_f2 bC_f3 bC_f4 bC_f5 bC_f6 bC_f7 bC_f8 bC_f9 bC_f10 bC_l
              generalize hX : World.setCell _ _ _ = W6
              have hb : Below w.heap.size w W6 := by rw [← hX]; exact (HB.out.setCell (p := ⟨gC, 8, none⟩) leCw _)
              replace bX : Bk W6 (w.heap.size) #[.slice a zs.length ca, .slice b ys.length cb] 26 := by rw [← hX]; exact (Bk.other bX neXC 8 _)
              replace bD : Bk W6 (w.heap.size + 1) #[.int .i64 c, .int .i64 s, .int .i64 h] 28 := by rw [← hX]; exact (Bk.other bD neDC 8 _)
              replace bE : Bk W6 (w.heap.size + 1 + 1) #[.int .i64 x, .int .i64 y, .int .i64 z] 28 := by rw [← hX]; exact (Bk.other bE neEC 8 _)
              replace bR : Bk W6 (w.heap.size + 1 + 1 + 1) #[.int .i64 0, .bool false, .int .i64 0, .int .i64 0, .int .i64 0, .bool false, .int .i64 0, .int .i64 0, .bool false, .int .i64 0, .int .i64 0] 66 := by rw [← hX]; exact (Bk.other bR neRC 8 _)
              replace bF : Bk W6 (gF) #[.int .i64 K1, .bool D1, .int .i64 L1, .int .i64 M1] 38 := by rw [← hX]; exact (Bk.other bF neFC 8 _)
              replace bG : Bk W6 (gG) #[.int .i64 K2, .bool D2, .int .i64 L2, .int .i64 M2] 38 := by rw [← hX]; exact (Bk.other bG neGC 8 _)
              replace bC : Bk W6 gC #[.int .i64 (k1 : Int), .bool d1, .int .i64 l1, .int .i64 h1, .int .i64 (k2 : Int), .bool d2, .int .i64 l2, .int .i64 h2, .bool ev, .int .i64 A, .int .i64 E] 66 := by rw [← hX]; exact (Bk.set bC 8 _ rfl)
              replace HB := Lib.hid hb
              clear hX hb
              have bC_0 := bC.cell 0 rfl
              have bC_1 := bC.cell 1 rfl
              have bC_2 := bC.cell 2 rfl
              have bC_3 := bC.cell 3 rfl
              have bC_4 := bC.cell 4 rfl
              have bC_5 := bC.cell 5 rfl
              have bC_6 := bC.cell 6 rfl
              have bC_7 := bC.cell 7 rfl
              have bC_8 := bC.cell 8 rfl
              have bC_9 := bC.cell 9 rfl
              have bC_10 := bC.cell 10 rfl
              have bC_l := bC.lt
              have bF_0 := bF.cell 0 rfl
              have bF_1 := bF.cell 1 rfl
              have bF_2 := bF.cell 2 rfl
              have bF_3 := bF.cell 3 rfl
              have bF_l := bF.lt
              have bG_0 := bG.cell 0 rfl
              have bG_1 := bG.cell 1 rfl
              have bG_2 := bG.cell 2 rfl
              have bG_3 := bG.cell 3 rfl
              have bG_l := bG.lt
              go_wp2_with fail
              (with_reducible refine Calls.mono (KL.out _) ?_)
              rintro e w7 ⟨rfl, hb⟩
              clear bC_0 bC_1 bC_2 bC_3 bC_4 bC_5 bC_6 bC_7 bC_8 bC_9 bC_10 bC_l
              clear bF_0 bF_1 bF_2 bF_3 bF_l
              clear bG_0 bG_1 bG_2 bG_3 bG_l
              replace bX := bX.on hb
              replace bD := bD.on hb
              replace bE := bE.on hb
              replace bR := bR.on hb
              replace bC := bC.on hb
              replace bF := bF.on hb
              replace bG := bG.on hb
              replace HB := Lib.hid (bel_end HB.out hb)
              clear hb
              clear KL w1_ w2_ w3_ w4_ wA wE hU hO
              obtain ⟨vv, hvv⟩ : ∃ u, (valB (A + U) && valB (E + O)) = u := ⟨_, rfl⟩
              have GT2 : Hid (tlB zs ys i c s h x y z (k + 1) = vv) := Lib.hid (by rw [GT.out, GS2.out, ← hvv]; rfl)
              have HL : lim (A + U) (E + O) = if vv then (A + U, E + O, 0) else (0, 0, 3) := by unfold lim; rw [hvv]
              rw [HL]
              clear HL hvv
              cases vv
              case false =>
                simp only [Bool.false_eq_true, if_false]
                have HF : Hid (tlB zs ys i c s h x y z N = false) := Lib.hid (tlB_f GT2.out hkN)
                go_upto_region 14 with fail
                obtain ⟨W8, hW⟩ : ∃ X, X = w7.alloc (.cells #[.int .i64 0, .int .i64 0] 34) := ⟨_, rfl⟩
                rw [← hW]
                obtain ⟨gI, hg⟩ : ∃ u, u = w7.heap.size := ⟨_, rfl⟩
                have bI : Bk W8 gI #[.int .i64 0, .int .i64 0] 34 := by rw [hW]; exact Bk.new' hg
                have hb : Below w7.heap.size w7 W8 := by rw [hW]; exact (Below.refl _ _).alloc (Nat.le_refl _) _
                try rw [← hg]
                have l_gI : gC < gI := by have := bC.lt; omega
                have r_gI : w.heap.size + 1 + 1 + 1 < gI := by have := bR.lt; omega
                clear hW hg
                replace bR := bR.on hb
                replace bC := bC.on hb
                replace HB := Lib.hid (bel_end HB.out hb)
                clear hb
                have bR_0 := bR.cell 0 rfl
                have bR_1 := bR.cell 1 rfl
                have bR_2 := bR.cell 2 rfl
                have bR_3 := bR.cell 3 rfl
                have bR_4 := bR.cell 4 rfl
                have bR_5 := bR.cell 5 rfl
                have bR_6 := bR.cell 6 rfl
                have bR_7 := bR.cell 7 rfl
                have bR_8 := bR.cell 8 rfl
                have bR_9 := bR.cell 9 rfl
                have bR_10 := bR.cell 10 rfl
                have bR_f0 := bR.frozen 0
                have bR_f1 := bR.frozen 1
                have bR_f2 := bR.frozen 2
                have bR_f3 := bR.frozen 3
                have bR_f4 := bR.frozen 4
                have bR_f5 := bR.frozen 5
                have bR_f6 := bR.frozen 6
                have bR_f7 := bR.frozen 7
                have bR_f8 := bR.frozen 8
                have bR_f9 := bR.frozen 9
                have bR_f10 := bR.frozen 10
                have bR_l := bR.lt
                go_wp2
                clear bR_0 bR_1 bR_2 bR_3 bR_4 bR_5 bR_6 bR_7 bR_8 bR_9 bR_10 bR_f0 bR_f1 bR_f2 bR_f3 bR_f4 bR_f5 bR_f6 bR_f7 bR_f8 bR_f9 bR_f10 bR_l
                generalize hX : World.setCell _ _ _ = W9
                have hb : Below w.heap.size w W9 := by rw [← hX]; exact (((((((((((HB.out.setCell (p := ⟨w.heap.size + 1 + 1 + 1, 0, none⟩) (by dsimp only; omega) _).setCell (p := ⟨w.heap.size + 1 + 1 + 1, 1, none⟩) (by dsimp only; omega) _).setCell (p := ⟨w.heap.size + 1 + 1 + 1, 2, none⟩) (by dsimp only; omega) _).setCell (p := ⟨w.heap.size + 1 + 1 + 1, 3, none⟩) (by dsimp only; omega) _).setCell (p := ⟨w.heap.size + 1 + 1 + 1, 4, none⟩) (by dsimp only; omega) _).setCell (p := ⟨w.heap.size + 1 + 1 + 1, 5, none⟩) (by dsimp only; omega) _).setCell (p := ⟨w.heap.size + 1 + 1 + 1, 6, none⟩) (by dsimp only; omega) _).setCell (p := ⟨w.heap.size + 1 + 1 + 1, 7, none⟩) (by dsimp only; omega) _).setCell (p := ⟨w.heap.size + 1 + 1 + 1, 8, none⟩) (by dsimp only; omega) _).setCell (p := ⟨w.heap.size + 1 + 1 + 1, 9, none⟩) (by dsimp only; omega) _).setCell (p := ⟨w.heap.size + 1 + 1 + 1, 10, none⟩) (by dsimp only; omega) _)
                have bR9 : Bk W9 (w.heap.size + 1 + 1 + 1) #[.int .i64 0, .bool false, .int .i64 0, .int .i64 0, .int .i64 0, .bool false, .int .i64 0, .int .i64 0, .bool false, .int .i64 0, .int .i64 0] 66 := by rw [← hX]; exact bk_set11 bR _ _ _ _ _ _ _ _ _ _ _
                have HB9 := Lib.hid hb
                clear hX hb
                have r0 := bR9.cell 0 rfl
                have r1 := bR9.cell 1 rfl
                have r2 := bR9.cell 2 rfl
                have r3 := bR9.cell 3 rfl
                have r4 := bR9.cell 4 rfl
                have r5 := bR9.cell 5 rfl
                have r6 := bR9.cell 6 rfl
                have r7 := bR9.cell 7 rfl
                have r8 := bR9.cell 8 rfl
                have r9 := bR9.cell 9 rfl
                have r10 := bR9.cell 10 rfl
                exact bodyPost_ret (v := .tuple #[.agg #[.int .i64 0, .bool false, .int .i64 0, .int .i64 0, .int .i64 0, .bool false, .int .i64 0, .int .i64 0, .bool false, .int .i64 0, .int .i64 0], .int .i64 3]) (by simp [results, Tryz.results21, go_sem, r0, r1, r2, r3, r4, r5, r6, r7, r8, r9, r10]) rfl (Or.inr ⟨HF.out, rfl, HB9.out⟩)
              case true =>
                simp only [if_true]
                go_upto_region 15 with fail
                obtain ⟨W8, hW⟩ : ∃ X, X = w7.alloc (.cells #[.int .i64 (A + U), .int .i64 (E + O)] 34) := ⟨_, rfl⟩
                rw [← hW]
                obtain ⟨gI, hg⟩ : ∃ u, u = w7.heap.size := ⟨_, rfl⟩
                have bI : Bk W8 gI #[.int .i64 (A + U), .int .i64 (E + O)] 34 := by rw [hW]; exact Bk.new' hg
                have hb : Below w7.heap.size w7 W8 := by rw [hW]; exact (Below.refl _ _).alloc (Nat.le_refl _) _
                try rw [← hg]
                have l_gI : gC < gI := by have := bC.lt; omega
                have r_gI : w.heap.size + 1 + 1 + 1 < gI := by have := bR.lt; omega
                clear hW hg
                replace bX := bX.on hb
                replace bD := bD.on hb
                replace bE := bE.on hb
                replace bR := bR.on hb
                replace bC := bC.on hb
                replace bF := bF.on hb
                replace bG := bG.on hb
                replace HB := Lib.hid (bel_end HB.out hb)
                clear hb
                have neIC : ¬ gI = gC := by omega
                have bF_0 := bF.cell 0 rfl
                have bF_1 := bF.cell 1 rfl
                have bF_2 := bF.cell 2 rfl
                have bF_3 := bF.cell 3 rfl
                have bF_l := bF.lt
                have bC_0 := bC.cell 0 rfl
                have bC_1 := bC.cell 1 rfl
                have bC_2 := bC.cell 2 rfl
                have bC_3 := bC.cell 3 rfl
                have bC_4 := bC.cell 4 rfl
                have bC_5 := bC.cell 5 rfl
                have bC_6 := bC.cell 6 rfl
                have bC_7 := bC.cell 7 rfl
                have bC_8 := bC.cell 8 rfl
                have bC_9 := bC.cell 9 rfl
                have bC_10 := bC.cell 10 rfl
                have bC_f0 := bC.frozen 0
                have bC_f1 := bC.frozen 1
                have bC_f2 := bC.frozen 2
                have bC_f3 := bC.frozen 3
                have bC_f4 := bC.frozen 4
                have bC_f5 := bC.frozen 5
                have bC_f6 := bC.frozen 6
                have bC_f7 := bC.frozen 7
                have bC_f8 := bC.frozen 8
                have bC_f9 := bC.frozen 9
                have bC_f10 := bC.frozen 10
                have bC_l := bC.lt
                go_upto_region 16 with fail
                clear bF_0 bF_1 bF_2 bF_3 bF_l
                clear bC_0 bC_1 bC_2 bC_3 bC_4 bC_5 bC_6 bC_7 bC_8 bC_9 bC_10 bC_f0 bC_f1 bC_f2 bC_f3 bC_f4 bC_f5 bC_f6 bC_f7 bC_f8 bC_f9 bC_f10 bC_l
                generalize hX : World.setCell _ _ _ = W10
                have hb : Below w.heap.size w W10 := by rw [← hX]; exact ((((HB.out.setCell (p := ⟨gC, 0, none⟩) leCw _).setCell (p := ⟨gC, 1, none⟩) leCw _).setCell (p := ⟨gC, 2, none⟩) leCw _).setCell (p := ⟨gC, 3, none⟩) leCw _)
                replace bX : Bk W10 (w.heap.size) #[.slice a zs.length ca, .slice b ys.length cb] 26 := by rw [← hX]; exact (Bk.other (Bk.other (Bk.other (Bk.other bX neXC 0 _) neXC 1 _) neXC 2 _) neXC 3 _)
                replace bD : Bk W10 (w.heap.size + 1) #[.int .i64 c, .int .i64 s, .int .i64 h] 28 := by rw [← hX]; exact (Bk.other (Bk.other (Bk.other (Bk.other bD neDC 0 _) neDC 1 _) neDC 2 _) neDC 3 _)
                replace bE : Bk W10 (w.heap.size + 1 + 1) #[.int .i64 x, .int .i64 y, .int .i64 z] 28 := by rw [← hX]; exact (Bk.other (Bk.other (Bk.other (Bk.other bE neEC 0 _) neEC 1 _) neEC 2 _) neEC 3 _)
                replace bR : Bk W10 (w.heap.size + 1 + 1 + 1) #[.int .i64 0, .bool false, .int .i64 0, .int .i64 0, .int .i64 0, .bool false, .int .i64 0, .int .i64 0, .bool false, .int .i64 0, .int .i64 0] 66 := by rw [← hX]; exact (Bk.other (Bk.other (Bk.other (Bk.other bR neRC 0 _) neRC 1 _) neRC 2 _) neRC 3 _)
                replace bF : Bk W10 (gF) #[.int .i64 K1, .bool D1, .int .i64 L1, .int .i64 M1] 38 := by rw [← hX]; exact (Bk.other (Bk.other (Bk.other (Bk.other bF neFC 0 _) neFC 1 _) neFC 2 _) neFC 3 _)
                replace bG : Bk W10 (gG) #[.int .i64 K2, .bool D2, .int .i64 L2, .int .i64 M2] 38 := by rw [← hX]; exact (Bk.other (Bk.other (Bk.other (Bk.other bG neGC 0 _) neGC 1 _) neGC 2 _) neGC 3 _)
                replace bI : Bk W10 (gI) #[.int .i64 (A + U), .int .i64 (E + O)] 34 := by rw [← hX]; exact (Bk.other (Bk.other (Bk.other (Bk.other bI neIC 0 _) neIC 1 _) neIC 2 _) neIC 3 _)
                replace bC : Bk W10 gC #[.int .i64 K1, .bool D1, .int .i64 L1, .int .i64 M1, .int .i64 (k2 : Int), .bool d2, .int .i64 l2, .int .i64 h2, .bool ev, .int .i64 A, .int .i64 E] 66 := by rw [← hX]; exact (Bk.set (Bk.set (Bk.set (Bk.set bC 0 _ rfl) 1 _ rfl) 2 _ rfl) 3 _ rfl)
                replace HB := Lib.hid hb
                clear hX hb
                have bG_0 := bG.cell 0 rfl
                have bG_1 := bG.cell 1 rfl
                have bG_2 := bG.cell 2 rfl
                have bG_3 := bG.cell 3 rfl
                have bG_l := bG.lt
                have bC_0 := bC.cell 0 rfl
                have bC_1 := bC.cell 1 rfl
                have bC_2 := bC.cell 2 rfl
                have bC_3 := bC.cell 3 rfl
                have bC_4 := bC.cell 4 rfl
                have bC_5 := bC.cell 5 rfl
                have bC_6 := bC.cell 6 rfl
                have bC_7 := bC.cell 7 rfl
                have bC_8 := bC.cell 8 rfl
                have bC_9 := bC.cell 9 rfl
                have bC_10 := bC.cell 10 rfl
                have bC_f0 := bC.frozen 0
                have bC_f1 := bC.frozen 1
                have bC_f2 := bC.frozen 2
                have bC_f3 := bC.frozen 3
                have bC_f4 := bC.frozen 4
                have bC_f5 := bC.frozen 5
                have bC_f6 := bC.frozen 6
                have bC_f7 := bC.frozen 7
                have bC_f8 := bC.frozen 8
                have bC_f9 := bC.frozen 9
                have bC_f10 := bC.frozen 10
                have bC_l := bC.lt
                go_upto_region 17 with fail
                clear bG_0 bG_1 bG_2 bG_3 bG_l
                clear bC_0 bC_1 bC_2 bC_3 bC_4 bC_5 bC_6 bC_7 bC_8 bC_9 bC_10 bC_f0 bC_f1 bC_f2 bC_f3 bC_f4 bC_f5 bC_f6 bC_f7 bC_f8 bC_f9 bC_f10 bC_l
                generalize hX : World.setCell _ _ _ = W11
                have hb : Below w.heap.size w W11 := by rw [← hX]; exact ((((HB.out.setCell (p := ⟨gC, 4, none⟩) leCw _).setCell (p := ⟨gC, 5, none⟩) leCw _).setCell (p := ⟨gC, 6, none⟩) leCw _).setCell (p := ⟨gC, 7, none⟩) leCw _)
                replace bX : Bk W11 (w.heap.size) #[.slice a zs.length ca, .slice b ys.length cb] 26 := by rw [← hX]; exact (Bk.other (Bk.other (Bk.other (Bk.other bX neXC 4 _) neXC 5 _) neXC 6 _) neXC 7 _)
                replace bD : Bk W11 (w.heap.size + 1) #[.int .i64 c, .int .i64 s, .int .i64 h] 28 := by rw [← hX]; exact (Bk.other (Bk.other (Bk.other (Bk.other bD neDC 4 _) neDC 5 _) neDC 6 _) neDC 7 _)
                replace bE : Bk W11 (w.heap.size + 1 + 1) #[.int .i64 x, .int .i64 y, .int .i64 z] 28 := by rw [← hX]; exact (Bk.other (Bk.other (Bk.other (Bk.other bE neEC 4 _) neEC 5 _) neEC 6 _) neEC 7 _)
                replace bR : Bk W11 (w.heap.size + 1 + 1 + 1) #[.int .i64 0, .bool false, .int .i64 0, .int .i64 0, .int .i64 0, .bool false, .int .i64 0, .int .i64 0, .bool false, .int .i64 0, .int .i64 0] 66 := by rw [← hX]; exact (Bk.other (Bk.other (Bk.other (Bk.other bR neRC 4 _) neRC 5 _) neRC 6 _) neRC 7 _)
                replace bF : Bk W11 (gF) #[.int .i64 K1, .bool D1, .int .i64 L1, .int .i64 M1] 38 := by rw [← hX]; exact (Bk.other (Bk.other (Bk.other (Bk.other bF neFC 4 _) neFC 5 _) neFC 6 _) neFC 7 _)
                replace bG : Bk W11 (gG) #[.int .i64 K2, .bool D2, .int .i64 L2, .int .i64 M2] 38 := by rw [← hX]; exact (Bk.other (Bk.other (Bk.other (Bk.other bG neGC 4 _) neGC 5 _) neGC 6 _) neGC 7 _)
                replace bI : Bk W11 (gI) #[.int .i64 (A + U), .int .i64 (E + O)] 34 := by rw [← hX]; exact (Bk.other (Bk.other (Bk.other (Bk.other bI neIC 4 _) neIC 5 _) neIC 6 _) neIC 7 _)
                replace bC : Bk W11 gC #[.int .i64 K1, .bool D1, .int .i64 L1, .int .i64 M1, .int .i64 K2, .bool D2, .int .i64 L2, .int .i64 M2, .bool ev, .int .i64 A, .int .i64 E] 66 := by rw [← hX]; exact (Bk.set (Bk.set (Bk.set (Bk.set bC 4 _ rfl) 5 _ rfl) 6 _ rfl) 7 _ rfl)
                replace HB := Lib.hid hb
                clear hX hb
                have bI_0 := bI.cell 0 rfl
                have bI_1 := bI.cell 1 rfl
                have bI_l := bI.lt
                have bC_0 := bC.cell 0 rfl
                have bC_1 := bC.cell 1 rfl
                have bC_2 := bC.cell 2 rfl
                have bC_3 := bC.cell 3 rfl
                have bC_4 := bC.cell 4 rfl
                have bC_5 := bC.cell 5 rfl
                have bC_6 := bC.cell 6 rfl
                have bC_7 := bC.cell 7 rfl
                have bC_8 := bC.cell 8 rfl
                have bC_9 := bC.cell 9 rfl
                have bC_10 := bC.cell 10 rfl
                have bC_f0 := bC.frozen 0
                have bC_f1 := bC.frozen 1
                have bC_f2 := bC.frozen 2
                have bC_f3 := bC.frozen 3
                have bC_f4 := bC.frozen 4
                have bC_f5 := bC.frozen 5
                have bC_f6 := bC.frozen 6
                have bC_f7 := bC.frozen 7
                have bC_f8 := bC.frozen 8
                have bC_f9 := bC.frozen 9
                have bC_f10 := bC.frozen 10
                have bC_l := bC.lt
                go_upto_region 4 with fail
                clear bI_0 bI_1 bI_l
                clear bC_0 bC_1 bC_2 bC_3 bC_4 bC_5 bC_6 bC_7 bC_8 bC_9 bC_10 bC_f0 bC_f1 bC_f2 bC_f3 bC_f4 bC_f5 bC_f6 bC_f7 bC_f8 bC_f9 bC_f10 bC_l
                generalize hX : World.setCell _ _ _ = W12
                have hb : Below w.heap.size w W12 := by rw [← hX]; exact ((HB.out.setCell (p := ⟨gC, 9, none⟩) leCw _).setCell (p := ⟨gC, 10, none⟩) leCw _)
                replace bX : Bk W12 (w.heap.size) #[.slice a zs.length ca, .slice b ys.length cb] 26 := by rw [← hX]; exact (Bk.other (Bk.other bX neXC 9 _) neXC 10 _)
                replace bD : Bk W12 (w.heap.size + 1) #[.int .i64 c, .int .i64 s, .int .i64 h] 28 := by rw [← hX]; exact (Bk.other (Bk.other bD neDC 9 _) neDC 10 _)
                replace bE : Bk W12 (w.heap.size + 1 + 1) #[.int .i64 x, .int .i64 y, .int .i64 z] 28 := by rw [← hX]; exact (Bk.other (Bk.other bE neEC 9 _) neEC 10 _)
                replace bR : Bk W12 (w.heap.size + 1 + 1 + 1) #[.int .i64 0, .bool false, .int .i64 0, .int .i64 0, .int .i64 0, .bool false, .int .i64 0, .int .i64 0, .bool false, .int .i64 0, .int .i64 0] 66 := by rw [← hX]; exact (Bk.other (Bk.other bR neRC 9 _) neRC 10 _)
                replace bF : Bk W12 (gF) #[.int .i64 K1, .bool D1, .int .i64 L1, .int .i64 M1] 38 := by rw [← hX]; exact (Bk.other (Bk.other bF neFC 9 _) neFC 10 _)
                replace bG : Bk W12 (gG) #[.int .i64 K2, .bool D2, .int .i64 L2, .int .i64 M2] 38 := by rw [← hX]; exact (Bk.other (Bk.other bG neGC 9 _) neGC 10 _)
                replace bI : Bk W12 (gI) #[.int .i64 (A + U), .int .i64 (E + O)] 34 := by rw [← hX]; exact (Bk.other (Bk.other bI neIC 9 _) neIC 10 _)
                replace bC : Bk W12 gC #[.int .i64 K1, .bool D1, .int .i64 L1, .int .i64 M1, .int .i64 K2, .bool D2, .int .i64 L2, .int .i64 M2, .bool ev, .int .i64 (A + U), .int .i64 (E + O)] 66 := by rw [← hX]; exact (Bk.set (Bk.set bC 9 _ rfl) 10 _ rfl)
                replace HB := Lib.hid hb
                clear hX hb
                have GH2 := GH.out
                simp only [Bool.true_and, Bool.false_and] at GH2
                have HGH := Lib.hid GH2
                clear GH2
                go_wp2
                go_roundw
                (case rel => exact ⟨k + 1, by go_num, by omega, GT2.out, HB.out, bX, bD, bE, bR, by rw [GS2.out, HGH.out, ← HX.out.1.1, ← HX.out.1.2.1, ← HX.out.1.2.2.1, ← HX.out.1.2.2.2, ← HX.out.2.1, ← HX.out.2.2.1, ← HX.out.2.2.2.1, ← HX.out.2.2.2.2]; exact bC⟩)
                (case measure => simp [intOf]; omega)
end Go.Proofs.YtgecbfbmmbfnmaaGreat
