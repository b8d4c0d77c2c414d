/- Contracts of costs and gates of a motion and a contact, and of two motions, on both sides. -/
import Derived.Test.YtlahgdhofakinaaGtA
import Derived.Deep.RegionHeld3
import Derived.Deep.DeepCutAuto
import Derived.Deep.DrawnRows
import Derived.Deep.RegionWith
namespace Go.Proofs.Ytlahgdhofakinaa
open Go.ChangeShapes Go.WideShapes Go.ChangeAt Go.RowKit Go.Shelf Num
set_option linter.unusedVariables false
set_option linter.unusedSimpArgs false

def XP1 (wx : World) (s : Value) (a b : Int) : Prop := ∃ g : Nat, s = .pointer (some ⟨g, 0, none⟩) ∧ Bk wx g #[.int .i64 a, .int .i64 b] 76
theorem ret_bi {a a' : Bool} {b b' : Int} (h : a' = a) (g : b' = b) : Ending.returned (.tuple #[.bool a, .int .i64 b]) = .returned (.tuple #[.bool a', .int .i64 b']) := by rw [h, g]
theorem ret_ii {a b a' b' : Int} (h : a' = a) (g : b' = b) : Ending.returned (.tuple #[.int .i64 a, .int .i64 b]) = .returned (.tuple #[.int .i64 a', .int .i64 b']) := by rw [h, g]

set_option maxRecDepth 100000 in
set_option maxHeartbeats 4000000 in
theorem lco_any (w : World) (x y u v s p q : Int) (h1 : ctB x y = true) (h2 : ctB p q = true) :
    Calls Try.prog 70 #[.agg #[.int .i64 x, .int .i64 y, .int .i64 u, .int .i64 v, .int .i64 s], .agg #[.int .i64 p, .int .i64 q]] w fun e w' => e = .returned (.int .i64 (gc x y p q)) ∧ Below w.heap.size w w' := by
  obtain ⟨⟨a1, a2⟩, ⟨a3, a4⟩, ⟨a5, a6⟩, a7, a8⟩ := gc_ok h1 h2
  have e1 : IntKind.wrap .i64 (x - p) = x - p := IntWalk.i64_in _ (by omega)
  have e2 : IntKind.wrap .i64 (y - q) = y - q := IntWalk.i64_in _ (by omega)
  have e3 : IntKind.wrap .i64 ((x - p) * (x - p)) = (x - p) * (x - p) := IntWalk.i64_in _ (by omega)
  have e4 : IntKind.wrap .i64 ((y - q) * (y - q)) = (y - q) * (y - q) := IntWalk.i64_in _ (by omega)
  have e5 : IntKind.wrap .i64 ((x - p) * (x - p) + (y - q) * (y - q)) = (x - p) * (x - p) + (y - q) * (y - q) := IntWalk.i64_in _ (by omega)
  clear a1 a2 a3 a4 a5 a6 a7 a8 h1 h2
  go_enter Try.func70, Try.ntmps70
  go_wp2
  go_ret
  exact ⟨rfl, (by repeat (first | exact Below.refl _ _ | (refine Below.alloc ?_ (by simp <;> omega) _) | (refine Below.setCell ?_ (by simp <;> omega) _) | (refine Below.drew ?_) | (refine bel_drewN ?_ _)))⟩

set_option maxRecDepth 100000 in
set_option maxHeartbeats 4000000 in
theorem isq_any (w : World) (x y u v s p q : Int) (h1 : ctB x y = true) (h2 : ctB p q = true) :
    Calls Try.prog 68 #[.agg #[.int .i64 x, .int .i64 y, .int .i64 u, .int .i64 v, .int .i64 s], .agg #[.int .i64 p, .int .i64 q]] w fun e w' => e = .returned (.int .i64 (gc x y p q)) ∧ Below w.heap.size w w' := by
  have ok := gc_ok h1 h2
  obtain ⟨x0, x1, y0, y1⟩ := ctB_t h1
  obtain ⟨p0, p1, q0, q1⟩ := ctB_t h2
  have K1 : Hid (∀ W : World, Calls Try.prog 69 #[.agg #[.int .i64 x, .int .i64 y, .int .i64 u, .int .i64 v, .int .i64 s]] W fun e w' => e = .returned (.agg #[.int .i64 x, .int .i64 y]) ∧ Below W.heap.size W w') := Lib.hid (fun W => ipo14_any W x y u v s)
  have K2 : Hid (∀ W : World, Calls Try.prog 109 #[.agg #[.int .i64 p, .int .i64 q], .agg #[.int .i64 x, .int .i64 y]] W fun e w' => e = .returned (.agg #[.int .i64 (p - x), .int .i64 (q - y)]) ∧ Below W.heap.size W w') := Lib.hid (fun W => imn_any W p q x y (by omega) (by omega) (by omega) (by omega) (by omega) (by omega) (by omega) (by omega))
  obtain ⟨a1, a2, a5, a7⟩ := ok
  have e5 : (p - x) * (p - x) = (x - p) * (x - p) := by rw [show p - x = -(x - p) by omega, Int.neg_mul_neg]
  have e6 : (q - y) * (q - y) = (y - q) * (y - q) := by rw [show q - y = -(y - q) by omega, Int.neg_mul_neg]
  rw [← e5] at a5
  rw [← e6] at a7
  have K3 : Hid (∀ W : World, Calls Try.prog 110 #[.agg #[.int .i64 (p - x), .int .i64 (q - y)], .agg #[.int .i64 (p - x), .int .i64 (q - y)]] W fun e w' => e = .returned (.int .i64 (gc x y p q)) ∧ Below W.heap.size W w') := Lib.hid (fun W => by have := isc2_any W (p - x) (q - y) (p - x) (q - y) (by omega) (by omega) (by omega) (by omega); rwa [gc_swap] at this)
  obtain ⟨D, hD⟩ : ∃ qq, p - x = qq := ⟨_, rfl⟩
  obtain ⟨E, hE⟩ : ∃ qq, q - y = qq := ⟨_, rfl⟩
  obtain ⟨Z, hZ⟩ : ∃ qq, gc x y p q = qq := ⟨_, rfl⟩
  rw [hD, hE] at K2 K3
  rw [hZ] at K3 ⊢
  clear hD hE hZ e5 e6 a1 a2 a5 a7 h1 h2 x0 x1 y0 y1 p0 p1 q0 q1
  go_enter Try.func68, Try.ntmps68
  go_wp2_with fail
  generalize hW : World.alloc _ _ = W
  have bM : Bk W (w.heap.size) #[.int .i64 x, .int .i64 y, .int .i64 u, .int .i64 v, .int .i64 s] 32 := by rw [← hW]; repeat (first | (refine Bk.new' ?_; (simp; done)) | refine Bk.alloc ?_ _)
  have bC : Bk W (w.heap.size + 1) #[.int .i64 p, .int .i64 q] 76 := by rw [← hW]; repeat (first | (refine Bk.new' ?_; (simp; done)) | refine Bk.alloc ?_ _)
  have HB : Hid (Below w.heap.size w W) := Lib.hid (by rw [← hW]; exact (by repeat (first | exact Below.refl _ _ | (refine Below.alloc ?_ (by simp <;> omega) _) | (refine Below.setCell ?_ (by simp <;> omega) _) | (refine Below.drew ?_) | (refine bel_drewN ?_ _))))
  clear hW
  have bM_0 := bM.cell 0 rfl
  have bM_1 := bM.cell 1 rfl
  have bM_2 := bM.cell 2 rfl
  have bM_3 := bM.cell 3 rfl
  have bM_4 := bM.cell 4 rfl
  have bM_l := bM.lt
  have bC_0 := bC.cell 0 rfl
  have bC_1 := bC.cell 1 rfl
  have bC_l := bC.lt
  go_upto_region 1 with fail
  clear bM_0 bM_1 bM_2 bM_3 bM_4 bM_l bC_0 bC_1 bC_l
  go_cut [5] (fun s5 wx => XP1 wx s5 D E ∧ Below W.heap.size W wx)
  case first =>
    have HW : Hid (Below W.heap.size W W) := Lib.hid (Below.refl _ _)
    obtain ⟨S, hSd⟩ : ∃ S : World → Prop, ∀ w', S w' ↔ (w'.cell? ⟨w.heap.size, 0, none⟩ = some (.int .i64 x) ∧ w'.cell? ⟨w.heap.size, 1, none⟩ = some (.int .i64 y) ∧ w'.cell? ⟨w.heap.size, 2, none⟩ = some (.int .i64 u) ∧ w'.cell? ⟨w.heap.size, 3, none⟩ = some (.int .i64 v) ∧ w'.cell? ⟨w.heap.size, 4, none⟩ = some (.int .i64 s) ∧ w'.cell? ⟨w.heap.size + 1, 0, none⟩ = some (.int .i64 p) ∧ w'.cell? ⟨w.heap.size + 1, 1, none⟩ = some (.int .i64 q)) := ⟨_, fun _ => Iff.rfl⟩
    have HSp : Hid (∀ w' : World, Bk w' (w.heap.size) #[.int .i64 x, .int .i64 y, .int .i64 u, .int .i64 v, .int .i64 s] 32 → Bk w' (w.heap.size + 1) #[.int .i64 p, .int .i64 q] 76 → S w') := Lib.hid (fun w' bM bC => (hSd w').2 ⟨bM.cell 0 rfl, bM.cell 1 rfl, bM.cell 2 rfl, bM.cell 3 rfl, bM.cell 4 rfl, bC.cell 0 rfl, bC.cell 1 rfl⟩)
    have HSd := Lib.hid hSd
    clear hSd
    refine wp_region_held_drew (S := S) (by kernel_rfl) ?_ (fun hH => ?_)
    · exact (HSp.out _ bM bC : S (World.drew W))
    clear hH
    generalize hX : World.drew W = V0
    replace bM : Bk V0 (w.heap.size) #[.int .i64 x, .int .i64 y, .int .i64 u, .int .i64 v, .int .i64 s] 32 := by rw [← hX]; exact bM
    replace bC : Bk V0 (w.heap.size + 1) #[.int .i64 p, .int .i64 q] 76 := by rw [← hX]; exact bC
    have hb : Below W.heap.size W V0 := by rw [← hX]; exact (Below.refl _ _).drew
    clear hX
    replace HW := Lib.hid (bel_end HW.out hb)
    clear hb
    have hS := HSp.out _ bM bC
    refine wpAnyH_take (i := 0) (oi := { dst := some 6, op := Go.Op.load 76 (Go.Operand.tmp 3), type := 76, pos := "l14_gating.go:153", after := #[], guard := none }) (v := ?_) rfl (by kernel_rfl) (by kernel_rfl) (by kernel_rfl) (fun _ _ _ h => h) (Or.inl ⟨by rfl, ?_⟩) hS ?_
    rotate_left
    · (intro w hSw; have hSw := (HSd.out w).1 hSw; go_split_ands; go_simp) <;> with_reducible rfl
    clear hS
    try simp only [Act.put, List.setIfInBounds_toArray, List.set_cons_zero, List.set_cons_succ]
    have hS := HSp.out _ bM bC
    refine wpAnyH_take (i := 1) (oi := { dst := some 7, op := Go.Op.load 32 (Go.Operand.tmp 2), type := 32, pos := "l14_gating.go:153", after := #[], guard := none }) (v := ?_) rfl (by kernel_rfl) (by kernel_rfl) (by kernel_rfl) (fun _ _ _ h => h) (Or.inl ⟨by rfl, ?_⟩) hS ?_
    rotate_left
    · (intro w hSw; have hSw := (HSd.out w).1 hSw; go_split_ands; go_simp) <;> with_reducible rfl
    clear hS
    try simp only [Act.put, List.setIfInBounds_toArray, List.set_cons_zero, List.set_cons_succ]
    refine wpAnyH_ready (rs := [2, 4]) (by kernel_rfl) (by simp) ?_
    refine AllReadyH.cons (o := { dst := some 8, op := Go.Op.call { callee := Go.Callee.value (Go.Operand.func 69), args := #[Go.Operand.tmp 7], argTypes := #[32] }, type := 76, pos := "l14_gating.go:153", after := #[{ on := 1, ground := Go.Ground.data }], guard := none }) rfl (fun Kn hK => ?_) ?_
    · first | go_at_call 69 | (go_simp; go_at_call 69)
      (with_reducible refine Calls.mono (K1.out  _) ?_)
      rintro e V1 ⟨rfl, hb⟩
      try dsimp only
      try simp only [Act.put, List.setIfInBounds_toArray, List.set_cons_zero, List.set_cons_succ]
      replace bM := bM.on hb
      replace bC := bC.on hb
      replace HW := Lib.hid (bel_end HW.out hb)
      clear hb
      refine hK.out _ _ (HSp.out _ bM bC) (fun _ => ?_)
      clear hK Kn
      refine wpAnyH_ready (rs := [3, 4]) (by kernel_rfl) (by simp) ?_
      refine AllReadyH.cons (o := { dst := some 9, op := Go.Op.call { callee := Go.Callee.value (Go.Operand.func 109), args := #[Go.Operand.tmp 6, Go.Operand.tmp 8], argTypes := #[76, 76] }, type := 76, pos := "l14_gating.go:153", after := #[{ on := 0, ground := Go.Ground.data }, { on := 2, ground := Go.Ground.data }, { on := 2, ground := Go.Ground.chain }], guard := none }) rfl (fun Kn hK => ?_) ?_
      · first | go_at_call 109 | (go_simp; go_at_call 109)
        (with_reducible refine Calls.mono (K2.out  _) ?_)
        rintro e V2 ⟨rfl, hb⟩
        try dsimp only
        try simp only [Act.put, List.setIfInBounds_toArray, List.set_cons_zero, List.set_cons_succ]
        replace bM := bM.on hb
        replace bC := bC.on hb
        replace HW := Lib.hid (bel_end HW.out hb)
        clear hb
        refine hK.out _ _ (HSp.out _ bM bC) (fun _ => ?_)
        clear hK Kn
        refine wpAnyH_ready (rs := [4]) (by kernel_rfl) (by simp) ?_
        refine AllReadyH.cons (o := { dst := some 5, op := Go.Op.alloc 76, type := 0, pos := "l14_gating.go:153", after := #[], guard := none }) rfl (fun Kn hK => ?_) AllReadyH.nil
        go_simp
        generalize hX : World.alloc V2 _ = V3
        obtain ⟨g4, hg⟩ : ∃ g, g = V2.heap.size := ⟨_, rfl⟩
        have bn4 : Bk V3 g4 #[.int .i64 0, .int .i64 0] 76 := by rw [← hX]; exact Bk.new' hg
        have le4 : W.heap.size ≤ g4 := by rw [hg]; exact HW.out.size
        have nebM_4 : w.heap.size ≠ g4 := by have := bM.lt; omega
        replace bM : Bk V3 (w.heap.size) #[.int .i64 x, .int .i64 y, .int .i64 u, .int .i64 v, .int .i64 s] 32 := by rw [← hX]; exact bM.alloc _
        have nebC_4 : w.heap.size + 1 ≠ g4 := by have := bC.lt; omega
        replace bC : Bk V3 (w.heap.size + 1) #[.int .i64 p, .int .i64 q] 76 := by rw [← hX]; exact bC.alloc _
        try rw [← hg]
        have hb : Below V2.heap.size V2 V3 := by rw [← hX]; exact (Below.refl _ _).alloc (Nat.le_refl _) _
        clear hX hg
        replace HW := Lib.hid (bel_end HW.out hb)
        clear hb
        refine hK.out _ _ (HSp.out _ bM bC) (fun _ => ?_)
        clear hK Kn
        refine wpAnyH_ready (rs := [5]) (by kernel_rfl) (by simp) ?_
        refine AllReadyH.cons (o := { dst := none, op := Go.Op.store 76 (Go.Operand.tmp 5) (Go.Operand.tmp 9), type := 0, pos := "l14_gating.go:153", after := #[{ on := 4, ground := Go.Ground.data }, { on := 3, ground := Go.Ground.data }, { on := 3, ground := Go.Ground.chain }, { on := 0, ground := Go.Ground.phase }, { on := 1, ground := Go.Ground.phase }, { on := 2, ground := Go.Ground.phase }, { on := 3, ground := Go.Ground.phase }, { on := 4, ground := Go.Ground.phase }], guard := none }) rfl (fun Kn hK => ?_) AllReadyH.nil
        have bn4_0 := bn4.cell 0 rfl
        have bn4_1 := bn4.cell 1 rfl
        have bn4_f0 := bn4.frozen 0
        have bn4_f1 := bn4.frozen 1
        have bn4_l := bn4.lt
        go_simp
        clear bn4_0 bn4_f0 bn4_1 bn4_f1 bn4_l
        generalize hX : World.setCell _ _ _ = V4
        have hb : Below W.heap.size W V4 := by rw [← hX]; exact ((HW.out.setCell (p := ⟨g4, 0, none⟩) le4 _).setCell (p := ⟨g4, 1, none⟩) le4 _)
        replace bM : Bk V4 (w.heap.size) #[.int .i64 x, .int .i64 y, .int .i64 u, .int .i64 v, .int .i64 s] 32 := by rw [← hX]; exact (Bk.other (Bk.other bM nebM_4 0 _) nebM_4 1 _)
        replace bC : Bk V4 (w.heap.size + 1) #[.int .i64 p, .int .i64 q] 76 := by rw [← hX]; exact (Bk.other (Bk.other bC nebC_4 0 _) nebC_4 1 _)
        replace bn4 : Bk V4 (g4) #[.int .i64 D, .int .i64 E] 76 := by rw [← hX]; exact (Bk.set (Bk.set bn4 0 _ rfl) 1 _ rfl)
        clear hX
        replace HW := Lib.hid hb
        clear hb
        refine hK.out _ _ (HSp.out _ bM bC) (fun _ => ?_)
        clear hK Kn
        refine wpAnyH_done (by kernel_rfl) ?_ _
        go_wp2_with fail
        go_meet
        exact ⟨⟨_, rfl, bn4⟩, HW.out⟩
      refine AllReadyH.cons (o := { dst := some 5, op := Go.Op.alloc 76, type := 0, pos := "l14_gating.go:153", after := #[], guard := none }) rfl (fun Kn hK => ?_) AllReadyH.nil
      go_simp
      generalize hX : World.alloc V1 _ = V5
      obtain ⟨g4, hg⟩ : ∃ g, g = V1.heap.size := ⟨_, rfl⟩
      have bn4 : Bk V5 g4 #[.int .i64 0, .int .i64 0] 76 := by rw [← hX]; exact Bk.new' hg
      have le4 : W.heap.size ≤ g4 := by rw [hg]; exact HW.out.size
      have nebM_4 : w.heap.size ≠ g4 := by have := bM.lt; omega
      replace bM : Bk V5 (w.heap.size) #[.int .i64 x, .int .i64 y, .int .i64 u, .int .i64 v, .int .i64 s] 32 := by rw [← hX]; exact bM.alloc _
      have nebC_4 : w.heap.size + 1 ≠ g4 := by have := bC.lt; omega
      replace bC : Bk V5 (w.heap.size + 1) #[.int .i64 p, .int .i64 q] 76 := by rw [← hX]; exact bC.alloc _
      try rw [← hg]
      have hb : Below V1.heap.size V1 V5 := by rw [← hX]; exact (Below.refl _ _).alloc (Nat.le_refl _) _
      clear hX hg
      replace HW := Lib.hid (bel_end HW.out hb)
      clear hb
      refine hK.out _ _ (HSp.out _ bM bC) (fun _ => ?_)
      clear hK Kn
      refine wpAnyH_ready (rs := [3]) (by kernel_rfl) (by simp) ?_
      refine AllReadyH.cons (o := { dst := some 9, op := Go.Op.call { callee := Go.Callee.value (Go.Operand.func 109), args := #[Go.Operand.tmp 6, Go.Operand.tmp 8], argTypes := #[76, 76] }, type := 76, pos := "l14_gating.go:153", after := #[{ on := 0, ground := Go.Ground.data }, { on := 2, ground := Go.Ground.data }, { on := 2, ground := Go.Ground.chain }], guard := none }) rfl (fun Kn hK => ?_) AllReadyH.nil
      first | go_at_call 109 | (go_simp; go_at_call 109)
      (with_reducible refine Calls.mono (K2.out  _) ?_)
      rintro e V6 ⟨rfl, hb⟩
      try dsimp only
      try simp only [Act.put, List.setIfInBounds_toArray, List.set_cons_zero, List.set_cons_succ]
      replace bM := bM.on hb
      replace bC := bC.on hb
      replace bn4 := bn4.on hb
      replace HW := Lib.hid (bel_end HW.out hb)
      clear hb
      refine hK.out _ _ (HSp.out _ bM bC) (fun _ => ?_)
      clear hK Kn
      refine wpAnyH_ready (rs := [5]) (by kernel_rfl) (by simp) ?_
      refine AllReadyH.cons (o := { dst := none, op := Go.Op.store 76 (Go.Operand.tmp 5) (Go.Operand.tmp 9), type := 0, pos := "l14_gating.go:153", after := #[{ on := 4, ground := Go.Ground.data }, { on := 3, ground := Go.Ground.data }, { on := 3, ground := Go.Ground.chain }, { on := 0, ground := Go.Ground.phase }, { on := 1, ground := Go.Ground.phase }, { on := 2, ground := Go.Ground.phase }, { on := 3, ground := Go.Ground.phase }, { on := 4, ground := Go.Ground.phase }], guard := none }) rfl (fun Kn hK => ?_) AllReadyH.nil
      have bn4_0 := bn4.cell 0 rfl
      have bn4_1 := bn4.cell 1 rfl
      have bn4_f0 := bn4.frozen 0
      have bn4_f1 := bn4.frozen 1
      have bn4_l := bn4.lt
      go_simp
      clear bn4_0 bn4_f0 bn4_1 bn4_f1 bn4_l
      generalize hX : World.setCell _ _ _ = V7
      have hb : Below W.heap.size W V7 := by rw [← hX]; exact ((HW.out.setCell (p := ⟨g4, 0, none⟩) le4 _).setCell (p := ⟨g4, 1, none⟩) le4 _)
      replace bM : Bk V7 (w.heap.size) #[.int .i64 x, .int .i64 y, .int .i64 u, .int .i64 v, .int .i64 s] 32 := by rw [← hX]; exact (Bk.other (Bk.other bM nebM_4 0 _) nebM_4 1 _)
      replace bC : Bk V7 (w.heap.size + 1) #[.int .i64 p, .int .i64 q] 76 := by rw [← hX]; exact (Bk.other (Bk.other bC nebC_4 0 _) nebC_4 1 _)
      replace bn4 : Bk V7 (g4) #[.int .i64 D, .int .i64 E] 76 := by rw [← hX]; exact (Bk.set (Bk.set bn4 0 _ rfl) 1 _ rfl)
      clear hX
      replace HW := Lib.hid hb
      clear hb
      refine hK.out _ _ (HSp.out _ bM bC) (fun _ => ?_)
      clear hK Kn
      refine wpAnyH_done (by kernel_rfl) ?_ _
      go_wp2_with fail
      go_meet
      exact ⟨⟨_, rfl, bn4⟩, HW.out⟩
    refine AllReadyH.cons (o := { dst := some 5, op := Go.Op.alloc 76, type := 0, pos := "l14_gating.go:153", after := #[], guard := none }) rfl (fun Kn hK => ?_) AllReadyH.nil
    go_simp
    generalize hX : World.alloc V0 _ = V8
    obtain ⟨g4, hg⟩ : ∃ g, g = V0.heap.size := ⟨_, rfl⟩
    have bn4 : Bk V8 g4 #[.int .i64 0, .int .i64 0] 76 := by rw [← hX]; exact Bk.new' hg
    have le4 : W.heap.size ≤ g4 := by rw [hg]; exact HW.out.size
    have nebM_4 : w.heap.size ≠ g4 := by have := bM.lt; omega
    replace bM : Bk V8 (w.heap.size) #[.int .i64 x, .int .i64 y, .int .i64 u, .int .i64 v, .int .i64 s] 32 := by rw [← hX]; exact bM.alloc _
    have nebC_4 : w.heap.size + 1 ≠ g4 := by have := bC.lt; omega
    replace bC : Bk V8 (w.heap.size + 1) #[.int .i64 p, .int .i64 q] 76 := by rw [← hX]; exact bC.alloc _
    try rw [← hg]
    have hb : Below V0.heap.size V0 V8 := by rw [← hX]; exact (Below.refl _ _).alloc (Nat.le_refl _) _
    clear hX hg
    replace HW := Lib.hid (bel_end HW.out hb)
    clear hb
    refine hK.out _ _ (HSp.out _ bM bC) (fun _ => ?_)
    clear hK Kn
    refine wpAnyH_ready (rs := [2]) (by kernel_rfl) (by simp) ?_
    refine AllReadyH.cons (o := { dst := some 8, op := Go.Op.call { callee := Go.Callee.value (Go.Operand.func 69), args := #[Go.Operand.tmp 7], argTypes := #[32] }, type := 76, pos := "l14_gating.go:153", after := #[{ on := 1, ground := Go.Ground.data }], guard := none }) rfl (fun Kn hK => ?_) AllReadyH.nil
    first | go_at_call 69 | (go_simp; go_at_call 69)
    (with_reducible refine Calls.mono (K1.out  _) ?_)
    rintro e V9 ⟨rfl, hb⟩
    try dsimp only
    try simp only [Act.put, List.setIfInBounds_toArray, List.set_cons_zero, List.set_cons_succ]
    replace bM := bM.on hb
    replace bC := bC.on hb
    replace bn4 := bn4.on hb
    replace HW := Lib.hid (bel_end HW.out hb)
    clear hb
    refine hK.out _ _ (HSp.out _ bM bC) (fun _ => ?_)
    clear hK Kn
    refine wpAnyH_ready (rs := [3]) (by kernel_rfl) (by simp) ?_
    refine AllReadyH.cons (o := { dst := some 9, op := Go.Op.call { callee := Go.Callee.value (Go.Operand.func 109), args := #[Go.Operand.tmp 6, Go.Operand.tmp 8], argTypes := #[76, 76] }, type := 76, pos := "l14_gating.go:153", after := #[{ on := 0, ground := Go.Ground.data }, { on := 2, ground := Go.Ground.data }, { on := 2, ground := Go.Ground.chain }], guard := none }) rfl (fun Kn hK => ?_) AllReadyH.nil
    first | go_at_call 109 | (go_simp; go_at_call 109)
    (with_reducible refine Calls.mono (K2.out  _) ?_)
    rintro e V10 ⟨rfl, hb⟩
    try dsimp only
    try simp only [Act.put, List.setIfInBounds_toArray, List.set_cons_zero, List.set_cons_succ]
    replace bM := bM.on hb
    replace bC := bC.on hb
    replace bn4 := bn4.on hb
    replace HW := Lib.hid (bel_end HW.out hb)
    clear hb
    refine hK.out _ _ (HSp.out _ bM bC) (fun _ => ?_)
    clear hK Kn
    refine wpAnyH_ready (rs := [5]) (by kernel_rfl) (by simp) ?_
    refine AllReadyH.cons (o := { dst := none, op := Go.Op.store 76 (Go.Operand.tmp 5) (Go.Operand.tmp 9), type := 0, pos := "l14_gating.go:153", after := #[{ on := 4, ground := Go.Ground.data }, { on := 3, ground := Go.Ground.data }, { on := 3, ground := Go.Ground.chain }, { on := 0, ground := Go.Ground.phase }, { on := 1, ground := Go.Ground.phase }, { on := 2, ground := Go.Ground.phase }, { on := 3, ground := Go.Ground.phase }, { on := 4, ground := Go.Ground.phase }], guard := none }) rfl (fun Kn hK => ?_) AllReadyH.nil
    have bn4_0 := bn4.cell 0 rfl
    have bn4_1 := bn4.cell 1 rfl
    have bn4_f0 := bn4.frozen 0
    have bn4_f1 := bn4.frozen 1
    have bn4_l := bn4.lt
    go_simp
    clear bn4_0 bn4_f0 bn4_1 bn4_f1 bn4_l
    generalize hX : World.setCell _ _ _ = V11
    have hb : Below W.heap.size W V11 := by rw [← hX]; exact ((HW.out.setCell (p := ⟨g4, 0, none⟩) le4 _).setCell (p := ⟨g4, 1, none⟩) le4 _)
    replace bM : Bk V11 (w.heap.size) #[.int .i64 x, .int .i64 y, .int .i64 u, .int .i64 v, .int .i64 s] 32 := by rw [← hX]; exact (Bk.other (Bk.other bM nebM_4 0 _) nebM_4 1 _)
    replace bC : Bk V11 (w.heap.size + 1) #[.int .i64 p, .int .i64 q] 76 := by rw [← hX]; exact (Bk.other (Bk.other bC nebC_4 0 _) nebC_4 1 _)
    replace bn4 : Bk V11 (g4) #[.int .i64 D, .int .i64 E] 76 := by rw [← hX]; exact (Bk.set (Bk.set bn4 0 _ rfl) 1 _ rfl)
    clear hX
    replace HW := Lib.hid hb
    clear hb
    refine hK.out _ _ (HSp.out _ bM bC) (fun _ => ?_)
    clear hK Kn
    refine wpAnyH_done (by kernel_rfl) ?_ _
    go_wp2_with fail
    go_meet
    exact ⟨⟨_, rfl, bn4⟩, HW.out⟩
  case rest =>
    obtain ⟨hx, hb⟩ := hcut
    replace bM := bM.on hb
    replace bC := bC.on hb
    replace HB := Lib.hid (bel_end HB.out hb)
    clear hb
    obtain ⟨gN, rfl, bN⟩ := hx
    have bN_0 := bN.cell 0 rfl
    have bN_1 := bN.cell 1 rfl
    have bN_l := bN.lt
    go_wp2_with fail
    refine (K3.out _).mono ?_
    rintro e w1 ⟨rfl, hb⟩
    replace bN := bN.on hb
    replace HB := Lib.hid (bel_end HB.out hb)
    clear hb
    clear bN_0 bN_1 bN_l
    have bN_0 := bN.cell 0 rfl
    have bN_1 := bN.cell 1 rfl
    have bN_l := bN.lt
    go_wp2
    go_ret
    exact ⟨rfl, HB.out⟩

set_option maxRecDepth 100000 in
set_option maxHeartbeats 2000000 in
theorem ico14_any (w : World) (x y u v s p q : Int) (h1 : ctB x y = true) (h2 : ctB p q = true) :
    Calls Try.prog 104 #[.agg #[.int .i64 x, .int .i64 y, .int .i64 u, .int .i64 v, .int .i64 s], .agg #[.int .i64 p, .int .i64 q]] w fun e w' => e = .returned (.int .i64 (gc x y p q)) ∧ Below w.heap.size w w' := by
  have K1 : Hid (∀ W : World, Calls Try.prog 68 #[.agg #[.int .i64 x, .int .i64 y, .int .i64 u, .int .i64 v, .int .i64 s], .agg #[.int .i64 p, .int .i64 q]] W fun e w' => e = .returned (.int .i64 (gc x y p q)) ∧ Below W.heap.size W w') := Lib.hid (fun W => isq_any W x y u v s p q h1 h2)
  obtain ⟨Z, hZ⟩ : ∃ qq, gc x y p q = qq := ⟨_, rfl⟩
  rw [hZ] at K1 ⊢
  clear hZ h1 h2
  go_enter Try.func104, Try.ntmps104
  go_wp2_with fail
  generalize hW : World.alloc _ _ = W
  have bM : Bk W (w.heap.size) #[.int .i64 x, .int .i64 y, .int .i64 u, .int .i64 v, .int .i64 s] 32 := by rw [← hW]; repeat (first | (refine Bk.new' ?_; (simp; done)) | refine Bk.alloc ?_ _)
  have bC : Bk W (w.heap.size + 1) #[.int .i64 p, .int .i64 q] 79 := by rw [← hW]; repeat (first | (refine Bk.new' ?_; (simp; done)) | refine Bk.alloc ?_ _)
  have HB : Hid (Below w.heap.size w W) := Lib.hid (by rw [← hW]; exact (by repeat (first | exact Below.refl _ _ | (refine Below.alloc ?_ (by simp <;> omega) _) | (refine Below.setCell ?_ (by simp <;> omega) _) | (refine Below.drew ?_) | (refine bel_drewN ?_ _))))
  clear hW
  refine (K1.out _).mono ?_
  rintro e w1 ⟨rfl, hb⟩
  replace bM := bM.on hb
  replace bC := bC.on hb
  replace HB := Lib.hid (bel_end HB.out hb)
  clear hb
  have bM_0 := bM.cell 0 rfl
  have bM_1 := bM.cell 1 rfl
  have bM_2 := bM.cell 2 rfl
  have bM_3 := bM.cell 3 rfl
  have bM_4 := bM.cell 4 rfl
  have bM_l := bM.lt
  have bC_0 := bC.cell 0 rfl
  have bC_1 := bC.cell 1 rfl
  have bC_l := bC.lt
  go_wp2
  go_ret
  exact ⟨rfl, HB.out⟩

set_option maxRecDepth 100000 in
set_option maxHeartbeats 4000000 in
theorem iho_any (w : World) (x y u v s p q : Int) (h1 : ctB x y = true) (h2 : ctB p q = true) (s0 : 0 ≤ s) (s1 : s ≤ 10000) :
    Calls Try.prog 103 #[.agg #[.int .i64 x, .int .i64 y, .int .i64 u, .int .i64 v, .int .i64 s], .agg #[.int .i64 p, .int .i64 q]] w fun e w' => e = .returned (.bool (gin x y s p q)) ∧ Below w.heap.size w w' := by
  have K1 : Hid (∀ W : World, Calls Try.prog 104 #[.agg #[.int .i64 x, .int .i64 y, .int .i64 u, .int .i64 v, .int .i64 s], .agg #[.int .i64 p, .int .i64 q]] W fun e w' => e = .returned (.int .i64 (gc x y p q)) ∧ Below W.heap.size W w') := Lib.hid (fun W => ico14_any W x y u v s p q h1 h2)
  have HE : Hid (gin x y s p q = decide (gc x y p q ≤ s * s)) := Lib.hid rfl
  have sq := sq_bd (a := s) (A := 10000) (by omega)
  have e1 : IntKind.wrap .i64 (s * s) = s * s := IntWalk.i64_in _ (by omega)
  obtain ⟨Z, hZ⟩ : ∃ qq, gc x y p q = qq := ⟨_, rfl⟩
  obtain ⟨V, hV⟩ : ∃ qq, gin x y s p q = qq := ⟨_, rfl⟩
  rw [hZ, hV] at HE
  rw [hZ] at K1
  rw [hV]
  clear hZ hV sq h1 h2 s0 s1
  go_enter Try.func103, Try.ntmps103
  go_wp2_with fail
  generalize hW : World.alloc _ _ = W
  have bM : Bk W (w.heap.size) #[.int .i64 x, .int .i64 y, .int .i64 u, .int .i64 v, .int .i64 s] 32 := by rw [← hW]; repeat (first | (refine Bk.new' ?_; (simp; done)) | refine Bk.alloc ?_ _)
  have bC : Bk W (w.heap.size + 1) #[.int .i64 p, .int .i64 q] 79 := by rw [← hW]; repeat (first | (refine Bk.new' ?_; (simp; done)) | refine Bk.alloc ?_ _)
  have HB : Hid (Below w.heap.size w W) := Lib.hid (by rw [← hW]; exact (by repeat (first | exact Below.refl _ _ | (refine Below.alloc ?_ (by simp <;> omega) _) | (refine Below.setCell ?_ (by simp <;> omega) _) | (refine Below.drew ?_) | (refine bel_drewN ?_ _))))
  clear hW
  have bM_0 := bM.cell 0 rfl
  have bM_1 := bM.cell 1 rfl
  have bM_2 := bM.cell 2 rfl
  have bM_3 := bM.cell 3 rfl
  have bM_4 := bM.cell 4 rfl
  have bM_l := bM.lt
  have bC_0 := bC.cell 0 rfl
  have bC_1 := bC.cell 1 rfl
  have bC_l := bC.lt
  go_upto_region 1 with fail
  clear bM_0 bM_1 bM_2 bM_3 bM_4 bM_l bC_0 bC_1 bC_l
  obtain ⟨S, hSd⟩ : ∃ S : World → Prop, ∀ w', S w' ↔ (w'.cell? ⟨w.heap.size, 0, none⟩ = some (.int .i64 x) ∧ w'.cell? ⟨w.heap.size, 1, none⟩ = some (.int .i64 y) ∧ w'.cell? ⟨w.heap.size, 2, none⟩ = some (.int .i64 u) ∧ w'.cell? ⟨w.heap.size, 3, none⟩ = some (.int .i64 v) ∧ w'.cell? ⟨w.heap.size, 4, none⟩ = some (.int .i64 s) ∧ w'.cell? ⟨w.heap.size + 1, 0, none⟩ = some (.int .i64 p) ∧ w'.cell? ⟨w.heap.size + 1, 1, none⟩ = some (.int .i64 q)) := ⟨_, fun _ => Iff.rfl⟩
  have HSp : Hid (∀ w' : World, Bk w' (w.heap.size) #[.int .i64 x, .int .i64 y, .int .i64 u, .int .i64 v, .int .i64 s] 32 → Bk w' (w.heap.size + 1) #[.int .i64 p, .int .i64 q] 79 → S w') := Lib.hid (fun w' bM bC => (hSd w').2 ⟨bM.cell 0 rfl, bM.cell 1 rfl, bM.cell 2 rfl, bM.cell 3 rfl, bM.cell 4 rfl, bC.cell 0 rfl, bC.cell 1 rfl⟩)
  have HSd := Lib.hid hSd
  clear hSd
  refine wp_region_held_drew (S := S) (by kernel_rfl) ?_ (fun hH => ?_)
  · exact (HSp.out _ bM bC : S (World.drew W))
  clear hH
  generalize hX : World.drew W = V0
  replace bM : Bk V0 (w.heap.size) #[.int .i64 x, .int .i64 y, .int .i64 u, .int .i64 v, .int .i64 s] 32 := by rw [← hX]; exact bM
  replace bC : Bk V0 (w.heap.size + 1) #[.int .i64 p, .int .i64 q] 79 := by rw [← hX]; exact bC
  have hb : Below W.heap.size W V0 := by rw [← hX]; exact (Below.refl _ _).drew
  clear hX
  replace HB := Lib.hid (bel_end HB.out hb)
  clear hb
  have hS := HSp.out _ bM bC
  refine wpAnyH_take (i := 0) (oi := { dst := some 5, op := Go.Op.load 32 (Go.Operand.tmp 2), type := 32, pos := "l14_gating.go:163", after := #[], guard := none }) (v := ?_) rfl (by kernel_rfl) (by kernel_rfl) (by kernel_rfl) (fun _ _ _ h => h) (Or.inl ⟨by rfl, ?_⟩) hS ?_
  rotate_left
  · (intro w hSw; have hSw := (HSd.out w).1 hSw; go_split_ands; go_simp) <;> with_reducible rfl
  clear hS
  try simp only [Act.put, List.setIfInBounds_toArray, List.set_cons_zero, List.set_cons_succ]
  have hS := HSp.out _ bM bC
  refine wpAnyH_take (i := 1) (oi := { dst := some 6, op := Go.Op.load 79 (Go.Operand.tmp 3), type := 79, pos := "l14_gating.go:163", after := #[], guard := none }) (v := ?_) rfl (by kernel_rfl) (by kernel_rfl) (by kernel_rfl) (fun _ _ _ h => h) (Or.inl ⟨by rfl, ?_⟩) hS ?_
  rotate_left
  · (intro w hSw; have hSw := (HSd.out w).1 hSw; go_split_ands; go_simp) <;> with_reducible rfl
  clear hS
  try simp only [Act.put, List.setIfInBounds_toArray, List.set_cons_zero, List.set_cons_succ]
  have hS := HSp.out _ bM bC
  refine wpAnyH_take (i := 3) (oi := { dst := some 8, op := Go.Op.fieldAddr 32 (Go.Operand.tmp 2) 4, type := 0, pos := "l14_gating.go:163", after := #[], guard := none }) (v := ?_) rfl (by kernel_rfl) (by kernel_rfl) (by kernel_rfl) (fun _ _ _ h => h) (Or.inl ⟨by rfl, ?_⟩) hS ?_
  rotate_left
  · (intro w hSw; have hSw := (HSd.out w).1 hSw; go_split_ands; go_simp) <;> with_reducible rfl
  clear hS
  try simp only [Act.put, List.setIfInBounds_toArray, List.set_cons_zero, List.set_cons_succ]
  have hS := HSp.out _ bM bC
  refine wpAnyH_take (i := 4) (oi := { dst := some 9, op := Go.Op.load 2 (Go.Operand.tmp 8), type := 2, pos := "l14_gating.go:163", after := #[{ on := 3, ground := Go.Ground.data }], guard := none }) (v := ?_) rfl (by kernel_rfl) (by kernel_rfl) (by kernel_rfl) (fun _ _ _ h => h) (Or.inl ⟨by rfl, ?_⟩) hS ?_
  rotate_left
  · (intro w hSw; have hSw := (HSd.out w).1 hSw; go_split_ands; go_simp) <;> with_reducible rfl
  clear hS
  try simp only [Act.put, List.setIfInBounds_toArray, List.set_cons_zero, List.set_cons_succ]
  have hS := HSp.out _ bM bC
  refine wpAnyH_take (i := 5) (oi := { dst := some 10, op := Go.Op.fieldAddr 32 (Go.Operand.tmp 2) 4, type := 0, pos := "l14_gating.go:163", after := #[], guard := none }) (v := ?_) rfl (by kernel_rfl) (by kernel_rfl) (by kernel_rfl) (fun _ _ _ h => h) (Or.inl ⟨by rfl, ?_⟩) hS ?_
  rotate_left
  · (intro w hSw; have hSw := (HSd.out w).1 hSw; go_split_ands; go_simp) <;> with_reducible rfl
  clear hS
  try simp only [Act.put, List.setIfInBounds_toArray, List.set_cons_zero, List.set_cons_succ]
  have hS := HSp.out _ bM bC
  refine wpAnyH_take (i := 6) (oi := { dst := some 11, op := Go.Op.load 2 (Go.Operand.tmp 10), type := 2, pos := "l14_gating.go:163", after := #[{ on := 5, ground := Go.Ground.data }], guard := none }) (v := ?_) rfl (by kernel_rfl) (by kernel_rfl) (by kernel_rfl) (fun _ _ _ h => h) (Or.inl ⟨by rfl, ?_⟩) hS ?_
  rotate_left
  · (intro w hSw; have hSw := (HSd.out w).1 hSw; go_split_ands; go_simp) <;> with_reducible rfl
  clear hS
  try simp only [Act.put, List.setIfInBounds_toArray, List.set_cons_zero, List.set_cons_succ]
  have hS := HSp.out _ bM bC
  refine wpAnyH_take (i := 7) (oi := { dst := some 12, op := Go.Op.binOp Go.BinOp.mul 2 (Go.Operand.tmp 9) (Go.Operand.tmp 11) 2, type := 2, pos := "l14_gating.go:163", after := #[{ on := 4, ground := Go.Ground.data }, { on := 6, ground := Go.Ground.data }], guard := none }) (v := ?_) rfl (by kernel_rfl) (by kernel_rfl) (by kernel_rfl) (fun _ _ _ h => h) (Or.inl ⟨by rfl, ?_⟩) hS ?_
  rotate_left
  · (intro w hSw; have hSw := (HSd.out w).1 hSw; go_split_ands; go_simp) <;> with_reducible rfl
  clear hS
  try simp only [Act.put, List.setIfInBounds_toArray, List.set_cons_zero, List.set_cons_succ]
  refine wpAnyH_ready (rs := [2]) (by kernel_rfl) (by simp) ?_
  refine AllReadyH.cons (o := { dst := some 7, op := Go.Op.call { callee := Go.Callee.value (Go.Operand.func 104), args := #[Go.Operand.tmp 5, Go.Operand.tmp 6], argTypes := #[32, 79] }, type := 2, pos := "l14_gating.go:163", after := #[{ on := 0, ground := Go.Ground.data }, { on := 1, ground := Go.Ground.data }], guard := none }) rfl (fun Kn hK => ?_) AllReadyH.nil
  first | go_at_call 104 | (go_simp; go_at_call 104)
  (with_reducible refine Calls.mono (K1.out  _) ?_)
  rintro e V1 ⟨rfl, hb⟩
  try dsimp only
  try simp only [Act.put, List.setIfInBounds_toArray, List.set_cons_zero, List.set_cons_succ]
  replace bM := bM.on hb
  replace bC := bC.on hb
  replace HB := Lib.hid (bel_end HB.out hb)
  clear hb
  refine hK.out _ _ (HSp.out _ bM bC) (fun _ => ?_)
  clear hK Kn
  have hS := HSp.out _ bM bC
  refine wpAnyH_take (i := 8) (oi := { dst := some 13, op := Go.Op.binOp Go.BinOp.leq 2 (Go.Operand.tmp 7) (Go.Operand.tmp 12) 2, type := 4, pos := "l14_gating.go:163", after := #[{ on := 2, ground := Go.Ground.data }, { on := 7, ground := Go.Ground.data }], guard := none }) (v := ?_) rfl (by kernel_rfl) (by kernel_rfl) (by kernel_rfl) (fun _ _ _ h => h) (Or.inl ⟨by rfl, ?_⟩) hS ?_
  rotate_left
  · (intro w hSw; have hSw := (HSd.out w).1 hSw; go_split_ands; go_simp) <;> with_reducible rfl
  clear hS
  try simp only [Act.put, List.setIfInBounds_toArray, List.set_cons_zero, List.set_cons_succ]
  have hS := HSp.out _ bM bC
  refine wpAnyH_take (i := 9) (oi := { dst := some 4, op := Go.Op.assign (Go.Operand.tmp 13), type := 4, pos := "l14_gating.go:163", after := #[{ on := 8, ground := Go.Ground.data }, { on := 2, ground := Go.Ground.chain }, { on := 0, ground := Go.Ground.phase }, { on := 1, ground := Go.Ground.phase }, { on := 2, ground := Go.Ground.phase }, { on := 3, ground := Go.Ground.phase }, { on := 4, ground := Go.Ground.phase }, { on := 5, ground := Go.Ground.phase }, { on := 6, ground := Go.Ground.phase }, { on := 7, ground := Go.Ground.phase }, { on := 8, ground := Go.Ground.phase }], guard := none }) (v := ?_) rfl (by kernel_rfl) (by kernel_rfl) (by kernel_rfl) (fun _ _ _ h => h) (Or.inl ⟨by rfl, ?_⟩) hS ?_
  rotate_left
  · (intro w hSw; have hSw := (HSd.out w).1 hSw; go_split_ands; go_simp) <;> with_reducible rfl
  clear hS
  try simp only [Act.put, List.setIfInBounds_toArray, List.set_cons_zero, List.set_cons_succ]
  refine wpAnyH_done (by kernel_rfl) ?_ _
  go_wp2
  go_ret
  exact ⟨ret_bool HE.out.symm, HB.out⟩

set_option maxRecDepth 100000 in
set_option maxHeartbeats 4000000 in
theorem lgi_any (w : World) (x y u v s p q : Int) (h1 : ctB x y = true) (h2 : ctB p q = true) (s0 : 0 ≤ s) (s1 : s ≤ 10000) :
    Calls Try.prog 107 #[.agg #[.int .i64 x, .int .i64 y, .int .i64 u, .int .i64 v, .int .i64 s], .agg #[.int .i64 p, .int .i64 q]] w fun e w' => e = .returned (.bool (gin x y s p q)) ∧ Below w.heap.size w w' := by
  have K1 : Hid (∀ W : World, Calls Try.prog 70 #[.agg #[.int .i64 x, .int .i64 y, .int .i64 u, .int .i64 v, .int .i64 s], .agg #[.int .i64 p, .int .i64 q]] W fun e w' => e = .returned (.int .i64 (gc x y p q)) ∧ Below W.heap.size W w') := Lib.hid (fun W => lco_any W x y u v s p q h1 h2)
  have HE : Hid (gin x y s p q = decide (gc x y p q ≤ s * s)) := Lib.hid rfl
  have sq := sq_bd (a := s) (A := 10000) (by omega)
  have e1 : IntKind.wrap .i64 (s * s) = s * s := IntWalk.i64_in _ (by omega)
  obtain ⟨Z, hZ⟩ : ∃ qq, gc x y p q = qq := ⟨_, rfl⟩
  obtain ⟨V, hV⟩ : ∃ qq, gin x y s p q = qq := ⟨_, rfl⟩
  rw [hZ, hV] at HE
  rw [hZ] at K1
  rw [hV]
  clear hZ hV sq h1 h2 s0 s1
  go_enter Try.func107, Try.ntmps107
  go_wp2_with fail
  generalize hW : World.alloc _ _ = W
  have bM : Bk W (w.heap.size) #[.int .i64 x, .int .i64 y, .int .i64 u, .int .i64 v, .int .i64 s] 32 := by rw [← hW]; repeat (first | (refine Bk.new' ?_; (simp; done)) | refine Bk.alloc ?_ _)
  have bC : Bk W (w.heap.size + 1) #[.int .i64 p, .int .i64 q] 79 := by rw [← hW]; repeat (first | (refine Bk.new' ?_; (simp; done)) | refine Bk.alloc ?_ _)
  have HB : Hid (Below w.heap.size w W) := Lib.hid (by rw [← hW]; exact (by repeat (first | exact Below.refl _ _ | (refine Below.alloc ?_ (by simp <;> omega) _) | (refine Below.setCell ?_ (by simp <;> omega) _) | (refine Below.drew ?_) | (refine bel_drewN ?_ _))))
  clear hW
  have bM_0 := bM.cell 0 rfl
  have bM_1 := bM.cell 1 rfl
  have bM_2 := bM.cell 2 rfl
  have bM_3 := bM.cell 3 rfl
  have bM_4 := bM.cell 4 rfl
  have bM_l := bM.lt
  have bC_0 := bC.cell 0 rfl
  have bC_1 := bC.cell 1 rfl
  have bC_l := bC.lt
  go_upto_region 1 with fail
  clear bM_0 bM_1 bM_2 bM_3 bM_4 bM_l bC_0 bC_1 bC_l
  obtain ⟨S, hSd⟩ : ∃ S : World → Prop, ∀ w', S w' ↔ (w'.cell? ⟨w.heap.size, 0, none⟩ = some (.int .i64 x) ∧ w'.cell? ⟨w.heap.size, 1, none⟩ = some (.int .i64 y) ∧ w'.cell? ⟨w.heap.size, 2, none⟩ = some (.int .i64 u) ∧ w'.cell? ⟨w.heap.size, 3, none⟩ = some (.int .i64 v) ∧ w'.cell? ⟨w.heap.size, 4, none⟩ = some (.int .i64 s) ∧ w'.cell? ⟨w.heap.size + 1, 0, none⟩ = some (.int .i64 p) ∧ w'.cell? ⟨w.heap.size + 1, 1, none⟩ = some (.int .i64 q)) := ⟨_, fun _ => Iff.rfl⟩
  have HSp : Hid (∀ w' : World, Bk w' (w.heap.size) #[.int .i64 x, .int .i64 y, .int .i64 u, .int .i64 v, .int .i64 s] 32 → Bk w' (w.heap.size + 1) #[.int .i64 p, .int .i64 q] 79 → S w') := Lib.hid (fun w' bM bC => (hSd w').2 ⟨bM.cell 0 rfl, bM.cell 1 rfl, bM.cell 2 rfl, bM.cell 3 rfl, bM.cell 4 rfl, bC.cell 0 rfl, bC.cell 1 rfl⟩)
  have HSd := Lib.hid hSd
  clear hSd
  refine wp_region_held_drew (S := S) (by kernel_rfl) ?_ (fun hH => ?_)
  · exact (HSp.out _ bM bC : S (World.drew W))
  clear hH
  generalize hX : World.drew W = V0
  replace bM : Bk V0 (w.heap.size) #[.int .i64 x, .int .i64 y, .int .i64 u, .int .i64 v, .int .i64 s] 32 := by rw [← hX]; exact bM
  replace bC : Bk V0 (w.heap.size + 1) #[.int .i64 p, .int .i64 q] 79 := by rw [← hX]; exact bC
  have hb : Below W.heap.size W V0 := by rw [← hX]; exact (Below.refl _ _).drew
  clear hX
  replace HB := Lib.hid (bel_end HB.out hb)
  clear hb
  have hS := HSp.out _ bM bC
  refine wpAnyH_take (i := 0) (oi := { dst := some 5, op := Go.Op.load 32 (Go.Operand.tmp 2), type := 32, pos := "l14_gating.go:54", after := #[], guard := none }) (v := ?_) rfl (by kernel_rfl) (by kernel_rfl) (by kernel_rfl) (fun _ _ _ h => h) (Or.inl ⟨by rfl, ?_⟩) hS ?_
  rotate_left
  · (intro w hSw; have hSw := (HSd.out w).1 hSw; go_split_ands; go_simp) <;> with_reducible rfl
  clear hS
  try simp only [Act.put, List.setIfInBounds_toArray, List.set_cons_zero, List.set_cons_succ]
  have hS := HSp.out _ bM bC
  refine wpAnyH_take (i := 1) (oi := { dst := some 6, op := Go.Op.load 79 (Go.Operand.tmp 3), type := 79, pos := "l14_gating.go:54", after := #[], guard := none }) (v := ?_) rfl (by kernel_rfl) (by kernel_rfl) (by kernel_rfl) (fun _ _ _ h => h) (Or.inl ⟨by rfl, ?_⟩) hS ?_
  rotate_left
  · (intro w hSw; have hSw := (HSd.out w).1 hSw; go_split_ands; go_simp) <;> with_reducible rfl
  clear hS
  try simp only [Act.put, List.setIfInBounds_toArray, List.set_cons_zero, List.set_cons_succ]
  have hS := HSp.out _ bM bC
  refine wpAnyH_take (i := 3) (oi := { dst := some 8, op := Go.Op.fieldAddr 32 (Go.Operand.tmp 2) 4, type := 0, pos := "l14_gating.go:54", after := #[], guard := none }) (v := ?_) rfl (by kernel_rfl) (by kernel_rfl) (by kernel_rfl) (fun _ _ _ h => h) (Or.inl ⟨by rfl, ?_⟩) hS ?_
  rotate_left
  · (intro w hSw; have hSw := (HSd.out w).1 hSw; go_split_ands; go_simp) <;> with_reducible rfl
  clear hS
  try simp only [Act.put, List.setIfInBounds_toArray, List.set_cons_zero, List.set_cons_succ]
  have hS := HSp.out _ bM bC
  refine wpAnyH_take (i := 4) (oi := { dst := some 9, op := Go.Op.load 2 (Go.Operand.tmp 8), type := 2, pos := "l14_gating.go:54", after := #[{ on := 3, ground := Go.Ground.data }], guard := none }) (v := ?_) rfl (by kernel_rfl) (by kernel_rfl) (by kernel_rfl) (fun _ _ _ h => h) (Or.inl ⟨by rfl, ?_⟩) hS ?_
  rotate_left
  · (intro w hSw; have hSw := (HSd.out w).1 hSw; go_split_ands; go_simp) <;> with_reducible rfl
  clear hS
  try simp only [Act.put, List.setIfInBounds_toArray, List.set_cons_zero, List.set_cons_succ]
  have hS := HSp.out _ bM bC
  refine wpAnyH_take (i := 5) (oi := { dst := some 10, op := Go.Op.fieldAddr 32 (Go.Operand.tmp 2) 4, type := 0, pos := "l14_gating.go:54", after := #[], guard := none }) (v := ?_) rfl (by kernel_rfl) (by kernel_rfl) (by kernel_rfl) (fun _ _ _ h => h) (Or.inl ⟨by rfl, ?_⟩) hS ?_
  rotate_left
  · (intro w hSw; have hSw := (HSd.out w).1 hSw; go_split_ands; go_simp) <;> with_reducible rfl
  clear hS
  try simp only [Act.put, List.setIfInBounds_toArray, List.set_cons_zero, List.set_cons_succ]
  have hS := HSp.out _ bM bC
  refine wpAnyH_take (i := 6) (oi := { dst := some 11, op := Go.Op.load 2 (Go.Operand.tmp 10), type := 2, pos := "l14_gating.go:54", after := #[{ on := 5, ground := Go.Ground.data }], guard := none }) (v := ?_) rfl (by kernel_rfl) (by kernel_rfl) (by kernel_rfl) (fun _ _ _ h => h) (Or.inl ⟨by rfl, ?_⟩) hS ?_
  rotate_left
  · (intro w hSw; have hSw := (HSd.out w).1 hSw; go_split_ands; go_simp) <;> with_reducible rfl
  clear hS
  try simp only [Act.put, List.setIfInBounds_toArray, List.set_cons_zero, List.set_cons_succ]
  have hS := HSp.out _ bM bC
  refine wpAnyH_take (i := 7) (oi := { dst := some 12, op := Go.Op.binOp Go.BinOp.mul 2 (Go.Operand.tmp 9) (Go.Operand.tmp 11) 2, type := 2, pos := "l14_gating.go:54", after := #[{ on := 4, ground := Go.Ground.data }, { on := 6, ground := Go.Ground.data }], guard := none }) (v := ?_) rfl (by kernel_rfl) (by kernel_rfl) (by kernel_rfl) (fun _ _ _ h => h) (Or.inl ⟨by rfl, ?_⟩) hS ?_
  rotate_left
  · (intro w hSw; have hSw := (HSd.out w).1 hSw; go_split_ands; go_simp) <;> with_reducible rfl
  clear hS
  try simp only [Act.put, List.setIfInBounds_toArray, List.set_cons_zero, List.set_cons_succ]
  refine wpAnyH_ready (rs := [2]) (by kernel_rfl) (by simp) ?_
  refine AllReadyH.cons (o := { dst := some 7, op := Go.Op.call { callee := Go.Callee.value (Go.Operand.func 70), args := #[Go.Operand.tmp 5, Go.Operand.tmp 6], argTypes := #[32, 79] }, type := 2, pos := "l14_gating.go:54", after := #[{ on := 0, ground := Go.Ground.data }, { on := 1, ground := Go.Ground.data }], guard := none }) rfl (fun Kn hK => ?_) AllReadyH.nil
  first | go_at_call 70 | (go_simp; go_at_call 70)
  (with_reducible refine Calls.mono (K1.out  _) ?_)
  rintro e V1 ⟨rfl, hb⟩
  try dsimp only
  try simp only [Act.put, List.setIfInBounds_toArray, List.set_cons_zero, List.set_cons_succ]
  replace bM := bM.on hb
  replace bC := bC.on hb
  replace HB := Lib.hid (bel_end HB.out hb)
  clear hb
  refine hK.out _ _ (HSp.out _ bM bC) (fun _ => ?_)
  clear hK Kn
  have hS := HSp.out _ bM bC
  refine wpAnyH_take (i := 8) (oi := { dst := some 13, op := Go.Op.binOp Go.BinOp.leq 2 (Go.Operand.tmp 7) (Go.Operand.tmp 12) 2, type := 4, pos := "l14_gating.go:54", after := #[{ on := 2, ground := Go.Ground.data }, { on := 7, ground := Go.Ground.data }], guard := none }) (v := ?_) rfl (by kernel_rfl) (by kernel_rfl) (by kernel_rfl) (fun _ _ _ h => h) (Or.inl ⟨by rfl, ?_⟩) hS ?_
  rotate_left
  · (intro w hSw; have hSw := (HSd.out w).1 hSw; go_split_ands; go_simp) <;> with_reducible rfl
  clear hS
  try simp only [Act.put, List.setIfInBounds_toArray, List.set_cons_zero, List.set_cons_succ]
  have hS := HSp.out _ bM bC
  refine wpAnyH_take (i := 9) (oi := { dst := some 4, op := Go.Op.assign (Go.Operand.tmp 13), type := 4, pos := "l14_gating.go:54", after := #[{ on := 8, ground := Go.Ground.data }, { on := 2, ground := Go.Ground.chain }, { on := 0, ground := Go.Ground.phase }, { on := 1, ground := Go.Ground.phase }, { on := 2, ground := Go.Ground.phase }, { on := 3, ground := Go.Ground.phase }, { on := 4, ground := Go.Ground.phase }, { on := 5, ground := Go.Ground.phase }, { on := 6, ground := Go.Ground.phase }, { on := 7, ground := Go.Ground.phase }, { on := 8, ground := Go.Ground.phase }], guard := none }) (v := ?_) rfl (by kernel_rfl) (by kernel_rfl) (by kernel_rfl) (fun _ _ _ h => h) (Or.inl ⟨by rfl, ?_⟩) hS ?_
  rotate_left
  · (intro w hSw; have hSw := (HSd.out w).1 hSw; go_split_ands; go_simp) <;> with_reducible rfl
  clear hS
  try simp only [Act.put, List.setIfInBounds_toArray, List.set_cons_zero, List.set_cons_succ]
  refine wpAnyH_done (by kernel_rfl) ?_ _
  go_wp2
  go_ret
  exact ⟨ret_bool HE.out.symm, HB.out⟩

set_option maxRecDepth 100000 in
set_option maxHeartbeats 8000000 in
theorem sgm_any (w : World) (x y u v s p q a b t : Int) :
    Calls Try.prog 22 #[.agg #[.int .i64 x, .int .i64 y, .int .i64 u, .int .i64 v, .int .i64 s], .agg #[.int .i64 p, .int .i64 q, .int .i64 a, .int .i64 b, .int .i64 t]] w fun e w' => e = .returned (.tuple #[.bool (gmB x y u v s p q a b t), .int .i64 (gmC x y u v s p q a b t)]) ∧ Below w.heap.size w w' := by
  cases hm : mtB x y u v s
  case false =>
    have KM : Hid (∀ W : World, Calls Try.prog 64 #[.agg #[.int .i64 x, .int .i64 y, .int .i64 u, .int .i64 v, .int .i64 s]] W fun e w' => e = .returned (.bool false) ∧ Below W.heap.size W w') := Lib.hid (fun W => by have := smo_any W x y u v s; rwa [hm] at this)
    have HT : Hid (gmB x y u v s p q a b t = false ∧ gmC x y u v s p q a b t = 1) := Lib.hid (by unfold gmB gmC; rw [hm]; exact ⟨rfl, rfl⟩)
    clear hm
    go_enter Try.func22, Try.ntmps22
    go_wp2_with fail
    generalize hW : World.alloc _ _ = W
    have bM : Bk W (w.heap.size) #[.int .i64 x, .int .i64 y, .int .i64 u, .int .i64 v, .int .i64 s] 32 := by rw [← hW]; repeat (first | (refine Bk.new' ?_; (simp; done)) | refine Bk.alloc ?_ _)
    have bN : Bk W (w.heap.size + 1) #[.int .i64 p, .int .i64 q, .int .i64 a, .int .i64 b, .int .i64 t] 32 := by rw [← hW]; repeat (first | (refine Bk.new' ?_; (simp; done)) | refine Bk.alloc ?_ _)
    have HB : Hid (Below w.heap.size w W) := Lib.hid (by rw [← hW]; exact (by repeat (first | exact Below.refl _ _ | (refine Below.alloc ?_ (by simp <;> omega) _) | (refine Below.setCell ?_ (by simp <;> omega) _) | (refine Below.drew ?_) | (refine bel_drewN ?_ _))))
    clear hW
    refine (KM.out _).mono ?_
    rintro e w1 ⟨rfl, hb⟩
    replace bM := bM.on hb
    replace bN := bN.on hb
    replace HB := Lib.hid (bel_end HB.out hb)
    clear hb
    have bM_0 := bM.cell 0 rfl
    have bM_1 := bM.cell 1 rfl
    have bM_2 := bM.cell 2 rfl
    have bM_3 := bM.cell 3 rfl
    have bM_4 := bM.cell 4 rfl
    have bM_l := bM.lt
    have bN_0 := bN.cell 0 rfl
    have bN_1 := bN.cell 1 rfl
    have bN_2 := bN.cell 2 rfl
    have bN_3 := bN.cell 3 rfl
    have bN_4 := bN.cell 4 rfl
    have bN_l := bN.lt
    go_wp2
    go_ret2
    exact ⟨ret_bi HT.out.1 HT.out.2, HB.out⟩
  case true =>
    have KM : Hid (∀ W : World, Calls Try.prog 64 #[.agg #[.int .i64 x, .int .i64 y, .int .i64 u, .int .i64 v, .int .i64 s]] W fun e w' => e = .returned (.bool true) ∧ Below W.heap.size W w') := Lib.hid (fun W => by have := smo_any W x y u v s; rwa [hm] at this)
    cases hn : mtB p q a b t
    case false =>
      have KN : Hid (∀ W : World, Calls Try.prog 64 #[.agg #[.int .i64 p, .int .i64 q, .int .i64 a, .int .i64 b, .int .i64 t]] W fun e w' => e = .returned (.bool false) ∧ Below W.heap.size W w') := Lib.hid (fun W => by have := smo_any W p q a b t; rwa [hn] at this)
      have HT : Hid (gmB x y u v s p q a b t = false ∧ gmC x y u v s p q a b t = 1) := Lib.hid (by unfold gmB gmC; rw [hm, hn]; exact ⟨rfl, rfl⟩)
      clear hm hn
      go_enter Try.func22, Try.ntmps22
      go_wp2_with fail
      generalize hW : World.alloc _ _ = W
      have bM : Bk W (w.heap.size) #[.int .i64 x, .int .i64 y, .int .i64 u, .int .i64 v, .int .i64 s] 32 := by rw [← hW]; repeat (first | (refine Bk.new' ?_; (simp; done)) | refine Bk.alloc ?_ _)
      have bN : Bk W (w.heap.size + 1) #[.int .i64 p, .int .i64 q, .int .i64 a, .int .i64 b, .int .i64 t] 32 := by rw [← hW]; repeat (first | (refine Bk.new' ?_; (simp; done)) | refine Bk.alloc ?_ _)
      have HB : Hid (Below w.heap.size w W) := Lib.hid (by rw [← hW]; exact (by repeat (first | exact Below.refl _ _ | (refine Below.alloc ?_ (by simp <;> omega) _) | (refine Below.setCell ?_ (by simp <;> omega) _) | (refine Below.drew ?_) | (refine bel_drewN ?_ _))))
      clear hW
      refine (KM.out _).mono ?_
      rintro e w1 ⟨rfl, hb⟩
      replace bM := bM.on hb
      replace bN := bN.on hb
      replace HB := Lib.hid (bel_end HB.out hb)
      clear hb
      have bM_0 := bM.cell 0 rfl
      have bM_1 := bM.cell 1 rfl
      have bM_2 := bM.cell 2 rfl
      have bM_3 := bM.cell 3 rfl
      have bM_4 := bM.cell 4 rfl
      have bM_l := bM.lt
      have bN_0 := bN.cell 0 rfl
      have bN_1 := bN.cell 1 rfl
      have bN_2 := bN.cell 2 rfl
      have bN_3 := bN.cell 3 rfl
      have bN_4 := bN.cell 4 rfl
      have bN_l := bN.lt
      go_wp2_with fail
      refine (KN.out _).mono ?_
      rintro e w2 ⟨rfl, hb⟩
      replace bM := bM.on hb
      replace bN := bN.on hb
      replace HB := Lib.hid (bel_end HB.out hb)
      clear hb
      clear bM_0 bM_1 bM_2 bM_3 bM_4 bM_l bN_0 bN_1 bN_2 bN_3 bN_4 bN_l
      have bM_0 := bM.cell 0 rfl
      have bM_1 := bM.cell 1 rfl
      have bM_2 := bM.cell 2 rfl
      have bM_3 := bM.cell 3 rfl
      have bM_4 := bM.cell 4 rfl
      have bM_l := bM.lt
      have bN_0 := bN.cell 0 rfl
      have bN_1 := bN.cell 1 rfl
      have bN_2 := bN.cell 2 rfl
      have bN_3 := bN.cell 3 rfl
      have bN_4 := bN.cell 4 rfl
      have bN_l := bN.lt
      go_wp2
      go_ret2
      exact ⟨ret_bi HT.out.1 HT.out.2, HB.out⟩
    case true =>
      have KN : Hid (∀ W : World, Calls Try.prog 64 #[.agg #[.int .i64 p, .int .i64 q, .int .i64 a, .int .i64 b, .int .i64 t]] W fun e w' => e = .returned (.bool true) ∧ Below W.heap.size W w') := Lib.hid (fun W => by have := smo_any W p q a b t; rwa [hn] at this)
      have HT : Hid (gmB x y u v s p q a b t = decide (gc x y p q ≤ (s + t) * (s + t)) ∧ gmC x y u v s p q a b t = 0) := Lib.hid (by unfold gmB gmC; rw [hm, hn]; exact ⟨rfl, rfl⟩)
      obtain ⟨hxy, -, -, s0, s1⟩ := mtB_t hm
      obtain ⟨hpq, -, -, t0, t1⟩ := mtB_t hn
      have sq := sq_bd (a := s + t) (A := 20000) (by omega)
      have e0 : IntKind.wrap .i64 (s + t) = s + t := IntWalk.i64_in _ (by omega)
      have e1 : IntKind.wrap .i64 ((s + t) * (s + t)) = (s + t) * (s + t) := IntWalk.i64_in _ (by omega)
      have K1 : Hid (∀ W : World, Calls Try.prog 70 #[.agg #[.int .i64 x, .int .i64 y, .int .i64 u, .int .i64 v, .int .i64 s], .agg #[.int .i64 p, .int .i64 q]] W fun e w' => e = .returned (.int .i64 (gc x y p q)) ∧ Below W.heap.size W w') := Lib.hid (fun W => lco_any W x y u v s p q hxy hpq)
      obtain ⟨Z, hZ⟩ : ∃ qq, gc x y p q = qq := ⟨_, rfl⟩
      rw [hZ] at K1 HT
      clear hZ hm hn hxy hpq s0 s1 t0 t1 sq
      go_enter Try.func22, Try.ntmps22
      go_wp2_with fail
      generalize hW : World.alloc _ _ = W
      have bM : Bk W (w.heap.size) #[.int .i64 x, .int .i64 y, .int .i64 u, .int .i64 v, .int .i64 s] 32 := by rw [← hW]; repeat (first | (refine Bk.new' ?_; (simp; done)) | refine Bk.alloc ?_ _)
      have bN : Bk W (w.heap.size + 1) #[.int .i64 p, .int .i64 q, .int .i64 a, .int .i64 b, .int .i64 t] 32 := by rw [← hW]; repeat (first | (refine Bk.new' ?_; (simp; done)) | refine Bk.alloc ?_ _)
      have HB : Hid (Below w.heap.size w W) := Lib.hid (by rw [← hW]; exact (by repeat (first | exact Below.refl _ _ | (refine Below.alloc ?_ (by simp <;> omega) _) | (refine Below.setCell ?_ (by simp <;> omega) _) | (refine Below.drew ?_) | (refine bel_drewN ?_ _))))
      clear hW
      refine (KM.out _).mono ?_
      rintro e w1 ⟨rfl, hb⟩
      replace bM := bM.on hb
      replace bN := bN.on hb
      replace HB := Lib.hid (bel_end HB.out hb)
      clear hb
      have bM_0 := bM.cell 0 rfl
      have bM_1 := bM.cell 1 rfl
      have bM_2 := bM.cell 2 rfl
      have bM_3 := bM.cell 3 rfl
      have bM_4 := bM.cell 4 rfl
      have bM_l := bM.lt
      have bN_0 := bN.cell 0 rfl
      have bN_1 := bN.cell 1 rfl
      have bN_2 := bN.cell 2 rfl
      have bN_3 := bN.cell 3 rfl
      have bN_4 := bN.cell 4 rfl
      have bN_l := bN.lt
      go_wp2_with fail
      refine (KN.out _).mono ?_
      rintro e w2 ⟨rfl, hb⟩
      replace bM := bM.on hb
      replace bN := bN.on hb
      replace HB := Lib.hid (bel_end HB.out hb)
      clear hb
      clear bM_0 bM_1 bM_2 bM_3 bM_4 bM_l bN_0 bN_1 bN_2 bN_3 bN_4 bN_l
      have bM_0 := bM.cell 0 rfl
      have bM_1 := bM.cell 1 rfl
      have bM_2 := bM.cell 2 rfl
      have bM_3 := bM.cell 3 rfl
      have bM_4 := bM.cell 4 rfl
      have bM_l := bM.lt
      have bN_0 := bN.cell 0 rfl
      have bN_1 := bN.cell 1 rfl
      have bN_2 := bN.cell 2 rfl
      have bN_3 := bN.cell 3 rfl
      have bN_4 := bN.cell 4 rfl
      have bN_l := bN.lt
      go_upto_region 3 with fail
      clear bM_0 bM_1 bM_2 bM_3 bM_4 bM_l bN_0 bN_1 bN_2 bN_3 bN_4 bN_l
      obtain ⟨S, hSd⟩ : ∃ S : World → Prop, ∀ w', S w' ↔ (w'.cell? ⟨w.heap.size, 0, none⟩ = some (.int .i64 x) ∧ w'.cell? ⟨w.heap.size, 1, none⟩ = some (.int .i64 y) ∧ w'.cell? ⟨w.heap.size, 2, none⟩ = some (.int .i64 u) ∧ w'.cell? ⟨w.heap.size, 3, none⟩ = some (.int .i64 v) ∧ w'.cell? ⟨w.heap.size, 4, none⟩ = some (.int .i64 s) ∧ w'.cell? ⟨w.heap.size + 1, 0, none⟩ = some (.int .i64 p) ∧ w'.cell? ⟨w.heap.size + 1, 1, none⟩ = some (.int .i64 q) ∧ w'.cell? ⟨w.heap.size + 1, 2, none⟩ = some (.int .i64 a) ∧ w'.cell? ⟨w.heap.size + 1, 3, none⟩ = some (.int .i64 b) ∧ w'.cell? ⟨w.heap.size + 1, 4, none⟩ = some (.int .i64 t)) := ⟨_, fun _ => Iff.rfl⟩
      have HSp : Hid (∀ w' : World, Bk w' (w.heap.size) #[.int .i64 x, .int .i64 y, .int .i64 u, .int .i64 v, .int .i64 s] 32 → Bk w' (w.heap.size + 1) #[.int .i64 p, .int .i64 q, .int .i64 a, .int .i64 b, .int .i64 t] 32 → S w') := Lib.hid (fun w' bM bN => (hSd w').2 ⟨bM.cell 0 rfl, bM.cell 1 rfl, bM.cell 2 rfl, bM.cell 3 rfl, bM.cell 4 rfl, bN.cell 0 rfl, bN.cell 1 rfl, bN.cell 2 rfl, bN.cell 3 rfl, bN.cell 4 rfl⟩)
      have HSd := Lib.hid hSd
      clear hSd
      refine wp_region_held_drew (S := S) (by kernel_rfl) ?_ (fun hH => ?_)
      · exact (HSp.out _ bM bN : S (World.drew w2))
      clear hH
      generalize hX : World.drew w2 = V0
      replace bM : Bk V0 (w.heap.size) #[.int .i64 x, .int .i64 y, .int .i64 u, .int .i64 v, .int .i64 s] 32 := by rw [← hX]; exact bM
      replace bN : Bk V0 (w.heap.size + 1) #[.int .i64 p, .int .i64 q, .int .i64 a, .int .i64 b, .int .i64 t] 32 := by rw [← hX]; exact bN
      have hb : Below w2.heap.size w2 V0 := by rw [← hX]; exact (Below.refl _ _).drew
      clear hX
      replace HB := Lib.hid (bel_end HB.out hb)
      clear hb
      have hS := HSp.out _ bM bN
      refine wpAnyH_take (i := 0) (oi := { dst := some 14, op := Go.Op.load 32 (Go.Operand.tmp 2), type := 32, pos := "l14_gating.go:146", after := #[], guard := none }) (v := ?_) rfl (by kernel_rfl) (by kernel_rfl) (by kernel_rfl) (fun _ _ _ h => h) (Or.inl ⟨by rfl, ?_⟩) hS ?_
      rotate_left
      · (intro w hSw; have hSw := (HSd.out w).1 hSw; go_split_ands; go_simp) <;> with_reducible rfl
      clear hS
      try simp only [Act.put, List.setIfInBounds_toArray, List.set_cons_zero, List.set_cons_succ]
      have hS := HSp.out _ bM bN
      refine wpAnyH_take (i := 1) (oi := { dst := some 15, op := Go.Op.fieldAddr 32 (Go.Operand.tmp 3) 0, type := 0, pos := "l14_gating.go:146", after := #[], guard := none }) (v := ?_) rfl (by kernel_rfl) (by kernel_rfl) (by kernel_rfl) (fun _ _ _ h => h) (Or.inl ⟨by rfl, ?_⟩) hS ?_
      rotate_left
      · (intro w hSw; have hSw := (HSd.out w).1 hSw; go_split_ands; go_simp) <;> with_reducible rfl
      clear hS
      try simp only [Act.put, List.setIfInBounds_toArray, List.set_cons_zero, List.set_cons_succ]
      have hS := HSp.out _ bM bN
      refine wpAnyH_take (i := 2) (oi := { dst := some 16, op := Go.Op.load 2 (Go.Operand.tmp 15), type := 2, pos := "l14_gating.go:146", after := #[{ on := 1, ground := Go.Ground.data }], guard := none }) (v := ?_) rfl (by kernel_rfl) (by kernel_rfl) (by kernel_rfl) (fun _ _ _ h => h) (Or.inl ⟨by rfl, ?_⟩) hS ?_
      rotate_left
      · (intro w hSw; have hSw := (HSd.out w).1 hSw; go_split_ands; go_simp) <;> with_reducible rfl
      clear hS
      try simp only [Act.put, List.setIfInBounds_toArray, List.set_cons_zero, List.set_cons_succ]
      have hS := HSp.out _ bM bN
      refine wpAnyH_take (i := 3) (oi := { dst := some 17, op := Go.Op.fieldAddr 32 (Go.Operand.tmp 3) 1, type := 0, pos := "l14_gating.go:146", after := #[], guard := none }) (v := ?_) rfl (by kernel_rfl) (by kernel_rfl) (by kernel_rfl) (fun _ _ _ h => h) (Or.inl ⟨by rfl, ?_⟩) hS ?_
      rotate_left
      · (intro w hSw; have hSw := (HSd.out w).1 hSw; go_split_ands; go_simp) <;> with_reducible rfl
      clear hS
      try simp only [Act.put, List.setIfInBounds_toArray, List.set_cons_zero, List.set_cons_succ]
      have hS := HSp.out _ bM bN
      refine wpAnyH_take (i := 4) (oi := { dst := some 18, op := Go.Op.load 2 (Go.Operand.tmp 17), type := 2, pos := "l14_gating.go:146", after := #[{ on := 3, ground := Go.Ground.data }], guard := none }) (v := ?_) rfl (by kernel_rfl) (by kernel_rfl) (by kernel_rfl) (fun _ _ _ h => h) (Or.inl ⟨by rfl, ?_⟩) hS ?_
      rotate_left
      · (intro w hSw; have hSw := (HSd.out w).1 hSw; go_split_ands; go_simp) <;> with_reducible rfl
      clear hS
      try simp only [Act.put, List.setIfInBounds_toArray, List.set_cons_zero, List.set_cons_succ]
      have hS := HSp.out _ bM bN
      refine wpAnyH_take (i := 5) (oi := { dst := some 19, op := Go.Op.build 79 #[(0, Go.Operand.tmp 16), (1, Go.Operand.tmp 18)], type := 79, pos := "l14_gating.go:146", after := #[{ on := 2, ground := Go.Ground.data }, { on := 4, ground := Go.Ground.data }], guard := none }) (v := ?_) rfl (by kernel_rfl) (by kernel_rfl) (by kernel_rfl) (fun _ _ _ h => h) (Or.inl ⟨by rfl, ?_⟩) hS ?_
      rotate_left
      · (intro w hSw; have hSw := (HSd.out w).1 hSw; go_split_ands; go_simp) <;> with_reducible rfl
      clear hS
      try simp only [Act.put, List.setIfInBounds_toArray, List.set_cons_zero, List.set_cons_succ]
      have hS := HSp.out _ bM bN
      refine wpAnyH_take (i := 7) (oi := { dst := some 21, op := Go.Op.fieldAddr 32 (Go.Operand.tmp 2) 4, type := 0, pos := "l14_gating.go:146", after := #[], guard := none }) (v := ?_) rfl (by kernel_rfl) (by kernel_rfl) (by kernel_rfl) (fun _ _ _ h => h) (Or.inl ⟨by rfl, ?_⟩) hS ?_
      rotate_left
      · (intro w hSw; have hSw := (HSd.out w).1 hSw; go_split_ands; go_simp) <;> with_reducible rfl
      clear hS
      try simp only [Act.put, List.setIfInBounds_toArray, List.set_cons_zero, List.set_cons_succ]
      have hS := HSp.out _ bM bN
      refine wpAnyH_take (i := 8) (oi := { dst := some 22, op := Go.Op.load 2 (Go.Operand.tmp 21), type := 2, pos := "l14_gating.go:146", after := #[{ on := 7, ground := Go.Ground.data }], guard := none }) (v := ?_) rfl (by kernel_rfl) (by kernel_rfl) (by kernel_rfl) (fun _ _ _ h => h) (Or.inl ⟨by rfl, ?_⟩) hS ?_
      rotate_left
      · (intro w hSw; have hSw := (HSd.out w).1 hSw; go_split_ands; go_simp) <;> with_reducible rfl
      clear hS
      try simp only [Act.put, List.setIfInBounds_toArray, List.set_cons_zero, List.set_cons_succ]
      have hS := HSp.out _ bM bN
      refine wpAnyH_take (i := 9) (oi := { dst := some 23, op := Go.Op.fieldAddr 32 (Go.Operand.tmp 3) 4, type := 0, pos := "l14_gating.go:146", after := #[], guard := none }) (v := ?_) rfl (by kernel_rfl) (by kernel_rfl) (by kernel_rfl) (fun _ _ _ h => h) (Or.inl ⟨by rfl, ?_⟩) hS ?_
      rotate_left
      · (intro w hSw; have hSw := (HSd.out w).1 hSw; go_split_ands; go_simp) <;> with_reducible rfl
      clear hS
      try simp only [Act.put, List.setIfInBounds_toArray, List.set_cons_zero, List.set_cons_succ]
      have hS := HSp.out _ bM bN
      refine wpAnyH_take (i := 10) (oi := { dst := some 24, op := Go.Op.load 2 (Go.Operand.tmp 23), type := 2, pos := "l14_gating.go:146", after := #[{ on := 9, ground := Go.Ground.data }], guard := none }) (v := ?_) rfl (by kernel_rfl) (by kernel_rfl) (by kernel_rfl) (fun _ _ _ h => h) (Or.inl ⟨by rfl, ?_⟩) hS ?_
      rotate_left
      · (intro w hSw; have hSw := (HSd.out w).1 hSw; go_split_ands; go_simp) <;> with_reducible rfl
      clear hS
      try simp only [Act.put, List.setIfInBounds_toArray, List.set_cons_zero, List.set_cons_succ]
      have hS := HSp.out _ bM bN
      refine wpAnyH_take (i := 11) (oi := { dst := some 25, op := Go.Op.binOp Go.BinOp.add 2 (Go.Operand.tmp 22) (Go.Operand.tmp 24) 2, type := 2, pos := "l14_gating.go:146", after := #[{ on := 8, ground := Go.Ground.data }, { on := 10, ground := Go.Ground.data }], guard := none }) (v := ?_) rfl (by kernel_rfl) (by kernel_rfl) (by kernel_rfl) (fun _ _ _ h => h) (Or.inl ⟨by rfl, ?_⟩) hS ?_
      rotate_left
      · (intro w hSw; have hSw := (HSd.out w).1 hSw; go_split_ands; go_simp) <;> with_reducible rfl
      clear hS
      try simp only [Act.put, List.setIfInBounds_toArray, List.set_cons_zero, List.set_cons_succ]
      have hS := HSp.out _ bM bN
      refine wpAnyH_take (i := 12) (oi := { dst := some 26, op := Go.Op.fieldAddr 32 (Go.Operand.tmp 2) 4, type := 0, pos := "l14_gating.go:146", after := #[], guard := none }) (v := ?_) rfl (by kernel_rfl) (by kernel_rfl) (by kernel_rfl) (fun _ _ _ h => h) (Or.inl ⟨by rfl, ?_⟩) hS ?_
      rotate_left
      · (intro w hSw; have hSw := (HSd.out w).1 hSw; go_split_ands; go_simp) <;> with_reducible rfl
      clear hS
      try simp only [Act.put, List.setIfInBounds_toArray, List.set_cons_zero, List.set_cons_succ]
      have hS := HSp.out _ bM bN
      refine wpAnyH_take (i := 13) (oi := { dst := some 27, op := Go.Op.load 2 (Go.Operand.tmp 26), type := 2, pos := "l14_gating.go:146", after := #[{ on := 12, ground := Go.Ground.data }], guard := none }) (v := ?_) rfl (by kernel_rfl) (by kernel_rfl) (by kernel_rfl) (fun _ _ _ h => h) (Or.inl ⟨by rfl, ?_⟩) hS ?_
      rotate_left
      · (intro w hSw; have hSw := (HSd.out w).1 hSw; go_split_ands; go_simp) <;> with_reducible rfl
      clear hS
      try simp only [Act.put, List.setIfInBounds_toArray, List.set_cons_zero, List.set_cons_succ]
      have hS := HSp.out _ bM bN
      refine wpAnyH_take (i := 14) (oi := { dst := some 28, op := Go.Op.fieldAddr 32 (Go.Operand.tmp 3) 4, type := 0, pos := "l14_gating.go:146", after := #[], guard := none }) (v := ?_) rfl (by kernel_rfl) (by kernel_rfl) (by kernel_rfl) (fun _ _ _ h => h) (Or.inl ⟨by rfl, ?_⟩) hS ?_
      rotate_left
      · (intro w hSw; have hSw := (HSd.out w).1 hSw; go_split_ands; go_simp) <;> with_reducible rfl
      clear hS
      try simp only [Act.put, List.setIfInBounds_toArray, List.set_cons_zero, List.set_cons_succ]
      have hS := HSp.out _ bM bN
      refine wpAnyH_take (i := 15) (oi := { dst := some 29, op := Go.Op.load 2 (Go.Operand.tmp 28), type := 2, pos := "l14_gating.go:146", after := #[{ on := 14, ground := Go.Ground.data }], guard := none }) (v := ?_) rfl (by kernel_rfl) (by kernel_rfl) (by kernel_rfl) (fun _ _ _ h => h) (Or.inl ⟨by rfl, ?_⟩) hS ?_
      rotate_left
      · (intro w hSw; have hSw := (HSd.out w).1 hSw; go_split_ands; go_simp) <;> with_reducible rfl
      clear hS
      try simp only [Act.put, List.setIfInBounds_toArray, List.set_cons_zero, List.set_cons_succ]
      have hS := HSp.out _ bM bN
      refine wpAnyH_take (i := 16) (oi := { dst := some 30, op := Go.Op.binOp Go.BinOp.add 2 (Go.Operand.tmp 27) (Go.Operand.tmp 29) 2, type := 2, pos := "l14_gating.go:146", after := #[{ on := 13, ground := Go.Ground.data }, { on := 15, ground := Go.Ground.data }], guard := none }) (v := ?_) rfl (by kernel_rfl) (by kernel_rfl) (by kernel_rfl) (fun _ _ _ h => h) (Or.inl ⟨by rfl, ?_⟩) hS ?_
      rotate_left
      · (intro w hSw; have hSw := (HSd.out w).1 hSw; go_split_ands; go_simp) <;> with_reducible rfl
      clear hS
      try simp only [Act.put, List.setIfInBounds_toArray, List.set_cons_zero, List.set_cons_succ]
      have hS := HSp.out _ bM bN
      refine wpAnyH_take (i := 17) (oi := { dst := some 31, op := Go.Op.binOp Go.BinOp.mul 2 (Go.Operand.tmp 25) (Go.Operand.tmp 30) 2, type := 2, pos := "l14_gating.go:146", after := #[{ on := 11, ground := Go.Ground.data }, { on := 16, ground := Go.Ground.data }], guard := none }) (v := ?_) rfl (by kernel_rfl) (by kernel_rfl) (by kernel_rfl) (fun _ _ _ h => h) (Or.inl ⟨by rfl, ?_⟩) hS ?_
      rotate_left
      · (intro w hSw; have hSw := (HSd.out w).1 hSw; go_split_ands; go_simp) <;> with_reducible rfl
      clear hS
      try simp only [Act.put, List.setIfInBounds_toArray, List.set_cons_zero, List.set_cons_succ]
      refine wpAnyH_ready (rs := [6]) (by kernel_rfl) (by simp) ?_
      refine AllReadyH.cons (o := { dst := some 20, op := Go.Op.call { callee := Go.Callee.value (Go.Operand.func 70), args := #[Go.Operand.tmp 14, Go.Operand.tmp 19], argTypes := #[32, 79] }, type := 2, pos := "l14_gating.go:146", after := #[{ on := 0, ground := Go.Ground.data }, { on := 5, ground := Go.Ground.data }], guard := none }) rfl (fun Kn hK => ?_) AllReadyH.nil
      first | go_at_call 70 | (go_simp; go_at_call 70)
      (with_reducible refine Calls.mono (K1.out  _) ?_)
      rintro e V1 ⟨rfl, hb⟩
      try dsimp only
      try simp only [Act.put, List.setIfInBounds_toArray, List.set_cons_zero, List.set_cons_succ]
      replace bM := bM.on hb
      replace bN := bN.on hb
      replace HB := Lib.hid (bel_end HB.out hb)
      clear hb
      refine hK.out _ _ (HSp.out _ bM bN) (fun _ => ?_)
      clear hK Kn
      have hS := HSp.out _ bM bN
      refine wpAnyH_take (i := 18) (oi := { dst := some 32, op := Go.Op.binOp Go.BinOp.leq 2 (Go.Operand.tmp 20) (Go.Operand.tmp 31) 2, type := 4, pos := "l14_gating.go:146", after := #[{ on := 6, ground := Go.Ground.data }, { on := 17, ground := Go.Ground.data }], guard := none }) (v := ?_) rfl (by kernel_rfl) (by kernel_rfl) (by kernel_rfl) (fun _ _ _ h => h) (Or.inl ⟨by rfl, ?_⟩) hS ?_
      rotate_left
      · (intro w hSw; have hSw := (HSd.out w).1 hSw; go_split_ands; go_simp) <;> with_reducible rfl
      clear hS
      try simp only [Act.put, List.setIfInBounds_toArray, List.set_cons_zero, List.set_cons_succ]
      have hS := HSp.out _ bM bN
      refine wpAnyH_take (i := 19) (oi := { dst := some 4, op := Go.Op.assign (Go.Operand.tmp 32), type := 4, pos := "l14_gating.go:146", after := #[{ on := 18, ground := Go.Ground.data }, { on := 6, ground := Go.Ground.chain }, { on := 0, ground := Go.Ground.phase }, { on := 1, ground := Go.Ground.phase }, { on := 2, ground := Go.Ground.phase }, { on := 3, ground := Go.Ground.phase }, { on := 4, ground := Go.Ground.phase }, { on := 5, ground := Go.Ground.phase }, { on := 6, ground := Go.Ground.phase }, { on := 7, ground := Go.Ground.phase }, { on := 8, ground := Go.Ground.phase }, { on := 9, ground := Go.Ground.phase }, { on := 10, ground := Go.Ground.phase }, { on := 11, ground := Go.Ground.phase }, { on := 12, ground := Go.Ground.phase }, { on := 13, ground := Go.Ground.phase }, { on := 14, ground := Go.Ground.phase }, { on := 15, ground := Go.Ground.phase }, { on := 16, ground := Go.Ground.phase }, { on := 17, ground := Go.Ground.phase }, { on := 18, ground := Go.Ground.phase }], guard := none }) (v := ?_) rfl (by kernel_rfl) (by kernel_rfl) (by kernel_rfl) (fun _ _ _ h => h) (Or.inl ⟨by rfl, ?_⟩) hS ?_
      rotate_left
      · (intro w hSw; have hSw := (HSd.out w).1 hSw; go_split_ands; go_simp) <;> with_reducible rfl
      clear hS
      try simp only [Act.put, List.setIfInBounds_toArray, List.set_cons_zero, List.set_cons_succ]
      have hS := HSp.out _ bM bN
      refine wpAnyH_take (i := 20) (oi := { dst := some 5, op := Go.Op.assign (Go.Operand.const (Go.Value.int Go.IntKind.i64 0)), type := 2, pos := "l14_gating.go:146", after := #[{ on := 19, ground := Go.Ground.chain }, { on := 0, ground := Go.Ground.phase }, { on := 1, ground := Go.Ground.phase }, { on := 2, ground := Go.Ground.phase }, { on := 3, ground := Go.Ground.phase }, { on := 4, ground := Go.Ground.phase }, { on := 5, ground := Go.Ground.phase }, { on := 6, ground := Go.Ground.phase }, { on := 7, ground := Go.Ground.phase }, { on := 8, ground := Go.Ground.phase }, { on := 9, ground := Go.Ground.phase }, { on := 10, ground := Go.Ground.phase }, { on := 11, ground := Go.Ground.phase }, { on := 12, ground := Go.Ground.phase }, { on := 13, ground := Go.Ground.phase }, { on := 14, ground := Go.Ground.phase }, { on := 15, ground := Go.Ground.phase }, { on := 16, ground := Go.Ground.phase }, { on := 17, ground := Go.Ground.phase }, { on := 18, ground := Go.Ground.phase }, { on := 19, ground := Go.Ground.phase }], guard := none }) (v := ?_) rfl (by kernel_rfl) (by kernel_rfl) (by kernel_rfl) (fun _ _ _ h => h) (Or.inl ⟨by rfl, ?_⟩) hS ?_
      rotate_left
      · (intro w hSw; have hSw := (HSd.out w).1 hSw; go_split_ands; go_simp) <;> with_reducible rfl
      clear hS
      try simp only [Act.put, List.setIfInBounds_toArray, List.set_cons_zero, List.set_cons_succ]
      refine wpAnyH_done (by kernel_rfl) ?_ _
      go_wp2
      go_ret2
      exact ⟨ret_bi HT.out.1 HT.out.2, HB.out⟩

set_option maxRecDepth 100000 in
set_option maxHeartbeats 8000000 in
theorem igm_any (w : World) (x y u v s p q a b t : Int) :
    Calls Try.prog 21 #[.agg #[.int .i64 x, .int .i64 y, .int .i64 u, .int .i64 v, .int .i64 s], .agg #[.int .i64 p, .int .i64 q, .int .i64 a, .int .i64 b, .int .i64 t]] w fun e w' => e = .returned (.tuple #[.bool (gmB x y u v s p q a b t), .int .i64 (gmC x y u v s p q a b t)]) ∧ Below w.heap.size w w' := by
  cases hm : mtB x y u v s
  case false =>
    have KM : Hid (∀ W : World, Calls Try.prog 67 #[.agg #[.int .i64 x, .int .i64 y, .int .i64 u, .int .i64 v, .int .i64 s]] W fun e w' => e = .returned (.bool false) ∧ Below W.heap.size W w') := Lib.hid (fun W => by have := imo_any W x y u v s; rwa [hm] at this)
    have HT : Hid (gmB x y u v s p q a b t = false ∧ gmC x y u v s p q a b t = 1) := Lib.hid (by unfold gmB gmC; rw [hm]; exact ⟨rfl, rfl⟩)
    clear hm
    go_enter Try.func21, Try.ntmps21
    go_wp2_with fail
    generalize hW : World.alloc _ _ = W
    have bM : Bk W (w.heap.size) #[.int .i64 x, .int .i64 y, .int .i64 u, .int .i64 v, .int .i64 s] 32 := by rw [← hW]; repeat (first | (refine Bk.new' ?_; (simp; done)) | refine Bk.alloc ?_ _)
    have bN : Bk W (w.heap.size + 1) #[.int .i64 p, .int .i64 q, .int .i64 a, .int .i64 b, .int .i64 t] 32 := by rw [← hW]; repeat (first | (refine Bk.new' ?_; (simp; done)) | refine Bk.alloc ?_ _)
    have HB : Hid (Below w.heap.size w W) := Lib.hid (by rw [← hW]; exact (by repeat (first | exact Below.refl _ _ | (refine Below.alloc ?_ (by simp <;> omega) _) | (refine Below.setCell ?_ (by simp <;> omega) _) | (refine Below.drew ?_) | (refine bel_drewN ?_ _))))
    clear hW
    refine (KM.out _).mono ?_
    rintro e w1 ⟨rfl, hb⟩
    replace bM := bM.on hb
    replace bN := bN.on hb
    replace HB := Lib.hid (bel_end HB.out hb)
    clear hb
    have bM_0 := bM.cell 0 rfl
    have bM_1 := bM.cell 1 rfl
    have bM_2 := bM.cell 2 rfl
    have bM_3 := bM.cell 3 rfl
    have bM_4 := bM.cell 4 rfl
    have bM_l := bM.lt
    have bN_0 := bN.cell 0 rfl
    have bN_1 := bN.cell 1 rfl
    have bN_2 := bN.cell 2 rfl
    have bN_3 := bN.cell 3 rfl
    have bN_4 := bN.cell 4 rfl
    have bN_l := bN.lt
    go_wp2
    go_ret2
    exact ⟨ret_bi HT.out.1 HT.out.2, HB.out⟩
  case true =>
    have KM : Hid (∀ W : World, Calls Try.prog 67 #[.agg #[.int .i64 x, .int .i64 y, .int .i64 u, .int .i64 v, .int .i64 s]] W fun e w' => e = .returned (.bool true) ∧ Below W.heap.size W w') := Lib.hid (fun W => by have := imo_any W x y u v s; rwa [hm] at this)
    cases hn : mtB p q a b t
    case false =>
      have KN : Hid (∀ W : World, Calls Try.prog 67 #[.agg #[.int .i64 p, .int .i64 q, .int .i64 a, .int .i64 b, .int .i64 t]] W fun e w' => e = .returned (.bool false) ∧ Below W.heap.size W w') := Lib.hid (fun W => by have := imo_any W p q a b t; rwa [hn] at this)
      have HT : Hid (gmB x y u v s p q a b t = false ∧ gmC x y u v s p q a b t = 1) := Lib.hid (by unfold gmB gmC; rw [hm, hn]; exact ⟨rfl, rfl⟩)
      clear hm hn
      go_enter Try.func21, Try.ntmps21
      go_wp2_with fail
      generalize hW : World.alloc _ _ = W
      have bM : Bk W (w.heap.size) #[.int .i64 x, .int .i64 y, .int .i64 u, .int .i64 v, .int .i64 s] 32 := by rw [← hW]; repeat (first | (refine Bk.new' ?_; (simp; done)) | refine Bk.alloc ?_ _)
      have bN : Bk W (w.heap.size + 1) #[.int .i64 p, .int .i64 q, .int .i64 a, .int .i64 b, .int .i64 t] 32 := by rw [← hW]; repeat (first | (refine Bk.new' ?_; (simp; done)) | refine Bk.alloc ?_ _)
      have HB : Hid (Below w.heap.size w W) := Lib.hid (by rw [← hW]; exact (by repeat (first | exact Below.refl _ _ | (refine Below.alloc ?_ (by simp <;> omega) _) | (refine Below.setCell ?_ (by simp <;> omega) _) | (refine Below.drew ?_) | (refine bel_drewN ?_ _))))
      clear hW
      refine (KM.out _).mono ?_
      rintro e w1 ⟨rfl, hb⟩
      replace bM := bM.on hb
      replace bN := bN.on hb
      replace HB := Lib.hid (bel_end HB.out hb)
      clear hb
      have bM_0 := bM.cell 0 rfl
      have bM_1 := bM.cell 1 rfl
      have bM_2 := bM.cell 2 rfl
      have bM_3 := bM.cell 3 rfl
      have bM_4 := bM.cell 4 rfl
      have bM_l := bM.lt
      have bN_0 := bN.cell 0 rfl
      have bN_1 := bN.cell 1 rfl
      have bN_2 := bN.cell 2 rfl
      have bN_3 := bN.cell 3 rfl
      have bN_4 := bN.cell 4 rfl
      have bN_l := bN.lt
      go_wp2_with fail
      refine (KN.out _).mono ?_
      rintro e w2 ⟨rfl, hb⟩
      replace bM := bM.on hb
      replace bN := bN.on hb
      replace HB := Lib.hid (bel_end HB.out hb)
      clear hb
      clear bM_0 bM_1 bM_2 bM_3 bM_4 bM_l bN_0 bN_1 bN_2 bN_3 bN_4 bN_l
      have bM_0 := bM.cell 0 rfl
      have bM_1 := bM.cell 1 rfl
      have bM_2 := bM.cell 2 rfl
      have bM_3 := bM.cell 3 rfl
      have bM_4 := bM.cell 4 rfl
      have bM_l := bM.lt
      have bN_0 := bN.cell 0 rfl
      have bN_1 := bN.cell 1 rfl
      have bN_2 := bN.cell 2 rfl
      have bN_3 := bN.cell 3 rfl
      have bN_4 := bN.cell 4 rfl
      have bN_l := bN.lt
      go_wp2
      go_ret2
      exact ⟨ret_bi HT.out.1 HT.out.2, HB.out⟩
    case true =>
      have KN : Hid (∀ W : World, Calls Try.prog 67 #[.agg #[.int .i64 p, .int .i64 q, .int .i64 a, .int .i64 b, .int .i64 t]] W fun e w' => e = .returned (.bool true) ∧ Below W.heap.size W w') := Lib.hid (fun W => by have := imo_any W p q a b t; rwa [hn] at this)
      have HT : Hid (gmB x y u v s p q a b t = decide (gc x y p q ≤ (s + t) * (s + t)) ∧ gmC x y u v s p q a b t = 0) := Lib.hid (by unfold gmB gmC; rw [hm, hn]; exact ⟨rfl, rfl⟩)
      obtain ⟨hxy, -, -, s0, s1⟩ := mtB_t hm
      obtain ⟨hpq, -, -, t0, t1⟩ := mtB_t hn
      have sq := sq_bd (a := s + t) (A := 20000) (by omega)
      have e0 : IntKind.wrap .i64 (s + t) = s + t := IntWalk.i64_in _ (by omega)
      have e1 : IntKind.wrap .i64 ((s + t) * (s + t)) = (s + t) * (s + t) := IntWalk.i64_in _ (by omega)
      have K1 : Hid (∀ W : World, Calls Try.prog 68 #[.agg #[.int .i64 x, .int .i64 y, .int .i64 u, .int .i64 v, .int .i64 s], .agg #[.int .i64 p, .int .i64 q]] W fun e w' => e = .returned (.int .i64 (gc x y p q)) ∧ Below W.heap.size W w') := Lib.hid (fun W => isq_any W x y u v s p q hxy hpq)
      have KP : Hid (∀ W : World, Calls Try.prog 69 #[.agg #[.int .i64 p, .int .i64 q, .int .i64 a, .int .i64 b, .int .i64 t]] W fun e w' => e = .returned (.agg #[.int .i64 p, .int .i64 q]) ∧ Below W.heap.size W w') := Lib.hid (fun W => ipo14_any W p q a b t)
      obtain ⟨Z, hZ⟩ : ∃ qq, gc x y p q = qq := ⟨_, rfl⟩
      rw [hZ] at K1 HT
      clear hZ hm hn hxy hpq s0 s1 t0 t1 sq
      go_enter Try.func21, Try.ntmps21
      go_wp2_with fail
      generalize hW : World.alloc _ _ = W
      have bM : Bk W (w.heap.size) #[.int .i64 x, .int .i64 y, .int .i64 u, .int .i64 v, .int .i64 s] 32 := by rw [← hW]; repeat (first | (refine Bk.new' ?_; (simp; done)) | refine Bk.alloc ?_ _)
      have bN : Bk W (w.heap.size + 1) #[.int .i64 p, .int .i64 q, .int .i64 a, .int .i64 b, .int .i64 t] 32 := by rw [← hW]; repeat (first | (refine Bk.new' ?_; (simp; done)) | refine Bk.alloc ?_ _)
      have HB : Hid (Below w.heap.size w W) := Lib.hid (by rw [← hW]; exact (by repeat (first | exact Below.refl _ _ | (refine Below.alloc ?_ (by simp <;> omega) _) | (refine Below.setCell ?_ (by simp <;> omega) _) | (refine Below.drew ?_) | (refine bel_drewN ?_ _))))
      clear hW
      refine (KM.out _).mono ?_
      rintro e w1 ⟨rfl, hb⟩
      replace bM := bM.on hb
      replace bN := bN.on hb
      replace HB := Lib.hid (bel_end HB.out hb)
      clear hb
      have bM_0 := bM.cell 0 rfl
      have bM_1 := bM.cell 1 rfl
      have bM_2 := bM.cell 2 rfl
      have bM_3 := bM.cell 3 rfl
      have bM_4 := bM.cell 4 rfl
      have bM_l := bM.lt
      have bN_0 := bN.cell 0 rfl
      have bN_1 := bN.cell 1 rfl
      have bN_2 := bN.cell 2 rfl
      have bN_3 := bN.cell 3 rfl
      have bN_4 := bN.cell 4 rfl
      have bN_l := bN.lt
      go_wp2_with fail
      refine (KN.out _).mono ?_
      rintro e w2 ⟨rfl, hb⟩
      replace bM := bM.on hb
      replace bN := bN.on hb
      replace HB := Lib.hid (bel_end HB.out hb)
      clear hb
      clear bM_0 bM_1 bM_2 bM_3 bM_4 bM_l bN_0 bN_1 bN_2 bN_3 bN_4 bN_l
      have bM_0 := bM.cell 0 rfl
      have bM_1 := bM.cell 1 rfl
      have bM_2 := bM.cell 2 rfl
      have bM_3 := bM.cell 3 rfl
      have bM_4 := bM.cell 4 rfl
      have bM_l := bM.lt
      have bN_0 := bN.cell 0 rfl
      have bN_1 := bN.cell 1 rfl
      have bN_2 := bN.cell 2 rfl
      have bN_3 := bN.cell 3 rfl
      have bN_4 := bN.cell 4 rfl
      have bN_l := bN.lt
      go_upto_region 4 with fail
      clear bM_0 bM_1 bM_2 bM_3 bM_4 bM_l bN_0 bN_1 bN_2 bN_3 bN_4 bN_l
      obtain ⟨S, hSd⟩ : ∃ S : World → Prop, ∀ w', S w' ↔ (w'.cell? ⟨w.heap.size, 0, none⟩ = some (.int .i64 x) ∧ w'.cell? ⟨w.heap.size, 1, none⟩ = some (.int .i64 y) ∧ w'.cell? ⟨w.heap.size, 2, none⟩ = some (.int .i64 u) ∧ w'.cell? ⟨w.heap.size, 3, none⟩ = some (.int .i64 v) ∧ w'.cell? ⟨w.heap.size, 4, none⟩ = some (.int .i64 s) ∧ w'.cell? ⟨w.heap.size + 1, 0, none⟩ = some (.int .i64 p) ∧ w'.cell? ⟨w.heap.size + 1, 1, none⟩ = some (.int .i64 q) ∧ w'.cell? ⟨w.heap.size + 1, 2, none⟩ = some (.int .i64 a) ∧ w'.cell? ⟨w.heap.size + 1, 3, none⟩ = some (.int .i64 b) ∧ w'.cell? ⟨w.heap.size + 1, 4, none⟩ = some (.int .i64 t)) := ⟨_, fun _ => Iff.rfl⟩
      have HSp : Hid (∀ w' : World, Bk w' (w.heap.size) #[.int .i64 x, .int .i64 y, .int .i64 u, .int .i64 v, .int .i64 s] 32 → Bk w' (w.heap.size + 1) #[.int .i64 p, .int .i64 q, .int .i64 a, .int .i64 b, .int .i64 t] 32 → S w') := Lib.hid (fun w' bM bN => (hSd w').2 ⟨bM.cell 0 rfl, bM.cell 1 rfl, bM.cell 2 rfl, bM.cell 3 rfl, bM.cell 4 rfl, bN.cell 0 rfl, bN.cell 1 rfl, bN.cell 2 rfl, bN.cell 3 rfl, bN.cell 4 rfl⟩)
      have HSd := Lib.hid hSd
      clear hSd
      refine wp_region_held_drew (S := S) (by kernel_rfl) ?_ (fun hH => ?_)
      · exact (HSp.out _ bM bN : S (World.drew w2))
      clear hH
      generalize hX : World.drew w2 = V0
      replace bM : Bk V0 (w.heap.size) #[.int .i64 x, .int .i64 y, .int .i64 u, .int .i64 v, .int .i64 s] 32 := by rw [← hX]; exact bM
      replace bN : Bk V0 (w.heap.size + 1) #[.int .i64 p, .int .i64 q, .int .i64 a, .int .i64 b, .int .i64 t] 32 := by rw [← hX]; exact bN
      have hb : Below w2.heap.size w2 V0 := by rw [← hX]; exact (Below.refl _ _).drew
      clear hX
      replace HB := Lib.hid (bel_end HB.out hb)
      clear hb
      have hS := HSp.out _ bM bN
      refine wpAnyH_take (i := 0) (oi := { dst := some 20, op := Go.Op.load 32 (Go.Operand.tmp 2), type := 32, pos := "l14_gating.go:136", after := #[], guard := none }) (v := ?_) rfl (by kernel_rfl) (by kernel_rfl) (by kernel_rfl) (fun _ _ _ h => h) (Or.inl ⟨by rfl, ?_⟩) hS ?_
      rotate_left
      · (intro w hSw; have hSw := (HSd.out w).1 hSw; go_split_ands; go_simp) <;> with_reducible rfl
      clear hS
      try simp only [Act.put, List.setIfInBounds_toArray, List.set_cons_zero, List.set_cons_succ]
      have hS := HSp.out _ bM bN
      refine wpAnyH_take (i := 1) (oi := { dst := some 21, op := Go.Op.load 32 (Go.Operand.tmp 3), type := 32, pos := "l14_gating.go:136", after := #[], guard := none }) (v := ?_) rfl (by kernel_rfl) (by kernel_rfl) (by kernel_rfl) (fun _ _ _ h => h) (Or.inl ⟨by rfl, ?_⟩) hS ?_
      rotate_left
      · (intro w hSw; have hSw := (HSd.out w).1 hSw; go_split_ands; go_simp) <;> with_reducible rfl
      clear hS
      try simp only [Act.put, List.setIfInBounds_toArray, List.set_cons_zero, List.set_cons_succ]
      have hS := HSp.out _ bM bN
      refine wpAnyH_take (i := 4) (oi := { dst := some 24, op := Go.Op.move (Go.Operand.tmp 6), type := 2, pos := "l14_gating.go:136", after := #[], guard := none }) (v := ?_) rfl (by kernel_rfl) (by kernel_rfl) (by kernel_rfl) (fun _ _ _ h => h) (Or.inl ⟨by rfl, ?_⟩) hS ?_
      rotate_left
      · (intro w hSw; have hSw := (HSd.out w).1 hSw; go_split_ands; go_simp) <;> with_reducible rfl
      clear hS
      try simp only [Act.put, List.setIfInBounds_toArray, List.set_cons_zero, List.set_cons_succ]
      have hS := HSp.out _ bM bN
      refine wpAnyH_take (i := 5) (oi := { dst := some 25, op := Go.Op.move (Go.Operand.tmp 6), type := 2, pos := "l14_gating.go:136", after := #[], guard := none }) (v := ?_) rfl (by kernel_rfl) (by kernel_rfl) (by kernel_rfl) (fun _ _ _ h => h) (Or.inl ⟨by rfl, ?_⟩) hS ?_
      rotate_left
      · (intro w hSw; have hSw := (HSd.out w).1 hSw; go_split_ands; go_simp) <;> with_reducible rfl
      clear hS
      try simp only [Act.put, List.setIfInBounds_toArray, List.set_cons_zero, List.set_cons_succ]
      have hS := HSp.out _ bM bN
      refine wpAnyH_take (i := 6) (oi := { dst := some 26, op := Go.Op.binOp Go.BinOp.mul 2 (Go.Operand.tmp 24) (Go.Operand.tmp 25) 2, type := 2, pos := "l14_gating.go:136", after := #[{ on := 4, ground := Go.Ground.data }, { on := 5, ground := Go.Ground.data }], guard := none }) (v := ?_) rfl (by kernel_rfl) (by kernel_rfl) (by kernel_rfl) (fun _ _ _ h => h) (Or.inl ⟨by rfl, ?_⟩) hS ?_
      rotate_left
      · (intro w hSw; have hSw := (HSd.out w).1 hSw; go_split_ands; go_simp) <;> with_reducible rfl
      clear hS
      try simp only [Act.put, List.setIfInBounds_toArray, List.set_cons_zero, List.set_cons_succ]
      refine wpAnyH_ready (rs := [2]) (by kernel_rfl) (by simp) ?_
      refine AllReadyH.cons (o := { dst := some 22, op := Go.Op.call { callee := Go.Callee.value (Go.Operand.func 69), args := #[Go.Operand.tmp 21], argTypes := #[32] }, type := 76, pos := "l14_gating.go:136", after := #[{ on := 1, ground := Go.Ground.data }], guard := none }) rfl (fun Kn hK => ?_) AllReadyH.nil
      first | go_at_call 69 | (go_simp; go_at_call 69)
      (with_reducible refine Calls.mono (KP.out  _) ?_)
      rintro e V1 ⟨rfl, hb⟩
      try dsimp only
      try simp only [Act.put, List.setIfInBounds_toArray, List.set_cons_zero, List.set_cons_succ]
      replace bM := bM.on hb
      replace bN := bN.on hb
      replace HB := Lib.hid (bel_end HB.out hb)
      clear hb
      refine hK.out _ _ (HSp.out _ bM bN) (fun _ => ?_)
      clear hK Kn
      refine wpAnyH_ready (rs := [3]) (by kernel_rfl) (by simp) ?_
      refine AllReadyH.cons (o := { dst := some 23, op := Go.Op.call { callee := Go.Callee.value (Go.Operand.func 68), args := #[Go.Operand.tmp 20, Go.Operand.tmp 22], argTypes := #[32, 76] }, type := 2, pos := "l14_gating.go:136", after := #[{ on := 0, ground := Go.Ground.data }, { on := 2, ground := Go.Ground.data }, { on := 2, ground := Go.Ground.chain }], guard := none }) rfl (fun Kn hK => ?_) AllReadyH.nil
      first | go_at_call 68 | (go_simp; go_at_call 68)
      (with_reducible refine Calls.mono (K1.out  _) ?_)
      rintro e V2 ⟨rfl, hb⟩
      try dsimp only
      try simp only [Act.put, List.setIfInBounds_toArray, List.set_cons_zero, List.set_cons_succ]
      replace bM := bM.on hb
      replace bN := bN.on hb
      replace HB := Lib.hid (bel_end HB.out hb)
      clear hb
      refine hK.out _ _ (HSp.out _ bM bN) (fun _ => ?_)
      clear hK Kn
      have hS := HSp.out _ bM bN
      refine wpAnyH_take (i := 7) (oi := { dst := some 27, op := Go.Op.binOp Go.BinOp.leq 2 (Go.Operand.tmp 23) (Go.Operand.tmp 26) 2, type := 4, pos := "l14_gating.go:136", after := #[{ on := 3, ground := Go.Ground.data }, { on := 6, ground := Go.Ground.data }], guard := none }) (v := ?_) rfl (by kernel_rfl) (by kernel_rfl) (by kernel_rfl) (fun _ _ _ h => h) (Or.inl ⟨by rfl, ?_⟩) hS ?_
      rotate_left
      · (intro w hSw; have hSw := (HSd.out w).1 hSw; go_split_ands; go_simp) <;> with_reducible rfl
      clear hS
      try simp only [Act.put, List.setIfInBounds_toArray, List.set_cons_zero, List.set_cons_succ]
      have hS := HSp.out _ bM bN
      refine wpAnyH_take (i := 8) (oi := { dst := some 4, op := Go.Op.assign (Go.Operand.tmp 27), type := 4, pos := "l14_gating.go:136", after := #[{ on := 7, ground := Go.Ground.data }, { on := 3, ground := Go.Ground.chain }, { on := 0, ground := Go.Ground.phase }, { on := 1, ground := Go.Ground.phase }, { on := 2, ground := Go.Ground.phase }, { on := 3, ground := Go.Ground.phase }, { on := 4, ground := Go.Ground.phase }, { on := 5, ground := Go.Ground.phase }, { on := 6, ground := Go.Ground.phase }, { on := 7, ground := Go.Ground.phase }], guard := none }) (v := ?_) rfl (by kernel_rfl) (by kernel_rfl) (by kernel_rfl) (fun _ _ _ h => h) (Or.inl ⟨by rfl, ?_⟩) hS ?_
      rotate_left
      · (intro w hSw; have hSw := (HSd.out w).1 hSw; go_split_ands; go_simp) <;> with_reducible rfl
      clear hS
      try simp only [Act.put, List.setIfInBounds_toArray, List.set_cons_zero, List.set_cons_succ]
      have hS := HSp.out _ bM bN
      refine wpAnyH_take (i := 9) (oi := { dst := some 5, op := Go.Op.assign (Go.Operand.const (Go.Value.int Go.IntKind.i64 0)), type := 2, pos := "l14_gating.go:136", after := #[{ on := 8, ground := Go.Ground.chain }, { on := 0, ground := Go.Ground.phase }, { on := 1, ground := Go.Ground.phase }, { on := 2, ground := Go.Ground.phase }, { on := 3, ground := Go.Ground.phase }, { on := 4, ground := Go.Ground.phase }, { on := 5, ground := Go.Ground.phase }, { on := 6, ground := Go.Ground.phase }, { on := 7, ground := Go.Ground.phase }, { on := 8, ground := Go.Ground.phase }], guard := none }) (v := ?_) rfl (by kernel_rfl) (by kernel_rfl) (by kernel_rfl) (fun _ _ _ h => h) (Or.inl ⟨by rfl, ?_⟩) hS ?_
      rotate_left
      · (intro w hSw; have hSw := (HSd.out w).1 hSw; go_split_ands; go_simp) <;> with_reducible rfl
      clear hS
      try simp only [Act.put, List.setIfInBounds_toArray, List.set_cons_zero, List.set_cons_succ]
      refine wpAnyH_done (by kernel_rfl) ?_ _
      go_wp2
      go_ret2
      exact ⟨ret_bi HT.out.1 HT.out.2, HB.out⟩
end Go.Proofs.Ytlahgdhofakinaa
