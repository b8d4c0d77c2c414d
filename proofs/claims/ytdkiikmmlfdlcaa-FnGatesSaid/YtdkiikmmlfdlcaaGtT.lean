/- The model's draws of the arguments of MoveOn, AreContacts, ContactsIn, GateCost. -/
import Derived.Test.YtdkiikmmlfdlcaaGtS
namespace Go.Proofs.Ytdkiikmmlfdlcaa
open Go.ChangeShapes Go.WideShapes Go.ChangeAt Go.RowKit Go.Shelf Num
set_option linter.unusedVariables false
set_option linter.unusedSimpArgs false

theorem ne_src {W : World} {s g : Nat} {cs : Array Value} (h : Src W s) (b : Bk W g cs 2) : ¬ g = s := by
  rintro rfl
  obtain ⟨a, cap, zs, k, seed, hb0, -⟩ := h
  have e := (show W.heap[g]? = _ from b).symm.trans hb0
  simp only [Option.some.injEq, Obj.cells.injEq] at e
  exact absurd e.2.1 (by decide)
theorem Cts.blk {W W' : World} {B g : Nat} {ps : List (Int × Int)} (h : Cts W B (some ⟨g, 0, none⟩) ps) (he : W'.heap[g]? = W.heap[g]?) : Cts W' B (some ⟨g, 0, none⟩) ps := fun hp => by
  obtain ⟨b, off, e, hB, hc⟩ := h hp
  simp only [Option.some.injEq, Addr.mk.injEq, and_true] at e
  obtain ⟨e1, e2⟩ := e
  subst e1 e2
  exact ⟨g, 0, rfl, hB, fun j hj => ⟨(World.cell?_of_block (w := W) (a := ⟨g, 0 + j * 2, none⟩) he).trans (hc j hj).1, (World.cell?_of_block (w := W) (a := ⟨g, 0 + j * 2 + 1, none⟩) he).trans (hc j hj).2⟩⟩
theorem Cts.fit {W : World} {B : Nat} {a : Option Addr} {ps : List (Int × Int)} (h : Cts W B a ps) : Cts W W.heap.size a ps := fun hp => by
  obtain ⟨b, off, e, hB, hc⟩ := h hp
  exact ⟨b, off, e, cell_lt (hc 0 hp).1, hc⟩
theorem set5_far {W : World} {b g : Nat} (h : g ≠ b) (v0 v1 v2 v3 v4 : Value) : (((((W.setCell ⟨b, 0, none⟩ v0).setCell ⟨b, 1, none⟩ v1).setCell ⟨b, 2, none⟩ v2).setCell ⟨b, 3, none⟩ v3).setCell ⟨b, 4, none⟩ v4).heap[g]? = W.heap[g]? :=
  (Below.heap_setCell _ ⟨b, 4, none⟩ v4 g h).trans ((Below.heap_setCell _ ⟨b, 3, none⟩ v3 g h).trans ((Below.heap_setCell _ ⟨b, 2, none⟩ v2 g h).trans ((Below.heap_setCell _ ⟨b, 1, none⟩ v1 g h).trans (Below.heap_setCell _ ⟨b, 0, none⟩ v0 g h))))
def MnD (w : World) (e : Ending) (w' : World) : Prop := ∃ x y u v t n : Int, e = .returned (.tuple #[.agg #[.int .i64 x, .int .i64 y, .int .i64 u, .int .i64 v, .int .i64 t], .int .i64 n]) ∧ Below w.heap.size w w'
def McD (w : World) (e : Ending) (w' : World) : Prop := ∃ x y u v t p q : Int, e = .returned (.tuple #[.agg #[.int .i64 x, .int .i64 y, .int .i64 u, .int .i64 v, .int .i64 t], .agg #[.int .i64 p, .int .i64 q]]) ∧ Below w.heap.size w w'
def ClD (w : World) (e : Ending) (w' : World) : Prop := ∃ (a : Option Addr) (c : Nat) (ps : List (Int × Int)), e = .returned (.slice a ps.length c) ∧ ps.length ≤ 7 ∧ Cts w' w'.heap.size a ps ∧ Below w.heap.size w w'
def MlD (w : World) (e : Ending) (w' : World) : Prop := ∃ (x y u v t : Int) (a : Option Addr) (c : Nat) (ps : List (Int × Int)), e = .returned (.tuple #[.agg #[.int .i64 x, .int .i64 y, .int .i64 u, .int .i64 v, .int .i64 t], .slice a ps.length c]) ∧ ps.length ≤ 7 ∧ Cts w' w'.heap.size a ps ∧ Below w.heap.size w w'

set_option maxRecDepth 100000 in
set_option maxHeartbeats 8000000 in
theorem dmv_any (w : World) (a0 : Option Addr) (cap : Nat) (zs : List Int) (h : Code8 w w.heap.size a0 zs) :
    Calls Try.prog 15 #[.slice a0 zs.length cap] w (MnD w) := by
  have HC := Lib.hid h
  clear h
  go_enter Try.func15, Try.ntmps15
  go_wp2_with fail
  generalize hW : World.alloc _ _ = W
  have bR : Bk W (w.heap.size) #[.int .i64 0, .int .i64 0, .int .i64 0, .int .i64 0, .int .i64 0] 25 := by rw [← hW]; repeat (first | (refine Bk.new' ?_; (simp; done)) | refine Bk.alloc ?_ _)
  have hb : Below w.heap.size w W := by rw [← hW]; exact (by repeat (first | exact Below.refl _ _ | (refine Below.alloc ?_ (by simp <;> omega) _) | (refine Below.setCell ?_ (by simp <;> omega) _) | (refine Below.drew ?_) | (refine bel_drewN ?_ _)))
  clear hW
  have hlT := bR.lt
  refine (from_any _ _ _ zs ((HC.out.below hb (Nat.le_refl _)).more hb.size)).mono ?_
  rintro e w1 ⟨s, rfl, hs, hsrc, hb1⟩
  replace bR := bR.on hb1
  have HB := Lib.hid (bel_end hb hb1)
  have HS := Lib.hid hsrc
  have hls := HS.out.lt
  have hR : w.heap.size + 1 ≤ s := by omega
  clear hs hsrc hb hb1 HC hlT
  have bR_0 := bR.cell 0 rfl
  have bR_1 := bR.cell 1 rfl
  have bR_2 := bR.cell 2 rfl
  have bR_3 := bR.cell 3 rfl
  have bR_4 := bR.cell 4 rfl
  have bR_l := bR.lt
  go_wp2_with fail
  refine (dmo_any _ s HS.out).mono ?_
  rintro e ws2 ⟨x, y, u, v, t, rfl, hs, hg⟩
  replace bR := bR.kept hg (by simp; omega)
  have hz2 := hg.size
  replace HB := Lib.hid (HB.out.trans (below_of_grown hg (by omega) (by have := HB.out.size; omega)))
  replace HS := Lib.hid hs
  replace hls := HS.out.lt
  clear hs hg
  clear bR_0 bR_1 bR_2 bR_3 bR_4 bR_l
  have bR_0 := bR.cell 0 rfl
  have bR_1 := bR.cell 1 rfl
  have bR_2 := bR.cell 2 rfl
  have bR_3 := bR.cell 3 rfl
  have bR_4 := bR.cell 4 rfl
  have bR_l := bR.lt
  go_upto_region 3 with fail
  clear bR_0 bR_1 bR_2 bR_3 bR_4 bR_l
  generalize hW : World.alloc _ _ = wn3
  have hb : Below ws2.heap.size ws2 wn3 := by rw [← hW]; exact (by repeat (first | exact Below.refl _ _ | (refine Below.alloc ?_ (by simp <;> omega) _) | (refine Below.setCell ?_ (by simp <;> omega) _) | (refine Below.drew ?_) | (refine bel_drewN ?_ _)))
  obtain ⟨gM, hg0⟩ : ∃ g, g = ws2.heap.size := ⟨_, rfl⟩
  obtain ⟨x, y, u, v, t, bM⟩ : ∃ x y u v t, Bk wn3 gM #[.int .i64 x, .int .i64 y, .int .i64 u, .int .i64 v, .int .i64 t] 25 := ⟨_, _, _, _, _, by rw [← hW, hg0]; repeat (first | (refine Bk.new' ?_; (simp; done)) | refine Bk.alloc ?_ _)⟩
  have lsbM : s < gM := by omega
  have nebM_bR : gM ≠ w.heap.size := by have := bR.lt; omega
  have lwbM : w.heap.size ≤ gM := by have := HB.out.size; omega
  try rw [← hg0]
  clear hW hg0
  replace bR := bR.on hb
  replace HB := Lib.hid (bel_end HB.out hb)
  replace HS := Lib.hid (HS.out.bel hb)
  replace hls := HS.out.lt
  clear hb
  have bR_0 := bR.cell 0 rfl
  have bR_1 := bR.cell 1 rfl
  have bR_2 := bR.cell 2 rfl
  have bR_3 := bR.cell 3 rfl
  have bR_4 := bR.cell 4 rfl
  have bR_l := bR.lt
  have bM_0 := bM.cell 0 rfl
  have bM_1 := bM.cell 1 rfl
  have bM_2 := bM.cell 2 rfl
  have bM_3 := bM.cell 3 rfl
  have bM_4 := bM.cell 4 rfl
  have bM_l := bM.lt
  go_upto_region 3 with fail
  clear bR_0 bR_1 bR_2 bR_3 bR_4 bR_l bM_0 bM_1 bM_2 bM_3 bM_4 bM_l
  obtain ⟨S, hSd⟩ : ∃ S : World → Prop, ∀ w', S w' ↔ (w'.cell? ⟨gM, 0, none⟩ = some (.int .i64 x) ∧ w'.cell? ⟨gM, 1, none⟩ = some (.int .i64 y) ∧ w'.cell? ⟨gM, 2, none⟩ = some (.int .i64 u) ∧ w'.cell? ⟨gM, 3, none⟩ = some (.int .i64 v) ∧ w'.cell? ⟨gM, 4, none⟩ = some (.int .i64 t)) := ⟨_, fun _ => Iff.rfl⟩
  have HSp : Hid (∀ w' : World, Bk w' (gM) #[.int .i64 x, .int .i64 y, .int .i64 u, .int .i64 v, .int .i64 t] 25 → S w') := Lib.hid (fun w' bM => (hSd w').2 ⟨bM.cell 0 rfl, bM.cell 1 rfl, bM.cell 2 rfl, bM.cell 3 rfl, bM.cell 4 rfl⟩)
  have HSd := Lib.hid hSd
  clear hSd
  refine wp_region_held_drew (S := S) (by kernel_rfl) ?_ (fun hH => ?_)
  · exact (HSp.out _ bM : S (World.drew wn3))
  clear hH
  generalize hX : World.drew wn3 = V0
  replace bR : Bk V0 (w.heap.size) #[.int .i64 0, .int .i64 0, .int .i64 0, .int .i64 0, .int .i64 0] 25 := by rw [← hX]; exact bR
  replace bM : Bk V0 (gM) #[.int .i64 x, .int .i64 y, .int .i64 u, .int .i64 v, .int .i64 t] 25 := by rw [← hX]; exact bM
  have hb : Below wn3.heap.size wn3 V0 := by rw [← hX]; exact (Below.refl _ _).drew
  clear hX
  replace HS := Lib.hid (HS.out.bel hb)
  replace HB := Lib.hid (bel_end HB.out hb)
  clear hb
  have hS := HSp.out _ bM
  refine wpAnyH_take (i := 0) (oi := { dst := some 10, op := Go.Op.load 25 (Go.Operand.tmp 5), type := 25, pos := "l14_gating.go:206", after := #[], guard := none }) (v := ?_) rfl (by kernel_rfl) (by kernel_rfl) (by kernel_rfl) (fun _ _ _ h => h) (Or.inl ⟨by rfl, ?_⟩) hS ?_
  rotate_left
  · (intro w hSw; have hSw := (HSd.out w).1 hSw; go_split_ands; go_simp) <;> with_reducible rfl
  clear hS
  try simp only [Act.put, List.setIfInBounds_toArray, List.set_cons_zero, List.set_cons_succ]
  have hS := HSp.out _ bM
  refine wpAnyH_take (i := 1) (oi := { dst := some 11, op := Go.Op.move (Go.Operand.tmp 4), type := 83, pos := "l14_gating.go:206", after := #[], guard := none }) (v := ?_) rfl (by kernel_rfl) (by kernel_rfl) (by kernel_rfl) (fun _ _ _ h => h) (Or.inl ⟨by rfl, ?_⟩) hS ?_
  rotate_left
  · (intro w hSw; have hSw := (HSd.out w).1 hSw; go_split_ands; go_simp) <;> with_reducible rfl
  clear hS
  try simp only [Act.put, List.setIfInBounds_toArray, List.set_cons_zero, List.set_cons_succ]
  refine wpAnyH_ready (rs := [2]) (by decide +kernel) (by simp) ?_
  refine AllReadyH.cons (o := { dst := some 12, op := Go.Op.buildSlice 39 8 #[(0, Go.Operand.const (Go.Value.int Go.IntKind.i64 0)), (1, Go.Operand.const (Go.Value.int Go.IntKind.i64 1)), (2, Go.Operand.const (Go.Value.int Go.IntKind.i64 2)), (3, Go.Operand.const (Go.Value.int Go.IntKind.i64 5)), (4, Go.Operand.const (Go.Value.int Go.IntKind.i64 20)), (5, Go.Operand.const (Go.Value.int Go.IntKind.i64 100)), (6, Go.Operand.const (Go.Value.int Go.IntKind.i64 101)), (7, Go.Operand.const (Go.Value.int Go.IntKind.i64 (-1)))], type := 39, pos := "l14_gating.go:206", after := #[], guard := none }) rfl (fun Kn hK => ?_) AllReadyH.nil
  go_simp
  generalize hX : World.alloc V0 _ = V1
  obtain ⟨g2, hg⟩ : ∃ g, g = V0.heap.size := ⟨_, rfl⟩
  have bn2 : Bk V1 g2 #[.int .i64 0, .int .i64 1, .int .i64 2, .int .i64 5, .int .i64 20, .int .i64 100, .int .i64 101, .int .i64 (-1)] 2 := by rw [← hX]; exact Bk.new' hg
  have le2 : w.heap.size ≤ g2 := by rw [hg]; exact HB.out.size
  have nebR_2 : w.heap.size ≠ g2 := by have := bR.lt; omega
  have nebM_2 : gM ≠ g2 := by have := bM.lt; omega
  try rw [← hg]
  have hb : Below V0.heap.size V0 V1 := by rw [← hX]; exact (Below.refl _ _).alloc (Nat.le_refl _) _
  clear hX hg
  replace bR := bR.on hb
  replace bM := bM.on hb
  replace HS := Lib.hid (HS.out.bel hb)
  replace HB := Lib.hid (bel_end HB.out hb)
  clear hb
  refine hK.out _ _ (HSp.out _ bM) (fun _ => ?_)
  clear hK Kn
  refine wpAnyH_ready (rs := [3]) (by decide +kernel) (by simp) ?_
  refine AllReadyH.cons (o := { dst := some 13, op := Go.Op.call { callee := Go.Callee.value (Go.Operand.func 60), args := #[Go.Operand.tmp 11, Go.Operand.tmp 12], argTypes := #[83, 39] }, type := 2, pos := "l14_gating.go:206", after := #[{ on := 1, ground := Go.Ground.data }, { on := 2, ground := Go.Ground.data }], guard := none }) rfl (fun Kn hK => ?_) AllReadyH.nil
  have KQ := Lib.hid (pick8g V1 s g2 8 _ _ _ _ _ _ _ _ HS.out (ne_src HS.out bn2) bn2)
  first | go_at_call 60 | (go_simp; go_at_call 60)
  refine KQ.out.mono ?_
  rintro e V2 ⟨n, rfl, hs, hg⟩
  try dsimp only
  try simp only [Act.put, List.setIfInBounds_toArray, List.set_cons_zero, List.set_cons_succ]
  replace bR := bR.kept hg (by simp; omega)
  replace bM := bM.kept hg (by simp; omega)
  clear bn2 KQ
  replace HB := Lib.hid (HB.out.trans (below_of_grown hg (by omega) (by have := HB.out.size; omega)))
  replace HS := Lib.hid hs
  clear hs hg
  refine hK.out _ _ (HSp.out _ bM) (fun _ => ?_)
  clear hK Kn
  refine wpAnyH_ready (rs := [4]) (by decide +kernel) (by simp) ?_
  refine AllReadyH.cons (o := { dst := none, op := Go.Op.store 25 (Go.Operand.tmp 2) (Go.Operand.tmp 10), type := 0, pos := "l14_gating.go:206", after := #[{ on := 0, ground := Go.Ground.data }, { on := 3, ground := Go.Ground.chain }, { on := 0, ground := Go.Ground.phase }, { on := 1, ground := Go.Ground.textOnly Go.Departure.lateStores }, { on := 2, ground := Go.Ground.textOnly Go.Departure.lateStores }, { on := 3, ground := Go.Ground.textOnly Go.Departure.lateStoresUnsure }], guard := none }) rfl (fun Kn hK => ?_) AllReadyH.nil
  have bR_0 := bR.cell 0 rfl
  have bR_1 := bR.cell 1 rfl
  have bR_2 := bR.cell 2 rfl
  have bR_3 := bR.cell 3 rfl
  have bR_4 := bR.cell 4 rfl
  have bR_f0 := bR.frozen 0
  have bR_f1 := bR.frozen 1
  have bR_f2 := bR.frozen 2
  have bR_f3 := bR.frozen 3
  have bR_f4 := bR.frozen 4
  have bR_l := bR.lt
  go_simp
  clear bR_0 bR_f0 bR_1 bR_f1 bR_2 bR_f2 bR_3 bR_f3 bR_4 bR_f4 bR_l
  generalize hX : World.setCell _ _ _ = V3
  have hb : Below w.heap.size w V3 := by rw [← hX]; exact (((((HB.out.setCell (p := ⟨w.heap.size, 0, none⟩) (by first | omega | (dsimp only; omega)) _).setCell (p := ⟨w.heap.size, 1, none⟩) (by first | omega | (dsimp only; omega)) _).setCell (p := ⟨w.heap.size, 2, none⟩) (by first | omega | (dsimp only; omega)) _).setCell (p := ⟨w.heap.size, 3, none⟩) (by first | omega | (dsimp only; omega)) _).setCell (p := ⟨w.heap.size, 4, none⟩) (by first | omega | (dsimp only; omega)) _)
  replace bM : Bk V3 (gM) #[.int .i64 x, .int .i64 y, .int .i64 u, .int .i64 v, .int .i64 t] 25 := by rw [← hX]; exact (Bk.other (Bk.other (Bk.other (Bk.other (Bk.other bM (by omega) 0 _) (by omega) 1 _) (by omega) 2 _) (by omega) 3 _) (by omega) 4 _)
  replace bR : Bk V3 (w.heap.size) #[.int .i64 x, .int .i64 y, .int .i64 u, .int .i64 v, .int .i64 t] 25 := by rw [← hX]; exact (Bk.set (Bk.set (Bk.set (Bk.set (Bk.set bR 0 _ rfl) 1 _ rfl) 2 _ rfl) 3 _ rfl) 4 _ rfl)
  clear hX
  replace HB := Lib.hid hb
  clear hb
  refine hK.out _ _ (HSp.out _ bM) (fun _ => ?_)
  clear hK Kn
  have hS := HSp.out _ bM
  refine wpAnyH_take (i := 5) (oi := { dst := some 3, op := Go.Op.assign (Go.Operand.tmp 13), type := 2, pos := "l14_gating.go:206", after := #[{ on := 3, ground := Go.Ground.data }, { on := 4, ground := Go.Ground.chain }, { on := 0, ground := Go.Ground.phase }, { on := 1, ground := Go.Ground.phase }, { on := 2, ground := Go.Ground.phase }, { on := 3, ground := Go.Ground.phase }, { on := 4, ground := Go.Ground.phase }], guard := none }) (v := ?_) rfl (by kernel_rfl) (by kernel_rfl) (by kernel_rfl) (fun _ _ _ h => h) (Or.inl ⟨by rfl, ?_⟩) hS ?_
  rotate_left
  · (intro w hSw; have hSw := (HSd.out w).1 hSw; go_split_ands; go_simp) <;> with_reducible rfl
  clear hS
  try simp only [Act.put, List.setIfInBounds_toArray, List.set_cons_zero, List.set_cons_succ]
  refine wpAnyH_done (by kernel_rfl) ?_ _
  have c0 := bR.cell 0 rfl
  have c1 := bR.cell 1 rfl
  have c2 := bR.cell 2 rfl
  have c3 := bR.cell 3 rfl
  have c4 := bR.cell 4 rfl
  repeat (first | go_values | go_skip | go_guarded | go_step | go_upon | (dsimp only))
  exact bodyPost_ret (v := .tuple #[.agg #[.int .i64 x, .int .i64 y, .int .i64 u, .int .i64 v, .int .i64 t], .int .i64 n]) (by simp [results, Try.results15, go_sem, c0, c1, c2, c3, c4]) rfl ⟨x, y, u, v, t, n, rfl, HB.out⟩

set_option maxRecDepth 100000 in
set_option maxHeartbeats 8000000 in
theorem dgc_any (w : World) (a0 : Option Addr) (cap : Nat) (zs : List Int) (h : Code8 w w.heap.size a0 zs) :
    Calls Try.prog 30 #[.slice a0 zs.length cap] w (McD w) := by
  have HC := Lib.hid h
  clear h
  go_enter Try.func30, Try.ntmps30
  go_wp2_with fail
  generalize hW : World.alloc _ _ = W
  have bR1 : Bk W (w.heap.size) #[.int .i64 0, .int .i64 0, .int .i64 0, .int .i64 0, .int .i64 0] 25 := by rw [← hW]; repeat (first | (refine Bk.new' ?_; (simp; done)) | refine Bk.alloc ?_ _)
  have bR2 : Bk W (w.heap.size + 1) #[.int .i64 0, .int .i64 0] 45 := by rw [← hW]; repeat (first | (refine Bk.new' ?_; (simp; done)) | refine Bk.alloc ?_ _)
  have hb : Below w.heap.size w W := by rw [← hW]; exact (by repeat (first | exact Below.refl _ _ | (refine Below.alloc ?_ (by simp <;> omega) _) | (refine Below.setCell ?_ (by simp <;> omega) _) | (refine Below.drew ?_) | (refine bel_drewN ?_ _)))
  clear hW
  have hlT := bR2.lt
  refine (from_any _ _ _ zs ((HC.out.below hb (Nat.le_refl _)).more hb.size)).mono ?_
  rintro e w1 ⟨s, rfl, hs, hsrc, hb1⟩
  replace bR1 := bR1.on hb1
  replace bR2 := bR2.on hb1
  have HB := Lib.hid (bel_end hb hb1)
  have HS := Lib.hid hsrc
  have hls := HS.out.lt
  have hR : w.heap.size + 2 ≤ s := by omega
  clear hs hsrc hb hb1 HC hlT
  have bR1_0 := bR1.cell 0 rfl
  have bR1_1 := bR1.cell 1 rfl
  have bR1_2 := bR1.cell 2 rfl
  have bR1_3 := bR1.cell 3 rfl
  have bR1_4 := bR1.cell 4 rfl
  have bR1_l := bR1.lt
  have bR2_0 := bR2.cell 0 rfl
  have bR2_1 := bR2.cell 1 rfl
  have bR2_l := bR2.lt
  go_wp2_with fail
  refine (dmo_any _ s HS.out).mono ?_
  rintro e ws2 ⟨x, y, u, v, t, rfl, hs, hg⟩
  replace bR1 := bR1.kept hg (by simp; omega)
  replace bR2 := bR2.kept hg (by simp; omega)
  have hz2 := hg.size
  replace HB := Lib.hid (HB.out.trans (below_of_grown hg (by omega) (by have := HB.out.size; omega)))
  replace HS := Lib.hid hs
  replace hls := HS.out.lt
  clear hs hg
  clear bR1_0 bR1_1 bR1_2 bR1_3 bR1_4 bR1_l bR2_0 bR2_1 bR2_l
  have bR1_0 := bR1.cell 0 rfl
  have bR1_1 := bR1.cell 1 rfl
  have bR1_2 := bR1.cell 2 rfl
  have bR1_3 := bR1.cell 3 rfl
  have bR1_4 := bR1.cell 4 rfl
  have bR1_l := bR1.lt
  have bR2_0 := bR2.cell 0 rfl
  have bR2_1 := bR2.cell 1 rfl
  have bR2_l := bR2.lt
  go_upto_region 3 with fail
  clear bR1_0 bR1_1 bR1_2 bR1_3 bR1_4 bR1_l bR2_0 bR2_1 bR2_l
  generalize hW : World.alloc _ _ = wn3
  have hb : Below ws2.heap.size ws2 wn3 := by rw [← hW]; exact (by repeat (first | exact Below.refl _ _ | (refine Below.alloc ?_ (by simp <;> omega) _) | (refine Below.setCell ?_ (by simp <;> omega) _) | (refine Below.drew ?_) | (refine bel_drewN ?_ _)))
  obtain ⟨gM, hg0⟩ : ∃ g, g = ws2.heap.size := ⟨_, rfl⟩
  obtain ⟨x, y, u, v, t, bM⟩ : ∃ x y u v t, Bk wn3 gM #[.int .i64 x, .int .i64 y, .int .i64 u, .int .i64 v, .int .i64 t] 25 := ⟨_, _, _, _, _, by rw [← hW, hg0]; repeat (first | (refine Bk.new' ?_; (simp; done)) | refine Bk.alloc ?_ _)⟩
  have lsbM : s < gM := by omega
  have nebM_bR1 : gM ≠ w.heap.size := by have := bR1.lt; omega
  have nebM_bR2 : gM ≠ w.heap.size + 1 := by have := bR2.lt; omega
  have lwbM : w.heap.size ≤ gM := by have := HB.out.size; omega
  try rw [← hg0]
  clear hW hg0
  replace bR1 := bR1.on hb
  replace bR2 := bR2.on hb
  replace HB := Lib.hid (bel_end HB.out hb)
  replace HS := Lib.hid (HS.out.bel hb)
  replace hls := HS.out.lt
  clear hb
  have bR1_0 := bR1.cell 0 rfl
  have bR1_1 := bR1.cell 1 rfl
  have bR1_2 := bR1.cell 2 rfl
  have bR1_3 := bR1.cell 3 rfl
  have bR1_4 := bR1.cell 4 rfl
  have bR1_l := bR1.lt
  have bR2_0 := bR2.cell 0 rfl
  have bR2_1 := bR2.cell 1 rfl
  have bR2_l := bR2.lt
  have bM_0 := bM.cell 0 rfl
  have bM_1 := bM.cell 1 rfl
  have bM_2 := bM.cell 2 rfl
  have bM_3 := bM.cell 3 rfl
  have bM_4 := bM.cell 4 rfl
  have bM_l := bM.lt
  go_upto_region 3 with fail
  clear bR1_0 bR1_1 bR1_2 bR1_3 bR1_4 bR1_l bR2_0 bR2_1 bR2_l bM_0 bM_1 bM_2 bM_3 bM_4 bM_l
  obtain ⟨S, hSd⟩ : ∃ S : World → Prop, ∀ w', S w' ↔ (w'.cell? ⟨gM, 0, none⟩ = some (.int .i64 x) ∧ w'.cell? ⟨gM, 1, none⟩ = some (.int .i64 y) ∧ w'.cell? ⟨gM, 2, none⟩ = some (.int .i64 u) ∧ w'.cell? ⟨gM, 3, none⟩ = some (.int .i64 v) ∧ w'.cell? ⟨gM, 4, none⟩ = some (.int .i64 t)) := ⟨_, fun _ => Iff.rfl⟩
  have HSp : Hid (∀ w' : World, Bk w' (gM) #[.int .i64 x, .int .i64 y, .int .i64 u, .int .i64 v, .int .i64 t] 25 → S w') := Lib.hid (fun w' bM => (hSd w').2 ⟨bM.cell 0 rfl, bM.cell 1 rfl, bM.cell 2 rfl, bM.cell 3 rfl, bM.cell 4 rfl⟩)
  have HSd := Lib.hid hSd
  clear hSd
  refine wp_region_held_drew (S := S) (by kernel_rfl) ?_ (fun hH => ?_)
  · exact (HSp.out _ bM : S (World.drew wn3))
  clear hH
  generalize hX : World.drew wn3 = V0
  replace bR1 : Bk V0 (w.heap.size) #[.int .i64 0, .int .i64 0, .int .i64 0, .int .i64 0, .int .i64 0] 25 := by rw [← hX]; exact bR1
  replace bR2 : Bk V0 (w.heap.size + 1) #[.int .i64 0, .int .i64 0] 45 := by rw [← hX]; exact bR2
  replace bM : Bk V0 (gM) #[.int .i64 x, .int .i64 y, .int .i64 u, .int .i64 v, .int .i64 t] 25 := by rw [← hX]; exact bM
  have hb : Below wn3.heap.size wn3 V0 := by rw [← hX]; exact (Below.refl _ _).drew
  clear hX
  replace HS := Lib.hid (HS.out.bel hb)
  replace HB := Lib.hid (bel_end HB.out hb)
  clear hb
  have hS := HSp.out _ bM
  refine wpAnyH_take (i := 0) (oi := { dst := some 10, op := Go.Op.load 25 (Go.Operand.tmp 5), type := 25, pos := "l14_gating.go:212", after := #[], guard := none }) (v := ?_) rfl (by kernel_rfl) (by kernel_rfl) (by kernel_rfl) (fun _ _ _ h => h) (Or.inl ⟨by rfl, ?_⟩) hS ?_
  rotate_left
  · (intro w hSw; have hSw := (HSd.out w).1 hSw; go_split_ands; go_simp) <;> with_reducible rfl
  clear hS
  try simp only [Act.put, List.setIfInBounds_toArray, List.set_cons_zero, List.set_cons_succ]
  have hS := HSp.out _ bM
  refine wpAnyH_take (i := 1) (oi := { dst := some 11, op := Go.Op.move (Go.Operand.tmp 4), type := 83, pos := "l14_gating.go:212", after := #[], guard := none }) (v := ?_) rfl (by kernel_rfl) (by kernel_rfl) (by kernel_rfl) (fun _ _ _ h => h) (Or.inl ⟨by rfl, ?_⟩) hS ?_
  rotate_left
  · (intro w hSw; have hSw := (HSd.out w).1 hSw; go_split_ands; go_simp) <;> with_reducible rfl
  clear hS
  try simp only [Act.put, List.setIfInBounds_toArray, List.set_cons_zero, List.set_cons_succ]
  have hS := HSp.out _ bM
  refine wpAnyH_take (i := 2) (oi := { dst := some 12, op := Go.Op.load 25 (Go.Operand.tmp 5), type := 25, pos := "l14_gating.go:212", after := #[], guard := none }) (v := ?_) rfl (by kernel_rfl) (by kernel_rfl) (by kernel_rfl) (fun _ _ _ h => h) (Or.inl ⟨by rfl, ?_⟩) hS ?_
  rotate_left
  · (intro w hSw; have hSw := (HSd.out w).1 hSw; go_split_ands; go_simp) <;> with_reducible rfl
  clear hS
  try simp only [Act.put, List.setIfInBounds_toArray, List.set_cons_zero, List.set_cons_succ]
  refine wpAnyH_ready (rs := [3]) (by decide +kernel) (by simp) ?_
  refine AllReadyH.cons (o := { dst := some 13, op := Go.Op.call { callee := Go.Callee.value (Go.Operand.func 78), args := #[Go.Operand.tmp 11, Go.Operand.tmp 12], argTypes := #[83, 25] }, type := 45, pos := "l14_gating.go:212", after := #[{ on := 1, ground := Go.Ground.data }, { on := 2, ground := Go.Ground.data }], guard := none }) rfl (fun Kn hK => ?_) AllReadyH.nil
  first | go_at_call 78 | (go_simp; go_at_call 78)
  refine (dct14_any _ s x y u v t HS.out).mono ?_
  rintro e V1 ⟨p, q, rfl, hs, hg⟩
  try dsimp only
  try simp only [Act.put, List.setIfInBounds_toArray, List.set_cons_zero, List.set_cons_succ]
  replace bR1 := bR1.kept hg (by simp; omega)
  replace bR2 := bR2.kept hg (by simp; omega)
  replace bM := bM.kept hg (by simp; omega)
  replace HB := Lib.hid (HB.out.trans (below_of_grown hg (by omega) (by have := HB.out.size; omega)))
  replace HS := Lib.hid hs
  clear hs hg
  refine hK.out _ _ (HSp.out _ bM) (fun _ => ?_)
  clear hK Kn
  refine wpAnyH_ready (rs := [4]) (by decide +kernel) (by simp) ?_
  refine AllReadyH.cons (o := { dst := none, op := Go.Op.store 25 (Go.Operand.tmp 2) (Go.Operand.tmp 10), type := 0, pos := "l14_gating.go:212", after := #[{ on := 0, ground := Go.Ground.data }, { on := 3, ground := Go.Ground.chain }, { on := 0, ground := Go.Ground.phase }, { on := 1, ground := Go.Ground.textOnly Go.Departure.lateStores }, { on := 2, ground := Go.Ground.textOnly Go.Departure.lateStores }, { on := 3, ground := Go.Ground.textOnly Go.Departure.lateStoresUnsure }], guard := none }) rfl (fun Kn hK => ?_) AllReadyH.nil
  have bR1_0 := bR1.cell 0 rfl
  have bR1_1 := bR1.cell 1 rfl
  have bR1_2 := bR1.cell 2 rfl
  have bR1_3 := bR1.cell 3 rfl
  have bR1_4 := bR1.cell 4 rfl
  have bR1_f0 := bR1.frozen 0
  have bR1_f1 := bR1.frozen 1
  have bR1_f2 := bR1.frozen 2
  have bR1_f3 := bR1.frozen 3
  have bR1_f4 := bR1.frozen 4
  have bR1_l := bR1.lt
  go_simp
  clear bR1_0 bR1_f0 bR1_1 bR1_f1 bR1_2 bR1_f2 bR1_3 bR1_f3 bR1_4 bR1_f4 bR1_l
  generalize hX : World.setCell _ _ _ = V2
  have hb : Below w.heap.size w V2 := by rw [← hX]; exact (((((HB.out.setCell (p := ⟨w.heap.size, 0, none⟩) (by first | omega | (dsimp only; omega)) _).setCell (p := ⟨w.heap.size, 1, none⟩) (by first | omega | (dsimp only; omega)) _).setCell (p := ⟨w.heap.size, 2, none⟩) (by first | omega | (dsimp only; omega)) _).setCell (p := ⟨w.heap.size, 3, none⟩) (by first | omega | (dsimp only; omega)) _).setCell (p := ⟨w.heap.size, 4, none⟩) (by first | omega | (dsimp only; omega)) _)
  replace bR2 : Bk V2 (w.heap.size + 1) #[.int .i64 0, .int .i64 0] 45 := by rw [← hX]; exact (Bk.other (Bk.other (Bk.other (Bk.other (Bk.other bR2 (by omega) 0 _) (by omega) 1 _) (by omega) 2 _) (by omega) 3 _) (by omega) 4 _)
  replace bM : Bk V2 (gM) #[.int .i64 x, .int .i64 y, .int .i64 u, .int .i64 v, .int .i64 t] 25 := by rw [← hX]; exact (Bk.other (Bk.other (Bk.other (Bk.other (Bk.other bM (by omega) 0 _) (by omega) 1 _) (by omega) 2 _) (by omega) 3 _) (by omega) 4 _)
  replace bR1 : Bk V2 (w.heap.size) #[.int .i64 x, .int .i64 y, .int .i64 u, .int .i64 v, .int .i64 t] 25 := by rw [← hX]; exact (Bk.set (Bk.set (Bk.set (Bk.set (Bk.set bR1 0 _ rfl) 1 _ rfl) 2 _ rfl) 3 _ rfl) 4 _ rfl)
  clear hX
  replace HB := Lib.hid hb
  clear hb
  refine hK.out _ _ (HSp.out _ bM) (fun _ => ?_)
  clear hK Kn
  refine wpAnyH_ready (rs := [5]) (by decide +kernel) (by simp) ?_
  refine AllReadyH.cons (o := { dst := none, op := Go.Op.store 45 (Go.Operand.tmp 3) (Go.Operand.tmp 13), type := 0, pos := "l14_gating.go:212", after := #[{ on := 3, ground := Go.Ground.data }, { on := 4, ground := Go.Ground.chain }, { on := 0, ground := Go.Ground.phase }, { on := 1, ground := Go.Ground.phase }, { on := 2, ground := Go.Ground.phase }, { on := 3, ground := Go.Ground.phase }, { on := 4, ground := Go.Ground.phase }], guard := none }) rfl (fun Kn hK => ?_) AllReadyH.nil
  have bR2_0 := bR2.cell 0 rfl
  have bR2_1 := bR2.cell 1 rfl
  have bR2_f0 := bR2.frozen 0
  have bR2_f1 := bR2.frozen 1
  have bR2_l := bR2.lt
  go_simp
  clear bR2_0 bR2_f0 bR2_1 bR2_f1 bR2_l
  generalize hX : World.setCell _ _ _ = V3
  have hb : Below w.heap.size w V3 := by rw [← hX]; exact ((HB.out.setCell (p := ⟨w.heap.size + 1, 0, none⟩) (by first | omega | (dsimp only; omega)) _).setCell (p := ⟨w.heap.size + 1, 1, none⟩) (by first | omega | (dsimp only; omega)) _)
  replace bR1 : Bk V3 (w.heap.size) #[.int .i64 x, .int .i64 y, .int .i64 u, .int .i64 v, .int .i64 t] 25 := by rw [← hX]; exact (Bk.other (Bk.other bR1 (by omega) 0 _) (by omega) 1 _)
  replace bM : Bk V3 (gM) #[.int .i64 x, .int .i64 y, .int .i64 u, .int .i64 v, .int .i64 t] 25 := by rw [← hX]; exact (Bk.other (Bk.other bM (by omega) 0 _) (by omega) 1 _)
  replace bR2 : Bk V3 (w.heap.size + 1) #[.int .i64 p, .int .i64 q] 45 := by rw [← hX]; exact (Bk.set (Bk.set bR2 0 _ rfl) 1 _ rfl)
  clear hX
  replace HB := Lib.hid hb
  clear hb
  refine hK.out _ _ (HSp.out _ bM) (fun _ => ?_)
  clear hK Kn
  refine wpAnyH_done (by kernel_rfl) ?_ _
  have cbR10 := bR1.cell 0 rfl
  have cbR11 := bR1.cell 1 rfl
  have cbR12 := bR1.cell 2 rfl
  have cbR13 := bR1.cell 3 rfl
  have cbR14 := bR1.cell 4 rfl
  have cbR20 := bR2.cell 0 rfl
  have cbR21 := bR2.cell 1 rfl
  repeat (first | go_values | go_skip | go_guarded | go_step | go_upon | (dsimp only))
  exact bodyPost_ret (v := .tuple #[.agg #[.int .i64 x, .int .i64 y, .int .i64 u, .int .i64 v, .int .i64 t], .agg #[.int .i64 p, .int .i64 q]]) (by simp [results, Try.results30, go_sem, cbR10, cbR11, cbR12, cbR13, cbR14, cbR20, cbR21]) rfl ⟨x, y, u, v, t, p, q, rfl, HB.out⟩

set_option maxRecDepth 100000 in
set_option maxHeartbeats 8000000 in
theorem dci_any (w : World) (a0 : Option Addr) (cap : Nat) (zs : List Int) (h : Code8 w w.heap.size a0 zs) :
    Calls Try.prog 25 #[.slice a0 zs.length cap] w (MlD w) := by
  have HC := Lib.hid h
  clear h
  go_enter Try.func25, Try.ntmps25
  go_wp2_with fail
  generalize hW : World.alloc _ _ = W
  have bR : Bk W (w.heap.size) #[.int .i64 0, .int .i64 0, .int .i64 0, .int .i64 0, .int .i64 0] 25 := by rw [← hW]; repeat (first | (refine Bk.new' ?_; (simp; done)) | refine Bk.alloc ?_ _)
  have hb : Below w.heap.size w W := by rw [← hW]; exact (by repeat (first | exact Below.refl _ _ | (refine Below.alloc ?_ (by simp <;> omega) _) | (refine Below.setCell ?_ (by simp <;> omega) _) | (refine Below.drew ?_) | (refine bel_drewN ?_ _)))
  clear hW
  have hlT := bR.lt
  refine (from_any _ _ _ zs ((HC.out.below hb (Nat.le_refl _)).more hb.size)).mono ?_
  rintro e w1 ⟨s, rfl, hs, hsrc, hb1⟩
  replace bR := bR.on hb1
  have HB := Lib.hid (bel_end hb hb1)
  have HS := Lib.hid hsrc
  have hls := HS.out.lt
  have hR : w.heap.size + 1 ≤ s := by omega
  clear hs hsrc hb hb1 HC hlT
  have bR_0 := bR.cell 0 rfl
  have bR_1 := bR.cell 1 rfl
  have bR_2 := bR.cell 2 rfl
  have bR_3 := bR.cell 3 rfl
  have bR_4 := bR.cell 4 rfl
  have bR_l := bR.lt
  go_wp2_with fail
  refine (dmo_any _ s HS.out).mono ?_
  rintro e ws2 ⟨x, y, u, v, t, rfl, hs, hg⟩
  replace bR := bR.kept hg (by simp; omega)
  have hz2 := hg.size
  replace HB := Lib.hid (HB.out.trans (below_of_grown hg (by omega) (by have := HB.out.size; omega)))
  replace HS := Lib.hid hs
  replace hls := HS.out.lt
  clear hs hg
  clear bR_0 bR_1 bR_2 bR_3 bR_4 bR_l
  have bR_0 := bR.cell 0 rfl
  have bR_1 := bR.cell 1 rfl
  have bR_2 := bR.cell 2 rfl
  have bR_3 := bR.cell 3 rfl
  have bR_4 := bR.cell 4 rfl
  have bR_l := bR.lt
  go_upto_region 3 with fail
  clear bR_0 bR_1 bR_2 bR_3 bR_4 bR_l
  generalize hW : World.alloc _ _ = wn3
  have hb : Below ws2.heap.size ws2 wn3 := by rw [← hW]; exact (by repeat (first | exact Below.refl _ _ | (refine Below.alloc ?_ (by simp <;> omega) _) | (refine Below.setCell ?_ (by simp <;> omega) _) | (refine Below.drew ?_) | (refine bel_drewN ?_ _)))
  obtain ⟨gM, hg0⟩ : ∃ g, g = ws2.heap.size := ⟨_, rfl⟩
  obtain ⟨x, y, u, v, t, bM⟩ : ∃ x y u v t, Bk wn3 gM #[.int .i64 x, .int .i64 y, .int .i64 u, .int .i64 v, .int .i64 t] 25 := ⟨_, _, _, _, _, by rw [← hW, hg0]; repeat (first | (refine Bk.new' ?_; (simp; done)) | refine Bk.alloc ?_ _)⟩
  have lsbM : s < gM := by omega
  have nebM_bR : gM ≠ w.heap.size := by have := bR.lt; omega
  have lwbM : w.heap.size ≤ gM := by have := HB.out.size; omega
  try rw [← hg0]
  clear hW hg0
  replace bR := bR.on hb
  replace HB := Lib.hid (bel_end HB.out hb)
  replace HS := Lib.hid (HS.out.bel hb)
  replace hls := HS.out.lt
  clear hb
  have bR_0 := bR.cell 0 rfl
  have bR_1 := bR.cell 1 rfl
  have bR_2 := bR.cell 2 rfl
  have bR_3 := bR.cell 3 rfl
  have bR_4 := bR.cell 4 rfl
  have bR_l := bR.lt
  have bM_0 := bM.cell 0 rfl
  have bM_1 := bM.cell 1 rfl
  have bM_2 := bM.cell 2 rfl
  have bM_3 := bM.cell 3 rfl
  have bM_4 := bM.cell 4 rfl
  have bM_l := bM.lt
  go_upto_region 3 with fail
  clear bR_0 bR_1 bR_2 bR_3 bR_4 bR_l bM_0 bM_1 bM_2 bM_3 bM_4 bM_l
  obtain ⟨S, hSd⟩ : ∃ S : World → Prop, ∀ w', S w' ↔ (w'.cell? ⟨gM, 0, none⟩ = some (.int .i64 x) ∧ w'.cell? ⟨gM, 1, none⟩ = some (.int .i64 y) ∧ w'.cell? ⟨gM, 2, none⟩ = some (.int .i64 u) ∧ w'.cell? ⟨gM, 3, none⟩ = some (.int .i64 v) ∧ w'.cell? ⟨gM, 4, none⟩ = some (.int .i64 t)) := ⟨_, fun _ => Iff.rfl⟩
  have HSp : Hid (∀ w' : World, Bk w' (gM) #[.int .i64 x, .int .i64 y, .int .i64 u, .int .i64 v, .int .i64 t] 25 → S w') := Lib.hid (fun w' bM => (hSd w').2 ⟨bM.cell 0 rfl, bM.cell 1 rfl, bM.cell 2 rfl, bM.cell 3 rfl, bM.cell 4 rfl⟩)
  have HSd := Lib.hid hSd
  clear hSd
  refine wp_region_held_drew (S := S) (by kernel_rfl) ?_ (fun hH => ?_)
  · exact (HSp.out _ bM : S (World.drew wn3))
  clear hH
  generalize hX : World.drew wn3 = V0
  replace bR : Bk V0 (w.heap.size) #[.int .i64 0, .int .i64 0, .int .i64 0, .int .i64 0, .int .i64 0] 25 := by rw [← hX]; exact bR
  replace bM : Bk V0 (gM) #[.int .i64 x, .int .i64 y, .int .i64 u, .int .i64 v, .int .i64 t] 25 := by rw [← hX]; exact bM
  have hb : Below wn3.heap.size wn3 V0 := by rw [← hX]; exact (Below.refl _ _).drew
  clear hX
  replace HS := Lib.hid (HS.out.bel hb)
  replace HB := Lib.hid (bel_end HB.out hb)
  clear hb
  have hS := HSp.out _ bM
  refine wpAnyH_take (i := 0) (oi := { dst := some 10, op := Go.Op.load 25 (Go.Operand.tmp 5), type := 25, pos := "l14_gating.go:220", after := #[], guard := none }) (v := ?_) rfl (by kernel_rfl) (by kernel_rfl) (by kernel_rfl) (fun _ _ _ h => h) (Or.inl ⟨by rfl, ?_⟩) hS ?_
  rotate_left
  · (intro w hSw; have hSw := (HSd.out w).1 hSw; go_split_ands; go_simp) <;> with_reducible rfl
  clear hS
  try simp only [Act.put, List.setIfInBounds_toArray, List.set_cons_zero, List.set_cons_succ]
  have hS := HSp.out _ bM
  refine wpAnyH_take (i := 1) (oi := { dst := some 11, op := Go.Op.move (Go.Operand.tmp 4), type := 83, pos := "l14_gating.go:220", after := #[], guard := none }) (v := ?_) rfl (by kernel_rfl) (by kernel_rfl) (by kernel_rfl) (fun _ _ _ h => h) (Or.inl ⟨by rfl, ?_⟩) hS ?_
  rotate_left
  · (intro w hSw; have hSw := (HSd.out w).1 hSw; go_split_ands; go_simp) <;> with_reducible rfl
  clear hS
  try simp only [Act.put, List.setIfInBounds_toArray, List.set_cons_zero, List.set_cons_succ]
  have hS := HSp.out _ bM
  refine wpAnyH_take (i := 2) (oi := { dst := some 12, op := Go.Op.load 25 (Go.Operand.tmp 5), type := 25, pos := "l14_gating.go:220", after := #[], guard := none }) (v := ?_) rfl (by kernel_rfl) (by kernel_rfl) (by kernel_rfl) (fun _ _ _ h => h) (Or.inl ⟨by rfl, ?_⟩) hS ?_
  rotate_left
  · (intro w hSw; have hSw := (HSd.out w).1 hSw; go_split_ands; go_simp) <;> with_reducible rfl
  clear hS
  try simp only [Act.put, List.setIfInBounds_toArray, List.set_cons_zero, List.set_cons_succ]
  refine wpAnyH_ready (rs := [3]) (by decide +kernel) (by simp) ?_
  refine AllReadyH.cons (o := { dst := some 13, op := Go.Op.call { callee := Go.Callee.value (Go.Operand.func 66), args := #[Go.Operand.tmp 11, Go.Operand.tmp 12], argTypes := #[83, 25] }, type := 29, pos := "l14_gating.go:220", after := #[{ on := 1, ground := Go.Ground.data }, { on := 2, ground := Go.Ground.data }], guard := none }) rfl (fun Kn hK => ?_) AllReadyH.nil
  first | go_at_call 66 | (go_simp; go_at_call 66)
  refine (dcs14_any _ s x y u v t HS.out).mono ?_
  rintro e V1 ⟨gL, cL, nL, LL, rfl, hn7, hD⟩
  try dsimp only
  try simp only [Act.put, List.setIfInBounds_toArray, List.set_cons_zero, List.set_cons_succ]
  have hgR : gL ≠ w.heap.size := by have := bR.lt; have := hD.lo.1; omega
  have hs := hD.src
  have hg := hD.grw
  have HCT := Lib.hid hD.cts
  replace bR := bR.kept hg (by simp; omega)
  replace bM := bM.kept hg (by simp; omega)
  replace HB := Lib.hid (HB.out.trans (below_of_grown hg (by omega) (by have := HB.out.size; omega)))
  replace HS := Lib.hid hs
  clear hs hg hD
  refine hK.out _ _ (HSp.out _ bM) (fun _ => ?_)
  clear hK Kn
  refine wpAnyH_ready (rs := [4]) (by decide +kernel) (by simp) ?_
  refine AllReadyH.cons (o := { dst := none, op := Go.Op.store 25 (Go.Operand.tmp 2) (Go.Operand.tmp 10), type := 0, pos := "l14_gating.go:220", after := #[{ on := 0, ground := Go.Ground.data }, { on := 3, ground := Go.Ground.chain }, { on := 0, ground := Go.Ground.phase }, { on := 1, ground := Go.Ground.textOnly Go.Departure.lateStores }, { on := 2, ground := Go.Ground.textOnly Go.Departure.lateStores }, { on := 3, ground := Go.Ground.textOnly Go.Departure.lateStoresUnsure }], guard := none }) rfl (fun Kn hK => ?_) AllReadyH.nil
  have bR_0 := bR.cell 0 rfl
  have bR_1 := bR.cell 1 rfl
  have bR_2 := bR.cell 2 rfl
  have bR_3 := bR.cell 3 rfl
  have bR_4 := bR.cell 4 rfl
  have bR_f0 := bR.frozen 0
  have bR_f1 := bR.frozen 1
  have bR_f2 := bR.frozen 2
  have bR_f3 := bR.frozen 3
  have bR_f4 := bR.frozen 4
  have bR_l := bR.lt
  go_simp
  clear bR_0 bR_f0 bR_1 bR_f1 bR_2 bR_f2 bR_3 bR_f3 bR_4 bR_f4 bR_l
  generalize hX : World.setCell _ _ _ = V2
  have hb : Below w.heap.size w V2 := by rw [← hX]; exact (((((HB.out.setCell (p := ⟨w.heap.size, 0, none⟩) (by first | omega | (dsimp only; omega)) _).setCell (p := ⟨w.heap.size, 1, none⟩) (by first | omega | (dsimp only; omega)) _).setCell (p := ⟨w.heap.size, 2, none⟩) (by first | omega | (dsimp only; omega)) _).setCell (p := ⟨w.heap.size, 3, none⟩) (by first | omega | (dsimp only; omega)) _).setCell (p := ⟨w.heap.size, 4, none⟩) (by first | omega | (dsimp only; omega)) _)
  try replace HCT := Lib.hid (show Cts V2 _ (some ⟨gL, 0, none⟩) (prL LL nL) by rw [← hX]; exact HCT.out.blk (set5_far hgR _ _ _ _ _))
  replace bM : Bk V2 (gM) #[.int .i64 x, .int .i64 y, .int .i64 u, .int .i64 v, .int .i64 t] 25 := by rw [← hX]; exact (Bk.other (Bk.other (Bk.other (Bk.other (Bk.other bM (by omega) 0 _) (by omega) 1 _) (by omega) 2 _) (by omega) 3 _) (by omega) 4 _)
  replace bR : Bk V2 (w.heap.size) #[.int .i64 x, .int .i64 y, .int .i64 u, .int .i64 v, .int .i64 t] 25 := by rw [← hX]; exact (Bk.set (Bk.set (Bk.set (Bk.set (Bk.set bR 0 _ rfl) 1 _ rfl) 2 _ rfl) 3 _ rfl) 4 _ rfl)
  clear hX
  replace HB := Lib.hid hb
  clear hb
  refine hK.out _ _ (HSp.out _ bM) (fun _ => ?_)
  clear hK Kn
  have hS := HSp.out _ bM
  refine wpAnyH_take (i := 5) (oi := { dst := some 3, op := Go.Op.assign (Go.Operand.tmp 13), type := 29, pos := "l14_gating.go:220", after := #[{ on := 3, ground := Go.Ground.data }, { on := 4, ground := Go.Ground.chain }, { on := 0, ground := Go.Ground.phase }, { on := 1, ground := Go.Ground.phase }, { on := 2, ground := Go.Ground.phase }, { on := 3, ground := Go.Ground.phase }, { on := 4, ground := Go.Ground.phase }], guard := none }) (v := ?_) rfl (by kernel_rfl) (by kernel_rfl) (by kernel_rfl) (fun _ _ _ h => h) (Or.inl ⟨by rfl, ?_⟩) hS ?_
  rotate_left
  · (intro w hSw; have hSw := (HSd.out w).1 hSw; go_split_ands; go_simp) <;> with_reducible rfl
  clear hS
  try simp only [Act.put, List.setIfInBounds_toArray, List.set_cons_zero, List.set_cons_succ]
  refine wpAnyH_done (by kernel_rfl) ?_ _
  have c0 := bR.cell 0 rfl
  have c1 := bR.cell 1 rfl
  have c2 := bR.cell 2 rfl
  have c3 := bR.cell 3 rfl
  have c4 := bR.cell 4 rfl
  repeat (first | go_values | go_skip | go_guarded | go_step | go_upon | (dsimp only))
  exact bodyPost_ret (v := .tuple #[.agg #[.int .i64 x, .int .i64 y, .int .i64 u, .int .i64 v, .int .i64 t], .slice (some ⟨gL, 0, none⟩) nL cL]) (by simp [results, Try.results25, go_sem, c0, c1, c2, c3, c4]) rfl ⟨x, y, u, v, t, some ⟨gL, 0, none⟩, cL, prL LL nL, by rw [prL_len], by rw [prL_len]; exact hn7, HCT.out.fit, HB.out⟩

set_option maxRecDepth 100000 in
set_option maxHeartbeats 4000000 in
theorem dac_any (w : World) (a0 : Option Addr) (cap : Nat) (zs : List Int) (h : Code8 w w.heap.size a0 zs) :
    Calls Try.prog 18 #[.slice a0 zs.length cap] w (ClD w) := by
  have HC := Lib.hid h
  clear h
  go_enter Try.func18, Try.ntmps18
  go_wp2_with fail
  refine (from_any _ _ _ zs HC.out).mono ?_
  rintro e w1 ⟨s, rfl, hs, hsrc, hb⟩
  have HS := Lib.hid hsrc
  have HB := Lib.hid hb
  clear hsrc hb HC
  go_wp2_with fail
  refine (dcs14_any _ s 0 0 0 0 20 HS.out).mono ?_
  rintro e w2 ⟨g, c, n, L, rfl, hn, hD⟩
  have HD := Lib.hid hD
  clear hD
  go_wp2
  go_ret
  exact ⟨some ⟨g, 0, none⟩, c, prL L n, by rw [prL_len]; rfl, by rw [prL_len]; exact hn, HD.out.cts, HB.out.trans (below_of_grown HD.out.grw hs HB.out.size)⟩
end Go.Proofs.Ytdkiikmmlfdlcaa
