/- Rows of numbers that are drawn beside a source: while they grow, and when they are done. -/
import Derived.Test.YtlahgdhofakinaaPrW
import Derived.Test.YtlahgdhofakinaaPuD
import Derived.Test.YtlahgdhofakinaaDrw
namespace Go.Proofs.Ytlahgdhofakinaa
open Go.ChangeShapes Go.WideShapes Go.ChangeAt Go.RowKit Go.Shelf Num
set_option linter.unusedVariables false
set_option linter.unusedSimpArgs false
/-- rows of one's own behind a row of slices that grows beside a source -/
structure RwS (w : World) (s G c : Nat) (vs : List Value) (L : List (List Int)) (W : World) : Prop where
  len : vs.length = L.length
  row : W.ownsRow w.heap.size 38 1 (.slice (some ⟨G, 0, none⟩) L.length c) L.length vs
  src : Src W s
  grw : w.grownBy W (some s)
  inn : ∀ j, j < L.length → ∃ g d, vs[j]? = some (.slice (some ⟨g, 0, none⟩) (gR L j).length d) ∧ OwnA W w.heap.size W.heap.size (some ⟨g, 0, none⟩) d (gR L j)
  ne : ∀ i j, i < j → j < L.length → ∀ g g' l l' d d' : Nat, vs[i]? = some (.slice (some ⟨g, 0, none⟩) l d) → vs[j]? = some (.slice (some ⟨g', 0, none⟩) l' d') → g ≠ g'
section
variable {w W W' : World} {s G c : Nat} {vs : List Value} {L : List (List Int)}
theorem RwS.lo (h : RwS w s G c vs L W) : w.heap.size ≤ G ∧ G < W.heap.size := h.row.lt G rfl
theorem RwS.lit (hs : Src W s) (hg : w.grownBy W (some s)) : RwS w s W.heap.size 0 [] [] (W.alloc (.cells #[] 38)) :=
  ⟨rfl, World.ownsRow_lit (base := w.heap.size) (e := 38) (size := 1) W #[] 0 hg.size (by decide) (by decide), hs.alloc _, grown_alloc hg _, fun j hj => by simp at hj, fun i j _ hj => by simp at hj⟩
theorem RwS.draw (h : RwS w s G c vs L W) (hs : s < w.heap.size) (h1 : Src W' s) (h2 : W.grownBy W' (some s)) : RwS w s G c vs L W' :=
  ⟨h.len, h.row.kept h2 (Or.inr (by have := h.lo; simp [Value.ownBlock]; omega)), h1, grown_trans h.grw h2, fun j hj => by
    obtain ⟨g, d, e, ho⟩ := h.inn j hj
    exact ⟨g, d, e, ownA_top (ownA_frame ho (fun y hy => h2.block y (ho.own.lt y hy).2 (fun e' => by injection e' with e'; have := (ho.own.lt y hy).1; omega)) h2.size)⟩, h.ne⟩
theorem RwS.al (h : RwS w s G c vs L W) (o : Obj) : RwS w s G c vs L (W.alloc o) :=
  ⟨h.len, h.row.alloc o, h.src.alloc o, grown_alloc h.grw o, fun j hj => by
    obtain ⟨g, d, e, ho⟩ := h.inn j hj
    exact ⟨g, d, e, ownA_top (ho.on ((Below.refl _ _).alloc (Nat.le_refl _) _))⟩, h.ne⟩
theorem RwS.rlt (h : RwS w s G c vs L W) {j g l d : Nat} (hj : j < L.length) (e : vs[j]? = some (.slice (some ⟨g, 0, none⟩) l d)) : w.heap.size ≤ g ∧ g < W.heap.size := by
  obtain ⟨g', d', e', ho⟩ := h.inn j hj
  rw [e] at e'
  simp only [Option.some.injEq, Value.slice.injEq, Addr.mk.injEq, and_true] at e'
  obtain ⟨rfl, -⟩ := e'
  exact ho.own.lt g rfl
/-- one row more -/
theorem RwS.snoc {w9 : World} {o : Obj} {G' c' g d : Nat} {zs : List Int} (h : RwS w s G c vs L W) (hs : s < w.heap.size) (ho : OwnA W w.heap.size W.heap.size (some ⟨g, 0, none⟩) d zs)
    (hf : ∀ j, j < L.length → ∀ g' l' d' : Nat, vs[j]? = some (.slice (some ⟨g', 0, none⟩) l' d') → g' ≠ g)
    (hown : w9.ownsRow w.heap.size 38 1 (.slice (some ⟨G', 0, none⟩) (L.length + 1) c') (L.length + 1) (vs ++ [.slice (some ⟨g, 0, none⟩) zs.length d])) (hg : (W.alloc o).grownBy w9 (some G)) : RwS w s G' c' (vs ++ [.slice (some ⟨g, 0, none⟩) zs.length d]) (L ++ [zs]) w9 := by
  have far : ∀ {g2 d2 : Nat} {zs2 : List Int}, OwnA W w.heap.size W.heap.size (some ⟨g2, 0, none⟩) d2 zs2 → g2 ≠ G := fun ho2 e => by
    refine ty_far h.row ho2.own (by decide) (show (Value.slice (some ⟨G, 0, none⟩) L.length c).ownBlock = some G from rfl) ?_
    rw [← e]; rfl
  have keep : ∀ {g2 d2 : Nat} {zs2 : List Int}, OwnA W w.heap.size W.heap.size (some ⟨g2, 0, none⟩) d2 zs2 → OwnA w9 w.heap.size w9.heap.size (some ⟨g2, 0, none⟩) d2 zs2 := fun ho2 => by
    have ha := ho2.on ((Below.refl _ W).alloc (Nat.le_refl _) o)
    exact ownA_top (ownA_frame ha (fun y hy => hg.block y (ha.own.lt y hy).2 (fun e' => far ho2 (by injection e' with e'; simp [Value.ownBlock] at hy; omega))) hg.size)
  refine ⟨by rw [List.length_append, List.length_append, h.len]; rfl, by rw [List.length_append]; exact hown, srcP_far (h.al o).src hg (by have := h.lo; omega), grownP_far (h.al o).grw hg h.lo.1, fun j hj => ?_, fun i j hij hj g1 g2 l1 l2 d1 d2 e1 e2 => ?_⟩
  · rw [List.length_append] at hj
    by_cases hl : j < L.length
    · obtain ⟨g2, d2, e, ho2⟩ := h.inn j hl
      exact ⟨g2, d2, by rw [List.getElem?_append_left (by rw [h.len]; exact hl), gR_app_lt hl]; exact e, by rw [gR_app_lt hl]; exact keep ho2⟩
    · obtain rfl : j = L.length := by simp at hj; omega
      rw [List.getElem?_append_right (by rw [h.len]; exact Nat.le_refl _), h.len, gR_app_ge (Nat.le_refl _), Nat.sub_self]
      exact ⟨g, d, rfl, keep ho⟩
  · rw [List.length_append] at hj
    rw [List.getElem?_append_left (by rw [h.len]; simp at hj; omega)] at e1
    by_cases hl : j < L.length
    · rw [List.getElem?_append_left (by rw [h.len]; exact hl)] at e2
      exact h.ne i j hij hl g1 g2 l1 l2 d1 d2 e1 e2
    · obtain rfl : j = L.length := by simp at hj; omega
      rw [List.getElem?_append_right (by rw [h.len]; exact Nat.le_refl _), h.len, Nat.sub_self] at e2
      simp only [List.getElem?_cons_zero, Option.some.injEq, Value.slice.injEq, Addr.mk.injEq, and_true] at e2
      obtain ⟨rfl, -⟩ := e2
      exact hf i (by omega) g1 l1 d1 e1
theorem RwS.cellAt (h : RwS w s G c vs L W) {j : Nat} (hj : j < L.length) : W.cell? ⟨G, j, none⟩ = vs[j]? := h.row.cellAt j (by omega)
end
section
variable {w W : World} {s G c : Nat} {vs : List Value} {L : List (List Int)}
theorem gR_set0 {Y : List Int} (h : 0 < L.length) (j : Nat) : gR (L.set 0 Y) j = if j = 0 then Y else gR L j := by
  unfold gR
  rw [List.getD_eq_getElem?_getD, List.getElem?_set, List.getD_eq_getElem?_getD]
  by_cases e : j = 0
  · subst e; simp [h]
  · rw [if_neg (fun x => e x.symm), if_neg e]
/-- one number of the first row written -/
theorem RwS.set0 (h : RwS w s G c vs L W) (hs : s < w.heap.size) {g0 l0 d0 : Nat} (e0 : vs[0]? = some (.slice (some ⟨g0, 0, none⟩) l0 d0)) (h0 : 0 < L.length) (z : Int) : RwS w s G c vs (L.set 0 ((gR L 0).set 0 z)) (W.setCell ⟨g0, 0, none⟩ (.int .i64 z)) := by
  have hg : W.grownBy (W.setCell ⟨g0, 0, none⟩ (.int .i64 z)) (some g0) := grown_set (grown_refl _ _) _ _
  obtain ⟨g1, d1, e1, ho⟩ := h.inn 0 h0
  rw [e0] at e1
  simp only [Option.some.injEq, Value.slice.injEq, Addr.mk.injEq, and_true] at e1
  obtain ⟨rfl, rfl, rfl⟩ := e1
  have hlo := (ho.own.lt g0 rfl).1
  have hGg : G ≠ g0 := fun e => by
    refine ty_far h.row ho.own (by decide) (show (Value.slice (some ⟨G, 0, none⟩) L.length c).ownBlock = some G from rfl) ?_
    rw [e]; rfl
  refine ⟨by rw [List.length_set]; exact h.len, by rw [List.length_set]; exact h.row.kept hg (Or.inr (by simp [Value.ownBlock]; omega)), srcP_far h.src hg (by omega), grownP_far h.grw hg hlo, fun j hj => ?_, fun i j hij hj => ?_⟩
  · rw [List.length_set] at hj
    rw [gR_set0 h0]
    by_cases e : j = 0
    · subst e
      rw [if_pos rfl, List.length_set]
      refine ⟨g0, d0, e0, ?_⟩
      have hst := ho.own.stored 0 (.int .i64 z)
      refine ⟨?_, fun y hy => ?_, Nat.le_refl _⟩
      · rw [List.length_set, List.map_set]
        exact hst.1
      · rw [List.length_set] at hy
        have := (ho.own.lt y hy).2
        simpa using this
    · rw [if_neg e]
      obtain ⟨g2, d2, e2, ho2⟩ := h.inn j hj
      have hne := h.ne 0 j (by omega) hj g0 g2 _ _ _ _ e0 e2
      exact ⟨g2, d2, e2, ownA_top (ownA_frame ho2 (fun y hy => hg.block y (ho2.own.lt y hy).2 (fun e' => by injection e' with e'; simp [Value.ownBlock] at hy; omega)) hg.size)⟩
  · rw [List.length_set] at hj
    exact h.ne i j hij hj
theorem RwS.bel {W' : World} (h : RwS w s G c vs L W) (hb : Below W.heap.size W W') : RwS w s G c vs L W' :=
  ⟨h.len, own_bel h.row hb, h.src.bel hb, grownP_bel h.grw hb, fun j hj => by
    obtain ⟨g, d, e, ho⟩ := h.inn j hj
    exact ⟨g, d, e, ownA_top (ho.on hb)⟩, h.ne⟩
end
/-- rows of numbers that were drawn -/
structure RwF (w : World) (s G : Nat) (L : List (List Int)) (W : World) : Prop where
  src : Src W s
  grw : w.grownBy W (some s)
  lo : w.heap.size ≤ G
  up : G < W.heap.size
  cell : ∀ j, j < L.length → ∃ g d, W.cell? ⟨G, j, none⟩ = some (.slice (some ⟨g, 0, none⟩) (gR L j).length d) ∧ (gR L j).length ≤ d ∧ w.heap.size ≤ g ∧ g < W.heap.size ∧ ∀ k, k < (gR L j).length → W.cell? ⟨g, k, none⟩ = some (.int .i64 ((gR L j).getD k 0))
section
variable {w W W' : World} {s G c : Nat} {vs : List Value} {L : List (List Int)}
theorem RwS.done (h : RwS w s G c vs L W) : RwF w s G L W := ⟨h.src, h.grw, h.lo.1, h.lo.2, fun j hj => by
  obtain ⟨g, d, e, ho⟩ := h.inn j hj
  refine ⟨g, d, by rw [h.cellAt hj, e], own_caps ho.own, (ho.own.lt g rfl).1, (ho.own.lt g rfl).2, fun k hk => ?_⟩
  obtain ⟨b, off, e2, -, hc⟩ := ho.ints.at_ hk
  simp only [Option.some.injEq, Addr.mk.injEq, and_true] at e2
  obtain ⟨e3, e4⟩ := e2
  subst e3 e4
  rw [Nat.zero_add] at hc
  exact hc⟩
theorem RwF.take (h : RwF w s G L W) (n : Nat) : RwF w s G (L.take n) W := ⟨h.src, h.grw, h.lo, h.up, fun j hj => by
  rw [List.length_take] at hj
  have e : gR (L.take n) j = gR L j := by unfold gR; rw [List.getD_eq_getElem?_getD, List.getElem?_take, if_pos (by omega), List.getD_eq_getElem?_getD]
  rw [e]
  exact h.cell j (by omega)⟩
theorem RwF.draw (h : RwF w s G L W) (hs : s < w.heap.size) (h1 : Src W' s) (h2 : W.grownBy W' (some s)) : RwF w s G L W' :=
  ⟨h1, grown_trans h.grw h2, h.lo, Nat.lt_of_lt_of_le h.up h2.size, fun j hj => by
    obtain ⟨g, d, e, h3, h4, h5, h6⟩ := h.cell j hj
    have k1 : ∀ {b o : Nat}, w.heap.size ≤ b → b < W.heap.size → W'.cell? ⟨b, o, none⟩ = W.cell? ⟨b, o, none⟩ := fun {b o} hb hb2 => World.cell?_of_block (a := ⟨b, o, none⟩) (h2.block b hb2 (fun e' => by injection e' with e'; omega))
    exact ⟨g, d, (k1 h.lo h.up).trans e, h3, h4, Nat.lt_of_lt_of_le h5 h2.size, fun k hk => (k1 h4 h5).trans (h6 k hk)⟩⟩
theorem RwF.bel (h : RwF w s G L W) (hb : Below W.heap.size W W') : RwF w s G L W' :=
  ⟨h.src.bel hb, grownP_bel h.grw hb, h.lo, Nat.lt_of_lt_of_le h.up hb.size, fun j hj => by
    obtain ⟨g, d, e, h3, h4, h5, h6⟩ := h.cell j hj
    exact ⟨g, d, (hb.cell (p := ⟨G, j, none⟩) h.up).trans e, h3, h4, Nat.lt_of_lt_of_le h5 hb.size, fun k hk => (hb.cell (p := ⟨g, k, none⟩) h5).trans (h6 k hk)⟩⟩
theorem RwF.rows (h : RwF w s G L W) : RwL W W.heap.size (some ⟨G, 0, none⟩) L := fun hp => ⟨G, 0, rfl, h.up, fun j hj => by
  obtain ⟨g, d, e, h3, h4, h5, h6⟩ := h.cell j hj
  exact ⟨some ⟨g, 0, none⟩, d, by rw [Nat.zero_add]; exact e, h3, fun _ => ⟨g, 0, rfl, h5, fun k hk => by rw [Nat.zero_add]; exact h6 k hk⟩⟩⟩
end
/-- what a draw of rows leaves -/
def RowsD (w : World) (s : Nat) (e : Ending) (w' : World) : Prop := ∃ (G c : Nat) (L : List (List Int)), e = .returned (.slice (some ⟨G, 0, none⟩) L.length c) ∧ L.length ≤ 8 ∧ (∀ j, j < L.length → (gR L j).length ≤ 8) ∧ L.length ≤ c ∧ RwF w s G L w'
def lnV : Value → Nat
  | .slice _ n _ => n
  | _ => 0
theorem pick_newS (w : World) (s cap n : Nat) (zs : List Int) (cs : Array Value) (h : Src w s) (hn : zs.length = n) (hl : 1 < n) (hl2 : n ≤ 1000) (hc : ∀ j, j < n → cs[j]? = some (.int .i64 (zs.getD j 0))) :
    Calls Try.prog 97 #[.pointer (some ⟨s, 0, none⟩), .slice (some ⟨w.heap.size, 0, none⟩) n cap] (w.alloc (.cells cs 2)) (Some1 (w.alloc (.cells cs 2)) s) := by
  have hlt := h.lt
  exact pick_some _ s _ cap n zs (h.alloc _) hn (by omega) hl hl2 (fun j hj => (cell_of_row _ _ j _ _ _ (heap_alloc_new w _)).trans (hc j hj)) (by simp)
theorem D1.ownA {w W : World} {s g c n : Nat} {Z : List Int} (h : D1 w s g c n Z W) {lo : Nat} (hlo : lo ≤ w.heap.size) : OwnA W lo W.heap.size (some ⟨g, 0, none⟩) c Z := by
  have hl := h.len
  subst hl
  exact ⟨World.ownsRow.mono h.row hlo, fun y hy => (h.row.lt y hy).2, Nat.le_refl _⟩
end Go.Proofs.Ytlahgdhofakinaa
