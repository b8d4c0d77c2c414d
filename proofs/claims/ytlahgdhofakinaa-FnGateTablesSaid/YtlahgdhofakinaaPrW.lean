/- Rows of slices that grow by one row and by many at once; a list copied into a row of one's own. -/
import Derived.Test.YtlahgdhofakinaaPwS
import Derived.Test.YtlahgdhofakinaaPuX
import Derived.Deep.AppendLies
namespace Go.Proofs.Ytlahgdhofakinaa
open Go.ChangeShapes Go.WideShapes Go.ChangeAt Go.RowKit Go.Shelf Num
set_option linter.unusedVariables false
set_option linter.unusedSimpArgs false
/-- rows of one's own behind a row of slices that grows, as a list -/
def RwG (W1 : World) (G c : Nat) (vs : List Value) (L : List (List Int)) (W : World) : Prop :=
  vs.length = L.length ∧ RowG W1 38 1 G c L.length vs W ∧ ∀ j, j < L.length → ∃ g d, vs[j]? = some (.slice (some ⟨g, 0, none⟩) (gR L j).length d) ∧ OwnA W W1.heap.size W.heap.size (some ⟨g, 0, none⟩) d (gR L j)
section
variable {W1 W W' : World} {G c : Nat} {vs : List Value} {L : List (List Int)}
theorem RwG.row (h : RwG W1 G c vs L W) : RowG W1 38 1 G c L.length vs W := h.2.1
theorem RwG.bel (h : RwG W1 G c vs L W) : Below W1.heap.size W1 W := h.2.1.bel
theorem RwG.on (h : RwG W1 G c vs L W) (hb : Below W.heap.size W W') : RwG W1 G c vs L W' :=
  ⟨h.1, h.2.1.on hb, fun j hj => by
    obtain ⟨g, d, e, ho⟩ := h.2.2 j hj
    exact ⟨g, d, e, ownA_top (ho.on hb)⟩⟩
theorem RwG.lit (hg : Bk W G #[] 38) (hG : W1.heap.size ≤ G) (hb : Below W1.heap.size W1 W) : RwG W1 G 0 [] [] W :=
  ⟨rfl, RowG.lit hg hG hb, fun j hj => by simp at hj⟩
theorem RwG.far (h : RwG W1 G c vs L W) {g d : Nat} {zs : List Int} {lo hi : Nat} (ho : OwnA W lo hi (some ⟨g, 0, none⟩) d zs) : g ≠ G := by
  rintro rfl
  exact ty_far h.row.own ho.own (by decide) (show (Value.slice (some ⟨g, 0, none⟩) L.length c).ownBlock = some g from rfl) rfl
theorem gR_app_lt {L M : List (List Int)} {j : Nat} (h : j < L.length) : gR (L ++ M) j = gR L j := by
  unfold gR; rw [List.getD_eq_getElem?_getD, List.getElem?_append_left h, List.getD_eq_getElem?_getD]
theorem gR_app_ge {L M : List (List Int)} {j : Nat} (h : L.length ≤ j) : gR (L ++ M) j = gR M (j - L.length) := by
  unfold gR; rw [List.getD_eq_getElem?_getD, List.getElem?_append_right h, List.getD_eq_getElem?_getD]
/-- many rows appended -/
theorem RwG.app {W2 w9 : World} {G2 c2 G' c' : Nat} {vs2 : List Value} {M : List (List Int)} (h : RwG W1 G c vs L W) (h2 : RwG W2 G2 c2 vs2 M W) (hle : W1.heap.size ≤ W2.heap.size)
    (hown : w9.ownsRow W1.heap.size 38 1 (.slice (some ⟨G', 0, none⟩) (L.length + M.length) c') (L.length + M.length) (vs ++ vs2)) (hgrow : W.grownBy w9 (some G)) : RwG W1 G' c' (vs ++ vs2) (L ++ M) w9 := by
  have keep : ∀ {lo : Nat} {g d : Nat} {zs : List Int}, OwnA W lo W.heap.size (some ⟨g, 0, none⟩) d zs → W1.heap.size ≤ lo → OwnA w9 W1.heap.size w9.heap.size (some ⟨g, 0, none⟩) d zs := fun ho hlo =>
    ownA_top (ownA_frame (ho.less hlo) (fun y e => hgrow.block y (ho.own.lt y e).2 (fun e' => h.far ho (by injection e' with e'; simp [Value.ownBlock] at e; omega))) hgrow.size)
  refine ⟨by rw [List.length_append, List.length_append, h.1, h2.1], ⟨by rw [List.length_append]; exact hown, h.bel.grown hgrow h.bel.size (fun k e => by injection e with e; subst e; exact h.row.lo)⟩, fun j hj => ?_⟩
  rw [List.length_append] at hj
  by_cases hl : j < L.length
  · obtain ⟨g, d, e, ho⟩ := h.2.2 j hl
    exact ⟨g, d, by rw [List.getElem?_append_left (by rw [h.1]; exact hl), gR_app_lt hl]; exact e, by rw [gR_app_lt hl]; exact keep ho (Nat.le_refl _)⟩
  · obtain ⟨g, d, e, ho⟩ := h2.2.2 (j - L.length) (by omega)
    exact ⟨g, d, by rw [List.getElem?_append_right (by rw [h.1]; omega), h.1, gR_app_ge (by omega)]; exact e, by rw [gR_app_ge (by omega)]; exact keep ho hle⟩
/-- one row appended -/
theorem RwG.snoc {w9 : World} {G' c' g d : Nat} {zs : List Int} (h : RwG W1 G c vs L W) (ho : OwnA W W1.heap.size W.heap.size (some ⟨g, 0, none⟩) d zs)
    (hown : w9.ownsRow W1.heap.size 38 1 (.slice (some ⟨G', 0, none⟩) (L.length + 1) c') (L.length + 1) (vs ++ [.slice (some ⟨g, 0, none⟩) zs.length d])) (hgrow : W.grownBy w9 (some G)) : RwG W1 G' c' (vs ++ [.slice (some ⟨g, 0, none⟩) zs.length d]) (L ++ [zs]) w9 := by
  have keep : ∀ {g d : Nat} {zs : List Int}, OwnA W W1.heap.size W.heap.size (some ⟨g, 0, none⟩) d zs → OwnA w9 W1.heap.size w9.heap.size (some ⟨g, 0, none⟩) d zs := fun ho =>
    ownA_top (ownA_frame ho (fun y e => hgrow.block y (ho.own.lt y e).2 (fun e' => h.far ho (by injection e' with e'; simp [Value.ownBlock] at e; omega))) hgrow.size)
  refine ⟨by rw [List.length_append, List.length_append, h.1]; rfl, ⟨by rw [List.length_append]; exact hown, h.bel.grown hgrow h.bel.size (fun k e => by injection e with e; subst e; exact h.row.lo)⟩, fun j hj => ?_⟩
  rw [List.length_append] at hj
  by_cases hl : j < L.length
  · obtain ⟨g, d, e, ho⟩ := h.2.2 j hl
    exact ⟨g, d, by rw [List.getElem?_append_left (by rw [h.1]; exact hl), gR_app_lt hl]; exact e, by rw [gR_app_lt hl]; exact keep ho⟩
  · obtain rfl : j = L.length := by simp at hj; omega
    rw [List.getElem?_append_right (by rw [h.1]; exact Nat.le_refl _), h.1, gR_app_ge (Nat.le_refl _), Nat.sub_self]
    exact ⟨g, d, rfl, keep ho⟩
theorem RwG.rows (h : RwG W1 G c vs L W) : RwL W W.heap.size (some ⟨G, 0, none⟩) L := fun hp => ⟨G, 0, rfl, h.row.up, fun j hj => by
  obtain ⟨g, d, e, ho⟩ := h.2.2 j hj
  exact ⟨_, d, by rw [Nat.zero_add, h.row.own.cellAt j (by omega), e], own_caps ho.own, ho.ints⟩⟩
theorem RwG.own (h : RwG W1 G c vs L W) {j : Nat} (hj : j < L.length) : ∃ g d, vs[j]? = some (.slice (some ⟨g, 0, none⟩) (gR L j).length d) ∧ W.cell? ⟨G, j, none⟩ = some (.slice (some ⟨g, 0, none⟩) (gR L j).length d) ∧ OwnA W W1.heap.size W.heap.size (some ⟨g, 0, none⟩) d (gR L j) := by
  obtain ⟨g, d, e, ho⟩ := h.2.2 j hj
  exact ⟨g, d, e, by rw [h.row.own.cellAt j (by omega), e], ho⟩
end
set_option maxRecDepth 100000 in
set_option maxHeartbeats 4000000 in
/-- the model's copy of a list -/
theorem lnq_any (w : World) (ad : Option Addr) (c n : Nat) (zs : List Int) (hn : zs.length = n) (hl : n ≤ 1000) (hnil : ad = none → c = 0) (hz : Ints .i64 w w.heap.size ad zs) :
    Calls Try.prog 119 #[.slice ad n c] w fun e w' => ∃ (g c' : Nat), e = .returned (.slice (some ⟨g, 0, none⟩) n c') ∧ RowG w 2 1 g c' n (zs.map iv4) w' := by
  obtain ⟨i0, hi, hz0, hz1, hz2⟩ := info_parts info_i64
  cases ad with
  | none =>
    obtain rfl : n = 0 := by
      rcases Nat.eq_zero_or_pos n with h | h
      · exact h
      · obtain ⟨b, off, e, -⟩ := hz (by omega)
        cases e
    obtain rfl : c = 0 := hnil rfl
    obtain rfl : zs = [] := List.eq_nil_of_length_eq_zero hn
    clear hz hn hnil
    go_enter Try.func119, Try.ntmps119
    go_wp2
    go_ret
    exact ⟨w.heap.size, 0, rfl, RowG.lit (Bk.new w _ _) (Nat.le_refl _) ((Below.refl _ _).alloc (Nat.le_refl _) _)⟩
  | some ad =>
    have hnews : ∀ j u, (zs.map iv4)[j]? = some u → w.cell? (ad.add j) = some u := by
      rcases Nat.eq_zero_or_pos zs.length with h | h
      · intro j u hu
        rw [List.getElem?_eq_none (by simp; omega)] at hu
        cases hu
      · obtain ⟨b, off, e, -, hc⟩ := hz h
        cases e
        exact ints_cells (B := 0) hc
    have HN := Lib.hid hnews
    have HL := Lib.hid hn
    have how : Hid ((w.alloc (.cells #[] 2)).ownsRow w.heap.size 2 1 (.slice (some ⟨w.heap.size, 0, none⟩) 0 0) 0 []) := Lib.hid (World.ownsRow_lit w #[] 0 (Nat.le_refl w.heap.size) (by decide) (by decide))
    clear hnews hz hn hnil
    go_enter Try.func119, Try.ntmps119
    go_wp2_with (at_builtin; refine wpList_append_own _ rfl _ _ 38 rfl w.heap.size 2 i0 (.int .i64 0) 1 8 Try.underlying38 hi hz0 hz1 hz2 rfl (by decide) _ _ _ rfl how.out ad n c (zs.map iv4) rfl ?qc1 ?qc2 ?qc3 ?qc4 ?qc5 ?qc6 ?_)
    case qc1 => rw [List.length_map, HL.out, Nat.mul_one]
    case qc2 =>
      intro j u hj
      exact Lib.cell?_alloc_some _ (HN.out j u hj)
    case qc3 => exact one_iv4
    case qc4 => unfold maxLen; omega
    case qc5 => omega
    case qc6 => simp
    intro v' w1 hown hgrow hnil
    have HB : Hid (Below w.heap.size w w1) := Lib.hid (((Below.refl _ w).alloc (Nat.le_refl _) _).grown hgrow (by simp) (by intro k hk; simp [Value.ownBlock] at hk; omega))
    obtain ⟨g, c', rfl⟩ : ∃ g c', v' = .slice (some ⟨g, 0, none⟩) n c' := by
      rcases hown.2 with ⟨h', -⟩ | ⟨g, cap', cur, hv, -⟩
      · exact absurd h' hnil
      · exact ⟨g, cap', hv⟩
    have HO := Lib.hid hown
    clear hown hgrow hnil
    go_wp2
    go_ret
    exact ⟨g, c', rfl, HO.out, HB.out⟩
end Go.Proofs.Ytlahgdhofakinaa
