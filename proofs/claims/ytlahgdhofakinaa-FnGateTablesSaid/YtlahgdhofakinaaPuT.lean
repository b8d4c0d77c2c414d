/- Contracts of slices.Clone and slices.Reverse at lists of integers, of TurnSignal, the program's and the model's. -/
import Derived.Test.YtlahgdhofakinaaPuL
import Derived.Lib.SliceRun
import Derived.Deep.RegionWith
namespace Go.Proofs.Ytlahgdhofakinaa
open Go.ChangeShapes Go.WideShapes Go.ChangeAt Go.RowKit Go.Shelf Num
set_option linter.unusedVariables false
set_option linter.unusedSimpArgs false
/-- a copy -/
def Cloned (w : World) (n : Nat) (zs : List Int) (e : Ending) (w' : World) : Prop := ∃ (a' : Option Addr) (c' : Nat), e = .returned (.slice a' n c') ∧ zs.length = n ∧ OwnA w' w.heap.size w'.heap.size a' c' zs ∧ Below w.heap.size w w'
theorem one_iv4 {L : List Int} : ∀ u ∈ L.map iv4, u.oneCell' = true := by
  intro u hu
  obtain ⟨n, _, rfl⟩ := List.mem_map.1 hu
  rfl
theorem ints_cells {w : World} {B b off : Nat} {zs : List Int} (h : ∀ j, j < zs.length → w.cell? ⟨b, off + j, none⟩ = some (.int .i64 (zs.getD j 0))) : ∀ j u, (zs.map iv4)[j]? = some u → w.cell? ((⟨b, off, none⟩ : Addr).add j) = some u := by
  intro j u hu
  rw [Addr.add_lit]
  rw [List.getElem?_map] at hu
  rcases Nat.lt_or_ge j zs.length with hj | hj
  · rw [List.getElem?_eq_getElem hj] at hu
    simp only [Option.map_some, Option.some.injEq] at hu
    subst hu
    rw [h j hj, List.getD_eq_getElem?_getD, List.getElem?_eq_getElem hj]; rfl
  · rw [List.getElem?_eq_none hj] at hu; simp at hu
theorem cln_any (w : World) (a : Option Addr) (cap n : Nat) (zs : List Int) (hn : zs.length = n) (hl : n ≤ 1048576) (hz : Ints .i64 w w.heap.size a zs) :
    Calls Try.prog 117 #[.slice a n cap] w (Cloned w n zs) := by
  have hq := fun (w : World) (a : Option Addr) (n c n' c' : Nat) => Lib.run_eql_slice_nil (P := Try.prog) w 38 2 a n c n' c' Try.underlying38
  obtain ⟨i0, hi, hz0, hz1, hz2⟩ := info_parts info_i64
  cases a with
  | none =>
    have h0 : n = 0 := by
      rcases Nat.eq_zero_or_pos n with h | h
      · exact h
      · obtain ⟨b, off, e, -⟩ := hz (by omega)
        cases e
    have hzn : zs = [] := List.length_eq_zero_iff.1 (by omega)
    subst h0 hzn
    clear hz hn
    go_enter Try.func117, Try.ntmps117
    go_wp2
    go_ret
    exact ⟨none, 0, rfl, rfl, ownA_nil _ _ (Nat.le_refl _), Below.refl _ _⟩
  | some ad =>
    have hnews : ∀ j u, (zs.map iv4)[j]? = some u → w.cell? (ad.add j) = some u := by
      rcases Nat.eq_zero_or_pos zs.length with h | h
      · intro j u hu
        rw [List.getElem?_eq_none (by simp; omega)] at hu
        cases hu
      · obtain ⟨b, off, e, -, hc⟩ := hz h
        cases e
        exact ints_cells (B := 0) hc
    have HN := Lib.hid hnews
    have HL := Lib.hid hn
    clear hnews hz hn
    go_enter Try.func117, Try.ntmps117
    go_wp2_with (at_builtin; refine wpList_append_own _ rfl _ _ 38 rfl w.heap.size 2 i0 (.int .i64 0) 1 8 Try.underlying38 hi hz0 hz1 hz2 rfl (by decide) _ _ _ rfl (World.ownsRow_made w #[] 0 (Nat.le_refl _) (Nat.zero_le _) (by simp)) ad n cap (zs.map iv4) rfl ?qc1 ?qc2 ?qc3 ?qc4 ?qc5 ?qc6 ?_)
    case qc1 => rw [List.length_map, HL.out, Nat.mul_one]
    case qc2 =>
      intro j u hj
      exact Lib.cell?_alloc_some _ (HN.out j u hj)
    case qc3 => exact one_iv4
    case qc4 => unfold maxLen; omega
    case qc5 => omega
    case qc6 => simp
    intro v' w1 hown hgrow hnil
    have HB : Hid (Below w.heap.size w w1) := Lib.hid (((Below.refl _ w).alloc (Nat.le_refl _) _).grown hgrow (by simp) (by intro k hk; simp [Value.ownBlock] at hk; omega))
    obtain ⟨g, c', rfl⟩ : ∃ g c', v' = .slice (some ⟨g, 0, none⟩) n c' := by
      rcases hown.2 with ⟨h', -⟩ | ⟨g, cap', cur, hv, -⟩
      · exact absurd h' hnil
      · exact ⟨g, cap', hv⟩
    have HO := Lib.hid hown
    clear hown hgrow hnil
    go_wp2
    go_ret
    refine ⟨some ⟨g, 0, none⟩, c', rfl, HL.out, ⟨by rw [HL.out]; exact HO.out, fun x e => ?_, Nat.le_refl _⟩, HB.out⟩
    rw [HL.out] at e
    exact (HO.out.lt x e).2
theorem own_at1 {W : World} {lo g c n : Nat} {L : List Int} (h : W.ownsRow lo 2 1 (.slice (some ⟨g, 0, none⟩) n c) n (L.map iv4)) {j : Nat} (hj : j < n) (hl : L.length = n) : W.cell? ⟨g, j, none⟩ = some (.int .i64 (L.getD j 0)) := by
  rw [h.cellAt j (by omega), List.getElem?_map, List.getElem?_eq_getElem (by omega), List.getD_eq_getElem?_getD, List.getElem?_eq_getElem (by omega)]; rfl

/-- a signal in the opposite order -/
def trL (zs : List Int) : List Int := if sigB zs then zs.reverse else []
theorem trL_len (zs : List Int) : (trL zs).length ≤ 400 := by
  unfold trL
  split
  · rename_i h
    rw [List.length_reverse]; exact (sigB_t h).1
  · simp
end Go.Proofs.Ytlahgdhofakinaa
