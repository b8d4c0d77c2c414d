/- Slices of contacts and of motions in the laws' hands: copied, compared, marked, measured. -/
import Derived.Test.YtlahgdhofakinaaGtE
import Derived.Test.YtlahgdhofakinaaPwS
import Derived.Deep.OwnRows
import Derived.Test.YtlahgdhofakinaaDrw
namespace Go.Proofs.Ytlahgdhofakinaa
open Go.ChangeShapes Go.WideShapes Go.ChangeAt Go.RowKit Go.Shelf Num
set_option linter.unusedVariables false
set_option linter.unusedSimpArgs false

/-- a row of structs of integers of one's own, between two marks of the memory -/
structure OwnK (t : TypeId) (m : Nat) (w : World) (lo hi : Nat) (a : Option Addr) (c n : Nat) (zs : List Int) : Prop where
  own : w.ownsRow lo t m (.slice a n c) n (zs.map iv4)
  lt : ∀ g, (Value.slice a n c).ownBlock = some g → g < hi
  up : hi ≤ w.heap.size
section
variable {t : TypeId} {m : Nat} {w w' : World} {lo hi : Nat} {a : Option Addr} {c n : Nat} {zs : List Int}
theorem OwnK.on (h : OwnK t m w lo hi a c n zs) (hb : Below w.heap.size w w') : OwnK t m w' lo hi a c n zs := ⟨own_bel h.own hb, h.lt, Nat.le_trans h.up hb.size⟩
theorem OwnK.kept {l i : Nat} (h : OwnK t m w lo hi a c n zs) (hk : Kept l i w w') (hd : hi ≤ l ∨ i ≤ lo) : OwnK t m w' lo hi a c n zs :=
  ⟨own_atG h.own (fun g e => hk.block g (h.own.lt g e).2 (by have := (h.own.lt g e).1; have := h.lt g e; omega)), h.lt, Nat.le_trans h.up hk.size⟩
theorem OwnK.less {lo' : Nat} (h : OwnK t m w lo hi a c n zs) (hl : lo' ≤ lo) : OwnK t m w lo' hi a c n zs := ⟨World.ownsRow.mono h.own hl, h.lt, h.up⟩
theorem OwnK.cap (h : OwnK t m w lo hi a c n zs) : n ≤ c := by
  rcases h.own.2 with ⟨hv, h0⟩ | ⟨g, cap, cur, hv, _, _, hle, _⟩
  · simp only [Value.slice.injEq] at hv; omega
  · simp only [Value.slice.injEq] at hv; omega
end
/-- the numbers up to m, zeros behind -/
def ckF (zs : List Int) (m i : Nat) : Value := if i < m then .int .i64 (zs.getD i 0) else .int .i64 0
theorem ck_step {w : World} {g n m : Nat} {t : TypeId} {zs : List Int} {x : Int} (h : w.rowIs g t n (ckF zs m)) (hx : zs.getD m 0 = x) : (w.setCell ⟨g, m, none⟩ (.int .i64 x)).rowIs g t n (ckF zs (m + 1)) := by
  refine (h.set m (.int .i64 x)).congr fun i hi => ?_
  unfold ckF
  by_cases e : i = m
  · subst e; rw [if_pos rfl, if_pos (by omega), hx]
  · rw [if_neg e]
    by_cases h3 : i < m
    · rw [if_pos h3, if_pos (by omega)]
    · rw [if_neg h3, if_neg (by omega)]
theorem ownK_new {W : World} {g lo n m : Nat} {t : TypeId} {zs : List Int} (h : W.rowIs g t (n * m) (ckF zs (n * m))) (hz : zs.length = n * m) (hl : lo ≤ g) (hn : n ≤ 1048576) : OwnK t m W lo W.heap.size (some ⟨g, 0, none⟩) n n zs := by
  obtain ⟨cs, hg, hs, hc⟩ := h
  have hlt := (Array.getElem?_eq_some_iff.1 hg).1
  refine ⟨⟨by simp [hz], Or.inr ⟨g, n, cs, rfl, hl, hg, Nat.le_refl _, by unfold maxLen; omega, hs, ?_⟩⟩, fun g' e => ?_, Nat.le_refl _⟩
  · rw [← hs, List.take_of_length_le (by simp)]
    apply List.ext_getElem (by simp [hs, hz])
    intro i h1 h2
    have hi : i < zs.length := by simpa using h2
    have := hc i (by omega)
    rw [Array.getElem?_eq_getElem (by omega)] at this
    simp only [Option.some.injEq] at this
    rw [Array.getElem_toList, this, List.getElem_map]
    unfold ckF iv4
    rw [if_pos (by omega), List.getD_eq_getElem?_getD, List.getElem?_eq_getElem hi]; rfl
  · simp only [Value.ownBlock, Option.map_some, Option.some.injEq] at e
    subst e
    exact hlt
theorem own_setK {w : World} {t : TypeId} {B g c n m : Nat} {zs : List Int} (h : w.ownsRow B t m (.slice (some ⟨g, 0, none⟩) n c) n (zs.map iv4)) (j : Nat) (x : Int) :
    (w.setCell ⟨g, j, none⟩ (.int .i64 x)).ownsRow B t m (.slice (some ⟨g, 0, none⟩) n c) n ((zs.set j x).map iv4) := by
  have := (h.stored j (.int .i64 x)).1
  rwa [show (zs.set j x).map iv4 = (zs.map iv4).set j (.int .i64 x) by rw [List.map_set]; rfl]
/-- the numbers of a list's elements in their order -/
def flC (ps : List (Int × Int)) : List Int := ps.flatMap fun p => [p.1, p.2]
theorem flC_len (ps : List (Int × Int)) : (flC ps).length = ps.length * 2 := by
  induction ps with
  | nil => rfl
  | cons p q ih => simp only [flC, List.flatMap_cons, List.length_append, List.length_cons, List.length_nil] at ih ⊢; omega
theorem flC_at (ps : List (Int × Int)) : ∀ j : Nat, j < ps.length → (flC ps).getD (j * 2 + 0) 0 = (ps.getD j (0, 0)).1 ∧ (flC ps).getD (j * 2 + 1) 0 = (ps.getD j (0, 0)).2 := by
  induction ps with
  | nil => intro j hj; simp at hj
  | cons p q ih =>
    intro j hj
    cases j with
    | zero => exact ⟨rfl, rfl⟩
    | succ j =>
      have := ih j (by simpa using hj)
      have e : ∀ r, (flC (p :: q)).getD ((j + 1) * 2 + r) 0 = (flC q).getD (j * 2 + r) 0 := fun r => by
        rw [show (j + 1) * 2 + r = (j * 2 + r) + 2 by omega]; rfl
      exact ⟨(e 0).trans this.1, (e 1).trans this.2⟩
theorem info_C : (Try.prog.info? 79).map (fun i => (i.zero, i.size, i.bytes)) = some (some (.agg #[.int .i64 0, .int .i64 0]), 2, 16) := by kernel_rfl
theorem mzeroC (n : Nat) : ∀ i, i < (madeCells #[.int .i64 0, .int .i64 0] n).size → (madeCells #[.int .i64 0, .int .i64 0] n)[i]? = some (.int .i64 0) := by
  intro i hi
  rw [size_madeCells] at hi
  have : i % 2 < 2 := Nat.mod_lt _ (by omega)
  rcases (by omega : i % 2 = 0 ∨ i % 2 = 1) with h | h <;> simp [madeCells, hi, h]
theorem mkC_run (n : Nat) (hn : n ≤ 1048576) (w : World) :
    (Instr.makeSlice 25 (.int .i64 (n : Int)) (.int .i64 (n : Int))).run Try.prog w = .ok (.slice (some ⟨w.heap.size, 0, none⟩) n n) (w.alloc (.cells (madeCells #[.int .i64 0, .int .i64 0] (n * 2)) 79)) := by
  obtain ⟨i, hi, hzz⟩ := Option.map_eq_some_iff.1 info_C
  simp only [Prod.mk.injEq] at hzz
  obtain ⟨hz, hs, hb⟩ := hzz
  have h := run_make (P := Try.prog) (w := w) 25 79 i _ Try.underlying25 hi hz .i64 .i64 (n : Int) (n : Int) (by omega) (Int.le_refl _) (by rw [hb]; omega) (by omega)
  simpa only [Int.toNat_natCast, hs, Value.cells] using h
theorem OwnK.rdC {w : World} {lo hi : Nat} {a : Option Addr} {c : Nat} {t : TypeId} {ps : List (Int × Int)} (h : OwnK t 2 w lo hi a c ps.length (flC ps)) : Cts w w.heap.size a ps := fun hp => by
  rcases h.own.2 with ⟨h', h0⟩ | ⟨g, cap, cur, h', hb, hg, hle, _⟩
  · simp only [Value.slice.injEq] at h'; omega
  · simp only [Value.slice.injEq] at h'
    obtain ⟨rfl, -, rfl⟩ := h'
    refine ⟨g, 0, rfl, (h.own.lt g (by simp [Value.ownBlock])).2, fun j hj => ?_⟩
    have hf := flC_at ps j hj
    have hl := flC_len ps
    have e : ∀ r, r < 2 → w.cell? ⟨g, 0 + j * 2 + r, none⟩ = some (.int .i64 ((flC ps).getD (j * 2 + r) 0)) := fun r hr => by
      rw [Nat.zero_add, h.own.cellAt (j * 2 + r) (by omega), List.getElem?_map, List.getElem?_eq_getElem (by omega), List.getD_eq_getElem?_getD, List.getElem?_eq_getElem (by omega)]; rfl
    exact ⟨by have := e 0 (by omega); rwa [hf.1] at this, by have := e 1 (by omega); rwa [hf.2] at this⟩

end Go.Proofs.Ytlahgdhofakinaa
