/- Contracts of the model's draws of signals, of bits, of arguments of PulseOfBits, EchoesOf and BestCode. -/
import Derived.Test.YtlahgdhofakinaaPuL
import Derived.Test.YtlahgdhofakinaaDrw
import Derived.Deep.AppendLies
import Derived.Outline
namespace Go.Proofs.Ytlahgdhofakinaa
open Go.ChangeShapes Go.WideShapes Go.ChangeAt Go.RowKit Go.Shelf Num
set_option linter.unusedVariables false
set_option linter.unusedSimpArgs false
theorem grownP_bel {w W W' : World} {s : Nat} (h : w.grownBy W (some s)) (hb : Below W.heap.size W W') : w.grownBy W' (some s) :=
  ⟨hb.os.trans h.os, hb.tape.trans h.tape, hb.output.trans h.output, Nat.le_trans h.size hb.size, fun k hk hne => (hb.block k (Nat.lt_of_lt_of_le hk h.size)).trans (h.block k hk hne)⟩
theorem grownP_far {w W W' : World} {s g : Nat} (h : w.grownBy W (some s)) (hg : W.grownBy W' (some g)) (hl : w.heap.size ≤ g) : w.grownBy W' (some s) :=
  ⟨hg.os.trans h.os, hg.tape.trans h.tape, hg.output.trans h.output, Nat.le_trans h.size hg.size, fun k hk hne => (hg.block k (Nat.lt_of_lt_of_le hk h.size) (fun e => by injection e; omega)).trans (h.block k hk hne)⟩
theorem srcP_far {W W' : World} {s g : Nat} (h : Src W s) (hg : W.grownBy W' (some g)) (hs : s < g) : Src W' s := by
  obtain ⟨a, cap, zs, k, seed, hb0, hc, rest⟩ := h
  have hlt := (Array.getElem?_eq_some_iff.1 hb0).1
  exact ⟨a, cap, zs, k, seed, (hg.block s hlt (fun e => by injection e; omega)).trans hb0, hc.below (below_of_grown (B := s) hg (by omega) (by omega)) (Nat.le_refl _), rest⟩
/-- a row of one's own that grows beside a source -/
structure D1 (w : World) (s g c n : Nat) (L : List Int) (W : World) : Prop where
  row : W.ownsRow w.heap.size 2 1 (.slice (some ⟨g, 0, none⟩) n c) n (L.map iv4)
  src : Src W s
  grw : w.grownBy W (some s)
  len : L.length = n
section
variable {w W W' : World} {s g c n : Nat} {L : List Int}
theorem D1.lo (h : D1 w s g c n L W) : w.heap.size ≤ g ∧ g < W.heap.size := h.row.lt g rfl
theorem D1.lit (hs : Src w s) : D1 w s w.heap.size 0 0 [] (w.alloc (.cells #[] 2)) :=
  ⟨World.ownsRow_lit (base := w.heap.size) (e := 2) (size := 1) w #[] 0 (Nat.le_refl _) (by decide) (by decide), hs.alloc _, grown_alloc (grown_refl _ _) _, rfl⟩
theorem D1.draw (h : D1 w s g c n L W) (hs : s < w.heap.size) (h1 : Src W' s) (h2 : W.grownBy W' (some s)) : D1 w s g c n L W' :=
  ⟨h.row.kept h2 (Or.inr (by have := h.lo; simp [Value.ownBlock]; omega)), h1, grown_trans h.grw h2, h.len⟩
theorem D1.al (h : D1 w s g c n L W) (o : Obj) : D1 w s g c n L (W.alloc o) := ⟨h.row.alloc o, h.src.alloc o, grown_alloc h.grw o, h.len⟩
theorem D1.put {w9 : World} {o : Obj} {g' c' : Nat} {x : Int} (h : D1 w s g c n L W) (hs : s < w.heap.size) (hown : w9.ownsRow w.heap.size 2 1 (.slice (some ⟨g', 0, none⟩) (n + 1) c') (n + 1) (L.map iv4 ++ [.int .i64 x])) (hg : (W.alloc o).grownBy w9 (some g)) : D1 w s g' c' (n + 1) (L ++ [x]) w9 :=
  ⟨by rw [List.map_append]; exact hown, srcP_far (h.al o).src hg (by have := h.lo; omega), grownP_far (h.al o).grw hg h.lo.1, by rw [List.length_append, h.len]; rfl⟩
theorem D1.ints (h : D1 w s g c n L W) : Ints .i64 W W.heap.size (some ⟨g, 0, none⟩) L := own_ints (B := w.heap.size) (c := c) (by rw [h.len]; exact h.row)
theorem D1.cap (h : D1 w s g c n L W) : n ≤ c := own_caps h.row
theorem D1.zeros (hs : Src W s) (hg : w.grownBy W (some s)) (m : Nat) (hm : m ≤ maxLen) : D1 w s W.heap.size m m (List.replicate m 0) (W.alloc (.cells (madeCells #[.int .i64 0] m) 2)) :=
  ⟨World.ownsRow.mono (rowG_zeros W m hm).own hg.size, hs.alloc _, grown_alloc hg _, by simp⟩
end
/-- what a draw of a list leaves -/
def ListD (w : World) (s N : Nat) (e : Ending) (w' : World) : Prop := ∃ (g c n : Nat) (ps : List Int), e = .returned (.slice (some ⟨g, 0, none⟩) n c) ∧ n ≤ N ∧ D1 w s g c n ps w'

/-- a list that a law draws -/
def ListC (w : World) (e : Ending) (w' : World) : Prop := ∃ (a : Option Addr) (c n : Nat) (ps : List Int), e = .returned (.slice a n c) ∧ ps.length = n ∧ n ≤ 401 ∧ n ≤ c ∧ Ints .i64 w' w'.heap.size a ps ∧ Below w.heap.size w w'
theorem D1.below {w0 w W : World} {s g c n : Nat} {L : List Int} (h : D1 w s g c n L W) (hb : Below w0.heap.size w0 w) (hs : w0.heap.size ≤ s) : Below w0.heap.size w0 W := hb.trans (below_of_grown h.grw hs hb.size)
theorem D1.far {w W W' : World} {s g c n : Nat} {L : List Int} (h : D1 w s g c n L W) (hs : s < w.heap.size) (hg : W.grownBy W' (some s)) : Ints .i64 W' W'.heap.size (some ⟨g, 0, none⟩) L := fun hp => by
  obtain ⟨b, off, e, hB, hc⟩ := h.ints hp
  simp only [Option.some.injEq, Addr.mk.injEq, and_true] at e
  obtain ⟨e1, e2⟩ := e
  subst e1 e2
  refine ⟨g, 0, rfl, Nat.lt_of_lt_of_le hB hg.size, fun j hj => ?_⟩
  exact (World.cell?_of_block (w := W) (a := ⟨g, 0 + j, none⟩) (hg.block g hB (fun e => by injection e with e; have := h.lo; omega))).trans (hc j hj)
/-- bits, a width, an amplitude -/
def BitsC (w : World) (e : Ending) (w' : World) : Prop := ∃ (a : Option Addr) (c n : Nat) (ps : List Int) (wd am : Int), e = .returned (.tuple #[.slice a n c, .int .i64 wd, .int .i64 am]) ∧ ps.length = n ∧ n ≤ 401 ∧ n ≤ c ∧ Ints .i64 w' w'.heap.size a ps ∧ Below w.heap.size w w'

/-- two rows of one's own that grow beside a source -/
structure D2 (w : World) (s g1 c1 n1 : Nat) (L1 : List Int) (g2 c2 n2 : Nat) (L2 : List Int) (W : World) : Prop where
  row : W.ownsRow w.heap.size 2 1 (.slice (some ⟨g1, 0, none⟩) n1 c1) n1 (L1.map iv4)
  row2 : W.ownsRow w.heap.size 2 1 (.slice (some ⟨g2, 0, none⟩) n2 c2) n2 (L2.map iv4)
  ne : g1 ≠ g2
  src : Src W s
  grw : w.grownBy W (some s)
  len : L1.length = n1
  len2 : L2.length = n2
section
variable {w W W' : World} {s g1 c1 n1 g2 c2 n2 : Nat} {L1 L2 : List Int}
theorem D2.swap (h : D2 w s g1 c1 n1 L1 g2 c2 n2 L2 W) : D2 w s g2 c2 n2 L2 g1 c1 n1 L1 W := ⟨h.row2, h.row, h.ne.symm, h.src, h.grw, h.len2, h.len⟩
theorem D2.lo (h : D2 w s g1 c1 n1 L1 g2 c2 n2 L2 W) : (w.heap.size ≤ g1 ∧ g1 < W.heap.size) ∧ w.heap.size ≤ g2 ∧ g2 < W.heap.size := ⟨h.row.lt g1 rfl, h.row2.lt g2 rfl⟩
theorem D2.lit (hs : Src w s) : D2 w s w.heap.size 0 0 [] (w.heap.size + 1) 0 0 [] ((w.alloc (.cells #[] 2)).alloc (.cells #[] 2)) :=
  ⟨(World.ownsRow_lit (base := w.heap.size) (e := 2) (size := 1) w #[] 0 (Nat.le_refl _) (by decide) (by decide)).alloc _, by
    have := World.ownsRow_lit (base := w.heap.size) (e := 2) (size := 1) (w.alloc (.cells #[] 2)) #[] 0 (by simp) (by decide) (by decide)
    rwa [World.size_alloc] at this, by omega, (hs.alloc _).alloc _, grown_alloc (grown_alloc (grown_refl _ _) _) _, rfl, rfl⟩
theorem D2.draw (h : D2 w s g1 c1 n1 L1 g2 c2 n2 L2 W) (hs : s < w.heap.size) (h1 : Src W' s) (h2 : W.grownBy W' (some s)) : D2 w s g1 c1 n1 L1 g2 c2 n2 L2 W' :=
  ⟨h.row.kept h2 (Or.inr (by have := h.lo; simp [Value.ownBlock]; omega)), h.row2.kept h2 (Or.inr (by have := h.lo; simp [Value.ownBlock]; omega)), h.ne, h1, grown_trans h.grw h2, h.len, h.len2⟩
theorem D2.al (h : D2 w s g1 c1 n1 L1 g2 c2 n2 L2 W) (o : Obj) : D2 w s g1 c1 n1 L1 g2 c2 n2 L2 (W.alloc o) := ⟨h.row.alloc o, h.row2.alloc o, h.ne, h.src.alloc o, grown_alloc h.grw o, h.len, h.len2⟩
theorem D2.put {w9 : World} {o : Obj} {g' c' : Nat} {x : Int} (h : D2 w s g1 c1 n1 L1 g2 c2 n2 L2 W) (hs : s < w.heap.size) (hown : w9.ownsRow w.heap.size 2 1 (.slice (some ⟨g', 0, none⟩) (n1 + 1) c') (n1 + 1) (L1.map iv4 ++ [.int .i64 x])) (hg : (W.alloc o).grownBy w9 (some g1)) (hat : (some g1 : Option Nat) = some g' ∨ g' = W.heap.size + 1) : D2 w s g' c' (n1 + 1) (L1 ++ [x]) g2 c2 n2 L2 w9 :=
  ⟨by rw [List.map_append]; exact hown, (h.al o).row2.kept hg (Or.inr (by have := h.ne; simp [Value.ownBlock]; omega)), by
    rcases hat with e | e
    · injection e with e; rw [← e]; exact h.ne
    · have := h.lo; omega, srcP_far (h.al o).src hg (by have := h.lo; omega), grownP_far (h.al o).grw hg h.lo.1.1, by rw [List.length_append, h.len]; rfl, h.len2⟩
theorem D2.ints (h : D2 w s g1 c1 n1 L1 g2 c2 n2 L2 W) : Ints .i64 W W.heap.size (some ⟨g1, 0, none⟩) L1 := own_ints (B := w.heap.size) (c := c1) (by rw [h.len]; exact h.row)
end
/-- a pulse, delays, gains, a length -/
def EchC (w : World) (e : Ending) (w' : World) : Prop := ∃ (a0 a1 a2 : Option Addr) (c0 n0 c1 n1 c2 n2 : Nat) (ps ds gs : List Int) (len : Int), e = .returned (.tuple #[.slice a0 n0 c0, .slice a1 n1 c1, .slice a2 n2 c2, .int .i64 len]) ∧ (ps.length = n0 ∧ ds.length = n1 ∧ gs.length = n2) ∧ (n0 ≤ 401 ∧ n1 ≤ 401 ∧ n2 ≤ 401) ∧ Ints .i64 w' w'.heap.size a0 ps ∧ Ints .i64 w' w'.heap.size a1 ds ∧ Ints .i64 w' w'.heap.size a2 gs ∧ Below w.heap.size w w'

end Go.Proofs.Ytlahgdhofakinaa
