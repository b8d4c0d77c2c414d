/- The model's draw of a profile: two rows of its own that grow by turns. -/
import Derived.Test.YtcaekheghjnipaaRDraw
import Derived.Test.YtcaekheghjnipaaKnots
import Derived.Test.YtcaekheghjnipaaMinMax
import Derived.Deep.AppendLies
import Derived.Maps.AppendAt
import Derived.OwnWalk
import Derived.LoopTactic
namespace Go.Proofs.Ytcaekheghjnipaa
open Go.ChangeShapes Go.WideShapes Go.ChangeAt Go.RowKit Go.Shelf
set_option linter.unusedVariables false
def iv4 (n : Int) : Value := .int .i64 n
/-- a number of four is picked -/
theorem pick4c (w : World) (s b cap : Nat) (z0 z1 z2 z3 : Int) (h : Src w s) (hb : ¬ b = s) (hk : w.heap[b]? = some (.cells #[.int .i64 z0, .int .i64 z1, .int .i64 z2, .int .i64 z3] 2 (0, 0))) :
    Calls Try.prog 102 #[.pointer (some ⟨s, 0, none⟩), .slice (some ⟨b, 0, none⟩) 4 cap] w fun e w' => ∃ x : Int, e = .returned (.int .i64 x) ∧ (x = z0 ∨ x = z1 ∨ x = z2 ∨ x = z3) ∧ Src w' s ∧ w.grownBy w' (some s) :=
  (pick_n w s b cap 4 [z0, z1, z2, z3] h rfl hb (by decide) (by decide) (fun j hj => (cell_of_row w b j _ _ _ hk).trans (match j, hj with
    | 0, _ => rfl
    | 1, _ => rfl
    | 2, _ => rfl
    | 3, _ => rfl)) (by obtain ⟨hlt, _⟩ := Array.getElem?_eq_some_iff.1 hk; exact hlt)).mono fun e w' ⟨j, hj, he, hs, hg⟩ => ⟨_, he, by
      match j, hj with
      | 0, _ => exact Or.inl rfl
      | 1, _ => exact Or.inr (Or.inl rfl)
      | 2, _ => exact Or.inr (Or.inr (Or.inl rfl))
      | 3, _ => exact Or.inr (Or.inr (Or.inr rfl)), hs, hg⟩
theorem pick2 (w : World) (s b cap : Nat) (z0 z1 : Int) (h : Src w s) (hb : ¬ b = s) (hk : w.heap[b]? = some (.cells #[.int .i64 z0, .int .i64 z1] 2 (0, 0))) :
    Calls Try.prog 102 #[.pointer (some ⟨s, 0, none⟩), .slice (some ⟨b, 0, none⟩) 2 cap] w (Some1 w s) :=
  pick_some w s b cap 2 [z0, z1] h rfl hb (by decide) (by decide) (fun j hj => (cell_of_row w b j _ _ _ hk).trans (match j, hj with
    | 0, _ => rfl
    | 1, _ => rfl)) (by obtain ⟨hlt, _⟩ := Array.getElem?_eq_some_iff.1 hk; exact hlt)
theorem own_bel {w w' : World} {B k n : Nat} {e : TypeId} {v : Value} {xs : List Value} (h : w.ownsRow B e k v n xs) (hb : Below w.heap.size w w') : w'.ownsRow B e k v n xs := h.kept (grown_none hb) (by
  cases hv : v.ownBlock with
  | none => exact Or.inl rfl
  | some x => exact Or.inr (by simp))
/-- two rows of one's own, the source, the result's block -/
structure DS (w : World) (s : Nat) (a1 : Option Addr) (c1 : Nat) (a2 : Option Addr) (c2 : Nat) (L1 L2 : List Int) (W : World) : Prop where
  r1 : W.ownsRow (w.heap.size + 1) 2 1 (.slice a1 L1.length c1) L1.length (L1.map iv4)
  r2 : W.ownsRow (w.heap.size + 1) 2 1 (.slice a2 L2.length c2) L2.length (L2.map iv4)
  ne : ∀ g, (Value.slice a1 L1.length c1).ownBlock = some g → (Value.slice a2 L2.length c2).ownBlock ≠ some g
  src : Src W s
  grw : w.grownBy W (some s)
  box : Bk W w.heap.size #[.slice none 0 0, .slice none 0 0] 42
section
variable {w W W' : World} {s c1 c2 : Nat} {a1 a2 : Option Addr} {L1 L2 : List Int}
theorem DS.lt1 (h : DS w s a1 c1 a2 c2 L1 L2 W) : ∀ g, (Value.slice a1 L1.length c1).ownBlock = some g → w.heap.size + 1 ≤ g ∧ g < W.heap.size := h.r1.lt
theorem DS.lt2 (h : DS w s a1 c1 a2 c2 L1 L2 W) : ∀ g, (Value.slice a2 L2.length c2).ownBlock = some g → w.heap.size + 1 ≤ g ∧ g < W.heap.size := h.r2.lt
theorem own_ne {v : Value} {k : Nat} (h : v.ownBlock ≠ some k) : v.ownBlock = none ∨ v.ownBlock ≠ some k := Or.inr h
/-- behind a draw -/
theorem DS.draw (h : DS w s a1 c1 a2 c2 L1 L2 W) (hs : s < w.heap.size) (hs' : Src W' s) (hg : W.grownBy W' (some s)) : DS w s a1 c1 a2 c2 L1 L2 W' :=
  ⟨h.r1.kept hg (Or.inr fun e => by have := h.lt1 s e; omega), h.r2.kept hg (Or.inr fun e => by have := h.lt2 s e; omega), h.ne, hs', grown_trans h.grw hg, h.box.kept hg (by simp; omega)⟩
/-- behind new blocks -/
theorem DS.bel (h : DS w s a1 c1 a2 c2 L1 L2 W) (hb : Below W.heap.size W W') : DS w s a1 c1 a2 c2 L1 L2 W' :=
  ⟨own_bel h.r1 hb, own_bel h.r2 hb, h.ne, h.src.bel hb, grown_bel h.grw hb, h.box.on hb⟩
theorem DS.al (h : DS w s a1 c1 a2 c2 L1 L2 W) (o : Obj) : DS w s a1 c1 a2 c2 L1 L2 (W.alloc o) := h.bel ((Below.refl _ _).alloc (Nat.le_refl _) o)
theorem DS.swapped (h : DS w s a1 c1 a2 c2 L1 L2 W) : DS w s a2 c2 a1 c1 L2 L1 W := ⟨h.r2, h.r1, fun g e e' => h.ne g e' e, h.src, h.grw, h.box⟩
/-- one number more in the first row -/
theorem DS.put (h : DS w s a1 c1 a2 c2 L1 L2 W) (hs : s < w.heap.size) {o : Obj} {g cap : Nat} {x : Int} {w9 : World} (hown : w9.ownsRow (w.heap.size + 1) 2 1 (.slice (some ⟨g, 0, none⟩) (L1.length + 1) cap) (L1.length + 1) (L1.map iv4 ++ [.int .i64 x]))
    (hgrow : (W.alloc o).grownBy w9 (Value.slice a1 L1.length c1).ownBlock) (hat : (Value.slice a1 L1.length c1).ownBlock = some g ∨ g = W.heap.size + 1) :
    DS w s (some ⟨g, 0, none⟩) cap a2 c2 (L1 ++ [x]) L2 w9 := by
  have h' := h.al o
  have hno : ∀ k, k ≤ w.heap.size → k < (W.alloc o).heap.size → w9.heap[k]? = (W.alloc o).heap[k]? := fun k hk hk2 => hgrow.block k hk2 (fun e => by have := h.lt1 k e.symm; omega)
  have hsz := h.grw.size
  refine ⟨by simpa [iv4] using hown, h'.r2.kept hgrow ?_, ?_, ?_, ?_, (hno _ (Nat.le_refl _) h'.box.lt).trans h'.box⟩
  · cases e : (Value.slice a2 L2.length c2).ownBlock with
    | none => exact Or.inl rfl
    | some k => exact Or.inr fun e' => h.ne k e'.symm e
  · intro k e e'
    have hk : g = k := by simpa [Value.ownBlock] using e
    subst hk
    rcases hat with h1 | h1
    · exact h.ne g h1 e'
    · have := h.lt2 g e'
      omega
  · obtain ⟨a, cap, zs, k, seed, hblk, hc, rest⟩ := h'.src
    have hbel : Below s (W.alloc o) w9 := ⟨hgrow.os, hgrow.tape, hgrow.output, hgrow.size, fun k hk => hno k (by omega) (by rw [World.size_alloc]; omega)⟩
    exact ⟨a, cap, zs, k, seed, (hno s (by omega) (by rw [World.size_alloc]; omega)).trans hblk, hc.below hbel (Nat.le_refl _), rest⟩
  · exact ⟨hgrow.os.trans h'.grw.os, hgrow.tape.trans h'.grw.tape, hgrow.output.trans h'.grw.output, Nat.le_trans h'.grw.size hgrow.size, fun k hk hne => (hno k (by omega) (Nat.lt_of_lt_of_le hk h'.grw.size)).trans (h'.grw.block k hk hne)⟩
/-- a store into the first row -/
theorem DS.set {g : Nat} (h : DS w s (some ⟨g, 0, none⟩) c1 a2 c2 L1 L2 W) (hs : s < w.heap.size) (j : Nat) (x : Int) : DS w s (some ⟨g, 0, none⟩) c1 a2 c2 (L1.set j x) L2 (W.setCell ⟨g, j, none⟩ (.int .i64 x)) := by
  obtain ⟨k1, k2⟩ := h.r1.stored j (.int .i64 x)
  have hg := h.lt1 g (by simp [Value.ownBlock])
  have hno : ∀ k, k ≤ w.heap.size → (W.setCell ⟨g, j, none⟩ (.int .i64 x)).heap[k]? = W.heap[k]? := fun k hk => Below.heap_setCell W ⟨g, j, none⟩ _ k (by simp; omega)
  refine ⟨?_, h.r2.kept k2 (Or.inr fun e => h.ne g (by simp [Value.ownBlock]) e), ?_, ?_, ?_, (hno _ (Nat.le_refl _)).trans h.box⟩
  · rw [List.length_set]
    have : (L1.set j x).map iv4 = (L1.map iv4).set j (.int .i64 x) := by rw [List.map_set]; rfl
    rw [this]
    exact k1
  · rw [List.length_set]; exact h.ne
  · obtain ⟨a, cap, zs, k, seed, hblk, hc, rest⟩ := h.src
    have hbel : Below s W (W.setCell ⟨g, j, none⟩ (.int .i64 x)) := (Below.refl _ _).setCell (p := ⟨g, j, none⟩) (by simp; omega) _
    exact ⟨a, cap, zs, k, seed, (hno s (by omega)).trans hblk, hc.below hbel (Nat.le_refl _), rest⟩
  · exact ⟨h.grw.os, h.grw.tape, h.grw.output, by simpa using h.grw.size, fun k hk hne => (hno k (by omega)).trans (h.grw.block k hk hne)⟩
/-- both rows given up -/
theorem DS.gone (h : DS w s a1 c1 a2 c2 L1 L2 W) : DS w s none 0 none 0 [] [] W := ⟨World.ownsRow_nil _ _ _ _, World.ownsRow_nil _ _ _ _, fun g e => by simp [Value.ownBlock] at e, h.src, h.grw, h.box⟩
end
/-- what a draw of a profile leaves -/
def PrDrawn (w : World) (s : Nat) (e : Ending) (w' : World) : Prop :=
  ∃ (a b : Option Addr) (c d : Nat) (zs ys : List Int), e = .returned (.agg #[.slice a zs.length c, .slice b ys.length d]) ∧ zs.length ≤ 20 ∧ ys.length ≤ 20 ∧ zs.length ≤ c ∧ ys.length ≤ d ∧ Prof w' w'.heap.size a b zs ys ∧ (∀ x, a = some x → w.heap.size < x.block) ∧ (∀ x, b = some x → w.heap.size < x.block) ∧ Src w' s ∧ w.grownBy w' (some s)
theorem own_caps {w : World} {B n c : Nat} {a : Option Addr} {e : TypeId} {xs : List Value} (h : w.ownsRow B e 1 (.slice a n c) n xs) : n ≤ c := by
  rcases h.2 with ⟨h', h0⟩ | ⟨g, cap, cur, h', _, _, hle, _⟩
  · omega
  · simp only [Value.slice.injEq] at h'; omega
theorem own_ints {w : World} {B c : Nat} {a : Option Addr} {L : List Int} (h : w.ownsRow B 2 1 (.slice a L.length c) L.length (L.map iv4)) : Ints .i64 w w.heap.size a L := fun hp => by
  rcases h.2 with ⟨h', h0⟩ | ⟨g, cap, cur, h', hb, hg, hle, _⟩
  · omega
  · simp only [Value.slice.injEq] at h'
    obtain ⟨rfl, -, rfl⟩ := h'
    refine ⟨g, 0, rfl, (h.lt g (by simp [Value.ownBlock])).2, fun j hj => ?_⟩
    rw [Nat.zero_add, h.cellAt j (by omega), List.getElem?_map, List.getElem?_eq_getElem hj, List.getD_eq_getElem?_getD, List.getElem?_eq_getElem hj]
    rfl
theorem ds_fin {w W : World} {s c1 c2 : Nat} {a1 a2 : Option Addr} {L1 L2 : List Int} (h : DS w s a1 c1 a2 c2 L1 L2 W) (hs : s < w.heap.size) (h1 : L1.length ≤ 20) (h2 : L2.length ≤ 20) (u v : Value) :
    PrDrawn w s (.returned (.agg #[.slice a1 L1.length c1, .slice a2 L2.length c2])) ((W.setCell ⟨w.heap.size, 0, none⟩ u).setCell ⟨w.heap.size, 1, none⟩ v) := by
  have k1 := ownsRow_setCell_below (ownsRow_setCell_below h.r1 (a := ⟨w.heap.size, 0, none⟩) (by simp) u) (a := ⟨w.heap.size, 1, none⟩) (by simp) v
  have k2 := ownsRow_setCell_below (ownsRow_setCell_below h.r2 (a := ⟨w.heap.size, 0, none⟩) (by simp) u) (a := ⟨w.heap.size, 1, none⟩) (by simp) v
  exact ⟨a1, a2, c1, c2, L1, L2, rfl, h1, h2, own_caps h.r1, own_caps h.r2, ⟨own_ints k1, own_ints k2, by omega, by omega⟩, fun x e => (h.lt1 x.block (by rw [e]; rfl)).1, fun x e => (h.lt2 x.block (by rw [e]; rfl)).1, (h.src.set_far (by simpa using hs) _).set_far (by simpa using hs) _, two_set h.grw (Nat.le_refl _)⟩
end Go.Proofs.Ytcaekheghjnipaa
