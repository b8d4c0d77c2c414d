/- Rows of directions of one's own: kept over calls, compared, marked, read again. -/
import Derived.Test.YtgecbfbmmbfnmaaLys
import Derived.Test.YtgecbfbmmbfnmaaRowG
import Derived.Test.YtgecbfbmmbfnmaaDrc
import Derived.LoopTactic
import Derived.StillTailTactics
namespace Go.Proofs.Ytgecbfbmmbfnmaa
open Go.ChangeShapes Go.WideShapes Go.ChangeAt Go.RowKit Go.Shelf Num
set_option linter.unusedVariables false
/-- the slice at 'a' reads as the directions 'ps'; its memory lies below block B -/
def Drs (w : World) (B : Nat) (a : Option Addr) (ps : List (Int × Int × Int)) : Prop :=
  0 < ps.length → ∃ b off, a = some ⟨b, off, none⟩ ∧ b < B ∧ ∀ j, j < ps.length → w.cell? ⟨b, off + j * 3, none⟩ = some (.int .i64 (ps.getD j (0, 0, 0)).1) ∧ w.cell? ⟨b, off + j * 3 + 1, none⟩ = some (.int .i64 (ps.getD j (0, 0, 0)).2.1) ∧ w.cell? ⟨b, off + j * 3 + 2, none⟩ = some (.int .i64 (ps.getD j (0, 0, 0)).2.2)
theorem Drs.below {w w' : World} {B : Nat} {a : Option Addr} {ps : List (Int × Int × Int)} (h : Drs w B a ps) (hb : Below B w w') : Drs w' B a ps := fun hp => by
  obtain ⟨b, off, e, hB, hc⟩ := h hp
  exact ⟨b, off, e, hB, fun j hj => ⟨(hb.cell (p := ⟨b, off + j * 3, none⟩) hB).trans (hc j hj).1, (hb.cell (p := ⟨b, off + j * 3 + 1, none⟩) hB).trans (hc j hj).2.1, (hb.cell (p := ⟨b, off + j * 3 + 2, none⟩) hB).trans (hc j hj).2.2⟩⟩
theorem Drs.more {w : World} {B B' : Nat} {a : Option Addr} {ps : List (Int × Int × Int)} (h : Drs w B a ps) (hb : B ≤ B') : Drs w B' a ps := fun hp => by
  obtain ⟨b, off, e, hB, hc⟩ := h hp
  exact ⟨b, off, e, by omega, hc⟩
theorem Drs.at_ {w : World} {B : Nat} {a : Option Addr} {ps : List (Int × Int × Int)} (h : Drs w B a ps) {j : Nat} (hj : j < ps.length) :
    ∃ b off x y z, a = some ⟨b, off, none⟩ ∧ b < B ∧ ps.getD j (0, 0, 0) = (x, y, z) ∧ w.cell? ⟨b, off + j * 3, none⟩ = some (.int .i64 x) ∧ w.cell? ⟨b, off + j * 3 + 1, none⟩ = some (.int .i64 y) ∧ w.cell? ⟨b, off + j * 3 + 2, none⟩ = some (.int .i64 z) := by
  obtain ⟨b, off, e, hB, hc⟩ := h (by omega)
  exact ⟨b, off, _, _, _, e, hB, rfl, (hc j hj).1, (hc j hj).2.1, (hc j hj).2.2⟩
/-- directions below a mark -/
structure DrsL (w : World) (L : Nat) (a : Option Addr) (ps : List (Int × Int × Int)) : Prop where
  at_ : Drs w L a ps
  le : L ≤ w.heap.size
theorem DrsL.of {w : World} {a : Option Addr} {ps : List (Int × Int × Int)} (h : Drs w w.heap.size a ps) : DrsL w w.heap.size a ps := ⟨h, Nat.le_refl _⟩
theorem DrsL.on {w w' : World} {L : Nat} {a : Option Addr} {ps : List (Int × Int × Int)} (h : DrsL w L a ps) (hb : Below w.heap.size w w') : DrsL w' L a ps := ⟨h.at_.below (hb.mono h.le), Nat.le_trans h.le hb.size⟩
theorem DrsL.drs {w : World} {L : Nat} {a : Option Addr} {ps : List (Int × Int × Int)} (h : DrsL w L a ps) : Drs w w.heap.size a ps := h.at_.more h.le
theorem DrsL.kept {w w' : World} {L l i : Nat} {a : Option Addr} {ps : List (Int × Int × Int)} (h : DrsL w L a ps) (hk : Kept l i w w') (hd : L ≤ l) (hl : l ≤ w.heap.size) : DrsL w' L a ps := ⟨h.at_.below ((hk.below hl).mono hd), Nat.le_trans h.le hk.size⟩
/-- the numbers of the directions in their order -/
def flD (ps : List (Int × Int × Int)) : List Int := ps.flatMap fun p => [p.1, p.2.1, p.2.2]
theorem flD_len (ps : List (Int × Int × Int)) : (flD ps).length = 3 * ps.length := by
  induction ps with
  | nil => rfl
  | cons p q ih => simp only [flD, List.flatMap_cons, List.length_append, List.length_cons, List.length_nil] at ih ⊢; omega
theorem flD_snoc (ps : List (Int × Int × Int)) (p : Int × Int × Int) : flD (ps ++ [p]) = flD ps ++ [p.1, p.2.1, p.2.2] := by simp [flD]
theorem flD_at (ps : List (Int × Int × Int)) : ∀ j : Nat, j < ps.length → (flD ps)[3 * j]? = some (ps.getD j (0, 0, 0)).1 ∧ (flD ps)[3 * j + 1]? = some (ps.getD j (0, 0, 0)).2.1 ∧ (flD ps)[3 * j + 2]? = some (ps.getD j (0, 0, 0)).2.2 := by
  induction ps with
  | nil => intro j hj; simp at hj
  | cons p q ih =>
    intro j hj
    cases j with
    | zero => exact ⟨rfl, rfl, rfl⟩
    | succ j =>
      have := ih j (by simpa using hj)
      exact ⟨by simpa [flD, Nat.mul_add] using this.1, by simpa [flD, Nat.mul_add] using this.2.1, by simpa [flD, Nat.mul_add] using this.2.2⟩
/-- a row of directions of one's own between two marks of the memory -/
structure OwnD (w : World) (lo hi : Nat) (a : Option Addr) (c : Nat) (ps : List (Int × Int × Int)) : Prop where
  own : w.ownsRow lo 34 3 (.slice a ps.length c) ps.length ((flD ps).map iv4)
  lt : ∀ g, (Value.slice a ps.length c).ownBlock = some g → g < hi
  up : hi ≤ w.heap.size
theorem OwnD.none (W : World) (lo : Nat) (h : lo ≤ W.heap.size) : OwnD W lo W.heap.size .none 0 [] := ⟨World.ownsRow_nil _ _ _ _, fun g e => by simp [Value.ownBlock] at e, Nat.le_refl _⟩
theorem RowG.ownD {w1 W : World} {g c N lo : Nat} {ps : List (Int × Int × Int)} (h : RowG w1 34 3 g c N ((flD ps).map iv4) W) (hl : ps.length = N) (hlo : lo ≤ w1.heap.size) : OwnD W lo W.heap.size (some ⟨g, 0, .none⟩) c ps := by
  subst hl
  exact ⟨World.ownsRow.mono h.own hlo, fun g e => (h.own.lt g e).2, Nat.le_refl _⟩
theorem OwnD.on {w w' : World} {lo hi : Nat} {a : Option Addr} {c : Nat} {ps : List (Int × Int × Int)} (h : OwnD w lo hi a c ps) (hb : Below w.heap.size w w') : OwnD w' lo hi a c ps := ⟨own_bel h.own hb, h.lt, Nat.le_trans h.up hb.size⟩
theorem OwnD.less {w : World} {lo lo' hi : Nat} {a : Option Addr} {c : Nat} {ps : List (Int × Int × Int)} (h : OwnD w lo hi a c ps) (hl : lo' ≤ lo) : OwnD w lo' hi a c ps := ⟨World.ownsRow.mono h.own hl, h.lt, h.up⟩
theorem OwnD.grow {w : World} {lo hi hi' : Nat} {a : Option Addr} {c : Nat} {ps : List (Int × Int × Int)} (h : OwnD w lo hi a c ps) (h1 : hi ≤ hi') (h2 : hi' ≤ w.heap.size) : OwnD w lo hi' a c ps := ⟨h.own, fun g e => Nat.lt_of_lt_of_le (h.lt g e) h1, h2⟩
theorem OwnD.kept {w w' : World} {lo hi l i : Nat} {a : Option Addr} {c : Nat} {ps : List (Int × Int × Int)} (h : OwnD w lo hi a c ps) (hk : Kept l i w w') (hd : hi ≤ l ∨ i ≤ lo) : OwnD w' lo hi a c ps :=
  ⟨own_atG h.own (fun g e => hk.block g (h.own.lt g e).2 (by have := (h.own.lt g e).1; have := h.lt g e; omega)), h.lt, Nat.le_trans h.up hk.size⟩
theorem OwnD.drs {w : World} {lo hi : Nat} {a : Option Addr} {c : Nat} {ps : List (Int × Int × Int)} (h : OwnD w lo hi a c ps) : Drs w w.heap.size a ps := fun hp => by
  rcases h.own.2 with ⟨h', h0⟩ | ⟨g, cap, cur, h', hb, hg, hle, _⟩
  · omega
  · simp only [Value.slice.injEq] at h'
    obtain ⟨rfl, -, rfl⟩ := h'
    refine ⟨g, 0, rfl, (h.own.lt g (by simp [Value.ownBlock])).2, fun j hj => ?_⟩
    have hf := flD_at ps j hj
    rw [Nat.zero_add, h.own.cellAt (j * 3) (by omega), h.own.cellAt (j * 3 + 1) (by omega), h.own.cellAt (j * 3 + 2) (by omega), List.getElem?_map, List.getElem?_map, List.getElem?_map, show j * 3 = 3 * j from Nat.mul_comm _ _, hf.1, hf.2.1, hf.2.2]
    exact ⟨rfl, rfl, rfl⟩
/-- counting triples from k on -/
def rampD (k : Int) (n : Nat) : List (Int × Int × Int) := (List.range n).map (fun (i : Nat) => (k + 3 * (i : Int), k + 3 * (i : Int) + 1, k + 3 * (i : Int) + 2))
theorem rampD_len (k : Int) (n : Nat) : (rampD k n).length = n := by simp [rampD]
theorem rampD_at (k : Int) {n i : Nat} (h : i < n) : (rampD k n).getD i (0, 0, 0) = (k + 3 * (i : Int), k + 3 * (i : Int) + 1, k + 3 * (i : Int) + 2) := by
  unfold rampD
  rw [List.getD_eq_getElem?_getD, List.getElem?_map, List.getElem?_range h]
  rfl
theorem flD_ramp (k : Int) : ∀ n : Nat, flD (rampD k n) = ramp k (3 * n)
  | 0 => rfl
  | n + 1 => by
    have e : rampD k (n + 1) = rampD k n ++ [(k + 3 * (n : Int), k + 3 * (n : Int) + 1, k + 3 * (n : Int) + 2)] := by unfold rampD; rw [List.range_succ, List.map_append]; rfl
    have e2 : ramp k (3 * (n + 1)) = ramp k (3 * n) ++ [k + 3 * (n : Int), k + 3 * (n : Int) + 1, k + 3 * (n : Int) + 2] := by
      unfold ramp
      rw [show 3 * (n + 1) = 3 * n + 1 + 1 + 1 from by omega, List.range_succ, List.range_succ, List.range_succ, List.map_append, List.map_append, List.map_append, List.append_assoc, List.append_assoc]
      congr 1
      simp only [List.map_cons, List.map_nil, List.cons_append, List.nil_append, List.cons.injEq, and_true]
      refine ⟨?_, ?_, ?_⟩ <;> omega
    rw [e, e2, ← flD_ramp k n, flD_snoc]
theorem mkV_set3 (k : Int) {zs : List Int} {j : Nat} (h : 3 * j + 2 < zs.length) : (((mkV k zs (3 * j)).set (j * 3) (k + 3 * (j : Int))).set (j * 3 + 1) (k + 3 * (j : Int) + 1)).set (j * 3 + 2) (k + 3 * (j : Int) + 2) = mkV k zs (3 * (j + 1)) := by
  rw [show j * 3 = 3 * j from Nat.mul_comm _ _, show k + 3 * (j : Int) + 2 = k + ((3 * j + 2 : Nat) : Int) from by omega, show k + 3 * (j : Int) + 1 = k + ((3 * j + 1 : Nat) : Int) from by omega, show k + 3 * (j : Int) = k + ((3 * j : Nat) : Int) from by omega, mkV_set k (by omega), mkV_set k (by omega), mkV_set k h]; rfl
theorem own_set3 {w : World} {t : TypeId} {B g c n : Nat} {zs : List Int} (h : w.ownsRow B t 3 (.slice (some ⟨g, 0, none⟩) n c) n (zs.map iv4)) (j : Nat) (x : Int) :
    (w.setCell ⟨g, j, none⟩ (.int .i64 x)).ownsRow B t 3 (.slice (some ⟨g, 0, none⟩) n c) n ((zs.set j x).map iv4) := by
  have := (h.stored j (.int .i64 x)).1
  rwa [show (zs.set j x).map iv4 = (zs.map iv4).set j (.int .i64 x) by rw [List.map_set]; rfl]

end Go.Proofs.Ytgecbfbmmbfnmaa
