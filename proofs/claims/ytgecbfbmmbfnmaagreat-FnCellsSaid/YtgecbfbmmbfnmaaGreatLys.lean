import Derived.Test.YtgecbfbmmbfnmaaGreatPrs
import Derived.Test.YtgecbfbmmbfnmaaGreatBas
import Derived.Deep.AppendLies
import Derived.Maps.AppendAt
import Derived.Deep.RegionHeld3
import Derived.Deep.DrawnRows
import Derived.OwnWalk
import Derived.WalkSpells
import Derived.Laws.CopyOwn
import Derived.RegionTactic
import Derived.Deep.DeepCutAuto
import Derived.Outline
import Derived.Deep.Onto
import Derived.Laws.OwnMore
import Derived.Laws.MakeOwn
namespace Go.Proofs.YtgecbfbmmbfnmaaGreat
section
/- The layer of a depth: contracts of the program's search over the knots and of the model's. Codes of a profile together with a depth, a layer, a knot: contracts of the program's and the model's checks. Contracts of LayerOf, the program's and the model's. Contracts of the laws' marks: a slice that lies in a block of its own is filled with counting numbers, and read again. A law of append at a step of a drawn region: onto a row of the call's own that is not nil; any number of elements is appended, none too. Contracts of CutProfile, the program's and the model's. Rows of one's own between two marks of the memory: marking them leaves everything else as it was. The contracts of CutProfile and of the laws' marks of a profile, for every argument. Rows of numbers of one's own, built by append: kept over calls, grown by one, marked. Contracts of the laws' likeInts and hasInt. -/
open Go.ChangeShapes Go.WideShapes Go.ChangeAt Go.RowKit Go.Shelf Num
set_option linter.unusedVariables false
attribute [local go_sem] Oper.semAt_some

open Go.ChangeShapes Go.WideShapes Go.ChangeAt Go.RowKit Go.Shelf Num
set_option linter.unusedVariables false

def hkB (zs : List Int) (x : Int) : Bool := decide (0 ≤ x) && decide (x < (zs.length : Int))
theorem hkB_t {zs : List Int} {x : Int} (h : hkB zs x = true) : 0 ≤ x ∧ x < (zs.length : Int) := by unfold hkB at h; simpa using h
/-- the code -/
def cdT (p h : Bool) : Int := if p then (if h then 0 else 2) else 1
set_option maxRecDepth 100000 in
theorem hkt_any (w : World) (a b : Option Addr) (c d : Nat) (zs ys : List Int) (x : Int) (lz : zs.length ≤ 1048576) :
    Calls Tryz.prog 37 #[.agg #[.slice a zs.length c, .slice b ys.length d], .int .i64 x] w fun e w' => e = .returned (.bool (hkB zs x)) ∧ Below w.heap.size w w' := by
  have HE : Hid (hkB zs x = (decide (0 ≤ x) && decide (x < (zs.length : Int)))) := Lib.hid rfl
  cases h0 : decide (0 ≤ x)
  · have g0 : ¬ 0 ≤ x := of_decide_eq_false h0
    go_enter Tryz.func37, Tryz.ntmps37
    go_wp2
    go_ret
    exact ⟨ret_bool (by rw [HE.out, h0]; rfl), (by repeat (first | exact Below.refl _ _ | (refine Below.alloc ?_ (by simp <;> omega) _) | (refine Below.setCell ?_ (by simp <;> omega) _) | (refine Below.drew ?_) | (refine bel_drewN ?_ _)))⟩
  · have g0 : 0 ≤ x := of_decide_eq_true h0
    go_enter Tryz.func37, Tryz.ntmps37
    go_wp2
    go_ret
    exact ⟨ret_bool (by rw [HE.out, h0]; simp), (by repeat (first | exact Below.refl _ _ | (refine Below.alloc ?_ (by simp <;> omega) _) | (refine Below.setCell ?_ (by simp <;> omega) _) | (refine Below.drew ?_) | (refine bel_drewN ?_ _)))⟩

set_option maxRecDepth 100000 in
theorem eok_any (w : World) (a b : Option Addr) (c d : Nat) (zs ys : List Int) (x : Int) (hp : Prof w w.heap.size a b zs ys) :
    Calls Tryz.prog 49 #[.agg #[.slice a zs.length c, .slice b ys.length d], .func (.func 37) #[.agg #[.slice a zs.length c, .slice b ys.length d]] #[], .int .i64 x] w fun e w' => e = .returned (.int .i64 (cdT (prfB zs ys) (hkB zs x))) ∧ Below w.heap.size w w' := by
  have lz := hp.lz
  have HP := Lib.hid hp
  clear hp
  cases hv : prfB zs ys
  · have HV := Lib.hid hv
    clear hv
    go_enter Tryz.func49, Tryz.ntmps49
    go_wp2_with (go_at_call 70; refine (ipr_any _ _ _ _ _ zs ys (HP.out.on (by repeat (first | exact Below.refl _ _ | (refine Below.alloc ?_ (by simp <;> omega) _) | (refine Below.setCell ?_ (by simp <;> omega) _) | (refine Below.drew ?_) | (refine bel_drewN ?_ _))))).mono ?_; rw [HV.out]; rintro e w' ⟨rfl, hb⟩)
    go_ret
    exact ⟨rfl, bel_end (by repeat (first | exact Below.refl _ _ | (refine Below.alloc ?_ (by simp <;> omega) _) | (refine Below.setCell ?_ (by simp <;> omega) _) | (refine Below.drew ?_) | (refine bel_drewN ?_ _))) hb⟩
  · have HV := Lib.hid hv
    clear hv
    cases hh : hkB zs x
    all_goals
      have HH := Lib.hid hh
      clear hh
      go_enter Tryz.func49, Tryz.ntmps49
      go_wp2_with fail
      refine (ipr_any _ _ _ _ _ zs ys (HP.out.on (by repeat (first | exact Below.refl _ _ | (refine Below.alloc ?_ (by simp <;> omega) _) | (refine Below.setCell ?_ (by simp <;> omega) _) | (refine Below.drew ?_) | (refine bel_drewN ?_ _))))).mono ?_
      rw [HV.out]
      rintro e w1 ⟨rfl, hb⟩
      have HB : Hid (Below w.heap.size w w1) := Lib.hid (bel_end (by repeat (first | exact Below.refl _ _ | (refine Below.alloc ?_ (by simp <;> omega) _) | (refine Below.setCell ?_ (by simp <;> omega) _) | (refine Below.drew ?_) | (refine bel_drewN ?_ _))) hb)
      clear hb
      go_wp2_with fail
      refine (hkt_any _ _ _ _ _ zs ys _ lz).mono ?_
      rw [HH.out]
      rintro e w2 ⟨rfl, hb⟩
      go_wp2
      go_ret
      exact ⟨rfl, bel_end HB.out hb⟩

open Go.ChangeShapes Go.WideShapes Go.ChangeAt Go.RowKit Go.Shelf Num
set_option linter.unusedVariables false
open Go.ChangeShapes Go.WideShapes Go.ChangeAt Go.RowKit Go.Shelf Num
set_option linter.unusedVariables false
open Go.ChangeShapes Go.WideShapes Go.ChangeAt Go.RowKit
set_option linter.unusedVariables false
section
variable {P : Program} {w : World}
end
open Go.ChangeShapes Go.WideShapes Go.ChangeAt Go.RowKit Go.Shelf Num
set_option linter.unusedVariables false
attribute [local go_sem ↓] Go.wp_at_zero Go.wp_at_succ
theorem Ints.take {w : World} {B : Nat} {a : Option Addr} {zs : List Int} (h : Ints .i64 w B a zs) (m : Nat) : Ints .i64 w B a (zs.take m) := fun hp => by
  simp only [List.length_take] at hp
  obtain ⟨b, off, e, hB, hc⟩ := h (by omega)
  refine ⟨b, off, e, hB, fun j hj => ?_⟩
  simp only [List.length_take] at hj
  rw [hc j (by omega)]
  congr 2
  rw [List.getD_eq_getElem?_getD, List.getD_eq_getElem?_getD, List.getElem?_take, if_pos (by omega)]
open Go.ChangeShapes Go.WideShapes Go.ChangeAt Go.RowKit Go.Shelf Num
set_option linter.unusedVariables false
/-- only blocks between two marks have turned, or are new -/
structure Kept (lo hi : Nat) (w w' : World) : Prop where
  os : w'.os = w.os
  tape : w'.tape = w.tape
  output : w'.output = w.output
  size : w.heap.size ≤ w'.heap.size
  block : ∀ k, k < w.heap.size → (k < lo ∨ hi ≤ k) → w'.heap[k]? = w.heap[k]?
theorem Kept.below {lo hi : Nat} {w w' : World} (h : Kept lo hi w w') (hl : lo ≤ w.heap.size) : Below lo w w' := ⟨h.os, h.tape, h.output, h.size, fun k hk => h.block k (by omega) (Or.inl hk)⟩
theorem Kept.trans {lo hi : Nat} {a b c : World} (h : Kept lo hi a b) (g : Kept lo hi b c) : Kept lo hi a c :=
  ⟨g.os.trans h.os, g.tape.trans h.tape, g.output.trans h.output, Nat.le_trans h.size g.size, fun k hk hd => (g.block k (Nat.lt_of_lt_of_le hk h.size) hd).trans (h.block k hk hd)⟩
open Go.ChangeShapes Go.WideShapes Go.ChangeAt Go.RowKit Go.Shelf Num
set_option linter.unusedVariables false
/-- a row that grows behind the world w1 -/
structure RowIn (w1 : World) (a : Option Addr) (c : Nat) (L : List Int) (W : World) : Prop where
  own : W.ownsRow w1.heap.size 2 1 (.slice a L.length c) L.length (L.map iv4)
  bel : Below w1.heap.size w1 W
theorem RowIn.nil (w1 : World) : RowIn w1 none 0 [] w1 := ⟨World.ownsRow_nil _ _ _ _, Below.refl _ _⟩
theorem RowIn.lit (w1 : World) : RowIn w1 (some ⟨w1.heap.size, 0, none⟩) 0 [] (w1.alloc (.cells #[] 2)) :=
  ⟨World.ownsRow_lit (base := w1.heap.size) (e := 2) (size := 1) w1 #[] 0 (Nat.le_refl _) (by decide) (by decide), (Below.refl _ _).alloc (Nat.le_refl _) _⟩
theorem RowIn.on {w1 W W' : World} {a : Option Addr} {c : Nat} {L : List Int} (h : RowIn w1 a c L W) (hb : Below W.heap.size W W') : RowIn w1 a c L W' := ⟨own_bel h.own hb, bel_end h.bel hb⟩
/-- one number more -/
theorem RowIn.snoc {w1 W w9 : World} {a : Option Addr} {c g cap : Nat} {L : List Int} {x : Int} {o : Obj} (h : RowIn w1 a c L W) (hown : w9.ownsRow w1.heap.size 2 1 (.slice (some ⟨g, 0, none⟩) (L.length + 1) cap) (L.length + 1) (L.map iv4 ++ [.int .i64 x]))
    (hgrow : (W.alloc o).grownBy w9 (Value.slice a L.length c).ownBlock) : RowIn w1 (some ⟨g, 0, none⟩) cap (L ++ [x]) w9 :=
  ⟨by simpa [iv4] using hown, (h.bel.alloc h.bel.size o).grown hgrow (by simp; exact Nat.le_succ_of_le h.bel.size) (fun k e => (h.own.lt k e).1)⟩
/-- a row of one's own between two marks of the memory -/
structure OwnA (w : World) (lo hi : Nat) (a : Option Addr) (c : Nat) (zs : List Int) : Prop where
  own : w.ownsRow lo 2 1 (.slice a zs.length c) zs.length (zs.map iv4)
  lt : ∀ g, (Value.slice a zs.length c).ownBlock = some g → g < hi
  up : hi ≤ w.heap.size
theorem RowIn.ownA {w1 W : World} {a : Option Addr} {c : Nat} {L : List Int} (h : RowIn w1 a c L W) {lo : Nat} (hl : lo ≤ w1.heap.size) : OwnA W lo W.heap.size a c L :=
  ⟨World.ownsRow.mono h.own hl, fun g e => (h.own.lt g e).2, Nat.le_refl _⟩
theorem OwnA.ints {w : World} {lo hi : Nat} {a : Option Addr} {c : Nat} {zs : List Int} (h : OwnA w lo hi a c zs) : Ints .i64 w w.heap.size a zs := own_ints h.own
theorem OwnA.on {w w' : World} {lo hi : Nat} {a : Option Addr} {c : Nat} {zs : List Int} (h : OwnA w lo hi a c zs) (hb : Below w.heap.size w w') : OwnA w' lo hi a c zs := ⟨own_bel h.own hb, h.lt, Nat.le_trans h.up hb.size⟩
theorem own_at {w w' : World} {B n : Nat} {a : Option Addr} {c : Nat} {xs : List Value} (h : w.ownsRow B 2 1 (.slice a n c) n xs) (hk : ∀ g, (Value.slice a n c).ownBlock = some g → w'.heap[g]? = w.heap[g]?) : w'.ownsRow B 2 1 (.slice a n c) n xs := by
  refine ⟨h.1, ?_⟩
  rcases h.2 with h' | ⟨g, cap, cur, hv, hb, hg, rest⟩
  · exact Or.inl h'
  · exact Or.inr ⟨g, cap, cur, hv, hb, (hk g (by rw [hv]; rfl)).trans hg, rest⟩
theorem OwnA.kept {w w' : World} {lo hi l i : Nat} {a : Option Addr} {c : Nat} {zs : List Int} (h : OwnA w lo hi a c zs) (hk : Kept l i w w') (hd : hi ≤ l ∨ i ≤ lo) : OwnA w' lo hi a c zs :=
  ⟨own_at h.own (fun g e => hk.block g (h.own.lt g e).2 (by have := (h.own.lt g e).1; have := h.lt g e; omega)), h.lt, Nat.le_trans h.up hk.size⟩
open Go.ChangeShapes Go.WideShapes Go.ChangeAt Go.RowKit Num
set_option linter.unusedVariables false
end
section
/- Rows of structs of one's own: made, grown by append, read, kept. -/
open Go.ChangeShapes Go.WideShapes Go.ChangeAt Go.RowKit Go.Shelf
set_option linter.unusedVariables false
set_option linter.unusedSimpArgs false
/-- the cells of the elements, one behind the other -/
def rowL (f : Nat → List Value) (n : Nat) : List Value := (List.range n).flatMap f
theorem rowL_succ (f : Nat → List Value) (n : Nat) : rowL f (n + 1) = rowL f n ++ f n := by simp [rowL, List.range_succ]
theorem rowL_len {f : Nat → List Value} {m : Nat} (hf : ∀ j, (f j).length = m) : ∀ n, (rowL f n).length = n * m
  | 0 => by simp [rowL]
  | n + 1 => by rw [rowL_succ, List.length_append, rowL_len hf n, hf, Nat.succ_mul]
theorem rowL_at {f : Nat → List Value} {m : Nat} (hf : ∀ j, (f j).length = m) {n j r : Nat} (hj : j < n) (hr : r < m) : (rowL f n)[j * m + r]? = (f j)[r]? := by
  induction n with
  | zero => omega
  | succ n ih =>
    rw [rowL_succ]
    have hl := rowL_len hf n
    rcases Nat.lt_or_ge j n with l | l
    · have h1 : j * m + r < n * m := by
        have := Nat.mul_le_mul_right m (show j + 1 ≤ n by omega)
        rw [Nat.succ_mul] at this
        omega
      rw [List.getElem?_append_left (by omega)]
      exact ih l
    · obtain rfl : j = n := by omega
      rw [List.getElem?_append_right (by omega), hl, show j * m + r - j * m = r by omega]
theorem own_atG {w w' : World} {B n m : Nat} {t : TypeId} {a : Option Addr} {c : Nat} {xs : List Value} (h : w.ownsRow B t m (.slice a n c) n xs) (hk : ∀ g, (Value.slice a n c).ownBlock = some g → w'.heap[g]? = w.heap[g]?) : w'.ownsRow B t m (.slice a n c) n xs := by
  refine ⟨h.1, ?_⟩
  rcases h.2 with h' | ⟨g, cap, cur, hv, hb, hg, rest⟩
  · exact Or.inl h'
  · exact Or.inr ⟨g, cap, cur, hv, hb, (hk g (by rw [hv]; rfl)).trans hg, rest⟩
/-- a row that grows behind the world w1, not nil -/
structure RowG (w1 : World) (t : TypeId) (m g c n : Nat) (L : List Value) (W : World) : Prop where
  own : W.ownsRow w1.heap.size t m (.slice (some ⟨g, 0, none⟩) n c) n L
  bel : Below w1.heap.size w1 W
theorem RowG.lo {w1 W : World} {t : TypeId} {m g c n : Nat} {L : List Value} (h : RowG w1 t m g c n L W) : w1.heap.size ≤ g := (h.own.lt g rfl).1
theorem RowG.up {w1 W : World} {t : TypeId} {m g c n : Nat} {L : List Value} (h : RowG w1 t m g c n L W) : g < W.heap.size := (h.own.lt g rfl).2
theorem RowG.on {w1 W W' : World} {t : TypeId} {m g c n : Nat} {L : List Value} (h : RowG w1 t m g c n L W) (hb : Below W.heap.size W W') : RowG w1 t m g c n L W' := ⟨own_bel h.own hb, bel_end h.bel hb⟩
theorem RowG.at_ {w1 W W' : World} {t : TypeId} {m g c n : Nat} {L : List Value} (h : RowG w1 t m g c n L W) (hk : W'.heap[g]? = W.heap[g]?) (hb : Below w1.heap.size w1 W') : RowG w1 t m g c n L W' :=
  ⟨own_atG h.own (fun g' e => by simp [Value.ownBlock] at e; subst e; exact hk), hb⟩
theorem RowG.made {w1 W : World} {t : TypeId} {m g c : Nat} {Z : Array Value} (h : Bk W g (madeCells Z (c * m)) t) (hg : w1.heap.size ≤ g) (hc : c ≤ maxLen) (hb : Below w1.heap.size w1 W) : RowG w1 t m g c 0 [] W :=
  ⟨⟨by simp, Or.inr ⟨g, c, _, rfl, hg, h, Nat.zero_le _, hc, size_madeCells _ _, by simp⟩⟩, hb⟩
theorem RowG.lit {w1 W : World} {t : TypeId} {m g : Nat} (h : Bk W g #[] t) (hg : w1.heap.size ≤ g) (hb : Below w1.heap.size w1 W) : RowG w1 t m g 0 0 [] W :=
  ⟨⟨by simp, Or.inr ⟨g, 0, _, rfl, hg, h, Nat.zero_le _, by unfold maxLen; omega, by simp, by simp⟩⟩, hb⟩
theorem RowG.snoc {w1 W w9 : World} {t : TypeId} {m g c n g' cap : Nat} {L news : List Value} (h : RowG w1 t m g c n L W) (hown : w9.ownsRow w1.heap.size t m (.slice (some ⟨g', 0, none⟩) (n + 1) cap) (n + 1) (L ++ news)) (hgrow : W.grownBy w9 (some g)) : RowG w1 t m g' cap (n + 1) (L ++ news) w9 :=
  ⟨hown, h.bel.grown hgrow h.bel.size (fun k e => by injection e with e; subst e; exact h.lo)⟩
theorem RowG.blk {w1 W : World} {t : TypeId} {m g c n : Nat} {L : List Value} (h : RowG w1 t m g c n L W) : ∃ cur, Bk W g cur t := by
  rcases h.own.2 with ⟨h', -⟩ | ⟨g', cap, cur, hv, _, hg, _⟩
  · simp at h'
  · simp only [Value.slice.injEq, Option.some.injEq, Addr.mk.injEq] at hv
    obtain ⟨⟨rfl, -⟩, -⟩ := hv
    exact ⟨cur, hg⟩
theorem RowG.ne {w1 W : World} {t t' : TypeId} {m g c n B : Nat} {L : List Value} {cs : Array Value} (h : RowG w1 t m g c n L W) (b : Bk W B cs t') (ht : t ≠ t') : g ≠ B := by
  rintro rfl
  obtain ⟨cur, hc⟩ := h.blk
  have := (show W.heap[g]? = _ from hc).symm.trans b
  simp only [Option.some.injEq, Obj.cells.injEq] at this
  exact ht this.2.1
theorem RowG.cap {w1 W : World} {t : TypeId} {m g c n : Nat} {L : List Value} (h : RowG w1 t m g c n L W) : n ≤ c := by
  rcases h.own.2 with ⟨h', -⟩ | ⟨g', cap, cur, hv, _, _, hle, _⟩
  · simp at h'
  · simp only [Value.slice.injEq] at hv; omega
/-- an element's cell -/
theorem RowG.cell {w1 W : World} {t : TypeId} {m g c n : Nat} {f : Nat → List Value} (h : RowG w1 t m g c n (rowL f n) W) (hf : ∀ j, (f j).length = m) {j r : Nat} (hj : j < n) (hr : r < m) {v : Value} (hv : (f j)[r]? = some v) : W.cell? ⟨g, j * m + r, none⟩ = some v := by
  have := h.own.cells (g := g) rfl _ _ ((rowL_at hf hj hr).trans hv)
  unfold Addr.add at this
  split at this <;> simp_all
end
end Go.Proofs.YtgecbfbmmbfnmaaGreat
