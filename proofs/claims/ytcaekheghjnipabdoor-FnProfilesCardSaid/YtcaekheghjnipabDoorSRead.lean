/- The contract of the model's ReadRatio, and the walk of its exact law. -/
import Derived.Test.YtcaekheghjnipabDoorNums
import Derived.Test.YtcaekheghjnipabDoorIRead
import Derived.Test.YtcaekheghjnipabDoorLRat
import Derived.Deep.RegionHeld3
import Derived.Deep.DeepCutAuto
import Derived.Deep.DrawnRows
import Derived.RegionTactic
import Derived.Deep.QuietTactic
import Derived.BigQuiet
namespace Go.Proofs.YtcaekheghjnipabDoor
open Go.ChangeShapes Go.WideShapes Go.ChangeAt Go.RowKit Num
set_option linter.unusedVariables false
attribute [local go_sem ↓] Go.wp_at_zero Go.wp_at_succ
theorem rat_words {s : ByteArray} {ws : List ByteArray} {u v : Int} (hw : lists ws = splitS s.data.toList) (h : ratB u v = true) (e : ratT u v = s) : ws.length = 2 ∧ wordAt ws 0 = numS u ∧ wordAt ws 1 = numS v := by
  rw [← e, ratT_L h, split_rat] at hw
  have hl : ws.length = 2 := by have := congrArg List.length hw; simpa [lists] using this
  match ws, hl, hw with
  | [a, b], _, hw =>
    simp only [lists, List.map_cons, List.map_nil, List.cons.injEq, and_true] at hw
    refine ⟨rfl, ?_, ?_⟩
    · apply ByteArray.ext; apply Array.toList_inj.1; rw [numS_list]; exact hw.1
    · apply ByteArray.ext; apply Array.toList_inj.1; rw [numS_list]; exact hw.2
theorem numS_inj {x y : Int} (hx : x.natAbs ≤ 1000000000000000) (hy : y.natAbs ≤ 1000000000000000) (h : numS x = numS y) : x = y := by
  have := congrArg (fun t => t.data.toList) h
  simp only [numS_list] at this
  exact itoa_inj hx hy this
theorem rw_fit {u v : Int} (h : ratB u v = true) : u.natAbs < 1000000000000 ∧ v.natAbs < 1000000000000 := by
  obtain ⟨a1, a2, b1, b2, _⟩ := ratB_t h
  omega
theorem rs_bad {s : ByteArray} {ws : List ByteArray} (hw : lists ws = splitS s.data.toList) (h : ∃ j, j < ws.length ∧ ∀ y : Int, y.natAbs < 1000000000000 → numS y ≠ wordAt ws j) : RR s 0 0 false :=
  rr_no fun u v hu e => by
    obtain ⟨hl, h0, h1⟩ := rat_words hw hu e
    obtain ⟨j, hj, hno⟩ := h
    obtain ⟨f1, f2⟩ := rw_fit hu
    match j, hj with
    | 0, _ => exact hno u f1 h0.symm
    | 1, _ => exact hno v f2 h1.symm
    | j + 2, hj => omega
theorem rs_len {s : ByteArray} {ws : List ByteArray} {xs : List Int} (hw : lists ws = splitS s.data.toList) (h : NumsTo ws xs ws.length) (h2 : ¬ xs.length = 2) : RR s 0 0 false :=
  rr_no fun u v hu e => by
    obtain ⟨hl, _, _⟩ := rat_words hw hu e
    exact h2 (by rw [h.1, hl])
theorem rs_no {s : ByteArray} {ws : List ByteArray} {x y : Int} (hw : lists ws = splitS s.data.toList) (h : NumsTo ws [x, y] ws.length) (hr : ratB x y = false) : RR s 0 0 false :=
  rr_no fun u v hu e => by
    obtain ⟨hl, h0, h1⟩ := rat_words hw hu e
    obtain ⟨f1, f2⟩ := rw_fit hu
    have g0 := h.2 0 (by omega)
    have g1 := h.2 1 (by omega)
    simp only [List.getD_cons_zero, List.getD_cons_succ] at g0 g1
    have e0 : x = u := numS_inj (by omega) (by omega) (g0.2.trans h0)
    have e1 : y = v := numS_inj (by omega) (by omega) (g1.2.trans h1)
    subst e0; subst e1
    rw [hr] at hu; cases hu
theorem rs_yes {s : ByteArray} {ws : List ByteArray} {x y : Int} (hw : lists ws = splitS s.data.toList) (h : NumsTo ws [x, y] ws.length) (hr : ratB x y = true) : RR s x y true := by
  refine Or.inl ⟨rfl, hr, ?_⟩
  have hl : ws.length = 2 := h.1.symm
  have g0 := h.2 0 (by omega)
  have g1 := h.2 1 (by omega)
  match ws, hl with
  | [a, b], _ =>
    simp only [List.getD_cons_zero, List.getD_cons_succ, wordAt] at g0 g1
    have hs := split_two _ a.data.toList b.data.toList hw.symm
    apply ByteArray.ext; apply Array.toList_inj.1
    rw [ratT_L hr, hs, ← g0.2, ← g1.2, numS_list, numS_list]
    rfl
theorem words_fit {s : ByteArray} {ws : List ByteArray} (hw : lists ws = splitS s.data.toList) : ∀ j, j < ws.length → (wordAt ws j).size ≤ s.size := by
  have key : ∀ (l : List UInt8) (p : List UInt8), p ∈ splitS l → p.length ≤ l.length := by
    intro l
    induction l with
    | nil => intro p hp; simp [splitS] at hp; subst hp; simp
    | cons c r ih =>
      intro p hp
      unfold splitS at hp
      split at hp
      · rcases List.mem_cons.1 hp with rfl | h
        · simp
        · have := ih p h; simp; omega
      · obtain ⟨x, t, e⟩ := splitS_ne r
        rw [e] at hp ih
        rcases List.mem_cons.1 hp with rfl | h
        · have := ih x (by simp); simp; omega
        · have := ih p (by simp [h]); simp; omega
  intro j hj
  have hm : (wordAt ws j).data.toList ∈ lists ws := by
    unfold lists wordAt
    rw [List.getD_eq_getElem?_getD, List.getElem?_eq_getElem hj]
    exact List.mem_map_of_mem (List.getElem_mem hj)
  rw [hw] at hm
  have := key _ _ hm
  rw [size_list, size_list] at this
  exact this
theorem own_word {w : World} {B g cap : Nat} {ws : List ByteArray} (h : w.ownsRow B 9 1 (.slice (some ⟨g, 0, none⟩) ws.length cap) ws.length (ws.map Value.string)) : ∀ j, j < ws.length → w.cell? ⟨g, j, none⟩ = some (.string (wordAt ws j)) := by
  intro j hj
  rw [h.cellAt j (by omega)]
  unfold wordAt
  rw [List.getElem?_map, List.getElem?_eq_getElem hj, List.getD_eq_getElem?_getD, List.getElem?_eq_getElem hj]
  rfl
end Go.Proofs.YtcaekheghjnipabDoor
