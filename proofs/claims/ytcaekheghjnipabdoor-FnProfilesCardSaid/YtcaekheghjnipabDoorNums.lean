/- The contract of the model's reader of words as numbers. -/
import Derived.Test.YtcaekheghjnipabDoorSplit
import Derived.Test.YtcaekheghjnipabDoorCopy
namespace Go.Proofs.YtcaekheghjnipabDoor
open Go.ChangeShapes Go.WideShapes Go.ChangeAt Go.RowKit Num
set_option linter.unusedVariables false
def wordAt (ws : List ByteArray) (j : Nat) : ByteArray := ws.getD j ⟨#[]⟩
/-- the numbers so far are those of the words so far -/
def NumsTo (ws : List ByteArray) (xs : List Int) (k : Nat) : Prop := xs.length = k ∧ ∀ j, j < k → (xs.getD j 0).natAbs < 1000000000000 ∧ numS (xs.getD j 0) = wordAt ws j
theorem NumsTo.snoc {ws : List ByteArray} {xs : List Int} {k : Nat} {n : Int} (h : NumsTo ws xs k) (hn : n.natAbs < 1000000000000) (e : numS n = wordAt ws k) : NumsTo ws (xs ++ [n]) (k + 1) := by
  refine ⟨by simp [h.1], fun j hj => ?_⟩
  by_cases hjk : j < k
  · have : (xs ++ [n]).getD j 0 = xs.getD j 0 := by
      rw [List.getD_eq_getElem?_getD, List.getD_eq_getElem?_getD, List.getElem?_append_left (by have := h.1; omega)]
    rw [this]; exact h.2 j hjk
  · obtain rfl : j = k := by omega
    have : (xs ++ [n]).getD j 0 = n := by
      rw [List.getD_eq_getElem?_getD, ← h.1, List.getElem?_append_right (Nat.le_refl _)]; simp
    rw [this]; exact ⟨hn, e⟩
def NumsD (w : World) (ws : List ByteArray) (e : Ending) (w' : World) : Prop :=
  (∃ (g cap : Nat) (xs : List Int), e = .returned (.tuple #[.slice (some ⟨g, 0, none⟩) xs.length cap, .bool true]) ∧ NumsTo ws xs ws.length ∧
    w'.ownsRow w.heap.size 2 1 (.slice (some ⟨g, 0, none⟩) xs.length cap) xs.length (xs.map (Value.int .i64)) ∧ Below w.heap.size w w') ∨
  (e = .returned (.tuple #[.slice none 0 0, .bool false]) ∧ (∃ j, j < ws.length ∧ ∀ y : Int, y.natAbs < 1000000000000 → numS y ≠ wordAt ws j) ∧ Below w.heap.size w w')
set_option maxRecDepth 100000 in
set_option maxHeartbeats 8000000 in
theorem nums_any (g cap : Nat) (ws : List ByteArray) (w : World) (hc : ∀ j, j < ws.length → w.cell? ⟨g, j, none⟩ = some (.string (wordAt ws j))) (hs : ∀ j, j < ws.length → (wordAt ws j).size ≤ 2097152) (hlt : g < w.heap.size) (hn : ws.length ≤ 2000000) :
    Calls Tryd.prog 23 #[.slice (some ⟨g, 0, none⟩) ws.length cap] w (NumsD w ws) := by
  obtain ⟨i0, hi, hz0, hz1, hz2⟩ := info_parts info_i64
  have HC := Lib.hid hc
  have HS := Lib.hid hs
  clear hc hs
  go_enter Tryd.func23, Tryd.ntmps23
  go_wp2_with fail
  have hown := World.ownsRow_lit (base := w.heap.size) (e := 2) (size := 1) w #[] 0 (Nat.le_refl _) (by decide) (by decide)
  go_loopw [4, 5] (fun o i wr => ∃ (g2 cap2 : Nat) (xs : List Int) (k : Nat), o = .slice (some ⟨g2, 0, none⟩) xs.length cap2 ∧ i = .int .i64 k ∧ k ≤ ws.length ∧ NumsTo ws xs k ∧ wr.ownsRow w.heap.size 2 1 (.slice (some ⟨g2, 0, none⟩) xs.length cap2) xs.length (xs.map (Value.int .i64)) ∧ Below w.heap.size w wr) (fun _ i _ => ws.length - (intOf i).toNat)
  case atStart => exact ⟨w.heap.size, 0, [], 0, rfl, rfl, by omega, ⟨rfl, fun j hj => by omega⟩, hown, (Below.refl _ _).alloc (Nat.le_refl _) _⟩
  case round =>
    obtain ⟨g2, cap2, xs, k, rfl, rfl, hk, hx, hown2, hb⟩ := hrel
    clear hown
    have hg := hown2.lt g2 rfl
    have hxl : xs.length ≤ 2000000 := by have := hx.1; omega
    have HX := Lib.hid hx
    have HO := Lib.hid hown2
    have HB := Lib.hid hb
    have hW := hb.size
    by_cases hkl : k < ws.length
    · have hcell := (hb.cell (p := ⟨g, k, none⟩) hlt).trans (HC.out k hkl)
      have hsz := HS.out k hkl
      obtain ⟨t, ht⟩ : ∃ t, wordAt ws k = t := ⟨_, rfl⟩
      rw [ht] at hcell hsz
      have HTW := Lib.hid ht
      have i1 : (0 : Int) ≤ (k : Int) := by omega
      have i2 : (k : Int) < (ws.length : Int) := by omega
      clear hx hown2 hb ht
      go_wp2_with fail
      refine (sgn_any t _ hsz).mono ?_
      rintro e w2 ⟨n, b, rfl, ⟨n1, n2⟩, hv, hb⟩
      have HO2 := Lib.hid (HO.out.kept (row := none) ⟨hb.os, hb.tape, hb.output, hb.size, fun j hj _ => hb.block j hj⟩ (Or.inr (by simp [Value.ownBlock])))
      have HB2 := Lib.hid (bel_end HB.out hb)
      have hW2 := HB2.out.size
      have HV := Lib.hid hv
      have hg3 : g2 < w2.heap.size := Nat.lt_of_lt_of_le hg.2 hb.size
      clear hcell hb hv HO HB
      cases b
      · go_wp2
        go_ret2
        refine Or.inr ⟨rfl, ⟨k, hkl, ?_⟩, HB2.out⟩
        rcases HV.out with ⟨h, _⟩ | ⟨_, h⟩
        · cases h
        · rw [HTW.out]; exact h
      · have hnum : n.natAbs < 1000000000000 ∧ numS n = t := by
          rcases HV.out with ⟨_, h, e⟩ | ⟨h, _⟩
          · exact ⟨h, e⟩
          · cases h
        have HNX := Lib.hid (HX.out.snoc hnum.1 (hnum.2.trans HTW.out.symm))
        clear hnum
        go_wp2_with (at_builtin; (refine wpList_append_lies _ rfl _ _ 22 rfl w.heap.size 2 i0 (.int .i64 0) 1 8 Tryd.underlying22 hi hz0 hz1 hz2 rfl (by decide) (.slice (some ⟨g2, 0, none⟩) xs.length cap2) xs.length (xs.map (Value.int .i64)) rfl (HO2.out.alloc _) ⟨w2.heap.size, 0, none⟩ 1 1 [.int .i64 n] rfl rfl (World.news_of_block (cs := #[.int .i64 n]) (t := 2) (fr := (0, 0)) (heap_alloc_new w2 _)) (by simp [Value.oneCell']) (by omega) (by unfold maxLen; omega) (by omega) (by simp; omega) (w2.heap.size + 1) (by simp) ?_); intro g4 cap4 w9 hown3 hgrow hat hlt9)
        have HB9 := Lib.hid (below_grown2 (HB2.out.alloc hW2 (.cells #[.int .i64 n] 2)) (show _ from hgrow) hg.1 (by simp; omega))
        have HO9 := Lib.hid hown3
        clear hown3 hgrow hat hlt9
        go_roundw
        case rel => exact ⟨g4, cap4, xs ++ [n], k + 1, by simp, by go_num, by omega, HNX.out, by simpa using HO9.out, HB9.out⟩
        case measure => first | (simp [intOf]; done) | (simp [intOf]; omega)
    · obtain rfl : k = ws.length := by omega
      clear hx hown2 hb
      go_wp2
      go_ret2
      exact Or.inl ⟨g2, cap2, xs, rfl, HX.out, HO.out, HB.out⟩
end Go.Proofs.YtcaekheghjnipabDoor
