/- The walk of the law FnPairingCounts over drawn data: it returns true and writes nothing that was there. -/
import Derived.Test.YtlahgdhofakinaaPrR
import Derived.Test.YtlahgdhofakinaaPrJ
import Derived.Test.YtlahgdhofakinaaPrLa
namespace Go.Proofs.Ytlahgdhofakinaa
open Go.ChangeShapes Go.WideShapes Go.ChangeAt Go.RowKit Go.Shelf Num
set_option linter.unusedVariables false
set_option linter.unusedSimpArgs false
theorem RwL.tl {w : World} {B b off : Nat} {z : List Int} {tl : List (List Int)} (h : RwL w B (some ⟨b, off, none⟩) (z :: tl)) : RwL w B (some ⟨b, off + 1, none⟩) tl := fun hp => by
  obtain ⟨b', off', e, hb, hc⟩ := h (by simp)
  simp only [Option.some.injEq, Addr.mk.injEq, and_true] at e
  obtain ⟨e1, e2⟩ := e
  subst e1 e2
  refine ⟨b, off + 1, rfl, hb, fun j hj => ?_⟩
  obtain ⟨p, c, h1, h2, h3⟩ := hc (j + 1) (by simp; omega)
  rw [gR_tail] at h1 h2 h3
  exact ⟨p, c, by rw [show off + 1 + j = off + (j + 1) by omega]; exact h1, h2, h3⟩
theorem ac_tl {z : List Int} {tl : List (List Int)} (h : acB (z :: tl) = true) : acB tl = true := by
  have ha := acB_t h
  refine decide_eq_true ⟨by have := ha.1; simp at this; omega, fun j hj => ?_⟩
  obtain ⟨h1, h2, h3⟩ := ha.2 (j + 1) (by simp; omega)
  obtain ⟨g1, -, -⟩ := ha.2 1 (by simp; omega)
  rw [gR_tail] at h1 h2 h3
  rw [show (1 : Nat) = 0 + 1 from rfl, gR_tail] at g1
  exact ⟨by omega, h2, fun k hk => by have := h3 k hk; unfold eAt at this; rw [gR_tail] at this; exact this⟩
/-- tables of noughts -/
def zrL (L : List (List Int)) (k : Nat) : List (List Int) := (List.range k).map (fun i => List.replicate (gR L i).length 0)
theorem zrL_len (L : List (List Int)) (k : Nat) : (zrL L k).length = k := by simp [zrL]
theorem zrL_succ (L : List (List Int)) (k : Nat) : zrL L (k + 1) = zrL L k ++ [List.replicate (gR L k).length 0] := by unfold zrL; rw [List.range_succ, List.map_append]; rfl
theorem zrL_row (L : List (List Int)) {n j : Nat} (h : j < n) : gR (zrL L n) j = List.replicate (gR L j).length 0 := by unfold zrL; exact gR_map _ h
theorem zrL_rl (L : List (List Int)) (j : Nat) : (gR (zrL L L.length) j).length = (gR L j).length := by
  by_cases h : j < L.length
  · rw [zrL_row L h]; simp
  · unfold gR
    rw [List.getD_eq_getElem?_getD, List.getElem?_eq_none (by rw [zrL_len]; omega), List.getD_eq_getElem?_getD, List.getElem?_eq_none (by omega)]
theorem rep_0 (n k : Nat) : (List.replicate n (0 : Int)).getD k 0 = 0 := by
  rw [List.getD_eq_getElem?_getD, List.getElem?_replicate]; split <;> rfl
theorem zrL_e (L : List (List Int)) (i k : Nat) : eAt (zrL L L.length) i k = 0 := by
  show (gR (zrL L L.length) i).getD k 0 = 0
  by_cases h : i < L.length
  · rw [zrL_row L h]; exact rep_0 _ _
  · have e : gR (zrL L L.length) i = [] := by
      unfold gR
      rw [List.getD_eq_getElem?_getD, List.getElem?_eq_none (show (zrL L L.length).length ≤ i by rw [zrL_len]; omega)]; rfl
    rw [e]; rfl
theorem zrL_ac {L : List (List Int)} (h : acB L = true) : acB (zrL L L.length) = true := by
  have ha := acB_t h
  refine decide_eq_true ⟨by rw [zrL_len]; exact ha.1, fun j hj => ?_⟩
  rw [zrL_len] at hj
  obtain ⟨h1, h2, -⟩ := ha.2 j hj
  rw [zrL_rl, zrL_rl]
  exact ⟨h1, h2, fun k _ => by rw [zrL_e]; omega⟩
theorem law_cnt {L : List (List Int)} (h : acB L = true) (h0 : 0 < L.length) : cnC L.tail = 0 ∧ cnV L.tail ≤ cnV L ∧ cnC (zrL L L.length) = 0 ∧ cnV L ≤ cnV (zrL L L.length) ∧ cnV (zrL L L.length) = (wyT (L.length : Nat) ((gR L 0).length : Nat) (min L.length (gR L 0).length + 1)).1 := by
  have ha := acB_t h
  have hz := zrL_ac h
  obtain ⟨z, tl, rfl⟩ : ∃ z tl, L = z :: tl := by
    match L, h0 with
    | z :: tl, _ => exact ⟨z, tl, rfl⟩
  have ht := ac_tl h
  have ec : ∀ {M : List (List Int)}, acB M = true → cnC M = 0 := fun hM => by unfold cnC; rw [if_pos hM]
  have ev : ∀ {M : List (List Int)}, acB M = true → cnV M = ((allP M M.length []).length : Int) := fun hM => by unfold cnV; rw [if_pos hM]
  refine ⟨ec ht, ?_, ec hz, ?_, ?_⟩
  · show cnV tl ≤ _
    rw [ev ht, ev h]
    have := cnt_less z tl
    omega
  · rw [ev h, ev hz, zrL_len]
    have := cnt_most (zss := z :: tl) (yss := zrL (z :: tl) (z :: tl).length) (zrL_rl _) (fun i k => by rw [zrL_e]; omega) (z :: tl).length []
    omega
  · rw [ev hz, zrL_len, cnt_mat (yss := zrL (z :: tl) (z :: tl).length) (c := (gR (z :: tl) 0).length) (n := (z :: tl).length) (fun j hj => by rw [zrL_rl]; exact (ha.2 j hj).1) (fun i k => by rw [zrL_e]; omega) (z :: tl).length [] (by simp), fre_nil, wy_mat _ (by have := ha.1; omega) _ (by have := acP_rows ha 0; omega)]
theorem wy_bd : ∀ r, r < 7 → ∀ c, c < 7 → ∀ k, k < 8 → 0 ≤ (wyT (r : Nat) (c : Nat) k).1 ∧ (wyT (r : Nat) (c : Nat) k).1 ≤ 100000 ∧ 0 ≤ (wyT (r : Nat) (c : Nat) k).2 ∧ (wyT (r : Nat) (c : Nat) k).2 ≤ 100000 := by decide +kernel
theorem wy_b2 : ∀ r, r < 7 → ∀ c, c < 7 → ∀ k, k < 7 → (¬ (k ≤ r ∧ k ≤ c) ∨ (0 ≤ (wyT (r : Nat) (c : Nat) k).2 * ((r : Nat) - (k : Nat) : Int) ∧ (wyT (r : Nat) (c : Nat) k).2 * ((r : Nat) - (k : Nat) : Int) ≤ 1000000 ∧ 0 ≤ (wyT (r : Nat) (c : Nat) k).2 * ((r : Nat) - (k : Nat) : Int) * ((c : Nat) - (k : Nat) : Int) ∧ (wyT (r : Nat) (c : Nat) k).2 * ((r : Nat) - (k : Nat) : Int) * ((c : Nat) - (k : Nat) : Int) ≤ 10000000)) := by decide +kernel
end Go.Proofs.Ytlahgdhofakinaa
