/- Plain facts on the texts of fractions: what the library's cut and its parser give at them, what a split at a byte gives, and that a text is that of one fraction only. -/
import Derived.Test.YtcaekheghjnipabDoorReadMath
import Derived.Lib.IndexMore
import Derived.Lib.CutLaws
namespace Go.Proofs.YtcaekheghjnipabDoor.Num
open Go.Lib
theorem dec_chars (u : Nat) : ∀ c ∈ decDigits u, 48 ≤ c.toNat ∧ c.toNat ≤ 57 := by
  induction u using Nat.strongRecOn with
  | _ u ih =>
    by_cases hu : u < 10
    · rw [decDigits_one hu]
      intro c hc
      obtain rfl : c = UInt8.ofNat (48 + u) := by simpa using hc
      rw [dig_toNat hu]; omega
    · intro c hc
      rw [decDigits, dif_neg hu] at hc
      rcases List.mem_append.1 hc with h | h
      · exact ih (u / 10) (by omega) c h
      · obtain rfl : c = UInt8.ofNat (48 + u % 10) := by simpa using h
        rw [dig_toNat (by omega)]; omega
theorem itoa_chars (x : Int) : ∀ c ∈ itoa x, c ≠ 47 := by
  intro c hc e
  subst e
  unfold itoa at hc
  split at hc
  · rcases List.mem_cons.1 hc with h | h
    · exact absurd h (by decide)
    · have := dec_chars _ _ h; exact absurd this (by decide)
  · have := dec_chars _ _ hc; exact absurd this (by decide)
/-- what the parser gives at a number's text -/
theorem parse_itoa {x : Int} (h : x.natAbs ≤ 1000000000000000) : parseIntB 64 (itoa x) = .ok x := by
  have key : ∀ u : Nat, u ≤ 1000000000000000 → parseUintB 64 (decDigits u) = .ok u := by
    intro u hu
    obtain ⟨c, r, e, _⟩ := dec_head u
    unfold parseUintB
    rw [if_neg (by rw [e]; simp), show 2 ^ 64 - 1 = 18446744073709551615 from rfl]
    have := parse_dec _ u (Nat.le_refl _) [] 0 (by omega)
    rw [List.append_nil] at this
    rw [this, parseUintM]
    congr 1; omega
  unfold itoa
  by_cases hx : x < 0
  · rw [if_pos hx]
    unfold parseIntB
    simp only [show (45 : UInt8).toNat = 45 from rfl]
    rw [if_pos (Or.inr trivial), key _ h]
    show (if ¬True ∧ 2 ^ (64 - 1) ≤ x.natAbs then NumEnd.range else if True ∧ 2 ^ (64 - 1) < x.natAbs then NumEnd.range else NumEnd.ok (if True then -(x.natAbs : Int) else (x.natAbs : Int))) = NumEnd.ok x
    rw [if_neg (by simp), if_neg (by omega), if_pos trivial]
    congr 1; omega
  · rw [if_neg hx]
    obtain ⟨c, r, e, c1, c2⟩ := dec_head x.toNat
    have k := key x.toNat (by omega)
    rw [e] at k ⊢
    unfold parseIntB
    have n43 : ¬ (c.toNat = 43 ∨ c.toNat = 45) := by omega
    simp only [if_neg n43]
    rw [k]
    have n45 : ¬ c.toNat = 45 := by omega
    simp [n45]
    rw [if_neg (by omega)]
    congr 1; omega
theorem itoa_inj {x y : Int} (hx : x.natAbs ≤ 1000000000000000) (hy : y.natAbs ≤ 1000000000000000) (h : itoa x = itoa y) : x = y := by
  have a := parse_itoa hx
  have b := parse_itoa hy
  rw [h, b] at a
  injection a with a
  exact a.symm
/-- the text of a fraction, letter by letter -/
def ratL (a b : Int) : List UInt8 := itoa a ++ 47 :: itoa b
theorem index_sep : ∀ (p q : List UInt8), (∀ c ∈ p, c ≠ 47) → index (p ++ 47 :: q) [47] = (p.length : Int)
  | [], q, _ => by simp [index, List.isPrefixOf]
  | c :: p, q, h => by
    have hc : c ≠ 47 := h c (by simp)
    have ih := index_sep p q (fun d hd => h d (by simp [hd]))
    have hcb : (([47] : List UInt8).isPrefixOf (c :: (p ++ 47 :: q))) = false := by
      simp [List.isPrefixOf]; exact fun e => hc e.symm
    rw [List.cons_append, index, hcb, ih]
    have : (((p.length : Int)) == -1) = false := by first | (simp; done) | (simp; omega)
    rw [this]
    simp
theorem cut_sep (p q : List UInt8) (h : ∀ c ∈ p, c ≠ 47) : cut (p ++ 47 :: q) [47] = (p, q, true) := by
  unfold cut
  rw [index_sep p q h, if_pos (by omega)]
  simp
theorem cut_rat (a b : Int) : cut (ratL a b) [47] = (itoa a, itoa b, true) := cut_sep _ _ (itoa_chars a)
/-- the pieces of a split at a slash -/
def splitS : List UInt8 → List (List UInt8)
  | [] => [[]]
  | c :: r => if c = 47 then [] :: splitS r else (match splitS r with | h :: t => (c :: h) :: t | [] => [[c]])
/-- letters ahead of the first piece -/
def ahd (p : List UInt8) : List (List UInt8) → List (List UInt8)
  | h :: t => (p ++ h) :: t
  | [] => [p]
theorem splitS_ne (l : List UInt8) : ∃ h t, splitS l = h :: t := by
  cases l with
  | nil => exact ⟨[], [], rfl⟩
  | cons c r =>
    unfold splitS
    split
    · exact ⟨_, _, rfl⟩
    · split <;> exact ⟨_, _, rfl⟩
theorem split_sep (p : List UInt8) (r : List UInt8) : ahd p (splitS (47 :: r)) = p :: splitS r := by simp [splitS, ahd]
theorem split_chr (p : List UInt8) (c : UInt8) (r : List UInt8) (h : c ≠ 47) : ahd p (splitS (c :: r)) = ahd (p ++ [c]) (splitS r) := by
  obtain ⟨x, t, e⟩ := splitS_ne r
  simp [splitS, h, e, ahd]
theorem split_end (p : List UInt8) : ahd p (splitS []) = [p] := by simp [splitS, ahd]
theorem ahd_nil (l : List UInt8) : ahd [] (splitS l) = splitS l := by
  obtain ⟨x, t, e⟩ := splitS_ne l
  simp [e, ahd]
theorem split_pre : ∀ (p q : List UInt8), (∀ c ∈ p, c ≠ 47) → splitS (p ++ q) = ahd p (splitS q)
  | [], q, _ => (ahd_nil q).symm
  | c :: p, q, h => by
    have hc : c ≠ 47 := h c (by simp)
    have ih := split_pre p q (fun d hd => h d (by simp [hd]))
    obtain ⟨x, t, e⟩ := splitS_ne q
    rw [List.cons_append]
    simp [splitS, hc, ih, e, ahd]
theorem split_free (p : List UInt8) (h : ∀ c ∈ p, c ≠ 47) : splitS p = [p] := by
  have := split_pre p [] h
  rw [List.append_nil] at this
  rw [this, split_end]
theorem split_rat (a b : Int) : splitS (ratL a b) = [itoa a, itoa b] := by
  unfold ratL
  rw [split_pre _ _ (itoa_chars a), split_sep, split_free _ (itoa_chars b)]
/-- two pieces: the text is the first, a slash, the second -/
theorem split_two : ∀ (l p q : List UInt8), splitS l = [p, q] → l = p ++ 47 :: q
  | [], p, q, h => by simp [splitS] at h
  | c :: r, p, q, h => by
    unfold splitS at h
    split at h
    · rename_i hc
      subst hc
      simp only [List.cons.injEq] at h
      obtain ⟨rfl, h⟩ := h
      have : r = q := by
        -- the rest has one piece only
        have key : ∀ (r q : List UInt8), splitS r = [q] → r = q := by
          intro r
          induction r with
          | nil => intro q h; simp [splitS] at h; exact h.symm
          | cons d r ih =>
            intro q h
            unfold splitS at h
            split at h
            · obtain ⟨x, t, e⟩ := splitS_ne r
              rw [e] at h; simp at h
            · obtain ⟨x, t, e⟩ := splitS_ne r
              rw [e] at h
              simp only [List.cons.injEq] at h
              obtain ⟨rfl, rfl⟩ := h
              rw [ih x e]
        exact key r q h
      rw [this]; rfl
    · obtain ⟨x, t, e⟩ := splitS_ne r
      rw [e] at h
      simp only [List.cons.injEq] at h
      obtain ⟨rfl, rfl⟩ := h
      rw [split_two r x q e]; rfl
end Go.Proofs.YtcaekheghjnipabDoor.Num
