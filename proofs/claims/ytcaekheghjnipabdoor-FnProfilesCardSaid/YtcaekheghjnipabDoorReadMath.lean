/- Plain facts on decimal texts: what a scan of the digits of a text gives, what the library's parser gives, and that both give back the number of centimetres that the text was made of. -/
import Derived.Lib.ItoaNum
import Derived.Lib.ParseIntB
namespace Go.Proofs.YtcaekheghjnipabDoor.Num
open Go.Lib
/-- the scan of at most 14 digits -/
def scanL : List UInt8 → Nat → Nat → Nat
  | [], n, _ => n
  | c :: r, n, d => if d < 14 then (if 48 ≤ c.toNat ∧ c.toNat ≤ 57 then scanL r (10 * n + (c.toNat - 48)) (d + 1) else scanL r n d) else n
theorem dig_toNat {k : Nat} (h : k < 10) : (UInt8.ofNat (48 + k)).toNat = 48 + k := by
  simp [UInt8.toNat_ofNat']; omega
theorem scan_dec : ∀ (k u : Nat), nDigits u ≤ k → ∀ (r : List UInt8) (n d : Nat), d + nDigits u ≤ 14 →
    scanL (decDigits u ++ r) n d = scanL r (n * 10 ^ nDigits u + u) (d + nDigits u)
  | 0, u, h => by have := nDigits_pos u; omega
  | k + 1, u, h => by
    intro r n d hd
    by_cases hu : u < 10
    · rw [decDigits_one hu, nDigits_small hu] at *
      show scanL (UInt8.ofNat (48 + u) :: r) n d = _
      rw [scanL, if_pos (by omega), dig_toNat hu, if_pos (by omega)]
      congr 1; omega
    · rw [nDigits_big hu] at h hd ⊢
      rw [decDigits, dif_neg hu, List.append_assoc, scan_dec k (u / 10) (by omega) _ _ _ (by omega)]
      have hm : u % 10 < 10 := Nat.mod_lt _ (by omega)
      show scanL (UInt8.ofNat (48 + u % 10) :: r) _ _ = _
      rw [scanL, if_pos (by omega), dig_toNat hm, if_pos (by omega)]
      congr 1
      rw [Nat.pow_succ, ← Nat.mul_assoc]
      have := Nat.div_add_mod u 10
      omega
/-- the text of a number of centimetres, letter by letter -/
def txtL (x : Int) : List UInt8 :=
  (if x < 0 then [45] else []) ++ (decDigits (x.natAbs / 100) ++ (46 :: (decDigits (x.natAbs / 10 % 10) ++ decDigits (x.natAbs % 10))))
theorem nd_le' : ∀ (k u : Nat), u < 10 ^ (k + 1) → nDigits u ≤ k + 1
  | 0, u, h => by rw [nDigits_small (by simpa using h)]; omega
  | k + 1, u, h => by
    by_cases hu : u < 10
    · rw [nDigits_small hu]; omega
    · rw [nDigits_big hu]
      have := nd_le' k (u / 10) (by rw [Nat.pow_succ] at h; omega)
      omega
theorem scan_txt {x : Int} (h : x.natAbs ≤ 1000000000000) : scanL (txtL x) 0 0 = x.natAbs := by
  have hn := nd_le' 10 (x.natAbs / 100) (by simp; omega)
  have h1 : nDigits (x.natAbs / 10 % 10) = 1 := nDigits_small (by omega)
  have h2 : nDigits (x.natAbs % 10) = 1 := nDigits_small (by omega)
  have key : scanL (decDigits (x.natAbs / 100) ++ (46 :: (decDigits (x.natAbs / 10 % 10) ++ decDigits (x.natAbs % 10)))) 0 0 = x.natAbs := by
    rw [scan_dec _ _ (Nat.le_refl _) _ _ _ (by omega), scanL, if_pos (by omega), if_neg (by decide), scan_dec _ _ (Nat.le_refl _) _ _ _ (by omega)]
    have := scan_dec _ (x.natAbs % 10) (Nat.le_refl _) [] ((0 * 10 ^ nDigits (x.natAbs / 100) + x.natAbs / 100) * 10 ^ nDigits (x.natAbs / 10 % 10) + x.natAbs / 10 % 10) (0 + nDigits (x.natAbs / 100) + nDigits (x.natAbs / 10 % 10)) (by omega)
    rw [List.append_nil] at this
    rw [this, scanL, h1, h2]
    omega
  unfold txtL
  by_cases hx : x < 0
  · rw [if_pos hx]
    show scanL (45 :: _) 0 0 = _
    rw [scanL, if_pos (by omega), if_neg (by decide)]
    exact key
  · rw [if_neg hx]; exact key
theorem dec_head (u : Nat) : ∃ c r, decDigits u = c :: r ∧ 48 ≤ c.toNat ∧ c.toNat ≤ 57 := by
  induction u using Nat.strongRecOn with
  | _ u ih =>
    by_cases hu : u < 10
    · exact ⟨_, [], decDigits_one hu, by rw [dig_toNat hu]; omega, by rw [dig_toNat hu]; omega⟩
    · obtain ⟨c, r, e, h1, h2⟩ := ih (u / 10) (by omega)
      exact ⟨c, r ++ [UInt8.ofNat (48 + u % 10)], by rw [decDigits, dif_neg hu, e]; rfl, h1, h2⟩
theorem txt_head (x : Int) : ∃ c r, txtL x = c :: r ∧ (x < 0 → c.toNat = 45) ∧ (¬ x < 0 → 48 ≤ c.toNat ∧ c.toNat ≤ 57) := by
  unfold txtL
  by_cases hx : x < 0
  · rw [if_pos hx]; exact ⟨45, _, rfl, fun _ => by decide, fun h => absurd hx h⟩
  · rw [if_neg hx]
    obtain ⟨c, r, e, h1, h2⟩ := dec_head (x.natAbs / 100)
    rw [e]; exact ⟨c, _, rfl, fun h => absurd h hx, fun _ => ⟨h1, h2⟩⟩
/-- a text is that of one number only -/
theorem txt_inj {x y : Int} (hx : x.natAbs ≤ 1000000000000) (hy : y.natAbs ≤ 1000000000000) (h : txtL x = txtL y) : x = y := by
  have a := scan_txt hx
  have b := scan_txt hy
  rw [h, b] at a
  obtain ⟨c, r, e, h1, h2⟩ := txt_head x
  obtain ⟨c', r', e', h1', h2'⟩ := txt_head y
  rw [h, e'] at e
  injection e with e1 e2
  subst e1
  by_cases p : x < 0 <;> by_cases q : y < 0
  · omega
  · have := h1 p; have := h2' q; omega
  · have := h2 p; have := h1' q; omega
  · omega
/-- what the parser is handed: the text without its dot -/
def barL (x : Int) : List UInt8 :=
  (if x < 0 then [45] else []) ++ (decDigits (x.natAbs / 100) ++ (decDigits (x.natAbs / 10 % 10) ++ decDigits (x.natAbs % 10)))
theorem parse_dec : ∀ (k u : Nat), nDigits u ≤ k → ∀ (r : List UInt8) (acc : Nat), acc * 10 ^ nDigits u + u ≤ 1000000000000000 →
    parseUintM 18446744073709551615 acc (decDigits u ++ r) = parseUintM 18446744073709551615 (acc * 10 ^ nDigits u + u) r
  | 0, u, h => by have := nDigits_pos u; omega
  | k + 1, u, h => by
    intro r acc hd
    by_cases hu : u < 10
    · rw [decDigits_one hu]
      rw [nDigits_small hu] at hd ⊢
      show parseUintM _ acc (UInt8.ofNat (48 + u) :: r) = _
      rw [parseUintM, dig_toNat hu, if_pos (by omega), if_neg (by omega), if_neg (by omega)]
      congr 1; omega
    · rw [nDigits_big hu] at h hd ⊢
      have hm : u % 10 < 10 := Nat.mod_lt _ (by omega)
      have hdm := Nat.div_add_mod u 10
      rw [Nat.pow_succ, ← Nat.mul_assoc] at hd ⊢
      rw [decDigits, dif_neg hu, List.append_assoc, parse_dec k (u / 10) (by omega) _ _ (by omega)]
      show parseUintM _ _ (UInt8.ofNat (48 + u % 10) :: r) = _
      rw [parseUintM, dig_toNat hm, if_pos (by omega), if_neg (by omega), if_neg (by omega)]
      congr 1
      omega
theorem parse_bar {x : Int} (h : x.natAbs ≤ 1000000000000) : parseIntB 64 (barL x) = .ok x := by
  have h1 : nDigits (x.natAbs / 10 % 10) = 1 := nDigits_small (by omega)
  have h2 : nDigits (x.natAbs % 10) = 1 := nDigits_small (by omega)
  obtain ⟨c, r, e, c1, c2⟩ := dec_head (x.natAbs / 100)
  have key : parseUintB 64 (decDigits (x.natAbs / 100) ++ (decDigits (x.natAbs / 10 % 10) ++ decDigits (x.natAbs % 10))) = .ok x.natAbs := by
    unfold parseUintB
    rw [if_neg (by rw [e]; simp)]
    rw [show 2 ^ 64 - 1 = 18446744073709551615 from rfl]
    rw [parse_dec _ _ (Nat.le_refl _) _ _ (by omega), parse_dec _ _ (Nat.le_refl _) _ _ (by rw [h1]; omega)]
    have := parse_dec _ (x.natAbs % 10) (Nat.le_refl _) [] ((0 * 10 ^ nDigits (x.natAbs / 100) + x.natAbs / 100) * 10 ^ nDigits (x.natAbs / 10 % 10) + x.natAbs / 10 % 10) (by rw [h1, h2]; omega)
    rw [List.append_nil] at this
    rw [this, parseUintM, h1, h2]
    congr 1
    omega
  unfold barL
  by_cases hx : x < 0
  · rw [if_pos hx]
    show parseIntB 64 (45 :: _) = _
    unfold parseIntB
    simp only [show (45 : UInt8).toNat = 45 from rfl]
    rw [if_pos (Or.inr trivial)]
    rw [show ([].append (decDigits (x.natAbs / 100) ++ (decDigits (x.natAbs / 10 % 10) ++ decDigits (x.natAbs % 10)))) = decDigits (x.natAbs / 100) ++ (decDigits (x.natAbs / 10 % 10) ++ decDigits (x.natAbs % 10)) from rfl, key]
    show (if ¬True ∧ 2 ^ (64 - 1) ≤ x.natAbs then NumEnd.range else if True ∧ 2 ^ (64 - 1) < x.natAbs then NumEnd.range else NumEnd.ok (if True then -(x.natAbs : Int) else (x.natAbs : Int))) = NumEnd.ok x
    rw [if_neg (by simp), if_neg (by omega), if_pos trivial]
    congr 1; omega
  · rw [if_neg hx]
    rw [e] at key ⊢
    show parseIntB 64 (c :: _) = _
    unfold parseIntB
    have n43 : ¬ (c.toNat = 43 ∨ c.toNat = 45) := by omega
    simp only [if_neg n43]
    rw [show (c :: (r.append (decDigits (x.natAbs / 10 % 10) ++ decDigits (x.natAbs % 10)))) = c :: r ++ (decDigits (x.natAbs / 10 % 10) ++ decDigits (x.natAbs % 10)) from rfl, key]
    have n45 : ¬ c.toNat = 45 := by omega
    simp [n45]
    rw [if_neg (by omega)]
    congr 1; omega
end Go.Proofs.YtcaekheghjnipabDoor.Num
