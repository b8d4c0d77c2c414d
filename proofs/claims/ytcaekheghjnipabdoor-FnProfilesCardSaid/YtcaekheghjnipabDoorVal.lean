/- Contracts of the model's readers of decimal numbers: of a number of at least 0, and of one that may have a sign. -/
import Derived.Test.YtcaekheghjnipabDoorRText
import Derived.Test.YtcaekheghjnipabDoorRMath
import Derived.LoopTactic
import Derived.Deep.LoopGhost
import Derived.WalkSpells
import Derived.WalkLawsBesides
namespace Go.Proofs.YtcaekheghjnipabDoor
open Go.ChangeShapes Go.WideShapes Go.ChangeAt Go.RowKit Num
set_option linter.unusedVariables false
/-- the number that a run of digits spells -/
def digV : List UInt8 → Nat → Nat
  | [], n => n
  | c :: r, n => digV r (10 * n + (c.toNat - 48))
theorem digV_dec : ∀ (k u : Nat), Lib.nDigits u ≤ k → ∀ (r : List UInt8) (n : Nat), digV (Lib.decDigits u ++ r) n = digV r (n * 10 ^ Lib.nDigits u + u)
  | 0, u, h => by have := Lib.nDigits_pos u; omega
  | k + 1, u, h => by
    intro r n
    by_cases hu : u < 10
    · rw [Lib.decDigits_one hu, Lib.nDigits_small hu] at *
      show digV r (10 * n + ((UInt8.ofNat (48 + u)).toNat - 48)) = _
      rw [dig_toNat hu]
      congr 1; omega
    · rw [Lib.nDigits_big hu] at h ⊢
      have hm : u % 10 < 10 := Nat.mod_lt _ (by omega)
      rw [Lib.decDigits, dif_neg hu, List.append_assoc, digV_dec k (u / 10) (by omega)]
      show digV r (10 * _ + ((UInt8.ofNat (48 + u % 10)).toNat - 48)) = _
      rw [dig_toNat hm]
      congr 1
      rw [Nat.pow_succ, ← Nat.mul_assoc]
      have := Nat.div_add_mod u 10
      omega
theorem digV_all (u : Nat) : digV (Lib.decDigits u) 0 = u := by
  have := digV_dec _ u (Nat.le_refl _) [] 0
  rw [List.append_nil] at this
  rw [this]; simp [digV]
theorem sdrop_cons (s : ByteArray) (k : Nat) (h : k < s.size) : s.data.toList.drop k = s[k] :: s.data.toList.drop (k + 1) := by
  rw [List.drop_eq_getElem_cons (by simpa using h)]; rfl
theorem dstr_list (m : Nat) : (dstr m).data.toList = Lib.decDigits m := by unfold dstr; simp
/-- a number's text has at most twelve letters, all of them digits -/
theorem dstr_facts {m : Nat} {s : ByteArray} (h : m < 1000000000000) (e : dstr m = s) : (1 ≤ s.size ∧ s.size ≤ 12) ∧ (∀ k (hk : k < s.size), 48 ≤ s[k].toNat ∧ s[k].toNat ≤ 57) ∧ digV s.data.toList 0 = m := by
  subst e
  have hs : (dstr m).size = (Lib.decDigits m).length := by rw [← dstr_list]; exact Array.length_toList.symm
  refine ⟨⟨?_, ?_⟩, fun k hk => ?_, by rw [dstr_list]; exact digV_all m⟩
  · rw [hs, Lib.decDigits_length]; exact Lib.nDigits_pos _
  · rw [hs, Lib.decDigits_length]; exact nd_le 11 m (by simpa using h)
  · refine dec_chars m _ ?_
    rw [← dstr_list]
    show (dstr m).data[k] ∈ (dstr m).data.toList
    exact Array.getElem_mem_toList _
/-- what reading a number of at least 0 gives -/
def VR (s : ByteArray) (n : Int) (b : Bool) : Prop := (b = true ∧ dstr n.toNat = s) ∨ (b = false ∧ ∀ m : Nat, m < 1000000000000 → dstr m ≠ s)
def ValD (w : World) (s : ByteArray) (e : Ending) (w' : World) : Prop := ∃ n b, e = .returned (.tuple #[.int .i64 n, .bool b]) ∧ (0 ≤ n ∧ n < 1000000000000) ∧ VR s n b ∧ Below w.heap.size w w'
theorem vr_size {s : ByteArray} (h : s.size < 1 ∨ 12 < s.size) : VR s 0 false := Or.inr ⟨rfl, fun m hm e => by have := (dstr_facts hm e).1; omega⟩
theorem vr_char {s : ByteArray} {k : Nat} (hk : k < s.size) (h : ¬ (48 ≤ s[k].toNat ∧ s[k].toNat ≤ 57)) : VR s 0 false := Or.inr ⟨rfl, fun m hm e => h ((dstr_facts hm e).2.1 k hk)⟩
theorem vr_yes {s : ByteArray} {N : Nat} (e : dstr N = s) : VR s (N : Int) true := Or.inl ⟨rfl, by simpa using e⟩
theorem vr_no {s : ByteArray} {N : Nat} (h : digV s.data.toList 0 = N) (e : ¬ dstr N = s) : VR s (N : Int) false := Or.inr ⟨rfl, fun m hm g => e (by
  have := (dstr_facts hm g).2.2
  rw [h] at this
  rw [this]; exact g)⟩
theorem ne_str' {a b : ByteArray} (h : a ≠ b) : (a.toList == b.toList) = false := by
  rw [ByteArray.toList_eq, ByteArray.toList_eq]
  simp only [beq_eq_false_iff_ne, ne_eq]
  exact fun e => h (by apply ByteArray.ext; exact Array.toList_inj.1 e)
theorem p10_step {N D c : Nat} (h : N < 10 ^ D) (hc : 48 ≤ c ∧ c ≤ 57) : 10 * N + (c - 48) < 10 ^ (D + 1) := by rw [Nat.pow_succ]; omega
set_option maxHeartbeats 4000000 in
theorem val_any (s : ByteArray) (w : World) (hl : s.size ≤ 2097152) :
    Calls Tryd.prog 57 #[.string s] w (ValD w s) := by
  by_cases h1 : s.size < 1
  · have H := Lib.hid (vr_size (s := s) (Or.inl h1))
    go_enter Tryd.func57, Tryd.ntmps57
    go_wp2_with fail
    go_ret2
    exact ⟨0, false, rfl, by omega, H.out, Below.refl _ _⟩
  · by_cases h2 : 12 < s.size
    · have H := Lib.hid (vr_size (s := s) (Or.inr h2))
      go_enter Tryd.func57, Tryd.ntmps57
      go_wp2_with fail
      go_ret2
      exact ⟨0, false, rfl, by omega, H.out, Below.refl _ _⟩
    · go_enter Tryd.func57, Tryd.ntmps57
      go_wp2_with fail
      go_loop [4, 5] (fun n i => ∃ k N : Nat, k ≤ s.size ∧ i = .int .i64 k ∧ n = .int .i64 N ∧ N < 10 ^ k ∧ digV (s.data.toList.drop k) N = digV s.data.toList 0) (fun _ i => s.size - (intOf i).toNat)
      case atStart => exact ⟨0, 0, by omega, rfl, rfl, by simp, rfl⟩
      case round =>
        obtain ⟨k, N, hk, rfl, rfl, hN, hr⟩ := hrel
        have HR := Lib.hid hr
        have HN := Lib.hid hN
        have hN2 : N < 10 ^ 12 := Nat.lt_of_lt_of_le hN (Nat.pow_le_pow_right (by omega) (by omega))
        simp only [Nat.reducePow] at hN2
        clear hr hN
        by_cases hlt : k < s.size
        · by_cases g1 : 48 ≤ (s[k].toNat : Int)
          · by_cases g2 : (s[k].toNat : Int) ≤ 57
            · go_wp2_with fail
              go_round
              case rel => exact ⟨k + 1, 10 * N + (s[k].toNat - 48), by omega, by go_num, by rw [show ((10 * N + (s[k].toNat - 48) : Nat) : Int) = 10 * (N : Int) + ((s[k].toNat : Int) - 48) by omega], p10_step HN.out (by omega), by rw [← HR.out, sdrop_cons s k hlt]; rfl⟩
              case measure => simp [intOf]; omega
            · have H := Lib.hid (vr_char hlt (by omega))
              go_wp2_with fail
              go_ret2
              exact ⟨0, false, rfl, by omega, H.out, Below.refl _ _⟩
          · have H := Lib.hid (vr_char hlt (by omega))
            go_wp2_with fail
            go_ret2
            exact ⟨0, false, rfl, by omega, H.out, Below.refl _ _⟩
        · have hend : digV s.data.toList 0 = N := by
            rw [← HR.out, List.drop_of_length_le (by have : s.data.toList.length = s.size := Array.length_toList; omega)]; rfl
          by_cases hd : dstr N = s
          · have hq : ((dstr N).toList == s.toList) = true := by rw [hd]; simp
            have H := Lib.hid (vr_yes hd)
            clear hd hend
            go_wp2_with fail
            refine (dec_any 18 (N : Int) _ (by omega) (by omega) (by omega)).mono ?_
            rw [show ((N : Int)).toNat = N by omega]
            rintro e w1 ⟨rfl, hb⟩
            go_wp2_with fail
            go_ret2
            exact ⟨N, true, rfl, by omega, H.out, hb⟩
          · have hq := ne_str' hd
            have H := Lib.hid (vr_no hend hd)
            clear hd hend
            go_wp2_with fail
            refine (dec_any 18 (N : Int) _ (by omega) (by omega) (by omega)).mono ?_
            rw [show ((N : Int)).toNat = N by omega]
            rintro e w1 ⟨rfl, hb⟩
            go_wp2_with fail
            go_ret2
            exact ⟨N, false, rfl, by omega, H.out, hb⟩
end Go.Proofs.YtcaekheghjnipabDoor
