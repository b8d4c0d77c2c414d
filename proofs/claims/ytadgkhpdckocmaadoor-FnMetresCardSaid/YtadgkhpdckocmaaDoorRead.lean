/- Contracts of ReadMetres, the program's and the model's. -/
import Derived.Test.YtadgkhpdckocmaaDoorMet
import Derived.Test.YtadgkhpdckocmaaDoorReadMath
import Derived.LoopTactic
import Derived.Deep.LoopGhost
import Derived.WalkSpells
import Derived.WalkLawsBesides
namespace Go.Proofs.YtadgkhpdckocmaaDoor
open Go.ChangeShapes Go.WideShapes Go.ChangeAt Go.RowKit Num
set_option linter.unusedVariables false
theorem metT_txt {x : Int} (h : valB x = true) : (metT x).data.toList = txtL x := by
  unfold metT txtL dstr
  rw [h]
  by_cases g : x < 0 <;> simp [g, ByteArray.data_append]
/-- what reading a text gives: the value that has it, or 0 and false -/
def RM (s : ByteArray) (x : Int) (b : Bool) : Prop := (b = true ∧ valB x = true ∧ metT x = s) ∨ (b = false ∧ x = 0 ∧ ∀ y, valB y = true → metT y ≠ s)
theorem val_abs {x : Int} (h : valB x = true) : x.natAbs ≤ 1000000000000 := by have := valB_t h; omega
theorem RM.unique {s : ByteArray} {x y : Int} {b c : Bool} (h : RM s x b) (g : RM s y c) : x = y ∧ b = c := by
  rcases h with ⟨rfl, hx, e⟩ | ⟨rfl, rfl, hn⟩ <;> rcases g with ⟨rfl, hy, e'⟩ | ⟨rfl, rfl, hn'⟩
  · refine ⟨txt_inj (val_abs hx) (val_abs hy) ?_, rfl⟩
    rw [← metT_txt hx, ← metT_txt hy, e, e']
  · exact absurd e (hn' x hx)
  · exact absurd e' (hn y hy)
  · exact ⟨rfl, rfl⟩
def Read (w : World) (s : ByteArray) (e : Ending) (w' : World) : Prop :=
  ∃ x b, e = .returned (.tuple #[.int .i64 x, .bool b]) ∧ RM s x b ∧ Below w.heap.size w w'

theorem drop_cons (s : ByteArray) (k : Nat) (h : k < s.size) : s.data.toList.drop k = s[k] :: s.data.toList.drop (k + 1) := by
  rw [List.drop_eq_getElem_cons (by simpa using h)]; rfl
theorem scan_yes (s : ByteArray) (k N D : Nat) (h : k < s.size) (hd : D < 14) (h1 : 48 ≤ s[k].toNat ∧ s[k].toNat ≤ 57) : scanL (s.data.toList.drop k) N D = scanL (s.data.toList.drop (k + 1)) (10 * N + (s[k].toNat - 48)) (D + 1) := by
  rw [drop_cons s k h, scanL, if_pos hd, if_pos h1]
theorem scan_no (s : ByteArray) (k N D : Nat) (h : k < s.size) (hd : D < 14) (h1 : ¬ (48 ≤ s[k].toNat ∧ s[k].toNat ≤ 57)) : scanL (s.data.toList.drop k) N D = scanL (s.data.toList.drop (k + 1)) N D := by
  rw [drop_cons s k h, scanL, if_pos hd, if_neg h1]
theorem scan_end (s : ByteArray) (k N D : Nat) (hk : k ≤ s.size) (h : ¬ (k < s.size ∧ D < 14)) : scanL (s.data.toList.drop k) N D = N := by
  by_cases hlt : k < s.size
  · rw [drop_cons s k hlt, scanL, if_neg (by omega)]
  · rw [List.drop_of_length_le (by simpa using hlt)]; rfl
theorem pow_step {N D c : Nat} (h : N < 10 ^ D) (hc : 48 ≤ c ∧ c ≤ 57) : 10 * N + (c - 48) < 10 ^ (D + 1) := by rw [Nat.pow_succ]; omega
theorem nil_of_size {s : ByteArray} (h : s.size = 0) : s = ⟨#[]⟩ := by
  apply ByteArray.ext; apply Array.eq_empty_of_size_eq_zero; exact h
theorem ne_of_size {s : ByteArray} (h : ¬ s.size = 0) : s.toList.isEmpty = false := by
  rw [ByteArray.toList_eq]
  cases hl : s.data.toList with
  | nil => exact absurd (by have := congrArg List.length hl; simpa using this) h
  | cons a r => rfl
theorem ne_text {a b : ByteArray} (h : a ≠ b) : (a.toList == b.toList) = false := by
  rw [ByteArray.toList_eq, ByteArray.toList_eq]
  simp only [beq_eq_false_iff_ne, ne_eq]
  exact fun e => h (by apply ByteArray.ext; exact Array.toList_inj.1 e)
theorem metT_size {y : Int} (h : valB y = true) : (metT y).size ≠ 0 := by
  obtain ⟨c, r, e, _⟩ := txt_head y
  have := metT_txt h
  rw [e] at this
  intro hs
  have hl := congrArg List.length this
  simp at hl
  have : (metT y).data.size = 0 := hs
  omega
theorem rm_nil : RM ⟨#[]⟩ 0 false := Or.inr ⟨rfl, rfl, fun y hy e => metT_size hy (by rw [e]; rfl)⟩
theorem rm_yes {s : ByteArray} {v : Int} (hz : ¬ s.size = 0) (hm : metT v = s) : RM s v true := by
  refine Or.inl ⟨rfl, ?_, hm⟩
  cases hv : valB v
  · exact absurd (by rw [← hm, metT_no hv]; rfl) hz
  · rfl
theorem rm_no {s : ByteArray} {v : Int} (ha : ∀ y, valB y = true → metT y = s → y = v) (hm : ¬ metT v = s) : RM s 0 false :=
  Or.inr ⟨rfl, rfl, fun y hy e => hm (by rw [← ha y hy e]; exact e)⟩
/-- the number that the scan ends with, with the sign that the text begins with -/
theorem scan_neg (s : ByteArray) (N : Nat) (h : scanL s.data.toList 0 0 = N) (h0 : 0 < s.size) (hc : s[0].toNat = 45) : ∀ y, valB y = true → metT y = s → y = -(N : Int) := by
  intro y hy e
  have ht := metT_txt hy
  rw [e] at ht
  have hs := scan_txt (val_abs hy)
  rw [← ht, h] at hs
  obtain ⟨c, r, e2, h1, h2⟩ := txt_head y
  have hd := drop_cons s 0 h0
  rw [List.drop_zero, ht, e2] at hd
  injection hd with hd1 _
  rw [← hd1] at hc
  by_cases q : y < 0
  · omega
  · have := h2 q; omega
theorem scan_pos (s : ByteArray) (N : Nat) (h : scanL s.data.toList 0 0 = N) (h0 : 0 < s.size) (hc : ¬ s[0].toNat = 45) : ∀ y, valB y = true → metT y = s → y = (N : Int) := by
  intro y hy e
  have ht := metT_txt hy
  rw [e] at ht
  have hs := scan_txt (val_abs hy)
  rw [← ht, h] at hs
  obtain ⟨c, r, e2, h1, h2⟩ := txt_head y
  have hd := drop_cons s 0 h0
  rw [List.drop_zero, ht, e2] at hd
  injection hd with hd1 _
  rw [← hd1] at hc
  by_cases q : y < 0
  · have := h1 q; omega
  · omega
set_option maxHeartbeats 2000000 in
theorem srm_any (s : ByteArray) (w : World) (hl : s.size ≤ 1048576) :
    Calls Tryd.prog 11 #[.string s] w (Read w s) := by
  go_enter Tryd.func11, Tryd.ntmps11
  go_wp2
  go_loop [4, 5, 6] (fun n d i => ∃ k N D : Nat, k ≤ s.size ∧ i = .int .i64 k ∧ n = .int .i64 N ∧ d = .int .i64 D ∧ D ≤ 14 ∧ N < 10 ^ D ∧ scanL (s.data.toList.drop k) N D = scanL s.data.toList 0 0) (fun _ _ i => s.size - (intOf i).toNat)
  case atStart => exact ⟨0, 0, 0, by omega, rfl, rfl, rfl, by omega, by simp, rfl⟩
  case round =>
    obtain ⟨k, N, D, hk, rfl, rfl, rfl, hD, hN, hr⟩ := hrel
    have HR := Lib.hid hr
    have HN := Lib.hid hN
    have hN2 : N < 10 ^ 14 := Nat.lt_of_lt_of_le hN (Nat.pow_le_pow_right (by omega) hD)
    simp only [Nat.reducePow] at hN2
    clear hr hN
    by_cases hx : k < s.size ∧ D < 14
    · obtain ⟨hlt, hd⟩ := hx
      by_cases h1 : 48 ≤ (s[k].toNat : Int)
      · by_cases h2 : (s[k].toNat : Int) ≤ 57
        · go_wp2_with fail
          go_round
          case rel => exact ⟨k + 1, 10 * N + (s[k].toNat - 48), D + 1, by omega, by go_num, by rw [show ((10 * N + (s[k].toNat - 48) : Nat) : Int) = 10 * (N : Int) + ((s[k].toNat : Int) - 48) by omega], by go_num, by omega, pow_step HN.out (by omega), (scan_yes s k N D hlt hd (by omega)).symm.trans HR.out⟩
          case measure => simp [intOf]; omega
        · go_wp2_with fail
          go_round
          case rel => exact ⟨k + 1, N, D, by omega, by go_num, rfl, rfl, by omega, HN.out, (scan_no s k N D hlt hd (by omega)).symm.trans HR.out⟩
          case measure => simp [intOf]; omega
      · go_wp2_with fail
        go_round
        case rel => exact ⟨k + 1, N, D, by omega, by go_num, rfl, rfl, by omega, HN.out, (scan_no s k N D hlt hd (by omega)).symm.trans HR.out⟩
        case measure => simp [intOf]; omega
    · have hend := scan_end s k N D hk hx
      have HE := Lib.hid (HR.out.symm.trans hend)
      clear hend HR HN
      have hor : s.size ≤ k ∨ (k < s.size ∧ 14 ≤ D) := by omega
      clear hx
      by_cases hz : s.size = 0
      · obtain rfl := nil_of_size hz
        have he : (ByteArray.mk #[]).toList = [] := by rw [ByteArray.toList_eq]
        rcases hor with hlt | ⟨hlt, hd⟩
        · go_wp2_with fail
          go_ret2
          exact ⟨0, false, rfl, rm_nil, Below.refl _ _⟩
        · exact absurd hlt (by rw [hz]; omega)
      · have he : s.toList.isEmpty = false := ne_of_size hz
        have he2 : ¬ s.toList = [] := fun h => by rw [h] at he; simp at he
        by_cases hc : s[0].toNat = 45
        · have h45 : ((s[0].toNat : Int) == 45) = true := by simp; omega
          have HA := Lib.hid (scan_neg s N HE.out (by omega) hc)
          clear hc
          by_cases hm : metT (-(N : Int)) = s
          · have hq : ((metT (-(N : Int))).toList == s.toList) = true := by rw [hm]; simp
            have HM := Lib.hid hm
            clear hm
            rcases hor with hlt | ⟨hlt, hd⟩
            all_goals
              go_wp2_with (go_at_call 12; refine (smt_any _ _).mono ?_; rintro e w1 ⟨rfl, hb1⟩)
              go_ret2
              exact ⟨_, true, rfl, rm_yes hz HM.out, hb1⟩
          · have hq : ((metT (-(N : Int))).toList == s.toList) = false := ne_text hm
            have HM := Lib.hid hm
            clear hm
            rcases hor with hlt | ⟨hlt, hd⟩
            all_goals
              go_wp2_with (go_at_call 12; refine (smt_any _ _).mono ?_; rintro e w1 ⟨rfl, hb1⟩)
              go_ret2
              exact ⟨0, false, rfl, rm_no HA.out HM.out, hb1⟩
        · have h45 : ((s[0].toNat : Int) == 45) = false := by simp; omega
          have HA := Lib.hid (scan_pos s N HE.out (by omega) hc)
          by_cases hm : metT (N : Int) = s
          · have hq : ((metT (N : Int)).toList == s.toList) = true := by rw [hm]; simp
            have HM := Lib.hid hm
            clear hm
            rcases hor with hlt | ⟨hlt, hd⟩
            all_goals
              go_wp2_with (go_at_call 12; refine (smt_any _ _).mono ?_; rintro e w1 ⟨rfl, hb1⟩)
              go_ret2
              exact ⟨_, true, rfl, rm_yes hz HM.out, hb1⟩
          · have hq : ((metT (N : Int)).toList == s.toList) = false := ne_text hm
            have HM := Lib.hid hm
            clear hm
            rcases hor with hlt | ⟨hlt, hd⟩
            all_goals
              go_wp2_with (go_at_call 12; refine (smt_any _ _).mono ?_; rintro e w1 ⟨rfl, hb1⟩)
              go_ret2
              exact ⟨0, false, rfl, rm_no HA.out HM.out, hb1⟩
end Go.Proofs.YtadgkhpdckocmaaDoor
