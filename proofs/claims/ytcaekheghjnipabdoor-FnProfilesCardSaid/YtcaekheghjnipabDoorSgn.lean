/- The contract of the model's reader of a decimal number that may have a sign. -/
import Derived.Test.YtcaekheghjnipabDoorVal
import Derived.Lib.SmallJoins
namespace Go.Proofs.YtcaekheghjnipabDoor
open Go.ChangeShapes Go.WideShapes Go.ChangeAt Go.RowKit Num
set_option linter.unusedVariables false
/-- what reading a number gives -/
def SR (s : ByteArray) (x : Int) (b : Bool) : Prop := (b = true ∧ x.natAbs < 1000000000000 ∧ numS x = s) ∨ (b = false ∧ ∀ y : Int, y.natAbs < 1000000000000 → numS y ≠ s)
def SgnD (w : World) (s : ByteArray) (e : Ending) (w' : World) : Prop := ∃ n b, e = .returned (.tuple #[.int .i64 n, .bool b]) ∧ (-1000000000000 < n ∧ n < 1000000000000) ∧ SR s n b ∧ Below w.heap.size w w'
theorem numS_list (x : Int) : (numS x).data.toList = Lib.itoa x := by unfold numS; simp
theorem size_list (s : ByteArray) : s.data.toList.length = s.size := Array.length_toList
/-- the first letter of a number's text -/
theorem numS_head {y : Int} {s : ByteArray} (e : numS y = s) : ∃ h : 0 < s.size, (y < 0 → s[0].toNat = 45 ∧ (s.extract 1 s.size).data.toList = Lib.decDigits y.natAbs) ∧ (¬ y < 0 → ¬ s[0].toNat = 45) := by
  subst e
  have hl := numS_list y
  have hz := size_list (numS y)
  by_cases hy : y < 0
  · have e : (numS y).data.toList = 45 :: Lib.decDigits y.natAbs := by rw [hl]; unfold Lib.itoa; rw [if_pos hy]
    have h0 : 0 < (numS y).size := by rw [← hz, e]; simp
    have hd := sdrop_cons (numS y) 0 h0
    rw [List.drop_zero, e] at hd
    injection hd with hd1 hd2
    refine ⟨h0, fun _ => ⟨by rw [← hd1]; rfl, ?_⟩, fun h => absurd hy h⟩
    rw [Lib.extract_to_end, e]; rfl
  · have e : (numS y).data.toList = Lib.decDigits y.toNat := by rw [hl]; unfold Lib.itoa; rw [if_neg hy]
    obtain ⟨c, r, ec, c1, c2⟩ := dec_head y.toNat
    have h0 : 0 < (numS y).size := by rw [← hz, e, ec]; simp
    have hd := sdrop_cons (numS y) 0 h0
    rw [List.drop_zero, e, ec] at hd
    injection hd with hd1 hd2
    exact ⟨h0, fun h => absurd h hy, fun _ => by rw [← hd1]; omega⟩
theorem str_of_list {s : ByteArray} {m : Nat} (h : s.data.toList = Lib.decDigits m) : dstr m = s := by
  apply ByteArray.ext; apply Array.toList_inj.1; rw [dstr_list, h]
/-- a text that begins with a minus sign -/
theorem sr_neg {s : ByteArray} {n : Int} {b : Bool} (h0 : 0 < s.size) (h45 : s[0].toNat = 45) (hn : 0 ≤ n ∧ n < 1000000000000) (h : VR (s.extract 1 s.size) n b) : SR s (-n) (b && decide (0 < n)) := by
  rcases h with ⟨rfl, e⟩ | ⟨rfl, hno⟩
  · by_cases hp : 0 < n
    · refine Or.inl ⟨by simpa using hp, by omega, ?_⟩
      apply ByteArray.ext; apply Array.toList_inj.1
      have hd := sdrop_cons s 0 h0
      rw [List.drop_zero] at hd
      have e2 := congrArg (fun t => t.data.toList) e
      simp only [dstr_list, Lib.extract_to_end] at e2
      rw [numS_list, hd]
      unfold Lib.itoa
      rw [if_pos (by omega)]
      have : (45 : UInt8) = s[0] := UInt8.toNat_inj.1 (by rw [h45]; rfl)
      rw [this, show (-n).natAbs = n.toNat by omega, e2]
    · refine Or.inr ⟨by simpa using hp, fun y hy g => ?_⟩
      obtain ⟨_, k1, k2⟩ := numS_head g
      by_cases hy0 : y < 0
      · obtain ⟨_, k3⟩ := k1 hy0
        have := str_of_list k3
        rw [← e] at this
        have e3 := congrArg (fun t => digV t.data.toList 0) this
        simp only [dstr_list, digV_all] at e3
        omega
      · exact k2 hy0 h45
  · refine Or.inr ⟨by simp, fun y hy g => ?_⟩
    obtain ⟨_, k1, k2⟩ := numS_head g
    by_cases hy0 : y < 0
    · exact hno _ hy (str_of_list (k1 hy0).2)
    · exact k2 hy0 h45
/-- a text that does not -/
theorem sr_pos {s : ByteArray} {n : Int} {b : Bool} (h45 : ∀ h : 0 < s.size, ¬ s[0].toNat = 45) (hn : 0 ≤ n ∧ n < 1000000000000) (h : VR s n b) : SR s n b := by
  rcases h with ⟨rfl, e⟩ | ⟨rfl, hno⟩
  · exact Or.inl ⟨rfl, by omega, by rw [numS_pos hn.1]; exact e⟩
  · refine Or.inr ⟨rfl, fun y hy g => ?_⟩
    obtain ⟨h0, k1, k2⟩ := numS_head g
    by_cases hy0 : y < 0
    · exact h45 h0 (k1 hy0).1
    · rw [numS_pos (by omega)] at g
      exact hno _ (by omega) g
theorem cut_size (s : ByteArray) (h : 0 < s.size) : (s.extract 1 s.size).size ≤ s.size := by rw [ByteArray.size_extract]; omega
set_option maxHeartbeats 4000000 in
theorem sgn_any (s : ByteArray) (w : World) (hl : s.size ≤ 2097152) :
    Calls Tryd.prog 46 #[.string s] w (SgnD w s) := by
  by_cases h0 : 0 < s.size
  · by_cases hc : s[0].toNat = 45
    · have h45 : ((s[0].toNat : Int) == 45) = true := by simp; omega
      have HS := Lib.hid (fun n b hn h => @sr_neg s n b h0 hc hn h)
      have hx := cut_size s h0
      clear hc
      go_enter Tryd.func46, Tryd.ntmps46
      go_wp2_with fail
      refine (val_any _ _ (by omega)).mono ?_
      rintro e w1 ⟨n, b, rfl, hn, hv, hb⟩
      have H := Lib.hid (HS.out n b hn hv)
      clear hv
      obtain ⟨n1, n2⟩ := hn
      cases b
      · go_wp2_with fail
        go_ret2
        exact ⟨-n, false, rfl, by omega, H.out, hb⟩
      · by_cases hp : 0 < n
        · have hpd : decide (0 < n) = true := by simpa using hp
          rw [hpd] at H
          clear hpd
          go_wp2_with fail
          go_ret2
          exact ⟨-n, true, rfl, by omega, H.out, hb⟩
        · go_wp2_with fail
          go_ret2
          exact ⟨-n, decide (0 < n), rfl, by omega, H.out, hb⟩
    · have h45 : ((s[0].toNat : Int) == 45) = false := by simp; omega
      have HS := Lib.hid (fun n b hn h => @sr_pos s n b (fun _ => hc) hn h)
      clear hc
      go_enter Tryd.func46, Tryd.ntmps46
      go_wp2_with fail
      refine (val_any _ _ (by omega)).mono ?_
      rintro e w1 ⟨n, b, rfl, hn, hv, hb⟩
      have H := Lib.hid (HS.out n b hn hv)
      clear hv
      obtain ⟨n1, n2⟩ := hn
      go_wp2_with fail
      go_ret2
      exact ⟨n, b, rfl, by omega, H.out, hb⟩
  · have HS := Lib.hid (fun n b hn h => @sr_pos s n b (fun h => absurd h h0) hn h)
    go_enter Tryd.func46, Tryd.ntmps46
    go_wp2_with fail
    refine (val_any _ _ (by omega)).mono ?_
    rintro e w1 ⟨n, b, rfl, hn, hv, hb⟩
    have H := Lib.hid (HS.out n b hn hv)
    clear hv
    obtain ⟨n1, n2⟩ := hn
    go_wp2_with fail
    go_ret2
    exact ⟨n, b, rfl, by omega, H.out, hb⟩
end Go.Proofs.YtcaekheghjnipabDoor
