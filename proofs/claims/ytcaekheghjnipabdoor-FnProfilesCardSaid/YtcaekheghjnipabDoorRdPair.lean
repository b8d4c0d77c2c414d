/- The contract of the program's reader of two numbers on both sides of a mark. -/
import Derived.Test.YtcaekheghjnipabDoorNumB
import Derived.Test.YtcaekheghjnipabDoorParse
namespace Go.Proofs.YtcaekheghjnipabDoor
open Go.ChangeShapes Go.WideShapes Go.ChangeAt Go.RowKit
set_option linter.unusedVariables false
/-- what reading two parts gives: their numbers, or zeros and false -/
def PrV (L R : List UInt8) (x y : Int) (b : Bool) : Prop := (b = true ∧ Lib.parseIntB 64 L = .ok x ∧ Lib.parseIntB 64 R = .ok y) ∨ (b = false ∧ x = 0 ∧ y = 0 ∧ ∀ u v, Lib.parseIntB 64 L = .ok u → Lib.parseIntB 64 R = .ok v → False)
theorem cut_sizesS (s : ByteArray) (sep : List UInt8) : (Lib.cut s.data.toList sep).1.length ≤ s.size ∧ (Lib.cut s.data.toList sep).2.1.length ≤ s.size := by
  have e : s.data.toList.length = s.size := Array.length_toList
  unfold Lib.cut
  split
  · simp only [List.length_take, List.length_drop, e]; omega
  · simp only [List.length_nil, e]; omega
set_option maxRecDepth 100000 in
set_option maxHeartbeats 4000000 in
theorem rdp_any (s sep : ByteArray) (w : World) (hl : s.size ≤ 1048576) (he : Errs w) (hm : MaxCell w) :
    Calls Tryd.prog 25 #[.string s, .string sep] w fun e w' => ∃ x y b, e = .returned (.tuple #[.int .i64 x, .int .i64 y, .bool b]) ∧ PrV (Lib.cut s.data.toList sep.data.toList).1 (Lib.cut s.data.toList sep.data.toList).2.1 x y b ∧ Below w.heap.size w w' := by
  have HE := Lib.hid he
  have HM := Lib.hid hm
  clear he hm
  obtain ⟨z1, z2⟩ := cut_sizesS s sep.data.toList
  have hc : ∀ wx, MaxCell wx → Calls Tryd.prog 48 #[.string s, .string sep] wx fun e w' => e = .returned (.tuple #[.string ⟨(Lib.cut s.data.toList sep.data.toList).1.toArray⟩, .string ⟨(Lib.cut s.data.toList sep.data.toList).2.1.toArray⟩, .bool (Lib.cut s.data.toList sep.data.toList).2.2]) ∧ Below wx.heap.size wx w' := fun wx h => cut_any s sep (by omega) wx h
  obtain ⟨C, hC⟩ : ∃ C, Lib.cut s.data.toList sep.data.toList = C := ⟨_, rfl⟩
  rw [hC] at hc z1 z2 ⊢
  obtain ⟨L, R, F⟩ := C
  replace z1 : L.length ≤ s.size := z1
  replace z2 : R.length ≤ s.size := z2
  have HC := Lib.hid hc
  clear hc hC
  go_enter Tryd.func25, Tryd.ntmps25
  go_wp2_with fail
  refine (HC.out _ HM.out).mono ?_
  rintro e w1 ⟨rfl, hb⟩
  have HB := Lib.hid hb
  clear hb
  by_cases hp : ∃ n, Lib.parseIntB 64 L = .ok n
  · obtain ⟨n, hn⟩ := hp
    go_wp2_with fail
    refine (pi_ok ⟨L.toArray⟩ (by simp [ByteArray.size]; omega) n (by simpa using hn) _).mono ?_
    rintro e w2 ⟨rfl, hb⟩
    replace HB := Lib.hid (bel_end HB.out hb)
    clear hb
    by_cases hq : ∃ d, Lib.parseIntB 64 R = .ok d
    · obtain ⟨d, hd⟩ := hq
      go_wp2_with fail
      refine (pi_ok ⟨R.toArray⟩ (by simp [ByteArray.size]; omega) d (by simpa using hd) _).mono ?_
      rintro e w3 ⟨rfl, hb⟩
      replace HB := Lib.hid (bel_end HB.out hb)
      have HR : Hid (PrV L R n d true) := Lib.hid (Or.inl ⟨rfl, hn, hd⟩)
      clear hb hn hd
      go_wp2
      exact bodyPost_ret (v := .tuple #[.int .i64 n, .int .i64 d, .bool true]) (by simp [results, Tryd.results25, go_sem]) rfl ⟨n, d, true, rfl, HR.out, HB.out⟩
    · have HR : Hid (PrV L R 0 0 false) := Lib.hid (Or.inr ⟨rfl, rfl, rfl, fun u v _ hv => hq ⟨v, hv⟩⟩)
      clear hn
      go_wp2_with fail
      refine (pi_no ⟨R.toArray⟩ (by simp [ByteArray.size]; omega) (fun v hv => hq ⟨v, by simpa using hv⟩) _ (HE.out.later HB.out)).mono ?_
      rintro e w3 ⟨x, t, M, rfl, hb⟩
      replace HB := Lib.hid (bel_end HB.out hb)
      clear hb hq
      go_wp2
      exact bodyPost_ret (v := .tuple #[.int .i64 0, .int .i64 0, .bool false]) (by simp [results, Tryd.results25, go_sem]) rfl ⟨0, 0, false, rfl, HR.out, HB.out⟩
  · have HR : Hid (PrV L R 0 0 false) := Lib.hid (Or.inr ⟨rfl, rfl, rfl, fun u v hu _ => hp ⟨u, hu⟩⟩)
    go_wp2_with fail
    refine (pi_no ⟨L.toArray⟩ (by simp [ByteArray.size]; omega) (fun v hv => hp ⟨v, by simpa using hv⟩) _ (HE.out.later HB.out)).mono ?_
    rintro e w2 ⟨x, t, M, rfl, hb⟩
    replace HB := Lib.hid (bel_end HB.out hb)
    clear hb hp
    go_wp2
    exact bodyPost_ret (v := .tuple #[.int .i64 0, .int .i64 0, .bool false]) (by simp [results, Tryd.results25, go_sem]) rfl ⟨0, 0, false, rfl, HR.out, HB.out⟩
end Go.Proofs.YtcaekheghjnipabDoor
