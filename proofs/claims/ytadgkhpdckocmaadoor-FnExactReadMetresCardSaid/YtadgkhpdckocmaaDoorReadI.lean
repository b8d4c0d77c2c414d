/- The contract of the program's ReadMetres, and the walk of its exact law. -/
import Derived.Test.YtadgkhpdckocmaaDoorRead
import Derived.Test.YtadgkhpdckocmaaDoorPShelf
import Derived.Lib.SmallJoins
import Derived.Lib.Split
import Derived.Lib.IndexBytes
namespace Go.Proofs.YtadgkhpdckocmaaDoor
open Go.ChangeShapes Go.WideShapes Go.ChangeAt Go.RowKit Num
set_option linter.unusedVariables false
/-- the library's two sentinels lie in their variables, in every later world -/
def Errs (w : World) : Prop :=
  (∃ tp p, ∀ w', Below w.heap.size w w' → w'.var? Tryd.prog "strconv.ErrSyntax" = some #[.iface tp p]) ∧
  (∃ tp p, ∀ w', Below w.heap.size w w' → w'.var? Tryd.prog "strconv.ErrRange" = some #[.iface tp p])
theorem Errs.later {w w' : World} (h : Errs w) (hb : Below w.heap.size w w') : Errs w' := by
  obtain ⟨⟨t1, p1, h1⟩, ⟨t2, p2, h2⟩⟩ := h
  exact ⟨⟨t1, p1, fun w2 g => h1 w2 (hb.trans (g.mono hb.size))⟩, ⟨t2, p2, fun w2 g => h2 w2 (hb.trans (g.mono hb.size))⟩⟩
theorem var_lt {w : World} {n : String} {g : Nat} {cs : Array Value} (hg : Tryd.prog.globalNamed n = some g) (h : w.var? Tryd.prog n = some cs) : g < w.heap.size := by
  rcases Nat.lt_or_ge g w.heap.size with hl | hge
  · exact hl
  · simp [World.var?, hg, Array.getElem?_eq_none hge] at h
theorem errs_of {w : World} (h1 : ∃ tp p, w.var? Tryd.prog "strconv.ErrSyntax" = some #[.iface tp p]) (h2 : ∃ tp p, w.var? Tryd.prog "strconv.ErrRange" = some #[.iface tp p]) : Errs w := by
  obtain ⟨t1, p1, v1⟩ := h1
  obtain ⟨t2, p2, v2⟩ := h2
  have g1 : Tryd.prog.globalNamed "strconv.ErrSyntax" = some 1 := by kernel_rfl
  have g2 : Tryd.prog.globalNamed "strconv.ErrRange" = some 2 := by kernel_rfl
  exact ⟨⟨t1, p1, fun w' hb => var?_below hb g1 (var_lt g1 v1) v1⟩, ⟨t2, p2, fun w' hb => var?_below hb g2 (var_lt g2 v2) v2⟩⟩

/-- the parser reads a number -/
def ParsedOk (w : World) (v : Int) (e : Ending) (w' : World) : Prop := e = .returned (.tuple #[.int .i64 v, .nilIface]) ∧ Below w.heap.size w w'
/-- the parser hands back an error -/
def ParsedNo (w : World) (e : Ending) (w' : World) : Prop :=
  ∃ (x : Int) (t : TypeId) (N : Nat), e = .returned (.tuple #[.int .i64 x, .iface t (.pointer (some ⟨N, 0, none⟩))]) ∧ Below w.heap.size w w'
theorem pi_ok (s : ByteArray) (hl : s.size ≤ 9000000) (v : Int) (h : Lib.parseIntB 64 s.data.toList = .ok v) (w : World) :
    Calls Tryd.prog 18 #[.string s, .int .i64 10, .int .i64 64] w (ParsedOk w v) :=
  (show Calls Tryd.prog 18 #[.string s, .int .i64 10, .int .i64 64] w _ from Any.strconv_ParseInt_10_at64_ok Tryd.laysC174 s (by omega) v h w).mono fun e w' ⟨he, hw⟩ => by
    refine ⟨he, ?_⟩
    rcases hw with rfl | ⟨t, rfl⟩
    · exact Below.refl _ _
    · exact Joins.below_bytesWorld _ _ _ _ (Nat.le_refl _)
theorem pi_no (s : ByteArray) (hl : s.size ≤ 9000000) (h : ∀ v, Lib.parseIntB 64 s.data.toList ≠ .ok v) (w : World) (he : Errs w) :
    Calls Tryd.prog 18 #[.string s, .int .i64 10, .int .i64 64] w (ParsedNo w) := by
  obtain ⟨⟨t1, p1, h1⟩, ⟨t2, p2, h2⟩⟩ := he
  cases hp : Lib.parseIntB 64 s.data.toList
  · exact absurd hp (h _)
  · exact (show Calls Tryd.prog 18 #[.string s, .int .i64 10, .int .i64 64] w _ from Any.strconv_ParseInt_10_at64_syntax_var Tryd.laysC174 s (by omega) hp t1 p1 w (h1 w (Below.refl _ _))).mono fun e w' ⟨N, he, _, _, hb⟩ => ⟨_, _, N, he, hb⟩
  · exact (show Calls Tryd.prog 18 #[.string s, .int .i64 10, .int .i64 64] w _ from Any.strconv_ParseInt_10_at64_range_var Tryd.laysC174 s (by omega) hp t2 p2 w (h2 w (Below.refl _ _))).mono fun e w' ⟨N, he, _, _, hb⟩ => ⟨_, _, N, he, hb⟩

/-- the letters of a text: what stands ahead of the dot, the dot, two digits -/
theorem txt_parts (y : Int) : ∃ P c1 c2, txtL y = P ++ [46, c1, c2] ∧ barL y = P ++ [c1, c2] := by
  refine ⟨(if y < 0 then [45] else []) ++ Lib.decDigits (y.natAbs / 100), UInt8.ofNat (48 + y.natAbs / 10 % 10), UInt8.ofNat (48 + y.natAbs % 10), ?_, ?_⟩
  · unfold txtL; rw [Lib.decDigits_one (show y.natAbs / 10 % 10 < 10 by omega), Lib.decDigits_one (show y.natAbs % 10 < 10 by omega)]; simp
  · unfold barL; rw [Lib.decDigits_one (show y.natAbs / 10 % 10 < 10 by omega), Lib.decDigits_one (show y.natAbs % 10 < 10 by omega)]; simp
/-- what the program hands to the parser -/
def cutS (s : ByteArray) (q : Nat) : ByteArray := s.extract 0 q ++ s.extract (q + 1) (q + 3)
theorem cut_of {s : ByteArray} {q : Nat} (hq : s.size = q + 3) {y : Int} (hy : valB y = true) (e : metT y = s) : s[q].toNat = 46 ∧ (cutS s q).data.toList = barL y := by
  have ht := metT_txt hy
  rw [e] at ht
  obtain ⟨P, c1, c2, h1, h2⟩ := txt_parts y
  rw [h1] at ht
  have hlen := congrArg List.length ht
  have hPl : P.length = q := by
    simp at hlen
    have : s.data.size = q + 3 := hq
    omega
  subst hPl
  constructor
  · have hd := drop_cons s P.length (by omega)
    rw [ht, List.drop_left] at hd
    injection hd with hd _
    rw [← hd]
    rfl
  · unfold cutS
    rw [Joins.data_append, Lib.extract_from_zero, ← hq, Lib.extract_to_end, ht, h2]
    rw [List.take_left]
    congr 1
    rw [show P.length + 1 = (P ++ [46]).length by simp, show P ++ [46, c1, c2] = (P ++ [46]) ++ [c1, c2] by simp, List.drop_left]
theorem txt_long (y : Int) (hy : valB y = true) : 3 ≤ (metT y).size := by
  obtain ⟨P, c1, c2, h1, h2⟩ := txt_parts y
  have ht := metT_txt hy
  rw [h1] at ht
  have hl := congrArg List.length ht
  simp at hl
  have : (metT y).size = (metT y).data.size := rfl
  omega
theorem rm_short {s : ByteArray} (h : s.size < 3) : RM s 0 false :=
  Or.inr ⟨rfl, rfl, fun y hy e => by have := txt_long y hy; rw [e] at this; omega⟩

set_option maxHeartbeats 2000000 in
theorem irm_any (s : ByteArray) (w : World) (hl : s.size ≤ 1048576) (ht : Pow10 w) (hE : Errs w) :
    Calls Tryd.prog 9 #[.string s] w (Read w s) := by
  have HT := Lib.hid ht
  have HE := Lib.hid hE
  clear ht hE
  by_cases h3 : s.size < 3
  · have H := Lib.hid (rm_short h3)
    go_enter Tryd.func9, Tryd.ntmps9
    go_wp2_with fail
    go_ret2
    exact ⟨0, false, rfl, H.out, Below.refl _ _⟩
  · obtain ⟨q, hq⟩ : ∃ q, s.size = q + 3 := ⟨s.size - 3, by omega⟩
    have HC := Lib.hid (fun y (hy : valB y = true) (e : metT y = s) => cut_of hq hy e)
    have hqs : q < s.size := by omega
    by_cases h46 : s[q].toNat = 46
    · have hb : ((s[q].toNat : Int) != 46) = false := by simp; omega
      by_cases hp : ∃ v, Lib.parseIntB 64 (cutS s q).data.toList = .ok v
      · obtain ⟨v, hv⟩ := hp
        have hcs : (cutS s q).size ≤ 9000000 := by
          have : (cutS s q).size = (s.extract 0 q).size + (s.extract (q + 1) (q + 3)).size := by unfold cutS; exact ByteArray.size_append
          rw [this, ByteArray.size_extract, ByteArray.size_extract]; omega
        have hcall : ∀ wx : World, Calls Tryd.prog 18 #[.string (s.extract 0 q ++ s.extract (q + 1) (q + 3)), .int .i64 10, .int .i64 64] wx (ParsedOk wx v) := fun wx => pi_ok (cutS s q) hcs v hv wx
        have HCALL := Lib.hid hcall
        have HA : Hid (∀ y, valB y = true → metT y = s → y = v) := Lib.hid (fun y hy e => by
          have h1 := (HC.out y hy e).2
          rw [h1, parse_bar (val_abs hy)] at hv
          injection hv)
        have hz : ¬ s.size = 0 := by omega
        have HZ := Lib.hid hz
        clear hcall hcs hv hz
        by_cases hm : metT v = s
        · have hqq : ((metT v).toList == s.toList) = true := by rw [hm]; simp
          have HM := Lib.hid hm
          clear hm
          go_enter Tryd.func9, Tryd.ntmps9
          have e1 : IntKind.i64.wrap ((q : Int) + 1) = (q : Int) + 1 := IntWalk.i64_in _ (by omega)
          have e2 : ((q : Int) + 1).toNat = q + 1 := by omega
          have e3 : ¬ ((q : Int) + 1 < 0) := by omega
          go_wp2_with fail
          go_region_with (go_at_call 18; refine (HCALL.out _).mono ?_; rintro e w1 ⟨rfl, hb1⟩)
          go_wp2_with fail
          refine (imt_any v _ (HT.out.later ((Below.refl _ _).drew.trans hb1))).mono ?_
          rintro e w2 ⟨rfl, hb2⟩
          go_wp2_with fail
          go_ret2
          exact ⟨v, true, rfl, rm_yes HZ.out HM.out, ((Below.refl _ _).drew.trans hb1).trans (hb2.mono hb1.size)⟩
        · have hqq : ((metT v).toList == s.toList) = false := ne_text hm
          have HM := Lib.hid hm
          clear hm
          go_enter Tryd.func9, Tryd.ntmps9
          have e1 : IntKind.i64.wrap ((q : Int) + 1) = (q : Int) + 1 := IntWalk.i64_in _ (by omega)
          have e2 : ((q : Int) + 1).toNat = q + 1 := by omega
          have e3 : ¬ ((q : Int) + 1 < 0) := by omega
          go_wp2_with fail
          go_region_with (go_at_call 18; refine (HCALL.out _).mono ?_; rintro e w1 ⟨rfl, hb1⟩)
          go_wp2_with fail
          refine (imt_any v _ (HT.out.later ((Below.refl _ _).drew.trans hb1))).mono ?_
          rintro e w2 ⟨rfl, hb2⟩
          go_wp2_with fail
          go_ret2
          exact ⟨0, false, rfl, rm_no HA.out HM.out, ((Below.refl _ _).drew.trans hb1).trans (hb2.mono hb1.size)⟩
      · have hcs : (cutS s q).size ≤ 9000000 := by
          have : (cutS s q).size = (s.extract 0 q).size + (s.extract (q + 1) (q + 3)).size := by unfold cutS; exact ByteArray.size_append
          rw [this, ByteArray.size_extract, ByteArray.size_extract]; omega
        have hcall : ∀ wx : World, Errs wx → Calls Tryd.prog 18 #[.string (s.extract 0 q ++ s.extract (q + 1) (q + 3)), .int .i64 10, .int .i64 64] wx (ParsedNo wx) := fun wx hw => pi_no (cutS s q) hcs (fun v hv => hp ⟨v, hv⟩) wx hw
        have HCALL := Lib.hid hcall
        have H : Hid (RM s 0 false) := Lib.hid (Or.inr ⟨rfl, rfl, fun y hy e => hp ⟨y, by rw [(HC.out y hy e).2]; exact parse_bar (val_abs hy)⟩⟩)
        clear hcall hcs hp
        go_enter Tryd.func9, Tryd.ntmps9
        have e1 : IntKind.i64.wrap ((q : Int) + 1) = (q : Int) + 1 := IntWalk.i64_in _ (by omega)
        have e2 : ((q : Int) + 1).toNat = q + 1 := by omega
        have e3 : ¬ ((q : Int) + 1 < 0) := by omega
        go_wp2_with fail
        go_region_with (go_at_call 18; refine (HCALL.out _ (HE.out.later (Below.refl _ _).drew)).mono ?_; rintro e w1 ⟨x, t, M, rfl, hb1⟩)
        go_wp2_with fail
        go_ret2
        exact ⟨0, false, rfl, H.out, (Below.refl _ _).drew.trans hb1⟩
    · have hb : ((s[q].toNat : Int) != 46) = true := by simp; omega
      have H : Hid (RM s 0 false) := Lib.hid (Or.inr ⟨rfl, rfl, fun y hy e => h46 (HC.out y hy e).1⟩)
      go_enter Tryd.func9, Tryd.ntmps9
      go_wp2_with fail
      go_ret2
      exact ⟨0, false, rfl, H.out, Below.refl _ _⟩

theorem lrm (a0 : ByteArray) (w0 : a0.size ≤ maxLen) (w : World) (ht : Pow10 w) (h1 : ∃ tp p, w.var? Tryd.prog "strconv.ErrSyntax" = some #[.iface tp p]) (h2 : ∃ tp p, w.var? Tryd.prog "strconv.ErrRange" = some #[.iface tp p]) :
    Calls Tryd.prog 5 #[.string a0] w fun e w' => e = .returned (.bool true) ∧ Below w.heap.size w w' := by
  have HT := Lib.hid ht
  have HE := Lib.hid (errs_of h1 h2)
  unfold maxLen at w0
  clear ht h1 h2
  by_cases hbig : 1048576 < a0.size
  · go_enter Tryd.func5, Tryd.ntmps5
    go_wp2
    go_ret
    exact ⟨rfl, Below.refl _ _⟩
  · go_enter Tryd.func5, Tryd.ntmps5
    go_wp2_with fail
    refine (srm_any a0 _ (by omega)).mono ?_
    rintro e w1 ⟨x, b, rfl, hr, hb1⟩
    have R := Lib.hid hr
    have B1 := Lib.hid hb1
    clear hr hb1
    go_wp2_with fail
    refine (irm_any a0 _ (by omega) (HT.out.later B1.out) (HE.out.later B1.out)).mono ?_
    rintro e w2 ⟨y, c, rfl, hr, hb2⟩
    obtain ⟨rfl, rfl⟩ := RM.unique hr R.out
    have B2 := Lib.hid (B1.out.trans (hb2.mono B1.out.size))
    clear hr hb2
    cases c
    all_goals
      go_wp2
      go_ret
      exact ⟨rfl, B2.out⟩
end Go.Proofs.YtadgkhpdckocmaaDoor
