/- Contracts of the library's parser of integers, of its cut of a text at a slash, and what they ask of the library's own variables. -/
import Derived.Test.YtcaekheghjnipabDoorPShelf
import Derived.Test.YtcaekheghjnipabDoorRShelf
import Derived.Lib.SmallJoins
import Derived.WalkSmall
import Derived.WalkKit
import Derived.Below
import Derived.Lib.Hide
namespace Go.Proofs.YtcaekheghjnipabDoor
open Go.ChangeShapes Go.WideShapes Go.ChangeAt Go.RowKit
set_option linter.unusedVariables false
/-- the library's two sentinels lie in their variables, in every later world -/
def Errs (w : World) : Prop :=
  (∃ tp p, ∀ w', Below w.heap.size w w' → w'.var? Tryd.prog "strconv.ErrSyntax" = some #[.iface tp p]) ∧
  (∃ tp p, ∀ w', Below w.heap.size w w' → w'.var? Tryd.prog "strconv.ErrRange" = some #[.iface tp p])
theorem Errs.later {w w' : World} (h : Errs w) (hb : Below w.heap.size w w') : Errs w' := by
  obtain ⟨⟨t1, p1, h1⟩, ⟨t2, p2, h2⟩⟩ := h
  exact ⟨⟨t1, p1, fun w2 g => h1 w2 (hb.trans (g.mono hb.size))⟩, ⟨t2, p2, fun w2 g => h2 w2 (hb.trans (g.mono hb.size))⟩⟩
theorem var_lt {w : World} {n : String} {g : Nat} {cs : Array Value} (hg : Tryd.prog.globalNamed n = some g) (h : w.var? Tryd.prog n = some cs) : g < w.heap.size := by
  rcases Nat.lt_or_ge g w.heap.size with hl | hge
  · exact hl
  · simp [World.var?, hg, Array.getElem?_eq_none hge] at h
theorem errs_of {w : World} (h1 : ∃ tp p, w.var? Tryd.prog "strconv.ErrSyntax" = some #[.iface tp p]) (h2 : ∃ tp p, w.var? Tryd.prog "strconv.ErrRange" = some #[.iface tp p]) : Errs w := by
  obtain ⟨t1, p1, v1⟩ := h1
  obtain ⟨t2, p2, v2⟩ := h2
  have g1 : Tryd.prog.globalNamed "strconv.ErrSyntax" = some 1 := by kernel_rfl
  have g2 : Tryd.prog.globalNamed "strconv.ErrRange" = some 2 := by kernel_rfl
  exact ⟨⟨t1, p1, fun w' hb => var?_below hb g1 (var_lt g1 v1) v1⟩, ⟨t2, p2, fun w' hb => var?_below hb g2 (var_lt g2 v2) v2⟩⟩
/-- the parser reads a number -/
def ParsedOk (w : World) (v : Int) (e : Ending) (w' : World) : Prop := e = .returned (.tuple #[.int .i64 v, .nilIface]) ∧ Below w.heap.size w w'
/-- the parser hands back an error -/
def ParsedNo (w : World) (e : Ending) (w' : World) : Prop :=
  ∃ (x : Int) (t : TypeId) (N : Nat), e = .returned (.tuple #[.int .i64 x, .iface t (.pointer (some ⟨N, 0, none⟩))]) ∧ Below w.heap.size w w'
theorem pi_ok (s : ByteArray) (hl : s.size ≤ 9000000) (v : Int) (h : Lib.parseIntB 64 s.data.toList = .ok v) (w : World) :
    Calls Tryd.prog 49 #[.string s, .int .i64 10, .int .i64 64] w (ParsedOk w v) :=
  (show Calls Tryd.prog 49 #[.string s, .int .i64 10, .int .i64 64] w _ from Any.strconv_ParseInt_10_at64_ok Tryd.laysC174 s (by omega) v h w).mono fun e w' ⟨he, hw⟩ => by
    refine ⟨he, ?_⟩
    rcases hw with rfl | ⟨t, rfl⟩
    · exact Below.refl _ _
    · exact Joins.below_bytesWorld _ _ _ _ (Nat.le_refl _)
theorem pi_no (s : ByteArray) (hl : s.size ≤ 9000000) (h : ∀ v, Lib.parseIntB 64 s.data.toList ≠ .ok v) (w : World) (he : Errs w) :
    Calls Tryd.prog 49 #[.string s, .int .i64 10, .int .i64 64] w (ParsedNo w) := by
  obtain ⟨⟨t1, p1, h1⟩, ⟨t2, p2, h2⟩⟩ := he
  cases hp : Lib.parseIntB 64 s.data.toList
  · exact absurd hp (h _)
  · exact (show Calls Tryd.prog 49 #[.string s, .int .i64 10, .int .i64 64] w _ from Any.strconv_ParseInt_10_at64_syntax_var Tryd.laysC174 s (by omega) hp t1 p1 w (h1 w (Below.refl _ _))).mono fun e w' ⟨N, he, _, _, hb⟩ => ⟨_, _, N, he, hb⟩
  · exact (show Calls Tryd.prog 49 #[.string s, .int .i64 10, .int .i64 64] w _ from Any.strconv_ParseInt_10_at64_range_var Tryd.laysC174 s (by omega) hp t2 p2 w (h2 w (Below.refl _ _))).mono fun e w' ⟨N, he, _, _, hb⟩ => ⟨_, _, N, he, hb⟩
/-- the cell of the library's own bound holds some number, in every later world -/
def MaxCell (w : World) : Prop := ∃ m : Int, ∀ w', Below w.heap.size w w' → w'.cell? ⟨0, 0, none⟩ = some (.int .i64 m)
theorem MaxCell.later {w w' : World} (h : MaxCell w) (hb : Below w.heap.size w w') : MaxCell w' := by
  obtain ⟨m, hm⟩ := h
  exact ⟨m, fun w2 g => hm w2 (hb.trans (g.mono hb.size))⟩
theorem maxCell_of {w : World} (h : w.ShapedOpen Tryd.prog) : MaxCell w := by
  obtain ⟨m, hm⟩ := Tryd.laysM145.s1_3 w h
  exact ⟨m, fun w' hb => (hb.cell (World.block_lt_of_cell? w _ hm)).trans hm⟩
theorem cut_any (s sep : ByteArray) (hs : s.size < 4294967281) (w : World) (hm : MaxCell w) :
    Calls Tryd.prog 48 #[.string s, .string sep] w fun e w' => e = .returned (.tuple #[.string ⟨(Lib.cut s.data.toList sep.data.toList).1.toArray⟩, .string ⟨(Lib.cut s.data.toList sep.data.toList).2.1.toArray⟩, .bool (Lib.cut s.data.toList sep.data.toList).2.2]) ∧ Below w.heap.size w w' := by
  obtain ⟨m, hm⟩ := hm
  exact (show Calls Tryd.prog 48 #[.string s, .string sep] w _ from Any.strings_Cut { Tryd.laysM145 with } s sep m w hs (hm w (Below.refl _ _))).mono fun e w' ⟨he, n, hw⟩ => ⟨he, by subst hw; exact ⟨rfl, rfl, rfl, Nat.le_refl _, fun _ _ => rfl⟩⟩
end Go.Proofs.YtcaekheghjnipabDoor
