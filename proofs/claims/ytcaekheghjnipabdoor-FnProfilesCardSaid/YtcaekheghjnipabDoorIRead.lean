/- The contract of the program's ReadRatio. -/
import Derived.Test.YtcaekheghjnipabDoorIText
import Derived.Test.YtcaekheghjnipabDoorRdPair
import Derived.Test.YtcaekheghjnipabDoorRMath
namespace Go.Proofs.YtcaekheghjnipabDoor
open Go.ChangeShapes Go.WideShapes Go.ChangeAt Go.RowKit Num
set_option linter.unusedVariables false
theorem ratT_L {a b : Int} (h : ratB a b = true) : (ratT a b).data.toList = ratL a b := by
  rw [← ratT_list h]
  unfold ratL
  simp
/-- what reading a text gives: the fraction that has it, or zeros and false -/
def RR (s : ByteArray) (x y : Int) (b : Bool) : Prop := (b = true ∧ ratB x y = true ∧ ratT x y = s) ∨ (b = false ∧ x = 0 ∧ y = 0 ∧ ∀ u v, ratB u v = true → ratT u v ≠ s)
theorem rat_inj {a b c d : Int} (h : ratB a b = true) (g : ratB c d = true) (e : ratT a b = ratT c d) : a = c ∧ b = d := by
  obtain ⟨a1, a2, b1, b2, _⟩ := ratB_t h
  obtain ⟨c1, c2, d1, d2, _⟩ := ratB_t g
  have e2 : ratL a b = ratL c d := by rw [← ratT_L h, ← ratT_L g, e]
  have ha := cut_rat a b
  rw [e2, cut_rat] at ha
  simp only [Prod.mk.injEq, and_true] at ha
  exact ⟨itoa_inj (by omega) (by omega) ha.1.symm, itoa_inj (by omega) (by omega) ha.2.symm⟩
theorem RR.unique {s : ByteArray} {x y u v : Int} {b c : Bool} (h : RR s x y b) (g : RR s u v c) : (x = u ∧ y = v) ∧ b = c := by
  rcases h with ⟨rfl, hx, e⟩ | ⟨rfl, rfl, rfl, hn⟩ <;> rcases g with ⟨rfl, hy, e'⟩ | ⟨rfl, rfl, rfl, hn'⟩
  · exact ⟨rat_inj hx hy (e.trans e'.symm), rfl⟩
  · exact absurd e (hn' _ _ hx)
  · exact absurd e' (hn _ _ hy)
  · exact ⟨⟨rfl, rfl⟩, rfl⟩
/-- what a text of a fraction gives: its two parts are its terms' texts -/
theorem rr_parts {s : ByteArray} {u v : Int} (h : ratB u v = true) (e : ratT u v = s) :
    Lib.parseIntB 64 (Lib.cut s.data.toList [47]).1 = .ok u ∧ Lib.parseIntB 64 (Lib.cut s.data.toList [47]).2.1 = .ok v := by
  obtain ⟨a1, a2, b1, b2, _⟩ := ratB_t h
  rw [← e, ratT_L h, cut_rat]
  exact ⟨parse_itoa (by omega), parse_itoa (by omega)⟩
theorem rr_no {s : ByteArray} (h : ∀ u v, ratB u v = true → ratT u v = s → False) : RR s 0 0 false := Or.inr ⟨rfl, rfl, rfl, fun u v hu e => h u v hu e⟩
theorem rr_yes {s : ByteArray} {n d : Int} (hp : Lib.parseIntB 64 (Lib.cut s.data.toList [47]).1 = .ok n) (e : ratT n d = s) : RR s n d true := by
  refine Or.inl ⟨rfl, ?_, e⟩
  cases hr : ratB n d
  · rw [ratT_no hr] at e
    subst e
    have : (match Lib.parseIntB 64 (Lib.cut (ByteArray.mk #[]).data.toList [47]).1 with | .ok _ => true | _ => false) = false := rfl
    rw [hp] at this
    cases this
  · rfl
theorem cut_sizes (s : ByteArray) : (Lib.cut s.data.toList [47]).1.length ≤ s.size ∧ (Lib.cut s.data.toList [47]).2.1.length ≤ s.size := by
  have e : s.data.toList.length = s.size := Array.length_toList
  unfold Lib.cut
  split
  · simp only [List.length_take, List.length_drop, e]; omega
  · simp only [List.length_nil, e]; omega
theorem ne_str {a b : ByteArray} (h : a ≠ b) : (a.toList == b.toList) = false := by
  rw [ByteArray.toList_eq, ByteArray.toList_eq]
  simp only [beq_eq_false_iff_ne, ne_eq]
  exact fun e => h (by apply ByteArray.ext; exact Array.toList_inj.1 e)
def RdRat (w : World) (s : ByteArray) (e : Ending) (w' : World) : Prop := ∃ x y b, e = .returned (.tuple #[.agg #[.int .i64 x, .int .i64 y], .bool b]) ∧ RR s x y b ∧ Below w.heap.size w w'
theorem rd_ret {w w' : World} {s : ByteArray} {x y : Int} {b : Bool} (h : RR s x y b) (hb : Below w.heap.size w w') : RdRat w s (.returned (.tuple #[.agg #[.int .i64 x, .int .i64 y], .bool b])) w' := ⟨x, y, b, rfl, h, hb⟩

end Go.Proofs.YtcaekheghjnipabDoor
