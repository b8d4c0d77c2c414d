/- Contracts of the laws' own helpers on profiles: their size, their copy in new memory, their comparison. -/
import Derived.Test.YtcaekheghjnipabDoorKnots
import Derived.Test.YtcaekheghjnipabDoorCopy
namespace Go.Proofs.YtcaekheghjnipabDoor
open Go.ChangeShapes Go.WideShapes Go.ChangeAt Go.RowKit Go.Shelf Num
set_option linter.unusedVariables false
theorem Prof.drew {w : World} {B : Nat} {a b : Option Addr} {zs ys : List Int} (h : Prof w B a b zs ys) : Prof w.drew B a b zs ys := ⟨h.dz, h.sy, h.lz, h.ly⟩

/-- what is left of the size -/
def szP (m n : Nat) : Int := if 1048576 < m + n then -1 else 1048576 - (m : Int) - (n : Int)
/-- a profile in new memory of its own -/
def NewProf (w : World) (zs ys : List Int) (e : Ending) (w' : World) : Prop :=
  ∃ g h, e = .returned (.agg #[.slice (some ⟨g, 0, none⟩) zs.length zs.length, .slice (some ⟨h, 0, none⟩) ys.length ys.length]) ∧ w.heap.size ≤ g ∧ g < h ∧ w'.rowIs g 2 zs.length (cellsOf zs) ∧ w'.rowIs h 2 ys.length (cellsOf ys) ∧ Below w.heap.size w w'
theorem Prof.of_rows {w : World} {g h : Nat} {t : TypeId} {zs ys : List Int} (h1 : w.rowIs g t zs.length (cellsOf zs)) (h2 : w.rowIs h t ys.length (cellsOf ys)) (lz : zs.length ≤ 1048576) (ly : ys.length ≤ 1048576) : Prof w w.heap.size (some ⟨g, 0, none⟩) (some ⟨h, 0, none⟩) zs ys :=
  ⟨Ints.of_rowIs h1, Ints.of_rowIs h2, lz, ly⟩
theorem rowIs_on {w w' : World} {g : Nat} {t : TypeId} {n : Nat} {f : Nat → Value} (h : w.rowIs g t n f) (hb : Below w.heap.size w w') : w'.rowIs g t n f := h.of_block (hb.block g h.lt)

theorem eqp_any (w : World) (a b a' b' : Option Addr) (c d c' d' : Nat) (zs ys zs' ys' : List Int) (hp : Prof w w.heap.size a b zs ys) (hq : Prof w w.heap.size a' b' zs' ys') :
    Calls Tryd.prog 7 #[.agg #[.slice a zs.length c, .slice b ys.length d], .agg #[.slice a' zs'.length c', .slice b' ys'.length d']] w fun e w' => e = .returned (.bool (sameB zs zs' && sameB ys ys')) ∧ Below w.heap.size w w' := by
  have HP := Lib.hid hp
  have HQ := Lib.hid hq
  clear hp hq
  go_enter Tryd.func7, Tryd.ntmps7
  go_wp2_with fail
  obtain ⟨W, hW⟩ : ∃ W, W = (w.alloc (.cells #[.slice a zs.length c, .slice b ys.length d] 24)).alloc (.cells #[.slice a' zs'.length c', .slice b' ys'.length d'] 24) := ⟨_, rfl⟩
  have bX : Bk W w.heap.size #[.slice a zs.length c, .slice b ys.length d] 24 := by rw [hW]; exact (Bk.new' rfl).alloc _
  have bY : Bk W (w.heap.size + 1) #[.slice a' zs'.length c', .slice b' ys'.length d'] 24 := by rw [hW]; exact Bk.new' (by simp)
  have HB : Hid (Below w.heap.size w W) := Lib.hid (by rw [hW]; exact (by repeat (first | exact Below.refl _ _ | (refine Below.alloc ?_ (by simp <;> omega) _) | (refine Below.setCell ?_ (by simp <;> omega) _) | (refine Below.drew ?_) | (refine bel_drewN ?_ _))))
  have HP1 := Lib.hid (HP.out.on HB.out)
  have HQ1 := Lib.hid (HQ.out.on HB.out)
  have cX := bX.cell 1 rfl
  have cY := bY.cell 1 rfl
  rw [← hW]
  clear hW bX bY
  have l1 := HP.out.lz
  have l2 := HQ.out.lz
  have l3 := HP.out.ly
  have l4 := HQ.out.ly
  cases h1 : sameB zs zs'
  · have H1 := Lib.hid h1
    clear h1
    refine (eqi_any _ _ _ _ _ _ zs zs' (by omega) (by omega) HP1.out.dz HQ1.out.dz).mono ?_
    rw [H1.out]
    rintro e w1 ⟨rfl, n, rfl⟩
    go_wp2
    go_ret
    exact ⟨ret_bool (by rw [H1.out]; rfl), bel_drewN HB.out _⟩
  · have H1 := Lib.hid h1
    clear h1
    refine (eqi_any _ _ _ _ _ _ zs zs' (by omega) (by omega) HP1.out.dz HQ1.out.dz).mono ?_
    rw [H1.out]
    rintro e w1 ⟨rfl, n, rfl⟩
    go_wp2_with fail
    cases h2 : sameB ys ys'
    all_goals
      have H2 := Lib.hid h2
      clear h2
      refine (eqi_any _ _ _ _ _ _ ys ys' (by omega) (by omega) (HP1.out.sy.drewN n) (HQ1.out.sy.drewN n)).mono ?_
      rw [H2.out]
      rintro e w1 ⟨rfl, n2, rfl⟩
      go_wp2
      go_ret
      exact ⟨ret_bool (by rw [H1.out, H2.out]; rfl), bel_drewN HB.out _⟩
/-- a profile that came in -/
theorem Prof.of_in {w : World} {a b : Option Addr} {m n c d : Nat} {zs ys : List Int} (h : IsRow .i64 w a m c zs) (g : IsRow .i64 w b n d ys) :
    m ≤ 9223372036854775807 ∧ n ≤ 9223372036854775807 ∧ (zs.take m).length = m ∧ (ys.take n).length = n ∧ (m + n ≤ 1048576 → Prof w w.heap.size a b (zs.take m) (ys.take n)) := by
  obtain ⟨h1, h2, h3, _⟩ := Ints.of_row h
  obtain ⟨g1, g2, g3, _⟩ := Ints.of_row g
  exact ⟨h1, g1, h2, g2, fun e => ⟨h3, g3, by omega, by omega⟩⟩
theorem szP_big {m n : Nat} (h : 1048576 < m + n) : szP m n = -1 := by unfold szP; rw [if_pos h]
theorem szP_fit {m n : Nat} (h : ¬ 1048576 < m + n) : 0 ≤ szP m n := by unfold szP; rw [if_neg h]; omega
theorem same_self (zs ys : List Int) : (sameB zs zs && sameB ys ys) = true := by rw [sameB_t rfl, sameB_t rfl]; rfl
end Go.Proofs.YtcaekheghjnipabDoor
