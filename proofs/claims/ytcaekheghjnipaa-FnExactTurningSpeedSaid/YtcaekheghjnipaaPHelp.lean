/- Contracts of the laws' own helpers on profiles: their size, their copy in new memory, their comparison. -/
import Derived.Test.YtcaekheghjnipaaKnots
import Derived.Test.YtcaekheghjnipaaCopy
namespace Go.Proofs.Ytcaekheghjnipaa
open Go.ChangeShapes Go.WideShapes Go.ChangeAt Go.RowKit Go.Shelf Num
set_option linter.unusedVariables false
theorem Prof.drew {w : World} {B : Nat} {a b : Option Addr} {zs ys : List Int} (h : Prof w B a b zs ys) : Prof w.drew B a b zs ys := ⟨h.dz, h.sy, h.lz, h.ly⟩

theorem szi_any (w : World) (a : Option Addr) (c n : Nat) (x : Int) (hx : -1 ≤ x) (hx2 : x ≤ 1048576) (hn : n ≤ 9223372036854775807) :
    Calls Try.prog 62 #[.slice a n c, .int .i64 x] w fun e w' => e = .returned (.int .i64 (if x - (n : Int) < 0 then -1 else x - (n : Int))) ∧ w = w' := by
  have hw : IntKind.wrap .i64 (x - (n : Int)) = x - (n : Int) := IntWalk.i64_in _ (by omega)
  by_cases h : x - (n : Int) < 0
  · go_enter Try.func62, Try.ntmps62
    go_wp2
    go_ret
    exact ⟨ret_int (by first | rfl | rw [if_pos h]), rfl⟩
  · go_enter Try.func62, Try.ntmps62
    go_wp2
    go_ret
    exact ⟨ret_int (by first | rfl | rw [if_neg h]), rfl⟩
/-- what is left of the size -/
def szP (m n : Nat) : Int := if 1048576 < m + n then -1 else 1048576 - (m : Int) - (n : Int)
theorem szp_any (w : World) (a b : Option Addr) (c d m n : Nat) (hm : m ≤ 9223372036854775807) (hn : n ≤ 9223372036854775807) :
    Calls Try.prog 25 #[.agg #[.slice a m c, .slice b n d], .int .i64 1048576] w fun e w' => e = .returned (.int .i64 (szP m n)) ∧ Below w.heap.size w w' := by
  by_cases h1 : (1048576 : Int) - (m : Int) < 0
  · have e1 : (if (1048576 : Int) - (m : Int) < 0 then (-1 : Int) else 1048576 - (m : Int)) = -1 := if_pos h1
    have H : Hid (szP m n = -1) := Lib.hid (by unfold szP; rw [if_pos (by omega)])
    have E := Lib.hid e1
    clear h1 e1
    go_enter Try.func25, Try.ntmps25
    go_wp2_with fail
    refine (szi_any _ _ _ _ _ (by omega) (by omega) hm).mono ?_
    rw [E.out]
    rintro e w1 ⟨rfl, rfl⟩
    go_wp2
    go_ret
    exact ⟨ret_int H.out.symm, (by repeat (first | exact Below.refl _ _ | (refine Below.alloc ?_ (by simp <;> omega) _) | (refine Below.setCell ?_ (by simp <;> omega) _) | (refine Below.drew ?_) | (refine bel_drewN ?_ _)))⟩
  · have e1 : (if (1048576 : Int) - (m : Int) < 0 then (-1 : Int) else 1048576 - (m : Int)) = 1048576 - (m : Int) := if_neg h1
    have E1 := Lib.hid e1
    clear e1
    by_cases h2 : (1048576 : Int) - (m : Int) - (n : Int) < 0
    · have e2 : (if (1048576 : Int) - (m : Int) - (n : Int) < 0 then (-1 : Int) else 1048576 - (m : Int) - (n : Int)) = -1 := if_pos h2
      have H : Hid (szP m n = -1) := Lib.hid (by unfold szP; rw [if_pos (by omega)])
      have E2 := Lib.hid e2
      clear e2 h2
      go_enter Try.func25, Try.ntmps25
      go_wp2_with fail
      refine (szi_any _ _ _ _ _ (by omega) (by omega) hm).mono ?_
      rw [E1.out]
      rintro e w1 ⟨rfl, rfl⟩
      go_wp2_with fail
      refine (szi_any _ _ _ _ _ (by omega) (by omega) hn).mono ?_
      rw [E2.out]
      rintro e w1 ⟨rfl, rfl⟩
      go_wp2
      go_ret
      exact ⟨ret_int H.out.symm, (by repeat (first | exact Below.refl _ _ | (refine Below.alloc ?_ (by simp <;> omega) _) | (refine Below.setCell ?_ (by simp <;> omega) _) | (refine Below.drew ?_) | (refine bel_drewN ?_ _)))⟩
    · have e2 : (if (1048576 : Int) - (m : Int) - (n : Int) < 0 then (-1 : Int) else 1048576 - (m : Int) - (n : Int)) = 1048576 - (m : Int) - (n : Int) := if_neg h2
      have H : Hid (szP m n = 1048576 - (m : Int) - (n : Int)) := Lib.hid (by unfold szP; rw [if_neg (by omega)])
      have E2 := Lib.hid e2
      clear e2
      go_enter Try.func25, Try.ntmps25
      go_wp2_with fail
      refine (szi_any _ _ _ _ _ (by omega) (by omega) hm).mono ?_
      rw [E1.out]
      rintro e w1 ⟨rfl, rfl⟩
      go_wp2_with fail
      refine (szi_any _ _ _ _ _ (by omega) (by omega) hn).mono ?_
      rw [E2.out]
      rintro e w1 ⟨rfl, rfl⟩
      go_wp2
      go_ret
      exact ⟨ret_int H.out.symm, (by repeat (first | exact Below.refl _ _ | (refine Below.alloc ?_ (by simp <;> omega) _) | (refine Below.setCell ?_ (by simp <;> omega) _) | (refine Below.drew ?_) | (refine bel_drewN ?_ _)))⟩

/-- a profile in new memory of its own -/
def NewProf (w : World) (zs ys : List Int) (e : Ending) (w' : World) : Prop :=
  ∃ g h, e = .returned (.agg #[.slice (some ⟨g, 0, none⟩) zs.length zs.length, .slice (some ⟨h, 0, none⟩) ys.length ys.length]) ∧ w.heap.size ≤ g ∧ g < h ∧ w'.rowIs g 2 zs.length (cellsOf zs) ∧ w'.rowIs h 2 ys.length (cellsOf ys) ∧ Below w.heap.size w w'
theorem Prof.of_rows {w : World} {g h : Nat} {t : TypeId} {zs ys : List Int} (h1 : w.rowIs g t zs.length (cellsOf zs)) (h2 : w.rowIs h t ys.length (cellsOf ys)) (lz : zs.length ≤ 1048576) (ly : ys.length ≤ 1048576) : Prof w w.heap.size (some ⟨g, 0, none⟩) (some ⟨h, 0, none⟩) zs ys :=
  ⟨Ints.of_rowIs h1, Ints.of_rowIs h2, lz, ly⟩
theorem rowIs_on {w w' : World} {g : Nat} {t : TypeId} {n : Nat} {f : Nat → Value} (h : w.rowIs g t n f) (hb : Below w.heap.size w w') : w'.rowIs g t n f := h.of_block (hb.block g h.lt)

set_option maxRecDepth 100000 in
theorem top_any (w : World) (a b : Option Addr) (c d : Nat) (zs ys : List Int) (hp : Prof w w.heap.size a b zs ys) :
    Calls Try.prog 27 #[.agg #[.slice a zs.length c, .slice b ys.length d]] w (NewProf w zs ys) := by
  have HP := Lib.hid hp
  clear hp
  go_enter Try.func27, Try.ntmps27
  go_wp2_with fail
  obtain ⟨W, hW⟩ : ∃ W, W = ((w.alloc (.cells #[.slice a zs.length c, .slice b ys.length d] 38)).alloc (.cells #[.slice none 0 0, .slice none 0 0] 42)).alloc (.cells #[.slice none 0 0, .slice none 0 0] 42) := ⟨_, rfl⟩
  have bA : Bk W w.heap.size #[.slice a zs.length c, .slice b ys.length d] 38 := by rw [hW]; exact ((Bk.new' rfl).alloc _).alloc _
  have bR : Bk W (w.heap.size + 1) #[.slice none 0 0, .slice none 0 0] 42 := by rw [hW]; exact (Bk.new' (by simp)).alloc _
  have bO : Bk W (w.heap.size + 1 + 1) #[.slice none 0 0, .slice none 0 0] 42 := by rw [hW]; exact Bk.new' (by simp)
  have HB : Hid (Below w.heap.size w W) := Lib.hid (by rw [hW]; exact (by repeat (first | exact Below.refl _ _ | (refine Below.alloc ?_ (by simp <;> omega) _) | (refine Below.setCell ?_ (by simp <;> omega) _) | (refine Below.drew ?_) | (refine bel_drewN ?_ _))))
  rw [← hW]
  clear hW
  refine (to_any _ _ _ zs HP.out.lz (HP.out.on HB.out).dz).mono ?_
  rintro e w1 ⟨g, rfl, hg, hr, hb⟩
  have hgO : w.heap.size + 1 + 1 < g := Nat.lt_of_lt_of_le bO.lt hg
  replace bA := bA.on hb
  replace bR := bR.on hb
  replace bO := bO.on hb
  have HB1 := Lib.hid (bel_end HB.out hb)
  have HR := Lib.hid hr
  clear hb hr hg
  have fO := bO.frozen 0
  have cO := bO.cell 0 rfl
  have cA := bA.cell 1 rfl
  go_wp2_with fail
  clear fO cO cA
  obtain ⟨W1, hW⟩ : ∃ W, W = w1.setCell ⟨w.heap.size + 1 + 1, 0, none⟩ (.slice (some ⟨g, 0, none⟩) zs.length zs.length) := ⟨_, rfl⟩
  replace bR : Bk W1 (w.heap.size + 1) #[.slice none 0 0, .slice none 0 0] 42 := by rw [hW]; exact bR.other (by omega) _ _
  replace bO : Bk W1 (w.heap.size + 1 + 1) #[.slice (some ⟨g, 0, none⟩) zs.length zs.length, .slice none 0 0] 42 := by rw [hW]; exact bO.set 0 _ rfl
  replace HR : Hid (W1.rowIs g 2 zs.length (cellsOf zs)) := Lib.hid (by rw [hW]; exact HR.out.setOther (by simp; omega) _)
  replace HB1 : Hid (Below w.heap.size w W1) := Lib.hid (by rw [hW]; exact HB1.out.setCell (by simp; omega) _)
  rw [← hW]
  clear hW bA HB
  refine (to_any _ _ _ ys HP.out.ly (HP.out.on HB1.out).sy).mono ?_
  rintro e w2 ⟨h, rfl, hh, hr, hb⟩
  have hgh : g < h := Nat.lt_of_lt_of_le HR.out.lt hh
  have hhO : w.heap.size + 1 + 1 < h := by omega
  replace bR := bR.on hb
  replace bO := bO.on hb
  replace HR := Lib.hid (rowIs_on HR.out hb)
  replace HB1 := Lib.hid (bel_end HB1.out hb)
  have HR2 := Lib.hid hr
  clear hb hr hh
  have fO := bO.frozen 1
  have cO := bO.cell 1 rfl
  have cO0 := bO.cell 0 rfl
  have fR0 := bR.frozen 0
  have fR1 := bR.frozen 1
  have cR0 := bR.cell 0 rfl
  have cR1 := bR.cell 1 rfl
  go_wp2
  exact bodyPost_ret (v := .agg #[.slice (some ⟨g, 0, none⟩) zs.length zs.length, .slice (some ⟨h, 0, none⟩) ys.length ys.length]) (by simp [results, Try.results27, go_sem, cR0, cR1]) rfl
    ⟨g, h, rfl, by omega, hgh, ((HR.out.setOther (by simp; omega) _).setOther (by simp; omega) _).setOther (by simp; omega) _, ((HR2.out.setOther (by simp; omega) _).setOther (by simp; omega) _).setOther (by simp; omega) _, ((HB1.out.setCell (by simp; omega) _).setCell (by simp) _).setCell (by simp) _⟩

theorem eqp_any (w : World) (a b a' b' : Option Addr) (c d c' d' : Nat) (zs ys zs' ys' : List Int) (hp : Prof w w.heap.size a b zs ys) (hq : Prof w w.heap.size a' b' zs' ys') :
    Calls Try.prog 29 #[.agg #[.slice a zs.length c, .slice b ys.length d], .agg #[.slice a' zs'.length c', .slice b' ys'.length d']] w fun e w' => e = .returned (.bool (sameB zs zs' && sameB ys ys')) ∧ Below w.heap.size w w' := by
  have HP := Lib.hid hp
  have HQ := Lib.hid hq
  clear hp hq
  go_enter Try.func29, Try.ntmps29
  go_wp2_with fail
  obtain ⟨W, hW⟩ : ∃ W, W = (w.alloc (.cells #[.slice a zs.length c, .slice b ys.length d] 42)).alloc (.cells #[.slice a' zs'.length c', .slice b' ys'.length d'] 42) := ⟨_, rfl⟩
  have bX : Bk W w.heap.size #[.slice a zs.length c, .slice b ys.length d] 42 := by rw [hW]; exact (Bk.new' rfl).alloc _
  have bY : Bk W (w.heap.size + 1) #[.slice a' zs'.length c', .slice b' ys'.length d'] 42 := by rw [hW]; exact Bk.new' (by simp)
  have HB : Hid (Below w.heap.size w W) := Lib.hid (by rw [hW]; exact (by repeat (first | exact Below.refl _ _ | (refine Below.alloc ?_ (by simp <;> omega) _) | (refine Below.setCell ?_ (by simp <;> omega) _) | (refine Below.drew ?_) | (refine bel_drewN ?_ _))))
  have HP1 := Lib.hid (HP.out.on HB.out)
  have HQ1 := Lib.hid (HQ.out.on HB.out)
  have cX := bX.cell 1 rfl
  have cY := bY.cell 1 rfl
  rw [← hW]
  clear hW bX bY
  have l1 := HP.out.lz
  have l2 := HQ.out.lz
  have l3 := HP.out.ly
  have l4 := HQ.out.ly
  cases h1 : sameB zs zs'
  · have H1 := Lib.hid h1
    clear h1
    refine (eqi_any _ _ _ _ _ _ zs zs' (by omega) (by omega) HP1.out.dz HQ1.out.dz).mono ?_
    rw [H1.out]
    rintro e w1 ⟨rfl, n, rfl⟩
    go_wp2
    go_ret
    exact ⟨ret_bool (by rw [H1.out]; rfl), bel_drewN HB.out _⟩
  · have H1 := Lib.hid h1
    clear h1
    refine (eqi_any _ _ _ _ _ _ zs zs' (by omega) (by omega) HP1.out.dz HQ1.out.dz).mono ?_
    rw [H1.out]
    rintro e w1 ⟨rfl, n, rfl⟩
    go_wp2_with fail
    cases h2 : sameB ys ys'
    all_goals
      have H2 := Lib.hid h2
      clear h2
      refine (eqi_any _ _ _ _ _ _ ys ys' (by omega) (by omega) (HP1.out.sy.drewN n) (HQ1.out.sy.drewN n)).mono ?_
      rw [H2.out]
      rintro e w1 ⟨rfl, n2, rfl⟩
      go_wp2
      go_ret
      exact ⟨ret_bool (by rw [H1.out, H2.out]; rfl), bel_drewN HB.out _⟩
/-- a profile that came in -/
theorem Prof.of_in {w : World} {a b : Option Addr} {m n c d : Nat} {zs ys : List Int} (h : IsRow .i64 w a m c zs) (g : IsRow .i64 w b n d ys) :
    m ≤ 9223372036854775807 ∧ n ≤ 9223372036854775807 ∧ (zs.take m).length = m ∧ (ys.take n).length = n ∧ (m + n ≤ 1048576 → Prof w w.heap.size a b (zs.take m) (ys.take n)) := by
  obtain ⟨h1, h2, h3, _⟩ := Ints.of_row h
  obtain ⟨g1, g2, g3, _⟩ := Ints.of_row g
  exact ⟨h1, g1, h2, g2, fun e => ⟨h3, g3, by omega, by omega⟩⟩
theorem szP_big {m n : Nat} (h : 1048576 < m + n) : szP m n = -1 := by unfold szP; rw [if_pos h]
theorem szP_fit {m n : Nat} (h : ¬ 1048576 < m + n) : 0 ≤ szP m n := by unfold szP; rw [if_neg h]; omega
theorem same_self (zs ys : List Int) : (sameB zs zs && sameB ys ys) = true := by rw [sameB_t rfl, sameB_t rfl]; rfl
end Go.Proofs.Ytcaekheghjnipaa
