/- The laws' draws of a profile and a knot or layer out of a code: contracts. -/
import Derived.Test.YtkiadgmolkpgfaaDKn
namespace Go.Proofs.Ytkiadgmolkpgfaa
open Go.ChangeShapes Go.WideShapes Go.ChangeAt Go.RowKit Go.Shelf
set_option linter.unusedVariables false
attribute [local go_sem ↓] Go.wp_at_zero Go.wp_at_succ
/-- a profile drawn -/
structure PrN (w : World) (a b : Option Addr) (zs ys : List Int) : Prop where
  at_ : Prof w w.heap.size a b zs ys
  n1 : zs.length ≤ 20
  n2 : ys.length ≤ 20
theorem PrN.on {w w' : World} {a b : Option Addr} {zs ys : List Int} (h : PrN w a b zs ys) (hb : Below w.heap.size w w') : PrN w' a b zs ys := ⟨h.at_.on hb, h.n1, h.n2⟩
def PrK1 (w : World) (e : Ending) (w' : World) : Prop := ∃ (a b : Option Addr) (c d : Nat) (zs ys : List Int) (x : Int), e = .returned (.tuple #[.agg #[.slice a zs.length c, .slice b ys.length d], .int .i64 x]) ∧ PrN w' a b zs ys ∧ Below w.heap.size w w'
def Pr1 (w : World) (e : Ending) (w' : World) : Prop := ∃ (a b : Option Addr) (c d : Nat) (zs ys : List Int), e = .returned (.agg #[.slice a zs.length c, .slice b ys.length d]) ∧ PrN w' a b zs ys ∧ Below w.heap.size w w'

set_option maxRecDepth 100000 in
set_option maxHeartbeats 2000000 in
theorem dgr_any (w : World) (a : Option Addr) (cap : Nat) (cs : List Int) (h : Code8 w w.heap.size a cs) :
    Calls Try.prog 21 #[.slice a cs.length cap] w (PrK1 w) := by
  have HC := Lib.hid h
  clear h
  go_enter Try.func21, Try.ntmps21
  go_wp2_with fail
  obtain ⟨W, hW⟩ : ∃ W, W = w.alloc (.cells #[.slice none 0 0, .slice none 0 0] 26) := ⟨_, rfl⟩
  have bR : Bk W w.heap.size #[.slice none 0 0, .slice none 0 0] 26 := by rw [hW]; exact Bk.new' rfl
  have hb0 : Below w.heap.size w W := by rw [hW]; exact (by repeat (first | exact Below.refl _ _ | (refine Below.alloc ?_ (by simp <;> omega) _) | (refine Below.setCell ?_ (by simp <;> omega) _) | (refine Below.drew ?_) | (refine bel_drewN ?_ _)))
  have hlW := bR.lt
  rw [← hW]
  clear hW
  refine (from_any _ _ _ cs ((HC.out.below hb0 (Nat.le_refl _)).more hb0.size)).mono ?_
  rintro e w1 ⟨s, rfl, hs, hsrc, hb⟩
  replace bR := bR.on hb
  have HB := Lib.hid (bel_end hb0 hb)
  have HS := Lib.hid hsrc
  have hl1 := bR.lt
  clear hsrc hb hb0
  go_wp2_with fail
  refine (dkn_any _ _ HS.out).mono ?_
  rintro e w2 ⟨a1, b1, c1, d1, zs, ys, x, rfl, hp, hg⟩
  replace bR := bR.kept hg (by simp; omega)
  have HB2 := Lib.hid (HB.out.trans (below_of_grown hg (by omega) (by omega)))
  have HPA := Lib.hid hp
  clear hg hp
  have r0 := bR.cell 0 rfl
  have r1 := bR.cell 1 rfl
  have f0 := bR.frozen 0
  have f1 := bR.frozen 1
  go_wp2_with fail
  exact bodyPost_ret (v := .tuple #[.agg #[.slice a1 zs.length c1, .slice b1 ys.length d1], .int .i64 x]) (by simp [results, Try.results21, go_sem, r0, r1]) rfl
    ⟨a1, b1, c1, d1, zs, ys, x, rfl, ⟨((HPA.out.set ⟨w.heap.size, 0, none⟩ (by simp; omega) _).set ⟨w.heap.size, 1, none⟩ (by simp; omega) _).at_, HPA.out.n1, HPA.out.n2⟩, (HB2.out.setCell (p := ⟨w.heap.size, 0, none⟩) (Nat.le_refl _) _).setCell (p := ⟨w.heap.size, 1, none⟩) (Nat.le_refl _) _⟩

set_option maxRecDepth 100000 in
set_option maxHeartbeats 2000000 in
theorem dfs_any (w : World) (a : Option Addr) (cap : Nat) (cs : List Int) (h : Code8 w w.heap.size a cs) :
    Calls Try.prog 24 #[.slice a cs.length cap] w (PrK1 w) := by
  have HC := Lib.hid h
  clear h
  go_enter Try.func24, Try.ntmps24
  go_wp2_with fail
  obtain ⟨W, hW⟩ : ∃ W, W = w.alloc (.cells #[.slice none 0 0, .slice none 0 0] 26) := ⟨_, rfl⟩
  have bR : Bk W w.heap.size #[.slice none 0 0, .slice none 0 0] 26 := by rw [hW]; exact Bk.new' rfl
  have hb0 : Below w.heap.size w W := by rw [hW]; exact (by repeat (first | exact Below.refl _ _ | (refine Below.alloc ?_ (by simp <;> omega) _) | (refine Below.setCell ?_ (by simp <;> omega) _) | (refine Below.drew ?_) | (refine bel_drewN ?_ _)))
  have hlW := bR.lt
  rw [← hW]
  clear hW
  refine (from_any _ _ _ cs ((HC.out.below hb0 (Nat.le_refl _)).more hb0.size)).mono ?_
  rintro e w1 ⟨s, rfl, hs, hsrc, hb⟩
  replace bR := bR.on hb
  have HB := Lib.hid (bel_end hb0 hb)
  have HS := Lib.hid hsrc
  have hl1 := bR.lt
  clear hsrc hb hb0
  go_wp2_with fail
  refine (dkn_any _ _ HS.out).mono ?_
  rintro e w2 ⟨a1, b1, c1, d1, zs, ys, x, rfl, hp, hg⟩
  replace bR := bR.kept hg (by simp; omega)
  have HB2 := Lib.hid (HB.out.trans (below_of_grown hg (by omega) (by omega)))
  have HPA := Lib.hid hp
  clear hg hp
  have r0 := bR.cell 0 rfl
  have r1 := bR.cell 1 rfl
  have f0 := bR.frozen 0
  have f1 := bR.frozen 1
  go_wp2_with fail
  exact bodyPost_ret (v := .tuple #[.agg #[.slice a1 zs.length c1, .slice b1 ys.length d1], .int .i64 x]) (by simp [results, Try.results24, go_sem, r0, r1]) rfl
    ⟨a1, b1, c1, d1, zs, ys, x, rfl, ⟨((HPA.out.set ⟨w.heap.size, 0, none⟩ (by simp; omega) _).set ⟨w.heap.size, 1, none⟩ (by simp; omega) _).at_, HPA.out.n1, HPA.out.n2⟩, (HB2.out.setCell (p := ⟨w.heap.size, 0, none⟩) (Nat.le_refl _) _).setCell (p := ⟨w.heap.size, 1, none⟩) (Nat.le_refl _) _⟩

set_option maxRecDepth 100000 in
set_option maxHeartbeats 2000000 in
theorem dax_any (w : World) (a : Option Addr) (cap : Nat) (cs : List Int) (h : Code8 w w.heap.size a cs) :
    Calls Try.prog 18 #[.slice a cs.length cap] w (Pr1 w) := by
  have HC := Lib.hid h
  clear h
  go_enter Try.func18, Try.ntmps18
  go_wp2_with fail
  obtain ⟨W, hW⟩ : ∃ W, W = w.alloc (.cells #[.slice none 0 0, .slice none 0 0] 26) := ⟨_, rfl⟩
  have bR : Bk W w.heap.size #[.slice none 0 0, .slice none 0 0] 26 := by rw [hW]; exact Bk.new' rfl
  have hb0 : Below w.heap.size w W := by rw [hW]; exact (by repeat (first | exact Below.refl _ _ | (refine Below.alloc ?_ (by simp <;> omega) _) | (refine Below.setCell ?_ (by simp <;> omega) _) | (refine Below.drew ?_) | (refine bel_drewN ?_ _)))
  have hlW := bR.lt
  rw [← hW]
  clear hW
  refine (from_any _ _ _ cs ((HC.out.below hb0 (Nat.le_refl _)).more hb0.size)).mono ?_
  rintro e w1 ⟨s, rfl, hs, hsrc, hb⟩
  replace bR := bR.on hb
  have HB := Lib.hid (bel_end hb0 hb)
  have HS := Lib.hid hsrc
  have hl1 := bR.lt
  clear hsrc hb hb0
  go_wp2_with fail
  refine (ddr_any _ _ HS.out).mono ?_
  rintro e w2 ⟨a1, b1, c1, d1, zs, ys, rfl, hn1, hn2, hc1, hc2, hp, hlo1, hlo2, hs9, hg⟩
  replace bR := bR.kept hg (by simp; omega)
  have HB2 := Lib.hid (HB.out.trans (below_of_grown hg (by omega) (by omega)))
  have HPA : Hid (PrA w2 w1.heap.size a1 b1 c1 d1 zs ys) := Lib.hid ⟨hp, fun x e => by have := hlo1 x e; omega, fun x e => by have := hlo2 x e; omega, hn1, hn2, hc1, hc2⟩
  clear hg hp hs9 hlo1 hlo2
  have r0 := bR.cell 0 rfl
  have r1 := bR.cell 1 rfl
  have f0 := bR.frozen 0
  have f1 := bR.frozen 1
  go_wp2_with fail
  exact bodyPost_ret (v := .agg #[.slice a1 zs.length c1, .slice b1 ys.length d1]) (by simp [results, Try.results18, go_sem, r0, r1]) rfl
    ⟨a1, b1, c1, d1, zs, ys, rfl, ⟨((HPA.out.set ⟨w.heap.size, 0, none⟩ (by simp; omega) _).set ⟨w.heap.size, 1, none⟩ (by simp; omega) _).at_, HPA.out.n1, HPA.out.n2⟩, (HB2.out.setCell (p := ⟨w.heap.size, 0, none⟩) (Nat.le_refl _) _).setCell (p := ⟨w.heap.size, 1, none⟩) (Nat.le_refl _) _⟩
end Go.Proofs.Ytkiadgmolkpgfaa
