/- The model's draws of arguments of functions of directions, out of a code. -/
import Derived.Test.YtcaekheghjnipaaDDir
import Derived.Test.YtcaekheghjnipaaDKd
namespace Go.Proofs.Ytcaekheghjnipaa
open Go.ChangeShapes Go.WideShapes Go.ChangeAt Go.RowKit Go.Shelf Num
set_option linter.unusedVariables false
def MkDrawn (w : World) (e : Ending) (w' : World) : Prop := ∃ (x n : Int) (b : Bool), e = .returned (.tuple #[.int .i64 x, .int .i64 n, .bool b]) ∧ (-5 ≤ x ∧ x ≤ 100) ∧ Below w.heap.size w w'
def D1Drawn (w : World) (e : Ending) (w' : World) : Prop := ∃ x y z : Int, e = .returned (.agg #[.int .i64 x, .int .i64 y, .int .i64 z]) ∧ Below w.heap.size w w'
def D2Drawn (w : World) (e : Ending) (w' : World) : Prop := ∃ x y z u v t : Int, e = .returned (.tuple #[.agg #[.int .i64 x, .int .i64 y, .int .i64 z], .agg #[.int .i64 u, .int .i64 v, .int .i64 t]]) ∧ Below w.heap.size w w'

set_option maxRecDepth 100000 in
set_option maxHeartbeats 2000000 in
theorem dmk_any (w : World) (a : Option Addr) (cap : Nat) (cs : List Int) (h : Code8 w w.heap.size a cs) :
    Calls Try.prog 43 #[.slice a cs.length cap] w (MkDrawn w) := by
  have HC := Lib.hid h
  clear h
  go_enter Try.func43, Try.ntmps43
  go_wp2_with fail
  refine (from_any _ _ _ cs HC.out).mono ?_
  rintro e w1 ⟨s, rfl, hs, hsrc, hb⟩
  have HB := Lib.hid hb
  have HS := Lib.hid hsrc
  clear hsrc hb
  go_wp2_with fail
  refine (nxt_any _ _ _ HS.out).mono ?_
  rintro e w2 ⟨q, rfl, hq0, hq1, hq2, hs2, hg⟩
  have hq := hq1 (by omega)
  replace HB := Lib.hid (HB.out.trans (below_of_grown hg (by omega) (by have := HB.out.size; omega)))
  replace HS := Lib.hid hs2
  have hls := HS.out.lt
  clear hg hs2
  go_wp2_with fail
  refine (nxt_any _ _ _ HS.out).mono ?_
  rintro e w3 ⟨m, rfl, hm0, hm1, hm2, hs2, hg⟩
  have hm := hm1 (by omega)
  replace HB := Lib.hid (HB.out.trans (below_of_grown hg (by omega) (by have := HB.out.size; omega)))
  replace HS := Lib.hid hs2
  have hls := HS.out.lt
  clear hg hs2
  go_wp2_with fail
  refine (nxt_any _ _ _ HS.out).mono ?_
  rintro e w4 ⟨t, rfl, ht0, ht1, ht2, hs2, hg⟩
  have ht := ht1 (by omega)
  replace HB := Lib.hid (HB.out.trans (below_of_grown hg (by omega) (by have := HB.out.size; omega)))
  replace HS := Lib.hid hs2
  have hls := HS.out.lt
  clear hg hs2
  go_wp2_with fail
  refine (nxt_any _ _ _ HS.out).mono ?_
  rintro e w5 ⟨v, rfl, hv0, hv1, hv2, hs2, hg⟩
  clear hq1 hq2 hm1 hm2 ht1 ht2 hv1 hv2
  replace HB := Lib.hid (HB.out.trans (below_of_grown hg (by omega) (by have := HB.out.size; omega)))
  replace HS := Lib.hid hs2
  have hls := HS.out.lt
  clear hg hs2
  go_wp2
  go_ret3
  exact ⟨_, _, _, rfl, ⟨by omega, by omega⟩, HB.out⟩

set_option maxRecDepth 100000 in
set_option maxHeartbeats 2000000 in
theorem dmd_any (w : World) (a : Option Addr) (cap : Nat) (cs : List Int) (h : Code8 w w.heap.size a cs) :
    Calls Try.prog 44 #[.slice a cs.length cap] w (D1Drawn w) := by
  have HC := Lib.hid h
  clear h
  go_enter Try.func44, Try.ntmps44
  go_wp2_with fail
  generalize hW : World.alloc _ _ = W
  have bR0 : Bk W (w.heap.size) #[.int .i64 0, .int .i64 0, .int .i64 0] 25 := by rw [← hW]; exact (Bk.new' (by simp))
  have hb0 : Below w.heap.size w W := by rw [← hW]; exact (by repeat (first | exact Below.refl _ _ | (refine Below.alloc ?_ (by simp <;> omega) _) | (refine Below.setCell ?_ (by simp <;> omega) _) | (refine Below.drew ?_) | (refine bel_drewN ?_ _)))
  have hlR0 := bR0.lt
  clear hW
  refine (from_any _ _ _ cs ((HC.out.below hb0 (Nat.le_refl _)).more hb0.size)).mono ?_
  rintro e w1 ⟨s, rfl, hs, hsrc, hb⟩
  replace bR0 := bR0.on hb
  have HB := Lib.hid (bel_end hb0 hb)
  have HS := Lib.hid hsrc
  clear hsrc hb hb0
  go_wp2_with fail
  refine (ddi_any _ _ HS.out).mono ?_
  rintro e w2 ⟨x, y, z, rfl, hs2, hg⟩
  replace bR0 := bR0.kept hg (by simp; omega)
  replace HB := Lib.hid (HB.out.trans (below_of_grown hg (by omega) (by have := HB.out.size; omega)))
  replace HS := Lib.hid hs2
  have hls := HS.out.lt
  clear hg hs2
  have r0 := bR0.cell 0 rfl
  have r1 := bR0.cell 1 rfl
  have r2 := bR0.cell 2 rfl
  have f0 := bR0.frozen 0
  have f1 := bR0.frozen 1
  have f2 := bR0.frozen 2
  have rl := bR0.lt
  go_wp2
  exact bodyPost_ret (v := .agg #[.int .i64 x, .int .i64 y, .int .i64 z]) (by simp [results, Try.results44, go_sem, r0, r1, r2]) rfl ⟨_, _, _, rfl, ((HB.out.setCell (by simp) _).setCell (by simp) _).setCell (by simp) _⟩

set_option maxRecDepth 100000 in
set_option maxHeartbeats 2000000 in
theorem dcd_any (w : World) (a : Option Addr) (cap : Nat) (cs : List Int) (h : Code8 w w.heap.size a cs) :
    Calls Try.prog 45 #[.slice a cs.length cap] w (D2Drawn w) := by
  have HC := Lib.hid h
  clear h
  go_enter Try.func45, Try.ntmps45
  go_wp2_with fail
  generalize hW : World.alloc _ _ = W
  have bR0 : Bk W (w.heap.size) #[.int .i64 0, .int .i64 0, .int .i64 0] 25 := by rw [← hW]; exact ((Bk.new' (by simp)).alloc _)
  have bR1 : Bk W (w.heap.size + 1) #[.int .i64 0, .int .i64 0, .int .i64 0] 25 := by rw [← hW]; exact (Bk.new' (by simp))
  have hb0 : Below w.heap.size w W := by rw [← hW]; exact (by repeat (first | exact Below.refl _ _ | (refine Below.alloc ?_ (by simp <;> omega) _) | (refine Below.setCell ?_ (by simp <;> omega) _) | (refine Below.drew ?_) | (refine bel_drewN ?_ _)))
  have hlR0 := bR0.lt
  have hlR1 := bR1.lt
  clear hW
  refine (from_any _ _ _ cs ((HC.out.below hb0 (Nat.le_refl _)).more hb0.size)).mono ?_
  rintro e w1 ⟨s, rfl, hs, hsrc, hb⟩
  replace bR0 := bR0.on hb
  replace bR1 := bR1.on hb
  have HB := Lib.hid (bel_end hb0 hb)
  have HS := Lib.hid hsrc
  clear hsrc hb hb0
  go_wp2_with fail
  refine (ddi_any _ _ HS.out).mono ?_
  rintro e w2 ⟨x, y, z, rfl, hs2, hg⟩
  replace bR0 := bR0.kept hg (by simp; omega)
  replace bR1 := bR1.kept hg (by simp; omega)
  replace HB := Lib.hid (HB.out.trans (below_of_grown hg (by omega) (by have := HB.out.size; omega)))
  replace HS := Lib.hid hs2
  have hls := HS.out.lt
  clear hg hs2
  have hl1 := bR1.lt
  go_wp2_with fail
  generalize hW : World.alloc _ _ = W3
  have hb : Below w2.heap.size w2 W3 := by rw [← hW]; exact (by repeat (first | exact Below.refl _ _ | (refine Below.alloc ?_ (by simp <;> omega) _) | (refine Below.setCell ?_ (by simp <;> omega) _) | (refine Below.drew ?_) | (refine bel_drewN ?_ _)))
  have bD : Bk W3 w2.heap.size #[.int .i64 x, .int .i64 y, .int .i64 z] 25 := by rw [← hW]; exact Bk.new' rfl
  replace bR0 := bR0.on hb
  replace bR1 := bR1.on hb
  replace HB := Lib.hid (bel_end HB.out hb)
  replace HS := Lib.hid (HS.out.bel hb)
  clear hW hb
  refine (nxt_any _ _ _ HS.out).mono ?_
  rintro e w4 ⟨q, rfl, hq0, hq1, hq2, hs2, hg⟩
  clear hq1 hq2
  replace bR0 := bR0.kept hg (by simp; omega)
  replace bR1 := bR1.kept hg (by simp; omega)
  replace bD := bD.kept hg (by simp; omega)
  replace HB := Lib.hid (HB.out.trans (below_of_grown hg (by omega) (by have := HB.out.size; omega)))
  replace HS := Lib.hid hs2
  have hls := HS.out.lt
  clear hg hs2
  have r0 := bR0.cell 0 rfl
  have rf0 := bR0.frozen 0
  have r1 := bR0.cell 1 rfl
  have rf1 := bR0.frozen 1
  have r2 := bR0.cell 2 rfl
  have rf2 := bR0.frozen 2
  have p0 := bR1.cell 0 rfl
  have pf0 := bR1.frozen 0
  have p1 := bR1.cell 1 rfl
  have pf1 := bR1.frozen 1
  have p2 := bR1.cell 2 rfl
  have pf2 := bR1.frozen 2
  have d0 := bD.cell 0 rfl
  have d1 := bD.cell 1 rfl
  have d2 := bD.cell 2 rfl
  have rl := bR0.lt
  have pl := bR1.lt
  have dl := bD.lt
  have n1 : ¬ w.heap.size = w2.heap.size := by omega
  have n2 : ¬ w2.heap.size = w.heap.size := by omega
  have n3 : ¬ w.heap.size + 1 = w2.heap.size := by omega
  have n4 : ¬ w2.heap.size = w.heap.size + 1 := by omega
  by_cases q0 : q = 0
  · subst q0
    go_wp2_with fail
    go_region
    all_goals
      go_wp2
      exact bodyPost_ret (v := .tuple #[.agg #[.int .i64 x, .int .i64 y, .int .i64 z], .agg #[.int .i64 x, .int .i64 (wrap64 (-y)), .int .i64 z]]) (by simp [results, Try.results45, go_sem, *]) rfl ⟨_, _, _, _, _, _, rfl, by (repeat (first | (with_reducible exact HB.out) | (refine Below.setCell ?_ (by first | (simp; done) | (simp; omega)) _) | (refine Below.drew ?_)))⟩
  · have b0 : (q == 0) = false := by simpa using q0
    go_wp2_with fail
    have dw : ∀ {B o : Nat} {v : Value} {V : World}, V.cell? ⟨B, o, none⟩ = some v → V.drew.cell? ⟨B, o, none⟩ = some v := fun h => h
    go_region_with (go_at_call 76; refine (ddi_any _ _ HS.out.drew).mono ?_; rintro e w5 ⟨u, v, t, rfl, hs2, hg⟩; have bR2 := (bkD bR0).kept hg (by simp; omega); have bR3 := (bkD bR1).kept hg (by simp; omega); have bD2 := (bkD bD).kept hg (by simp; omega); have r0 := bR2.cell 0 rfl; have r1 := bR2.cell 1 rfl; have r2 := bR2.cell 2 rfl; have rf0 := bR2.frozen 0; have rf1 := bR2.frozen 1; have rf2 := bR2.frozen 2; have p0 := bR3.cell 0 rfl; have p1 := bR3.cell 1 rfl; have p2 := bR3.cell 2 rfl; have pf0 := bR3.frozen 0; have pf1 := bR3.frozen 1; have pf2 := bR3.frozen 2; have d0 := bD2.cell 0 rfl; have d1 := bD2.cell 1 rfl; have d2 := bD2.cell 2 rfl)
    all_goals
      have HB2 := Lib.hid ((bel_end HB.out (Below.refl _ _).drew).trans (below_of_grown hg (by omega) (by have := HB.out.size; simp; omega)))
      go_wp2
      exact bodyPost_ret (v := .tuple #[.agg #[.int .i64 x, .int .i64 y, .int .i64 z], .agg #[.int .i64 u, .int .i64 v, .int .i64 t]]) (by simp [results, Try.results45, go_sem, r0, r1, r2, p0, p1, p2]) rfl ⟨_, _, _, _, _, _, rfl, by (repeat (first | (with_reducible exact HB2.out) | (refine Below.setCell ?_ (by first | (simp; done) | (simp; omega)) _) | (refine Below.drew ?_)))⟩
end Go.Proofs.Ytcaekheghjnipaa
