/- Contracts of MakeDirection and MirrorDirection, the program's and the model's. -/
import Derived.Test.YtcaekheghjnipaaDirI
import Derived.Test.YtcaekheghjnipaaDirS
import Derived.Test.YtcaekheghjnipaaDirR
namespace Go.Proofs.Ytcaekheghjnipaa
open Go.ChangeShapes Go.WideShapes Go.ChangeAt Go.RowKit Num
set_option linter.unusedVariables false

set_option maxRecDepth 100000 in
set_option maxHeartbeats 1000000 in
theorem imi_any (c s h : Int) (w : World) :
    Calls Try.prog 22 #[.agg #[.int .i64 (c), .int .i64 (s), .int .i64 (h)]] w fun e w' => e = .returned (.tuple #[.agg #[.int .i64 (miT c s h).1, .int .i64 (miT c s h).2.1, .int .i64 (miT c s h).2.2.1], .int .i64 (miT c s h).2.2.2]) ∧ Below w.heap.size w w' := by
  cases hd : dirB c s h
  · have HT : Hid (miT c s h = (0, 0, 0, 1)) := Lib.hid (by unfold miT; rw [hd]; rfl)
    have HD := Lib.hid hd
    clear hd
    go_enter Try.func22, Try.ntmps22
    go_wp2_with fail
    generalize hW : World.alloc _ _ = W
    have bR : Bk W (w.heap.size + 1) #[.int .i64 0, .int .i64 0, .int .i64 0] 25 := by rw [← hW]; repeat (first | exact Bk.new' (by simp) | refine Bk.alloc ?_ _)
    have HB : Hid (Below w.heap.size w W) := Lib.hid (by rw [← hW]; exact (by repeat (first | exact Below.refl _ _ | (refine Below.alloc ?_ (by simp <;> omega) _) | (refine Below.setCell ?_ (by simp <;> omega) _) | (refine Below.drew ?_) | (refine bel_drewN ?_ _))))
    clear hW
    refine (idr_any _ _ _ _).mono ?_
    rw [HD.out]
    rintro e w1 ⟨rfl, hb⟩
    replace bR := bR.on hb
    replace HB := Lib.hid (bel_end HB.out hb)
    clear hb
    have r0 := bR.cell 0 rfl
    have r1 := bR.cell 1 rfl
    have r2 := bR.cell 2 rfl
    have f0 := bR.frozen 0
    have f1 := bR.frozen 1
    have f2 := bR.frozen 2
    have rl := bR.lt
    go_wp2
    exact bodyPost_ret (v := .tuple #[.agg #[.int .i64 (0), .int .i64 (0), .int .i64 (0)], .int .i64 1]) (by simp [results, Try.results22, go_sem, r0, r1, r2]) rfl ⟨res4 HT.out, ((HB.out.setCell (by simp) _).setCell (by simp) _).setCell (by simp) _⟩
  · have HT : Hid (miT c s h = (c, -s, h, 0)) := Lib.hid (by unfold miT; rw [hd]; rfl)
    have HD := Lib.hid hd
    have ok := dirB_t hd
    have l1 := ok.s1
    have l2 := ok.s2
    have l3 := ok.h2
    have en : IntKind.wrap .i64 (-s) = -s := IntWalk.i64_in _ (by omega)
    clear hd ok
    go_enter Try.func22, Try.ntmps22
    go_wp2_with fail
    generalize hW : World.alloc _ _ = W
    have bX : Bk W w.heap.size #[.int .i64 (c), .int .i64 (s), .int .i64 (h)] 25 := by rw [← hW]; repeat (first | exact Bk.new' (by simp) | refine Bk.alloc ?_ _)
    have bR : Bk W (w.heap.size + 1) #[.int .i64 0, .int .i64 0, .int .i64 0] 25 := by rw [← hW]; repeat (first | exact Bk.new' (by simp) | refine Bk.alloc ?_ _)
    have HB : Hid (Below w.heap.size w W) := Lib.hid (by rw [← hW]; exact (by repeat (first | exact Below.refl _ _ | (refine Below.alloc ?_ (by simp <;> omega) _) | (refine Below.setCell ?_ (by simp <;> omega) _) | (refine Below.drew ?_) | (refine bel_drewN ?_ _))))
    clear hW
    refine (idr_any _ _ _ _).mono ?_
    rw [HD.out]
    rintro e w1 ⟨rfl, hb⟩
    replace bX := bX.on hb
    replace bR := bR.on hb
    replace HB := Lib.hid (bel_end HB.out hb)
    clear hb
    have x0 := bX.cell 0 rfl
    have x1 := bX.cell 1 rfl
    have x2 := bX.cell 2 rfl
    have xl := bX.lt
    go_wp2_with fail
    refine (mir_any c s h (by omega) (by omega) _).mono ?_
    rintro e w2 ⟨rfl, hw2⟩
    have hb : Below w1.heap.size w1 w2 := by rw [hw2]; exact (by repeat (first | exact Below.refl _ _ | (refine Below.alloc ?_ (by simp <;> omega) _) | (refine Below.setCell ?_ (by simp <;> omega) _) | (refine Below.drew ?_) | (refine bel_drewN ?_ _)))
    clear hw2
    replace bR := bR.on hb
    replace HB := Lib.hid (bel_end HB.out hb)
    clear hb x0 x1 x2 xl bX
    have r0 := bR.cell 0 rfl
    have r1 := bR.cell 1 rfl
    have r2 := bR.cell 2 rfl
    have f0 := bR.frozen 0
    have f1 := bR.frozen 1
    have f2 := bR.frozen 2
    have rl := bR.lt
    go_wp2
    exact bodyPost_ret (v := .tuple #[.agg #[.int .i64 (c), .int .i64 (-s), .int .i64 (h)], .int .i64 0]) (by simp [results, Try.results22, go_sem, r0, r1, r2]) rfl ⟨res4 HT.out, ((HB.out.setCell (by simp) _).setCell (by simp) _).setCell (by simp) _⟩

set_option maxRecDepth 100000 in
set_option maxHeartbeats 1000000 in
theorem smi_any (c s h : Int) (w : World) :
    Calls Try.prog 21 #[.agg #[.int .i64 (c), .int .i64 (s), .int .i64 (h)]] w fun e w' => e = .returned (.tuple #[.agg #[.int .i64 (miT c s h).1, .int .i64 (miT c s h).2.1, .int .i64 (miT c s h).2.2.1], .int .i64 (miT c s h).2.2.2]) ∧ Below w.heap.size w w' := by
  cases hd : dirB c s h
  · have HT : Hid (miT c s h = (0, 0, 0, 1)) := Lib.hid (by unfold miT; rw [hd]; rfl)
    have HD := Lib.hid hd
    clear hd
    go_enter Try.func21, Try.ntmps21
    go_wp2_with fail
    generalize hW : World.alloc _ _ = W
    have bR : Bk W (w.heap.size + 1) #[.int .i64 0, .int .i64 0, .int .i64 0] 25 := by rw [← hW]; repeat (first | exact Bk.new' (by simp) | refine Bk.alloc ?_ _)
    have HB : Hid (Below w.heap.size w W) := Lib.hid (by rw [← hW]; exact (by repeat (first | exact Below.refl _ _ | (refine Below.alloc ?_ (by simp <;> omega) _) | (refine Below.setCell ?_ (by simp <;> omega) _) | (refine Below.drew ?_) | (refine bel_drewN ?_ _))))
    clear hW
    refine (sdr_any _ _ _ _).mono ?_
    rw [HD.out]
    rintro e w1 ⟨rfl, hb⟩
    replace bR := bR.on hb
    replace HB := Lib.hid (bel_end HB.out hb)
    clear hb
    have r0 := bR.cell 0 rfl
    have r1 := bR.cell 1 rfl
    have r2 := bR.cell 2 rfl
    have f0 := bR.frozen 0
    have f1 := bR.frozen 1
    have f2 := bR.frozen 2
    have rl := bR.lt
    go_wp2
    exact bodyPost_ret (v := .tuple #[.agg #[.int .i64 (0), .int .i64 (0), .int .i64 (0)], .int .i64 1]) (by simp [results, Try.results21, go_sem, r0, r1, r2]) rfl ⟨res4 HT.out, ((HB.out.setCell (by simp) _).setCell (by simp) _).setCell (by simp) _⟩
  · have HT : Hid (miT c s h = (c, -s, h, 0)) := Lib.hid (by unfold miT; rw [hd]; rfl)
    have HD := Lib.hid hd
    have ok := dirB_t hd
    have l1 := ok.s1
    have l2 := ok.s2
    have l3 := ok.h2
    have en : IntKind.wrap .i64 (-s) = -s := IntWalk.i64_in _ (by omega)
    clear hd ok
    go_enter Try.func21, Try.ntmps21
    go_wp2_with fail
    generalize hW : World.alloc _ _ = W
    have bX : Bk W w.heap.size #[.int .i64 (c), .int .i64 (s), .int .i64 (h)] 25 := by rw [← hW]; repeat (first | exact Bk.new' (by simp) | refine Bk.alloc ?_ _)
    have bR : Bk W (w.heap.size + 1) #[.int .i64 0, .int .i64 0, .int .i64 0] 25 := by rw [← hW]; repeat (first | exact Bk.new' (by simp) | refine Bk.alloc ?_ _)
    have HB : Hid (Below w.heap.size w W) := Lib.hid (by rw [← hW]; exact (by repeat (first | exact Below.refl _ _ | (refine Below.alloc ?_ (by simp <;> omega) _) | (refine Below.setCell ?_ (by simp <;> omega) _) | (refine Below.drew ?_) | (refine bel_drewN ?_ _))))
    clear hW
    refine (sdr_any _ _ _ _).mono ?_
    rw [HD.out]
    rintro e w1 ⟨rfl, hb⟩
    replace bX := bX.on hb
    replace bR := bR.on hb
    replace HB := Lib.hid (bel_end HB.out hb)
    clear hb
    have x0 := bX.cell 0 rfl
    have x1 := bX.cell 1 rfl
    have x2 := bX.cell 2 rfl
    have xl := bX.lt
    have r0 := bR.cell 0 rfl
    have r1 := bR.cell 1 rfl
    have r2 := bR.cell 2 rfl
    have f0 := bR.frozen 0
    have f1 := bR.frozen 1
    have f2 := bR.frozen 2
    have rl := bR.lt
    go_wp2
    exact bodyPost_ret (v := .tuple #[.agg #[.int .i64 (c), .int .i64 (-s), .int .i64 (h)], .int .i64 0]) (by simp [results, Try.results21, go_sem, r0, r1, r2]) rfl ⟨res4 HT.out, ((HB.out.setCell (by simp) _).setCell (by simp) _).setCell (by simp) _⟩
end Go.Proofs.Ytcaekheghjnipaa
