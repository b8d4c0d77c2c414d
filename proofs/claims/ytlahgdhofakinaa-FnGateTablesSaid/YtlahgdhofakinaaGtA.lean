/- Contracts of the checks of contacts and motions, of moving on, of costs and gates, on both sides. -/
import Derived.Test.YtlahgdhofakinaaGtM
import Derived.Test.YtlahgdhofakinaaBrA
import Derived.Test.YtlahgdhofakinaaPuP
import Derived.Deep.RegionHeld3
import Derived.Deep.DeepCutAuto
import Derived.Deep.DrawnRows
import Derived.Deep.RegionWith
namespace Go.Proofs.Ytlahgdhofakinaa
open Go.ChangeShapes Go.WideShapes Go.ChangeAt Go.RowKit Go.Shelf Num
set_option linter.unusedVariables false
set_option linter.unusedSimpArgs false

theorem ints1p {W : World} {g : Nat} {x : Int} (h : Bk W g #[.int .i64 x] 2) : Ints .i64 W W.heap.size (some ⟨g, 0, none⟩) [x] := fun _ => ⟨g, 0, rfl, h.lt, fun j hj => by
  rw [Nat.zero_add]
  match j, hj with
  | 0, _ => exact h.cell 0 rfl⟩
theorem anyLack_1 (lo hi x : Int) : (!anyLack lo hi [x]) = inB x lo hi := by
  unfold anyLack inB hasB
  rw [Bool.eq_iff_iff]
  simp
theorem anyLack_2 (lo hi x y : Int) : (!anyLack lo hi [x, y]) = (inB x lo hi && inB y lo hi) := by
  unfold anyLack inB hasB
  rw [Bool.eq_iff_iff]
  simp
theorem ptB_ct (x y : Int) : ptB 100000 x y = ctB x y := rfl

set_option maxRecDepth 100000 in
set_option maxHeartbeats 2000000 in
theorem lct14_any (w : World) (x y : Int) :
    Calls Try.prog 105 #[.agg #[.int .i64 x, .int .i64 y]] w fun e w' => e = .returned (.bool (ctB x y)) ∧ Below w.heap.size w w' := by
  cases h1 : inB x (-100000) 100000
  case false =>
    have K1 : Hid (∀ W : World, Calls Try.prog 106 #[.int .i64 x, .int .i64 (-100000), .int .i64 100000] W fun e w' => e = .returned (.bool false) ∧ W = w') := Lib.hid (fun W => by have := lin_any x (-100000) 100000 W; rwa [h1] at this)
    go_enter Try.func105, Try.ntmps105
    go_wp2_with (go_at_call 106; with_reducible refine Calls.mono (K1.out _) ?_; rintro e wc ⟨rfl, rfl⟩)
    go_ret
    exact ⟨ret_bool (by unfold ctB; rw [h1]; rfl), (by repeat (first | exact Below.refl _ _ | (refine Below.alloc ?_ (by simp <;> omega) _) | (refine Below.setCell ?_ (by simp <;> omega) _) | (refine Below.drew ?_) | (refine bel_drewN ?_ _)))⟩
  case true =>
    have K1 : Hid (∀ W : World, Calls Try.prog 106 #[.int .i64 x, .int .i64 (-100000), .int .i64 100000] W fun e w' => e = .returned (.bool true) ∧ W = w') := Lib.hid (fun W => by have := lin_any x (-100000) 100000 W; rwa [h1] at this)
    cases h2 : inB y (-100000) 100000
    case false =>
      have K2 : Hid (∀ W : World, Calls Try.prog 106 #[.int .i64 y, .int .i64 (-100000), .int .i64 100000] W fun e w' => e = .returned (.bool false) ∧ W = w') := Lib.hid (fun W => by have := lin_any y (-100000) 100000 W; rwa [h2] at this)
      go_enter Try.func105, Try.ntmps105
      go_wp2_with (first | (go_at_call 106; with_reducible refine Calls.mono (K1.out _) ?_; rintro e wc ⟨rfl, rfl⟩) | (go_at_call 106; with_reducible refine Calls.mono (K2.out _) ?_; rintro e wc ⟨rfl, rfl⟩))
      go_ret
      exact ⟨ret_bool (by unfold ctB; rw [h1, h2]; rfl), (by repeat (first | exact Below.refl _ _ | (refine Below.alloc ?_ (by simp <;> omega) _) | (refine Below.setCell ?_ (by simp <;> omega) _) | (refine Below.drew ?_) | (refine bel_drewN ?_ _)))⟩
    case true =>
      have K2 : Hid (∀ W : World, Calls Try.prog 106 #[.int .i64 y, .int .i64 (-100000), .int .i64 100000] W fun e w' => e = .returned (.bool true) ∧ W = w') := Lib.hid (fun W => by have := lin_any y (-100000) 100000 W; rwa [h2] at this)
      go_enter Try.func105, Try.ntmps105
      go_wp2_with (first | (go_at_call 106; with_reducible refine Calls.mono (K1.out _) ?_; rintro e wc ⟨rfl, rfl⟩) | (go_at_call 106; with_reducible refine Calls.mono (K2.out _) ?_; rintro e wc ⟨rfl, rfl⟩))
      go_ret
      exact ⟨ret_bool (by unfold ctB; rw [h1, h2]; rfl), (by repeat (first | exact Below.refl _ _ | (refine Below.alloc ?_ (by simp <;> omega) _) | (refine Below.setCell ?_ (by simp <;> omega) _) | (refine Below.drew ?_) | (refine bel_drewN ?_ _)))⟩

set_option maxRecDepth 100000 in
set_option maxHeartbeats 4000000 in
theorem smo_any (w : World) (x y u v s : Int) :
    Calls Try.prog 64 #[.agg #[.int .i64 x, .int .i64 y, .int .i64 u, .int .i64 v, .int .i64 s]] w fun e w' => e = .returned (.bool (mtB x y u v s)) ∧ Below w.heap.size w w' := by
  cases h1 : ctB x y
  case false =>
    have K1 : Hid (∀ W : World, Calls Try.prog 105 #[.agg #[.int .i64 x, .int .i64 y]] W fun e w' => e = .returned (.bool false) ∧ Below W.heap.size W w') := Lib.hid (fun W => by have := lct14_any W x y; rwa [h1] at this)
    go_enter Try.func64, Try.ntmps64
    go_wp2_with fail
    generalize hW : World.alloc _ _ = W
    have bM : Bk W (w.heap.size) #[.int .i64 x, .int .i64 y, .int .i64 u, .int .i64 v, .int .i64 s] 32 := by rw [← hW]; repeat (first | (refine Bk.new' ?_; (simp; done)) | refine Bk.alloc ?_ _)
    have HB : Hid (Below w.heap.size w W) := Lib.hid (by rw [← hW]; exact (by repeat (first | exact Below.refl _ _ | (refine Below.alloc ?_ (by simp <;> omega) _) | (refine Below.setCell ?_ (by simp <;> omega) _) | (refine Below.drew ?_) | (refine bel_drewN ?_ _))))
    clear hW
    (with_reducible refine Calls.mono (K1.out _) ?_)
    rintro e w1 ⟨rfl, hb⟩
    replace bM := bM.on hb
    replace HB := Lib.hid (bel_end HB.out hb)
    clear hb
    have bM_0 := bM.cell 0 rfl
    have bM_1 := bM.cell 1 rfl
    have bM_2 := bM.cell 2 rfl
    have bM_3 := bM.cell 3 rfl
    have bM_4 := bM.cell 4 rfl
    have bM_l := bM.lt
    go_wp2_with (fail)
    go_ret
    exact ⟨ret_bool (by unfold mtB; rw [h1]; rfl), HB.out⟩
  case true =>
    have K1 : Hid (∀ W : World, Calls Try.prog 105 #[.agg #[.int .i64 x, .int .i64 y]] W fun e w' => e = .returned (.bool true) ∧ Below W.heap.size W w') := Lib.hid (fun W => by have := lct14_any W x y; rwa [h1] at this)
    cases h2 : inB u (-1000) 1000
    case false =>
      have K2 : Hid (∀ W : World, Calls Try.prog 106 #[.int .i64 u, .int .i64 (-1000), .int .i64 1000] W fun e w' => e = .returned (.bool false) ∧ W = w') := Lib.hid (fun W => by have := lin_any u (-1000) 1000 W; rwa [h2] at this)
      go_enter Try.func64, Try.ntmps64
      go_wp2_with fail
      generalize hW : World.alloc _ _ = W
      have bM : Bk W (w.heap.size) #[.int .i64 x, .int .i64 y, .int .i64 u, .int .i64 v, .int .i64 s] 32 := by rw [← hW]; repeat (first | (refine Bk.new' ?_; (simp; done)) | refine Bk.alloc ?_ _)
      have HB : Hid (Below w.heap.size w W) := Lib.hid (by rw [← hW]; exact (by repeat (first | exact Below.refl _ _ | (refine Below.alloc ?_ (by simp <;> omega) _) | (refine Below.setCell ?_ (by simp <;> omega) _) | (refine Below.drew ?_) | (refine bel_drewN ?_ _))))
      clear hW
      (with_reducible refine Calls.mono (K1.out _) ?_)
      rintro e w1 ⟨rfl, hb⟩
      replace bM := bM.on hb
      replace HB := Lib.hid (bel_end HB.out hb)
      clear hb
      have bM_0 := bM.cell 0 rfl
      have bM_1 := bM.cell 1 rfl
      have bM_2 := bM.cell 2 rfl
      have bM_3 := bM.cell 3 rfl
      have bM_4 := bM.cell 4 rfl
      have bM_l := bM.lt
      go_wp2_with (go_at_call 106; with_reducible refine Calls.mono (K2.out _) ?_; rintro e wc ⟨rfl, rfl⟩)
      go_ret
      exact ⟨ret_bool (by unfold mtB; rw [h1, h2]; rfl), HB.out⟩
    case true =>
      have K2 : Hid (∀ W : World, Calls Try.prog 106 #[.int .i64 u, .int .i64 (-1000), .int .i64 1000] W fun e w' => e = .returned (.bool true) ∧ W = w') := Lib.hid (fun W => by have := lin_any u (-1000) 1000 W; rwa [h2] at this)
      cases h3 : inB v (-1000) 1000
      case false =>
        have K3 : Hid (∀ W : World, Calls Try.prog 106 #[.int .i64 v, .int .i64 (-1000), .int .i64 1000] W fun e w' => e = .returned (.bool false) ∧ W = w') := Lib.hid (fun W => by have := lin_any v (-1000) 1000 W; rwa [h3] at this)
        go_enter Try.func64, Try.ntmps64
        go_wp2_with fail
        generalize hW : World.alloc _ _ = W
        have bM : Bk W (w.heap.size) #[.int .i64 x, .int .i64 y, .int .i64 u, .int .i64 v, .int .i64 s] 32 := by rw [← hW]; repeat (first | (refine Bk.new' ?_; (simp; done)) | refine Bk.alloc ?_ _)
        have HB : Hid (Below w.heap.size w W) := Lib.hid (by rw [← hW]; exact (by repeat (first | exact Below.refl _ _ | (refine Below.alloc ?_ (by simp <;> omega) _) | (refine Below.setCell ?_ (by simp <;> omega) _) | (refine Below.drew ?_) | (refine bel_drewN ?_ _))))
        clear hW
        (with_reducible refine Calls.mono (K1.out _) ?_)
        rintro e w1 ⟨rfl, hb⟩
        replace bM := bM.on hb
        replace HB := Lib.hid (bel_end HB.out hb)
        clear hb
        have bM_0 := bM.cell 0 rfl
        have bM_1 := bM.cell 1 rfl
        have bM_2 := bM.cell 2 rfl
        have bM_3 := bM.cell 3 rfl
        have bM_4 := bM.cell 4 rfl
        have bM_l := bM.lt
        go_wp2_with (first | (go_at_call 106; with_reducible refine Calls.mono (K2.out _) ?_; rintro e wc ⟨rfl, rfl⟩) | (go_at_call 106; with_reducible refine Calls.mono (K3.out _) ?_; rintro e wc ⟨rfl, rfl⟩))
        go_ret
        exact ⟨ret_bool (by unfold mtB; rw [h1, h2, h3]; rfl), HB.out⟩
      case true =>
        have K3 : Hid (∀ W : World, Calls Try.prog 106 #[.int .i64 v, .int .i64 (-1000), .int .i64 1000] W fun e w' => e = .returned (.bool true) ∧ W = w') := Lib.hid (fun W => by have := lin_any v (-1000) 1000 W; rwa [h3] at this)
        cases h4 : inB s 0 10000
        case false =>
          have K4 : Hid (∀ W : World, Calls Try.prog 106 #[.int .i64 s, .int .i64 0, .int .i64 10000] W fun e w' => e = .returned (.bool false) ∧ W = w') := Lib.hid (fun W => by have := lin_any s 0 10000 W; rwa [h4] at this)
          go_enter Try.func64, Try.ntmps64
          go_wp2_with fail
          generalize hW : World.alloc _ _ = W
          have bM : Bk W (w.heap.size) #[.int .i64 x, .int .i64 y, .int .i64 u, .int .i64 v, .int .i64 s] 32 := by rw [← hW]; repeat (first | (refine Bk.new' ?_; (simp; done)) | refine Bk.alloc ?_ _)
          have HB : Hid (Below w.heap.size w W) := Lib.hid (by rw [← hW]; exact (by repeat (first | exact Below.refl _ _ | (refine Below.alloc ?_ (by simp <;> omega) _) | (refine Below.setCell ?_ (by simp <;> omega) _) | (refine Below.drew ?_) | (refine bel_drewN ?_ _))))
          clear hW
          (with_reducible refine Calls.mono (K1.out _) ?_)
          rintro e w1 ⟨rfl, hb⟩
          replace bM := bM.on hb
          replace HB := Lib.hid (bel_end HB.out hb)
          clear hb
          have bM_0 := bM.cell 0 rfl
          have bM_1 := bM.cell 1 rfl
          have bM_2 := bM.cell 2 rfl
          have bM_3 := bM.cell 3 rfl
          have bM_4 := bM.cell 4 rfl
          have bM_l := bM.lt
          go_wp2_with (first | (go_at_call 106; with_reducible refine Calls.mono (K2.out _) ?_; rintro e wc ⟨rfl, rfl⟩) | (go_at_call 106; with_reducible refine Calls.mono (K3.out _) ?_; rintro e wc ⟨rfl, rfl⟩) | (go_at_call 106; with_reducible refine Calls.mono (K4.out _) ?_; rintro e wc ⟨rfl, rfl⟩))
          go_ret
          exact ⟨ret_bool (by unfold mtB; rw [h1, h2, h3, h4]; rfl), HB.out⟩
        case true =>
          have K4 : Hid (∀ W : World, Calls Try.prog 106 #[.int .i64 s, .int .i64 0, .int .i64 10000] W fun e w' => e = .returned (.bool true) ∧ W = w') := Lib.hid (fun W => by have := lin_any s 0 10000 W; rwa [h4] at this)
          go_enter Try.func64, Try.ntmps64
          go_wp2_with fail
          generalize hW : World.alloc _ _ = W
          have bM : Bk W (w.heap.size) #[.int .i64 x, .int .i64 y, .int .i64 u, .int .i64 v, .int .i64 s] 32 := by rw [← hW]; repeat (first | (refine Bk.new' ?_; (simp; done)) | refine Bk.alloc ?_ _)
          have HB : Hid (Below w.heap.size w W) := Lib.hid (by rw [← hW]; exact (by repeat (first | exact Below.refl _ _ | (refine Below.alloc ?_ (by simp <;> omega) _) | (refine Below.setCell ?_ (by simp <;> omega) _) | (refine Below.drew ?_) | (refine bel_drewN ?_ _))))
          clear hW
          (with_reducible refine Calls.mono (K1.out _) ?_)
          rintro e w1 ⟨rfl, hb⟩
          replace bM := bM.on hb
          replace HB := Lib.hid (bel_end HB.out hb)
          clear hb
          have bM_0 := bM.cell 0 rfl
          have bM_1 := bM.cell 1 rfl
          have bM_2 := bM.cell 2 rfl
          have bM_3 := bM.cell 3 rfl
          have bM_4 := bM.cell 4 rfl
          have bM_l := bM.lt
          go_wp2_with (first | (go_at_call 106; with_reducible refine Calls.mono (K2.out _) ?_; rintro e wc ⟨rfl, rfl⟩) | (go_at_call 106; with_reducible refine Calls.mono (K3.out _) ?_; rintro e wc ⟨rfl, rfl⟩) | (go_at_call 106; with_reducible refine Calls.mono (K4.out _) ?_; rintro e wc ⟨rfl, rfl⟩))
          go_ret
          exact ⟨ret_bool (by unfold mtB; rw [h1, h2, h3, h4]; rfl), HB.out⟩

set_option maxRecDepth 100000 in
set_option maxHeartbeats 2000000 in
theorem ipo14_any (w : World) (x y u v s : Int) :
    Calls Try.prog 69 #[.agg #[.int .i64 x, .int .i64 y, .int .i64 u, .int .i64 v, .int .i64 s]] w fun e w' => e = .returned (.agg #[.int .i64 x, .int .i64 y]) ∧ Below w.heap.size w w' := by
  go_enter Try.func69, Try.ntmps69
  go_wp2
  exact bodyPost_ret (v := .agg #[.int .i64 x, .int .i64 y]) (by simp [results, Try.results69, go_sem]) rfl ⟨rfl, (by repeat (first | exact Below.refl _ _ | (refine Below.alloc ?_ (by simp <;> omega) _) | (refine Below.setCell ?_ (by simp <;> omega) _) | (refine Below.drew ?_) | (refine bel_drewN ?_ _)))⟩

set_option maxRecDepth 100000 in
set_option maxHeartbeats 8000000 in
theorem imo_any (w : World) (x y u v s : Int) :
    Calls Try.prog 67 #[.agg #[.int .i64 x, .int .i64 y, .int .i64 u, .int .i64 v, .int .i64 s]] w fun e w' => e = .returned (.bool (mtB x y u v s)) ∧ Below w.heap.size w w' := by
  have K1 : Hid (∀ W : World, Calls Try.prog 69 #[.agg #[.int .i64 x, .int .i64 y, .int .i64 u, .int .i64 v, .int .i64 s]] W fun e w' => e = .returned (.agg #[.int .i64 x, .int .i64 y]) ∧ Below W.heap.size W w') := Lib.hid (fun W => ipo14_any W x y u v s)
  cases h1 : ctB x y
  case false =>
    have K2 : Hid (∀ W : World, Calls Try.prog 108 #[.agg #[.int .i64 x, .int .i64 y], .int .i64 100000] W fun e w' => e = .returned (.bool false) ∧ Below W.heap.size W w') := Lib.hid (fun W => by have := iwi_any W 100000 x y (by omega) (by omega); rwa [ptB_ct, h1] at this)
    go_enter Try.func67, Try.ntmps67
    go_wp2_with fail
    generalize hW : World.alloc _ _ = W
    have bM : Bk W (w.heap.size) #[.int .i64 x, .int .i64 y, .int .i64 u, .int .i64 v, .int .i64 s] 32 := by rw [← hW]; repeat (first | (refine Bk.new' ?_; (simp; done)) | refine Bk.alloc ?_ _)
    have bS : Bk W (w.heap.size + 1) #[.int .i64 (-1000), .int .i64 1000] 81 := by rw [← hW]; repeat (first | (refine Bk.new' ?_; (simp; done)) | refine Bk.alloc ?_ _)
    have bQ : Bk W (w.heap.size + 1 + 1) #[.int .i64 0, .int .i64 10000] 81 := by rw [← hW]; repeat (first | (refine Bk.new' ?_; (simp; done)) | refine Bk.alloc ?_ _)
    have HB : Hid (Below w.heap.size w W) := Lib.hid (by rw [← hW]; exact (by repeat (first | exact Below.refl _ _ | (refine Below.alloc ?_ (by simp <;> omega) _) | (refine Below.setCell ?_ (by simp <;> omega) _) | (refine Below.drew ?_) | (refine bel_drewN ?_ _))))
    clear hW
    refine (K1.out _).mono ?_
    rintro e w1 ⟨rfl, hb⟩
    replace bM := bM.on hb
    replace bS := bS.on hb
    replace bQ := bQ.on hb
    replace HB := Lib.hid (bel_end HB.out hb)
    clear hb
    have bM_0 := bM.cell 0 rfl
    have bM_1 := bM.cell 1 rfl
    have bM_2 := bM.cell 2 rfl
    have bM_3 := bM.cell 3 rfl
    have bM_4 := bM.cell 4 rfl
    have bM_l := bM.lt
    have bS_0 := bS.cell 0 rfl
    have bS_1 := bS.cell 1 rfl
    have bS_l := bS.lt
    have bQ_0 := bQ.cell 0 rfl
    have bQ_1 := bQ.cell 1 rfl
    have bQ_l := bQ.lt
    go_wp2_with fail
    refine (K2.out _).mono ?_
    rintro e w2 ⟨rfl, hb⟩
    replace bM := bM.on hb
    replace bS := bS.on hb
    replace bQ := bQ.on hb
    replace HB := Lib.hid (bel_end HB.out hb)
    clear hb
    clear bM_0 bM_1 bM_2 bM_3 bM_4 bM_l bS_0 bS_1 bS_l bQ_0 bQ_1 bQ_l
    have bM_0 := bM.cell 0 rfl
    have bM_1 := bM.cell 1 rfl
    have bM_2 := bM.cell 2 rfl
    have bM_3 := bM.cell 3 rfl
    have bM_4 := bM.cell 4 rfl
    have bM_l := bM.lt
    have bS_0 := bS.cell 0 rfl
    have bS_1 := bS.cell 1 rfl
    have bS_l := bS.lt
    have bQ_0 := bQ.cell 0 rfl
    have bQ_1 := bQ.cell 1 rfl
    have bQ_l := bQ.lt
    go_wp2
    go_ret
    exact ⟨ret_bool (by unfold mtB; rw [h1]; rfl), HB.out⟩
  case true =>
    have K2 : Hid (∀ W : World, Calls Try.prog 108 #[.agg #[.int .i64 x, .int .i64 y], .int .i64 100000] W fun e w' => e = .returned (.bool true) ∧ Below W.heap.size W w') := Lib.hid (fun W => by have := iwi_any W 100000 x y (by omega) (by omega); rwa [ptB_ct, h1] at this)
    cases h2 : (inB u (-1000) 1000 && inB v (-1000) 1000)
    case false =>
      go_enter Try.func67, Try.ntmps67
      go_wp2_with fail
      generalize hW : World.alloc _ _ = W
      have bM : Bk W (w.heap.size) #[.int .i64 x, .int .i64 y, .int .i64 u, .int .i64 v, .int .i64 s] 32 := by rw [← hW]; repeat (first | (refine Bk.new' ?_; (simp; done)) | refine Bk.alloc ?_ _)
      have bS : Bk W (w.heap.size + 1) #[.int .i64 (-1000), .int .i64 1000] 81 := by rw [← hW]; repeat (first | (refine Bk.new' ?_; (simp; done)) | refine Bk.alloc ?_ _)
      have bQ : Bk W (w.heap.size + 1 + 1) #[.int .i64 0, .int .i64 10000] 81 := by rw [← hW]; repeat (first | (refine Bk.new' ?_; (simp; done)) | refine Bk.alloc ?_ _)
      have HB : Hid (Below w.heap.size w W) := Lib.hid (by rw [← hW]; exact (by repeat (first | exact Below.refl _ _ | (refine Below.alloc ?_ (by simp <;> omega) _) | (refine Below.setCell ?_ (by simp <;> omega) _) | (refine Below.drew ?_) | (refine bel_drewN ?_ _))))
      clear hW
      refine (K1.out _).mono ?_
      rintro e w1 ⟨rfl, hb⟩
      replace bM := bM.on hb
      replace bS := bS.on hb
      replace bQ := bQ.on hb
      replace HB := Lib.hid (bel_end HB.out hb)
      clear hb
      have bM_0 := bM.cell 0 rfl
      have bM_1 := bM.cell 1 rfl
      have bM_2 := bM.cell 2 rfl
      have bM_3 := bM.cell 3 rfl
      have bM_4 := bM.cell 4 rfl
      have bM_l := bM.lt
      have bS_0 := bS.cell 0 rfl
      have bS_1 := bS.cell 1 rfl
      have bS_l := bS.lt
      have bQ_0 := bQ.cell 0 rfl
      have bQ_1 := bQ.cell 1 rfl
      have bQ_l := bQ.lt
      go_wp2_with fail
      refine (K2.out _).mono ?_
      rintro e w2 ⟨rfl, hb⟩
      replace bM := bM.on hb
      replace bS := bS.on hb
      replace bQ := bQ.on hb
      replace HB := Lib.hid (bel_end HB.out hb)
      clear hb
      clear bM_0 bM_1 bM_2 bM_3 bM_4 bM_l bS_0 bS_1 bS_l bQ_0 bQ_1 bQ_l
      have bM_0 := bM.cell 0 rfl
      have bM_1 := bM.cell 1 rfl
      have bM_2 := bM.cell 2 rfl
      have bM_3 := bM.cell 3 rfl
      have bM_4 := bM.cell 4 rfl
      have bM_l := bM.lt
      have bS_0 := bS.cell 0 rfl
      have bS_1 := bS.cell 1 rfl
      have bS_l := bS.lt
      have bQ_0 := bQ.cell 0 rfl
      have bQ_1 := bQ.cell 1 rfl
      have bQ_l := bQ.lt
      go_wp2_with fail
      clear bM_0 bM_1 bM_2 bM_3 bM_4 bM_l bS_0 bS_1 bS_l bQ_0 bQ_1 bQ_l
      generalize hW : World.alloc _ _ = WA
      obtain ⟨gA, hg⟩ : ∃ g, g = w2.heap.size := ⟨_, rfl⟩
      have bA : Bk WA gA #[.int .i64 u, .int .i64 v] 2 := by rw [← hW]; exact Bk.new' hg
      have hb : Below w2.heap.size w2 WA := by rw [← hW]; exact (Below.refl _ _).alloc (Nat.le_refl _) _
      try rw [← hg]
      clear hW hg
      replace bM := bM.on hb
      replace bS := bS.on hb
      replace bQ := bQ.on hb
      replace HB := Lib.hid (bel_end HB.out hb)
      clear hb
      refine (are_any _ _ _ 2 [u, v] _ _ rfl (by omega) (ints2p bA)).mono ?_
      rintro e w3 ⟨rfl, hb⟩
      replace bM := bM.on hb
      replace bS := bS.on hb
      replace bQ := bQ.on hb
      replace HB := Lib.hid (bel_end HB.out hb)
      clear hb
      rw [anyLack_2, h2]
      have bM_0 := bM.cell 0 rfl
      have bM_1 := bM.cell 1 rfl
      have bM_2 := bM.cell 2 rfl
      have bM_3 := bM.cell 3 rfl
      have bM_4 := bM.cell 4 rfl
      have bM_l := bM.lt
      have bS_0 := bS.cell 0 rfl
      have bS_1 := bS.cell 1 rfl
      have bS_l := bS.lt
      have bQ_0 := bQ.cell 0 rfl
      have bQ_1 := bQ.cell 1 rfl
      have bQ_l := bQ.lt
      go_wp2
      go_ret
      exact ⟨ret_bool (by unfold mtB; rw [h1, Bool.true_and, h2]; rfl), HB.out⟩
    case true =>
      cases h3 : inB s 0 10000
      case false =>
        go_enter Try.func67, Try.ntmps67
        go_wp2_with fail
        generalize hW : World.alloc _ _ = W
        have bM : Bk W (w.heap.size) #[.int .i64 x, .int .i64 y, .int .i64 u, .int .i64 v, .int .i64 s] 32 := by rw [← hW]; repeat (first | (refine Bk.new' ?_; (simp; done)) | refine Bk.alloc ?_ _)
        have bS : Bk W (w.heap.size + 1) #[.int .i64 (-1000), .int .i64 1000] 81 := by rw [← hW]; repeat (first | (refine Bk.new' ?_; (simp; done)) | refine Bk.alloc ?_ _)
        have bQ : Bk W (w.heap.size + 1 + 1) #[.int .i64 0, .int .i64 10000] 81 := by rw [← hW]; repeat (first | (refine Bk.new' ?_; (simp; done)) | refine Bk.alloc ?_ _)
        have HB : Hid (Below w.heap.size w W) := Lib.hid (by rw [← hW]; exact (by repeat (first | exact Below.refl _ _ | (refine Below.alloc ?_ (by simp <;> omega) _) | (refine Below.setCell ?_ (by simp <;> omega) _) | (refine Below.drew ?_) | (refine bel_drewN ?_ _))))
        clear hW
        refine (K1.out _).mono ?_
        rintro e w1 ⟨rfl, hb⟩
        replace bM := bM.on hb
        replace bS := bS.on hb
        replace bQ := bQ.on hb
        replace HB := Lib.hid (bel_end HB.out hb)
        clear hb
        have bM_0 := bM.cell 0 rfl
        have bM_1 := bM.cell 1 rfl
        have bM_2 := bM.cell 2 rfl
        have bM_3 := bM.cell 3 rfl
        have bM_4 := bM.cell 4 rfl
        have bM_l := bM.lt
        have bS_0 := bS.cell 0 rfl
        have bS_1 := bS.cell 1 rfl
        have bS_l := bS.lt
        have bQ_0 := bQ.cell 0 rfl
        have bQ_1 := bQ.cell 1 rfl
        have bQ_l := bQ.lt
        go_wp2_with fail
        refine (K2.out _).mono ?_
        rintro e w2 ⟨rfl, hb⟩
        replace bM := bM.on hb
        replace bS := bS.on hb
        replace bQ := bQ.on hb
        replace HB := Lib.hid (bel_end HB.out hb)
        clear hb
        clear bM_0 bM_1 bM_2 bM_3 bM_4 bM_l bS_0 bS_1 bS_l bQ_0 bQ_1 bQ_l
        have bM_0 := bM.cell 0 rfl
        have bM_1 := bM.cell 1 rfl
        have bM_2 := bM.cell 2 rfl
        have bM_3 := bM.cell 3 rfl
        have bM_4 := bM.cell 4 rfl
        have bM_l := bM.lt
        have bS_0 := bS.cell 0 rfl
        have bS_1 := bS.cell 1 rfl
        have bS_l := bS.lt
        have bQ_0 := bQ.cell 0 rfl
        have bQ_1 := bQ.cell 1 rfl
        have bQ_l := bQ.lt
        go_wp2_with fail
        clear bM_0 bM_1 bM_2 bM_3 bM_4 bM_l bS_0 bS_1 bS_l bQ_0 bQ_1 bQ_l
        generalize hW : World.alloc _ _ = WA
        obtain ⟨gA, hg⟩ : ∃ g, g = w2.heap.size := ⟨_, rfl⟩
        have bA : Bk WA gA #[.int .i64 u, .int .i64 v] 2 := by rw [← hW]; exact Bk.new' hg
        have hb : Below w2.heap.size w2 WA := by rw [← hW]; exact (Below.refl _ _).alloc (Nat.le_refl _) _
        try rw [← hg]
        clear hW hg
        replace bM := bM.on hb
        replace bS := bS.on hb
        replace bQ := bQ.on hb
        replace HB := Lib.hid (bel_end HB.out hb)
        clear hb
        refine (are_any _ _ _ 2 [u, v] _ _ rfl (by omega) (ints2p bA)).mono ?_
        rintro e w3 ⟨rfl, hb⟩
        replace bM := bM.on hb
        replace bS := bS.on hb
        replace bQ := bQ.on hb
        replace HB := Lib.hid (bel_end HB.out hb)
        clear hb
        rw [anyLack_2, h2]
        have bM_0 := bM.cell 0 rfl
        have bM_1 := bM.cell 1 rfl
        have bM_2 := bM.cell 2 rfl
        have bM_3 := bM.cell 3 rfl
        have bM_4 := bM.cell 4 rfl
        have bM_l := bM.lt
        have bS_0 := bS.cell 0 rfl
        have bS_1 := bS.cell 1 rfl
        have bS_l := bS.lt
        have bQ_0 := bQ.cell 0 rfl
        have bQ_1 := bQ.cell 1 rfl
        have bQ_l := bQ.lt
        go_wp2_with fail
        clear bM_0 bM_1 bM_2 bM_3 bM_4 bM_l bS_0 bS_1 bS_l bQ_0 bQ_1 bQ_l
        generalize hW : World.alloc _ _ = WB
        obtain ⟨gB, hg⟩ : ∃ g, g = w3.heap.size := ⟨_, rfl⟩
        have bB : Bk WB gB #[.int .i64 s] 2 := by rw [← hW]; exact Bk.new' hg
        have hb : Below w3.heap.size w3 WB := by rw [← hW]; exact (Below.refl _ _).alloc (Nat.le_refl _) _
        try rw [← hg]
        clear hW hg
        replace bM := bM.on hb
        replace bS := bS.on hb
        replace bQ := bQ.on hb
        replace HB := Lib.hid (bel_end HB.out hb)
        clear hb
        refine (are_any _ _ _ 1 [s] _ _ rfl (by omega) (ints1p bB)).mono ?_
        rintro e w4 ⟨rfl, hb⟩
        replace bM := bM.on hb
        replace bS := bS.on hb
        replace bQ := bQ.on hb
        replace HB := Lib.hid (bel_end HB.out hb)
        clear hb
        rw [anyLack_1, h3]
        have bM_0 := bM.cell 0 rfl
        have bM_1 := bM.cell 1 rfl
        have bM_2 := bM.cell 2 rfl
        have bM_3 := bM.cell 3 rfl
        have bM_4 := bM.cell 4 rfl
        have bM_l := bM.lt
        have bS_0 := bS.cell 0 rfl
        have bS_1 := bS.cell 1 rfl
        have bS_l := bS.lt
        have bQ_0 := bQ.cell 0 rfl
        have bQ_1 := bQ.cell 1 rfl
        have bQ_l := bQ.lt
        go_wp2
        go_ret
        exact ⟨ret_bool (by unfold mtB; rw [h1, Bool.true_and, h2, h3]; rfl), HB.out⟩
      case true =>
        go_enter Try.func67, Try.ntmps67
        go_wp2_with fail
        generalize hW : World.alloc _ _ = W
        have bM : Bk W (w.heap.size) #[.int .i64 x, .int .i64 y, .int .i64 u, .int .i64 v, .int .i64 s] 32 := by rw [← hW]; repeat (first | (refine Bk.new' ?_; (simp; done)) | refine Bk.alloc ?_ _)
        have bS : Bk W (w.heap.size + 1) #[.int .i64 (-1000), .int .i64 1000] 81 := by rw [← hW]; repeat (first | (refine Bk.new' ?_; (simp; done)) | refine Bk.alloc ?_ _)
        have bQ : Bk W (w.heap.size + 1 + 1) #[.int .i64 0, .int .i64 10000] 81 := by rw [← hW]; repeat (first | (refine Bk.new' ?_; (simp; done)) | refine Bk.alloc ?_ _)
        have HB : Hid (Below w.heap.size w W) := Lib.hid (by rw [← hW]; exact (by repeat (first | exact Below.refl _ _ | (refine Below.alloc ?_ (by simp <;> omega) _) | (refine Below.setCell ?_ (by simp <;> omega) _) | (refine Below.drew ?_) | (refine bel_drewN ?_ _))))
        clear hW
        refine (K1.out _).mono ?_
        rintro e w1 ⟨rfl, hb⟩
        replace bM := bM.on hb
        replace bS := bS.on hb
        replace bQ := bQ.on hb
        replace HB := Lib.hid (bel_end HB.out hb)
        clear hb
        have bM_0 := bM.cell 0 rfl
        have bM_1 := bM.cell 1 rfl
        have bM_2 := bM.cell 2 rfl
        have bM_3 := bM.cell 3 rfl
        have bM_4 := bM.cell 4 rfl
        have bM_l := bM.lt
        have bS_0 := bS.cell 0 rfl
        have bS_1 := bS.cell 1 rfl
        have bS_l := bS.lt
        have bQ_0 := bQ.cell 0 rfl
        have bQ_1 := bQ.cell 1 rfl
        have bQ_l := bQ.lt
        go_wp2_with fail
        refine (K2.out _).mono ?_
        rintro e w2 ⟨rfl, hb⟩
        replace bM := bM.on hb
        replace bS := bS.on hb
        replace bQ := bQ.on hb
        replace HB := Lib.hid (bel_end HB.out hb)
        clear hb
        clear bM_0 bM_1 bM_2 bM_3 bM_4 bM_l bS_0 bS_1 bS_l bQ_0 bQ_1 bQ_l
        have bM_0 := bM.cell 0 rfl
        have bM_1 := bM.cell 1 rfl
        have bM_2 := bM.cell 2 rfl
        have bM_3 := bM.cell 3 rfl
        have bM_4 := bM.cell 4 rfl
        have bM_l := bM.lt
        have bS_0 := bS.cell 0 rfl
        have bS_1 := bS.cell 1 rfl
        have bS_l := bS.lt
        have bQ_0 := bQ.cell 0 rfl
        have bQ_1 := bQ.cell 1 rfl
        have bQ_l := bQ.lt
        go_wp2_with fail
        clear bM_0 bM_1 bM_2 bM_3 bM_4 bM_l bS_0 bS_1 bS_l bQ_0 bQ_1 bQ_l
        generalize hW : World.alloc _ _ = WA
        obtain ⟨gA, hg⟩ : ∃ g, g = w2.heap.size := ⟨_, rfl⟩
        have bA : Bk WA gA #[.int .i64 u, .int .i64 v] 2 := by rw [← hW]; exact Bk.new' hg
        have hb : Below w2.heap.size w2 WA := by rw [← hW]; exact (Below.refl _ _).alloc (Nat.le_refl _) _
        try rw [← hg]
        clear hW hg
        replace bM := bM.on hb
        replace bS := bS.on hb
        replace bQ := bQ.on hb
        replace HB := Lib.hid (bel_end HB.out hb)
        clear hb
        refine (are_any _ _ _ 2 [u, v] _ _ rfl (by omega) (ints2p bA)).mono ?_
        rintro e w3 ⟨rfl, hb⟩
        replace bM := bM.on hb
        replace bS := bS.on hb
        replace bQ := bQ.on hb
        replace HB := Lib.hid (bel_end HB.out hb)
        clear hb
        rw [anyLack_2, h2]
        have bM_0 := bM.cell 0 rfl
        have bM_1 := bM.cell 1 rfl
        have bM_2 := bM.cell 2 rfl
        have bM_3 := bM.cell 3 rfl
        have bM_4 := bM.cell 4 rfl
        have bM_l := bM.lt
        have bS_0 := bS.cell 0 rfl
        have bS_1 := bS.cell 1 rfl
        have bS_l := bS.lt
        have bQ_0 := bQ.cell 0 rfl
        have bQ_1 := bQ.cell 1 rfl
        have bQ_l := bQ.lt
        go_wp2_with fail
        clear bM_0 bM_1 bM_2 bM_3 bM_4 bM_l bS_0 bS_1 bS_l bQ_0 bQ_1 bQ_l
        generalize hW : World.alloc _ _ = WB
        obtain ⟨gB, hg⟩ : ∃ g, g = w3.heap.size := ⟨_, rfl⟩
        have bB : Bk WB gB #[.int .i64 s] 2 := by rw [← hW]; exact Bk.new' hg
        have hb : Below w3.heap.size w3 WB := by rw [← hW]; exact (Below.refl _ _).alloc (Nat.le_refl _) _
        try rw [← hg]
        clear hW hg
        replace bM := bM.on hb
        replace bS := bS.on hb
        replace bQ := bQ.on hb
        replace HB := Lib.hid (bel_end HB.out hb)
        clear hb
        refine (are_any _ _ _ 1 [s] _ _ rfl (by omega) (ints1p bB)).mono ?_
        rintro e w4 ⟨rfl, hb⟩
        replace bM := bM.on hb
        replace bS := bS.on hb
        replace bQ := bQ.on hb
        replace HB := Lib.hid (bel_end HB.out hb)
        clear hb
        rw [anyLack_1, h3]
        have bM_0 := bM.cell 0 rfl
        have bM_1 := bM.cell 1 rfl
        have bM_2 := bM.cell 2 rfl
        have bM_3 := bM.cell 3 rfl
        have bM_4 := bM.cell 4 rfl
        have bM_l := bM.lt
        have bS_0 := bS.cell 0 rfl
        have bS_1 := bS.cell 1 rfl
        have bS_l := bS.lt
        have bQ_0 := bQ.cell 0 rfl
        have bQ_1 := bQ.cell 1 rfl
        have bQ_l := bQ.lt
        go_wp2
        go_ret
        exact ⟨ret_bool (by unfold mtB; rw [h1, Bool.true_and, h2, h3]; rfl), HB.out⟩

set_option maxRecDepth 100000 in
set_option maxHeartbeats 2000000 in
theorem inm_any (w : World) (x y u v s : Int) :
    Calls Try.prog 100 #[.agg #[.int .i64 x, .int .i64 y, .int .i64 u, .int .i64 v, .int .i64 s]] w fun e w' => e = .returned (.bool (!mtB x y u v s)) ∧ Below w.heap.size w w' := by
  go_enter Try.func100, Try.ntmps100
  go_wp2_with fail
  generalize hW : World.alloc _ _ = W
  have bM : Bk W (w.heap.size) #[.int .i64 x, .int .i64 y, .int .i64 u, .int .i64 v, .int .i64 s] 32 := by rw [← hW]; repeat (first | (refine Bk.new' ?_; (simp; done)) | refine Bk.alloc ?_ _)
  have HB : Hid (Below w.heap.size w W) := Lib.hid (by rw [← hW]; exact (by repeat (first | exact Below.refl _ _ | (refine Below.alloc ?_ (by simp <;> omega) _) | (refine Below.setCell ?_ (by simp <;> omega) _) | (refine Below.drew ?_) | (refine bel_drewN ?_ _))))
  clear hW
  refine (imo_any _ x y u v s).mono ?_
  rintro e w1 ⟨rfl, hb⟩
  replace bM := bM.on hb
  replace HB := Lib.hid (bel_end HB.out hb)
  clear hb
  have bM_0 := bM.cell 0 rfl
  have bM_1 := bM.cell 1 rfl
  have bM_2 := bM.cell 2 rfl
  have bM_3 := bM.cell 3 rfl
  have bM_4 := bM.cell 4 rfl
  have bM_l := bM.lt
  go_wp2
  go_ret
  exact ⟨rfl, HB.out⟩

set_option maxRecDepth 100000 in
set_option maxHeartbeats 2000000 in
theorem inc_any (w : World) (x y : Int) :
    Calls Try.prog 102 #[.agg #[.int .i64 x, .int .i64 y]] w fun e w' => e = .returned (.bool (!ctB x y)) ∧ Below w.heap.size w w' := by
  go_enter Try.func102, Try.ntmps102
  go_wp2_with fail
  generalize hW : World.alloc _ _ = W
  have bC : Bk W (w.heap.size) #[.int .i64 x, .int .i64 y] 79 := by rw [← hW]; repeat (first | (refine Bk.new' ?_; (simp; done)) | refine Bk.alloc ?_ _)
  have HB : Hid (Below w.heap.size w W) := Lib.hid (by rw [← hW]; exact (by repeat (first | exact Below.refl _ _ | (refine Below.alloc ?_ (by simp <;> omega) _) | (refine Below.setCell ?_ (by simp <;> omega) _) | (refine Below.drew ?_) | (refine bel_drewN ?_ _))))
  clear hW
  refine (iwi_any _ 100000 x y (by omega) (by omega)).mono ?_
  rintro e w1 ⟨rfl, hb⟩
  replace bC := bC.on hb
  replace HB := Lib.hid (bel_end HB.out hb)
  clear hb
  have bC_0 := bC.cell 0 rfl
  have bC_1 := bC.cell 1 rfl
  have bC_l := bC.lt
  go_wp2
  go_ret
  exact ⟨rfl, HB.out⟩
end Go.Proofs.Ytlahgdhofakinaa
