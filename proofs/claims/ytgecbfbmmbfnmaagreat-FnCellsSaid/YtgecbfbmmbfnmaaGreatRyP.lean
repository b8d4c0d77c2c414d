import Derived.Test.YtgecbfbmmbfnmaaGreatArcR
import Derived.Test.YtgecbfbmmbfnmaaGreatArcG
import Derived.Handy
import Derived.Deep.RegionHeld3
import Derived.Deep.DeepCutAuto
import Derived.Deep.RegionWith
namespace Go.Proofs.YtgecbfbmmbfnmaaGreat
/- Contracts of the program's rays: events and steps. -/
open Go.ChangeShapes Go.WideShapes Go.ChangeAt Go.RowKit Go.Shelf Num
set_option linter.unusedVariables false
set_option linter.unusedSimpArgs false

/-- the knot ahead, as an integer -/
def fkI (k : Nat) (dn : Bool) : Int := if dn then (k : Int) + 1 else (k : Int) - 1
theorem fkI_n {n k : Nat} {dn : Bool} (h : inP n k dn = true) : fkI k dn = ((fk k dn : Nat) : Int) := by
  cases dn
  · have h' : 0 < k := by simpa [inP] using h
    show (k : Int) - 1 = ((k - 1 : Nat) : Int)
    omega
  · rfl
/-- an event as a value -/
def evW (a b : Option Addr) (ca cb : Nat) (zs ys : List Int) (i : Nat) (c s h : Int) (k : Nat) (dn : Bool) : Value :=
  if inP zs.length k dn then (if crB ys (i : Int) c h (fk k dn : Nat) then .iface 117 (.agg #[.slice a zs.length ca, .slice b ys.length cb, .int .i64 (i : Int), .int .i64 c, .int .i64 s, .int .i64 h, .int .i64 (k : Int), .int .i64 (fkI k dn)]) else .iface 118 (.agg #[.slice a zs.length ca, .slice b ys.length cb, .int .i64 (i : Int), .int .i64 c, .int .i64 s, .int .i64 h, .int .i64 (k : Int), .int .i64 (fkI k dn)])) else (if dn then .iface 142 (.agg #[]) else .iface 120 (.agg #[]))

set_option maxRecDepth 100000 in
set_option maxHeartbeats 2000000 in
theorem pls_any (x y u v : Int) (h1 : -8000000000000000000 ≤ x + u) (h2 : x + u ≤ 8000000000000000000) (h3 : -8000000000000000000 ≤ y + v) (h4 : y + v ≤ 8000000000000000000) (w : World) :
    Calls Tryz.prog 52 #[.agg #[.int .i64 x, .int .i64 y], .agg #[.int .i64 u, .int .i64 v]] w fun e w' => e = .returned (.agg #[.int .i64 (x + u), .int .i64 (y + v)]) ∧ Below w.heap.size w w' := by
  have e1 : IntKind.wrap .i64 (x + u) = x + u := IntWalk.i64_in _ (by omega)
  have e2 : IntKind.wrap .i64 (y + v) = y + v := IntWalk.i64_in _ (by omega)
  go_enter Tryz.func52, Tryz.ntmps52
  go_wp2
  exact bodyPost_ret (v := .agg #[.int .i64 (x + u), .int .i64 (y + v)]) (by simp [results, Tryz.results52, go_sem]) rfl ⟨rfl, (by repeat (first | exact Below.refl _ _ | (refine Below.alloc ?_ (by simp <;> omega) _) | (refine Below.setCell ?_ (by simp <;> omega) _) | (refine Below.drew ?_) | (refine bel_drewN ?_ _)))⟩
theorem ta_11 (w : World) (v : Value) : (Instr.typeAssert (.iface 117 v) 79 117 true).run Tryz.prog w = .ok (.tuple #[v, .bool true]) w := by kernel_rfl
theorem ta_12 (w : World) (v : Value) : (Instr.typeAssert (.iface 117 v) 79 118 true).run Tryz.prog w = .ok (.tuple #[.agg #[.slice none 0 0, .slice none 0 0, .int .i64 0, .int .i64 0, .int .i64 0, .int .i64 0, .int .i64 0, .int .i64 0], .bool false]) w := by kernel_rfl
theorem ta_13 (w : World) (v : Value) : (Instr.typeAssert (.iface 117 v) 79 120 true).run Tryz.prog w = .ok (.tuple #[.agg #[], .bool false]) w := by kernel_rfl
theorem ta_21 (w : World) (v : Value) : (Instr.typeAssert (.iface 118 v) 79 117 true).run Tryz.prog w = .ok (.tuple #[.agg #[.slice none 0 0, .slice none 0 0, .int .i64 0, .int .i64 0, .int .i64 0, .int .i64 0, .int .i64 0, .int .i64 0], .bool false]) w := by kernel_rfl
theorem ta_22 (w : World) (v : Value) : (Instr.typeAssert (.iface 118 v) 79 118 true).run Tryz.prog w = .ok (.tuple #[v, .bool true]) w := by kernel_rfl
theorem ta_23 (w : World) (v : Value) : (Instr.typeAssert (.iface 118 v) 79 120 true).run Tryz.prog w = .ok (.tuple #[.agg #[], .bool false]) w := by kernel_rfl
theorem ta_31 (w : World) (v : Value) : (Instr.typeAssert (.iface 120 v) 79 117 true).run Tryz.prog w = .ok (.tuple #[.agg #[.slice none 0 0, .slice none 0 0, .int .i64 0, .int .i64 0, .int .i64 0, .int .i64 0, .int .i64 0, .int .i64 0], .bool false]) w := by kernel_rfl
theorem ta_32 (w : World) (v : Value) : (Instr.typeAssert (.iface 120 v) 79 118 true).run Tryz.prog w = .ok (.tuple #[.agg #[.slice none 0 0, .slice none 0 0, .int .i64 0, .int .i64 0, .int .i64 0, .int .i64 0, .int .i64 0, .int .i64 0], .bool false]) w := by kernel_rfl
theorem ta_33 (w : World) (v : Value) : (Instr.typeAssert (.iface 120 v) 79 120 true).run Tryz.prog w = .ok (.tuple #[v, .bool true]) w := by kernel_rfl
theorem ta_41 (w : World) (v : Value) : (Instr.typeAssert (.iface 142 v) 79 117 true).run Tryz.prog w = .ok (.tuple #[.agg #[.slice none 0 0, .slice none 0 0, .int .i64 0, .int .i64 0, .int .i64 0, .int .i64 0, .int .i64 0, .int .i64 0], .bool false]) w := by kernel_rfl
theorem ta_42 (w : World) (v : Value) : (Instr.typeAssert (.iface 142 v) 79 118 true).run Tryz.prog w = .ok (.tuple #[.agg #[.slice none 0 0, .slice none 0 0, .int .i64 0, .int .i64 0, .int .i64 0, .int .i64 0, .int .i64 0, .int .i64 0], .bool false]) w := by kernel_rfl
theorem ta_43 (w : World) (v : Value) : (Instr.typeAssert (.iface 142 v) 79 120 true).run Tryz.prog w = .ok (.tuple #[.agg #[], .bool false]) w := by kernel_rfl

set_option maxRecDepth 100000 in
set_option maxHeartbeats 2000000 in
theorem kin_any (w : World) (a b : Option Addr) (ca cb : Nat) (zs ys : List Int) (i : Nat) (c s h : Int) (k : Nat) (dn : Bool) :
    Calls Tryz.prog 28 #[evW a b ca cb zs ys i c s h k dn] w fun e w' => e = .returned (.int .i64 (evV zs ys i c h k dn)) ∧ Below w.heap.size w w' := by
  unfold evW evV
  cases inP zs.length k dn <;> cases crB ys (i : Int) c h (fk k dn : Nat) <;> cases dn
  all_goals
    simp only [if_true, if_false, Bool.false_eq_true]
    have t_11 := ta_11
    have t_12 := ta_12
    have t_13 := ta_13
    have t_21 := ta_21
    have t_22 := ta_22
    have t_23 := ta_23
    have t_31 := ta_31
    have t_32 := ta_32
    have t_33 := ta_33
    have t_41 := ta_41
    have t_42 := ta_42
    have t_43 := ta_43
    go_enter Tryz.func28, Tryz.ntmps28
    go_wp2
    go_ret
    exact ⟨rfl, (by repeat (first | exact Below.refl _ _ | (refine Below.alloc ?_ (by simp <;> omega) _) | (refine Below.setCell ?_ (by simp <;> omega) _) | (refine Below.drew ?_) | (refine bel_drewN ?_ _)))⟩

set_option maxRecDepth 100000 in
set_option maxHeartbeats 4000000 in
theorem nev_any (w : World) (a b : Option Addr) (ca cb : Nat) (zs ys : List Int) (i k : Nat) (c s h lo hi : Int) (dn : Bool) (hp : Prof w w.heap.size a b zs ys) (r : RyOk zs ys i c s h) (hk : k < zs.length) (hx : crB ys (i : Int) c h (k : Int) = true) :
    Calls Tryz.prog 72 #[.agg #[.slice a zs.length ca, .slice b ys.length cb, .int .i64 (i : Int), .int .i64 c, .int .i64 s, .int .i64 h], .agg #[.int .i64 (k : Int), .bool dn, .int .i64 lo, .int .i64 hi]] w fun e w' => e = .returned (evW a b ca cb zs ys i c s h k dn) ∧ Below w.heap.size w w' := by
  have HP := Lib.hid hp
  have h12 := r.ok.n12
  unfold evW
  cases dn
  case true =>
    cases hin : inP zs.length k true
    case false =>
      have g : ¬ k + 1 < zs.length := by simpa [inP] using hin
      have ew : IntKind.wrap .i64 ((k : Int) + 1) = ((k : Int) + 1) := by exact IntWalk.i64_in _ (by omega)
      have KH : Hid (∀ W : World, Below w.heap.size w W → Calls Tryz.prog 37 #[.agg #[.slice a zs.length ca, .slice b ys.length cb], .int .i64 ((k : Int) + 1)] W fun e w' => e = .returned (.bool false) ∧ Below W.heap.size W w') := Lib.hid (fun W hb => by have := hkt_any W a b ca cb zs ys ((k : Int) + 1) (by omega); rwa [show hkB zs ((k : Int) + 1) = false by unfold hkB; simp <;> omega] at this)
      clear h12 hp r hk hx g hin
      go_enter Tryz.func72, Tryz.ntmps72
      go_wp2_with fail
      generalize hW : World.alloc _ _ = W
      have bX : Bk W (w.heap.size) #[.slice a zs.length ca, .slice b ys.length cb, .int .i64 (i : Int), .int .i64 c, .int .i64 s, .int .i64 h] 74 := by rw [← hW]; repeat (first | (refine Bk.new' ?_; (simp; done)) | refine Bk.alloc ?_ _)
      have bS : Bk W (w.heap.size + 1) #[.int .i64 (k : Int), .bool true, .int .i64 lo, .int .i64 hi] 38 := by rw [← hW]; repeat (first | (refine Bk.new' ?_; (simp; done)) | refine Bk.alloc ?_ _)
      have bA : Bk W (w.heap.size + 1 + 1) #[.slice a zs.length ca, .slice b ys.length cb, .int .i64 (i : Int), .int .i64 c, .int .i64 s, .int .i64 h, .int .i64 (k : Int), .int .i64 ((k : Int) + 1)] 115 := by rw [← hW]; repeat (first | (refine Bk.new' ?_; (simp; done)) | refine Bk.alloc ?_ _)
      have HB : Hid (Below w.heap.size w W) := Lib.hid (by rw [← hW]; exact (by repeat (first | exact Below.refl _ _ | (refine Below.alloc ?_ (by simp <;> omega) _) | (refine Below.setCell ?_ (by simp <;> omega) _) | (refine Below.drew ?_) | (refine bel_drewN ?_ _))))
      clear hW
      (with_reducible refine Calls.mono (KH.out _ HB.out) ?_)
      rintro e w1 ⟨rfl, hb⟩
      replace bX := bX.on hb
      replace bS := bS.on hb
      replace bA := bA.on hb
      replace HB := Lib.hid (bel_end HB.out hb)
      clear hb
      have bX_0 := bX.cell 0 rfl
      have bX_1 := bX.cell 1 rfl
      have bX_2 := bX.cell 2 rfl
      have bX_3 := bX.cell 3 rfl
      have bX_4 := bX.cell 4 rfl
      have bX_5 := bX.cell 5 rfl
      have bX_l := bX.lt
      have bS_0 := bS.cell 0 rfl
      have bS_1 := bS.cell 1 rfl
      have bS_2 := bS.cell 2 rfl
      have bS_3 := bS.cell 3 rfl
      have bS_l := bS.lt
      have bA_0 := bA.cell 0 rfl
      have bA_1 := bA.cell 1 rfl
      have bA_2 := bA.cell 2 rfl
      have bA_3 := bA.cell 3 rfl
      have bA_4 := bA.cell 4 rfl
      have bA_5 := bA.cell 5 rfl
      have bA_6 := bA.cell 6 rfl
      have bA_7 := bA.cell 7 rfl
      have bA_l := bA.lt
      go_wp2
      go_ret
      exact ⟨rfl, HB.out⟩
    case true =>
      have g : k + 1 < zs.length := by simpa [inP] using hin
      cases hc : crB ys (i : Int) c h (fk k true : Nat)
      all_goals rw [show fk k true = k + 1 from rfl] at hc
      all_goals simp only [if_true, if_false, Bool.false_eq_true]
      case true =>
        have ew : IntKind.wrap .i64 ((k : Int) + 1) = ((k : Int) + 1) := by exact IntWalk.i64_in _ (by omega)
        have KH : Hid (∀ W : World, Below w.heap.size w W → Calls Tryz.prog 37 #[.agg #[.slice a zs.length ca, .slice b ys.length cb], .int .i64 ((k : Int) + 1)] W fun e w' => e = .returned (.bool true) ∧ Below W.heap.size W w') := Lib.hid (fun W hb => by have := hkt_any W a b ca cb zs ys ((k : Int) + 1) (by omega); rwa [show hkB zs ((k : Int) + 1) = true by unfold hkB; simp <;> omega] at this)
        have KV : Hid (∀ W : World, Below w.heap.size w W → Calls Tryz.prog 81 #[.agg #[.slice a zs.length ca, .slice b ys.length cb, .int .i64 (i : Int), .int .i64 c, .int .i64 s, .int .i64 h, .int .i64 (k : Int), .int .i64 ((k : Int) + 1)]] W fun e w' => e = .returned (.int .i64 1) ∧ Below W.heap.size W w') := Lib.hid (fun W hb => by have := avd_any W a b ca cb zs ys i k (k + 1) c s h (HP.out.on hb) r hk (by omega); rwa [show vdV ys i c h k (k + 1) = 1 by unfold vdV; rw [hx, hc]; rfl, show (((k + 1) : Nat) : Int) = ((k : Int) + 1) by omega] at this)
        clear h12 hp r hk hx g hin hc
        unfold fkI
        go_enter Tryz.func72, Tryz.ntmps72
        go_wp2_with fail
        generalize hW : World.alloc _ _ = W
        have bX : Bk W (w.heap.size) #[.slice a zs.length ca, .slice b ys.length cb, .int .i64 (i : Int), .int .i64 c, .int .i64 s, .int .i64 h] 74 := by rw [← hW]; repeat (first | (refine Bk.new' ?_; (simp; done)) | refine Bk.alloc ?_ _)
        have bS : Bk W (w.heap.size + 1) #[.int .i64 (k : Int), .bool true, .int .i64 lo, .int .i64 hi] 38 := by rw [← hW]; repeat (first | (refine Bk.new' ?_; (simp; done)) | refine Bk.alloc ?_ _)
        have bA : Bk W (w.heap.size + 1 + 1) #[.slice a zs.length ca, .slice b ys.length cb, .int .i64 (i : Int), .int .i64 c, .int .i64 s, .int .i64 h, .int .i64 (k : Int), .int .i64 ((k : Int) + 1)] 115 := by rw [← hW]; repeat (first | (refine Bk.new' ?_; (simp; done)) | refine Bk.alloc ?_ _)
        have HB : Hid (Below w.heap.size w W) := Lib.hid (by rw [← hW]; exact (by repeat (first | exact Below.refl _ _ | (refine Below.alloc ?_ (by simp <;> omega) _) | (refine Below.setCell ?_ (by simp <;> omega) _) | (refine Below.drew ?_) | (refine bel_drewN ?_ _))))
        clear hW
        (with_reducible refine Calls.mono (KH.out _ HB.out) ?_)
        rintro e w1 ⟨rfl, hb⟩
        replace bX := bX.on hb
        replace bS := bS.on hb
        replace bA := bA.on hb
        replace HB := Lib.hid (bel_end HB.out hb)
        clear hb
        have bX_0 := bX.cell 0 rfl
        have bX_1 := bX.cell 1 rfl
        have bX_2 := bX.cell 2 rfl
        have bX_3 := bX.cell 3 rfl
        have bX_4 := bX.cell 4 rfl
        have bX_5 := bX.cell 5 rfl
        have bX_l := bX.lt
        have bS_0 := bS.cell 0 rfl
        have bS_1 := bS.cell 1 rfl
        have bS_2 := bS.cell 2 rfl
        have bS_3 := bS.cell 3 rfl
        have bS_l := bS.lt
        have bA_0 := bA.cell 0 rfl
        have bA_1 := bA.cell 1 rfl
        have bA_2 := bA.cell 2 rfl
        have bA_3 := bA.cell 3 rfl
        have bA_4 := bA.cell 4 rfl
        have bA_5 := bA.cell 5 rfl
        have bA_6 := bA.cell 6 rfl
        have bA_7 := bA.cell 7 rfl
        have bA_l := bA.lt
        go_wp2_with fail
        clear bX_0 bX_1 bX_2 bX_3 bX_4 bX_5 bX_l
        clear bS_0 bS_1 bS_2 bS_3 bS_l
        clear bA_0 bA_1 bA_2 bA_3 bA_4 bA_5 bA_6 bA_7 bA_l
        (with_reducible refine Calls.mono (KH.out _ HB.out) ?_)
        rintro e w2 ⟨rfl, hb⟩
        replace bX := bX.on hb
        replace bS := bS.on hb
        replace bA := bA.on hb
        replace HB := Lib.hid (bel_end HB.out hb)
        clear hb
        have bX_0 := bX.cell 0 rfl
        have bX_1 := bX.cell 1 rfl
        have bX_2 := bX.cell 2 rfl
        have bX_3 := bX.cell 3 rfl
        have bX_4 := bX.cell 4 rfl
        have bX_5 := bX.cell 5 rfl
        have bX_l := bX.lt
        have bS_0 := bS.cell 0 rfl
        have bS_1 := bS.cell 1 rfl
        have bS_2 := bS.cell 2 rfl
        have bS_3 := bS.cell 3 rfl
        have bS_l := bS.lt
        have bA_0 := bA.cell 0 rfl
        have bA_1 := bA.cell 1 rfl
        have bA_2 := bA.cell 2 rfl
        have bA_3 := bA.cell 3 rfl
        have bA_4 := bA.cell 4 rfl
        have bA_5 := bA.cell 5 rfl
        have bA_6 := bA.cell 6 rfl
        have bA_7 := bA.cell 7 rfl
        have bA_l := bA.lt
        go_wp2_with fail
        clear bX_0 bX_1 bX_2 bX_3 bX_4 bX_5 bX_l
        clear bS_0 bS_1 bS_2 bS_3 bS_l
        clear bA_0 bA_1 bA_2 bA_3 bA_4 bA_5 bA_6 bA_7 bA_l
        (with_reducible refine Calls.mono (KV.out _ HB.out) ?_)
        rintro e w3 ⟨rfl, hb⟩
        replace bX := bX.on hb
        replace bS := bS.on hb
        replace bA := bA.on hb
        replace HB := Lib.hid (bel_end HB.out hb)
        clear hb
        have bX_0 := bX.cell 0 rfl
        have bX_1 := bX.cell 1 rfl
        have bX_2 := bX.cell 2 rfl
        have bX_3 := bX.cell 3 rfl
        have bX_4 := bX.cell 4 rfl
        have bX_5 := bX.cell 5 rfl
        have bX_l := bX.lt
        have bS_0 := bS.cell 0 rfl
        have bS_1 := bS.cell 1 rfl
        have bS_2 := bS.cell 2 rfl
        have bS_3 := bS.cell 3 rfl
        have bS_l := bS.lt
        have bA_0 := bA.cell 0 rfl
        have bA_1 := bA.cell 1 rfl
        have bA_2 := bA.cell 2 rfl
        have bA_3 := bA.cell 3 rfl
        have bA_4 := bA.cell 4 rfl
        have bA_5 := bA.cell 5 rfl
        have bA_6 := bA.cell 6 rfl
        have bA_7 := bA.cell 7 rfl
        have bA_l := bA.lt
        go_wp2
        go_ret
        exact ⟨rfl, HB.out⟩
      case false =>
        have ew : IntKind.wrap .i64 ((k : Int) + 1) = ((k : Int) + 1) := by exact IntWalk.i64_in _ (by omega)
        have KH : Hid (∀ W : World, Below w.heap.size w W → Calls Tryz.prog 37 #[.agg #[.slice a zs.length ca, .slice b ys.length cb], .int .i64 ((k : Int) + 1)] W fun e w' => e = .returned (.bool true) ∧ Below W.heap.size W w') := Lib.hid (fun W hb => by have := hkt_any W a b ca cb zs ys ((k : Int) + 1) (by omega); rwa [show hkB zs ((k : Int) + 1) = true by unfold hkB; simp <;> omega] at this)
        have KV : Hid (∀ W : World, Below w.heap.size w W → Calls Tryz.prog 81 #[.agg #[.slice a zs.length ca, .slice b ys.length cb, .int .i64 (i : Int), .int .i64 c, .int .i64 s, .int .i64 h, .int .i64 (k : Int), .int .i64 ((k : Int) + 1)]] W fun e w' => e = .returned (.int .i64 2) ∧ Below W.heap.size W w') := Lib.hid (fun W hb => by have := avd_any W a b ca cb zs ys i k (k + 1) c s h (HP.out.on hb) r hk (by omega); rwa [show vdV ys i c h k (k + 1) = 2 by unfold vdV; rw [hx, hc]; rfl, show (((k + 1) : Nat) : Int) = ((k : Int) + 1) by omega] at this)
        clear h12 hp r hk hx g hin hc
        unfold fkI
        go_enter Tryz.func72, Tryz.ntmps72
        go_wp2_with fail
        generalize hW : World.alloc _ _ = W
        have bX : Bk W (w.heap.size) #[.slice a zs.length ca, .slice b ys.length cb, .int .i64 (i : Int), .int .i64 c, .int .i64 s, .int .i64 h] 74 := by rw [← hW]; repeat (first | (refine Bk.new' ?_; (simp; done)) | refine Bk.alloc ?_ _)
        have bS : Bk W (w.heap.size + 1) #[.int .i64 (k : Int), .bool true, .int .i64 lo, .int .i64 hi] 38 := by rw [← hW]; repeat (first | (refine Bk.new' ?_; (simp; done)) | refine Bk.alloc ?_ _)
        have bA : Bk W (w.heap.size + 1 + 1) #[.slice a zs.length ca, .slice b ys.length cb, .int .i64 (i : Int), .int .i64 c, .int .i64 s, .int .i64 h, .int .i64 (k : Int), .int .i64 ((k : Int) + 1)] 115 := by rw [← hW]; repeat (first | (refine Bk.new' ?_; (simp; done)) | refine Bk.alloc ?_ _)
        have HB : Hid (Below w.heap.size w W) := Lib.hid (by rw [← hW]; exact (by repeat (first | exact Below.refl _ _ | (refine Below.alloc ?_ (by simp <;> omega) _) | (refine Below.setCell ?_ (by simp <;> omega) _) | (refine Below.drew ?_) | (refine bel_drewN ?_ _))))
        clear hW
        (with_reducible refine Calls.mono (KH.out _ HB.out) ?_)
        rintro e w1 ⟨rfl, hb⟩
        replace bX := bX.on hb
        replace bS := bS.on hb
        replace bA := bA.on hb
        replace HB := Lib.hid (bel_end HB.out hb)
        clear hb
        have bX_0 := bX.cell 0 rfl
        have bX_1 := bX.cell 1 rfl
        have bX_2 := bX.cell 2 rfl
        have bX_3 := bX.cell 3 rfl
        have bX_4 := bX.cell 4 rfl
        have bX_5 := bX.cell 5 rfl
        have bX_l := bX.lt
        have bS_0 := bS.cell 0 rfl
        have bS_1 := bS.cell 1 rfl
        have bS_2 := bS.cell 2 rfl
        have bS_3 := bS.cell 3 rfl
        have bS_l := bS.lt
        have bA_0 := bA.cell 0 rfl
        have bA_1 := bA.cell 1 rfl
        have bA_2 := bA.cell 2 rfl
        have bA_3 := bA.cell 3 rfl
        have bA_4 := bA.cell 4 rfl
        have bA_5 := bA.cell 5 rfl
        have bA_6 := bA.cell 6 rfl
        have bA_7 := bA.cell 7 rfl
        have bA_l := bA.lt
        go_wp2_with fail
        clear bX_0 bX_1 bX_2 bX_3 bX_4 bX_5 bX_l
        clear bS_0 bS_1 bS_2 bS_3 bS_l
        clear bA_0 bA_1 bA_2 bA_3 bA_4 bA_5 bA_6 bA_7 bA_l
        (with_reducible refine Calls.mono (KH.out _ HB.out) ?_)
        rintro e w2 ⟨rfl, hb⟩
        replace bX := bX.on hb
        replace bS := bS.on hb
        replace bA := bA.on hb
        replace HB := Lib.hid (bel_end HB.out hb)
        clear hb
        have bX_0 := bX.cell 0 rfl
        have bX_1 := bX.cell 1 rfl
        have bX_2 := bX.cell 2 rfl
        have bX_3 := bX.cell 3 rfl
        have bX_4 := bX.cell 4 rfl
        have bX_5 := bX.cell 5 rfl
        have bX_l := bX.lt
        have bS_0 := bS.cell 0 rfl
        have bS_1 := bS.cell 1 rfl
        have bS_2 := bS.cell 2 rfl
        have bS_3 := bS.cell 3 rfl
        have bS_l := bS.lt
        have bA_0 := bA.cell 0 rfl
        have bA_1 := bA.cell 1 rfl
        have bA_2 := bA.cell 2 rfl
        have bA_3 := bA.cell 3 rfl
        have bA_4 := bA.cell 4 rfl
        have bA_5 := bA.cell 5 rfl
        have bA_6 := bA.cell 6 rfl
        have bA_7 := bA.cell 7 rfl
        have bA_l := bA.lt
        go_wp2_with fail
        clear bX_0 bX_1 bX_2 bX_3 bX_4 bX_5 bX_l
        clear bS_0 bS_1 bS_2 bS_3 bS_l
        clear bA_0 bA_1 bA_2 bA_3 bA_4 bA_5 bA_6 bA_7 bA_l
        (with_reducible refine Calls.mono (KV.out _ HB.out) ?_)
        rintro e w3 ⟨rfl, hb⟩
        replace bX := bX.on hb
        replace bS := bS.on hb
        replace bA := bA.on hb
        replace HB := Lib.hid (bel_end HB.out hb)
        clear hb
        have bX_0 := bX.cell 0 rfl
        have bX_1 := bX.cell 1 rfl
        have bX_2 := bX.cell 2 rfl
        have bX_3 := bX.cell 3 rfl
        have bX_4 := bX.cell 4 rfl
        have bX_5 := bX.cell 5 rfl
        have bX_l := bX.lt
        have bS_0 := bS.cell 0 rfl
        have bS_1 := bS.cell 1 rfl
        have bS_2 := bS.cell 2 rfl
        have bS_3 := bS.cell 3 rfl
        have bS_l := bS.lt
        have bA_0 := bA.cell 0 rfl
        have bA_1 := bA.cell 1 rfl
        have bA_2 := bA.cell 2 rfl
        have bA_3 := bA.cell 3 rfl
        have bA_4 := bA.cell 4 rfl
        have bA_5 := bA.cell 5 rfl
        have bA_6 := bA.cell 6 rfl
        have bA_7 := bA.cell 7 rfl
        have bA_l := bA.lt
        go_wp2
        go_ret
        exact ⟨rfl, HB.out⟩
  case false =>
    cases hin : inP zs.length k false
    case false =>
      have g0 : ¬ 0 < k := by simpa [inP] using hin
      have g : k = 0 := by omega
      clear g0 hin
      subst g
      have ew : IntKind.wrap .i64 ((0 : Int) - 1) = (-1 : Int) := by decide
      have KH : Hid (∀ W : World, Below w.heap.size w W → Calls Tryz.prog 37 #[.agg #[.slice a zs.length ca, .slice b ys.length cb], .int .i64 (-1 : Int)] W fun e w' => e = .returned (.bool false) ∧ Below W.heap.size W w') := Lib.hid (fun W hb => by have := hkt_any W a b ca cb zs ys (-1 : Int) (by omega); rwa [show hkB zs (-1 : Int) = false by unfold hkB; simp <;> omega] at this)
      clear h12 hp r hk hx
      go_enter Tryz.func72, Tryz.ntmps72
      go_wp2_with fail
      generalize hW : World.alloc _ _ = W
      have bX : Bk W (w.heap.size) #[.slice a zs.length ca, .slice b ys.length cb, .int .i64 (i : Int), .int .i64 c, .int .i64 s, .int .i64 h] 74 := by rw [← hW]; repeat (first | (refine Bk.new' ?_; (simp; done)) | refine Bk.alloc ?_ _)
      have bS : Bk W (w.heap.size + 1) #[.int .i64 0, .bool false, .int .i64 lo, .int .i64 hi] 38 := by rw [← hW]; repeat (first | (refine Bk.new' ?_; (simp; done)) | refine Bk.alloc ?_ _)
      have bA : Bk W (w.heap.size + 1 + 1) #[.slice a zs.length ca, .slice b ys.length cb, .int .i64 (i : Int), .int .i64 c, .int .i64 s, .int .i64 h, .int .i64 0, .int .i64 (-1 : Int)] 115 := by rw [← hW]; repeat (first | (refine Bk.new' ?_; (simp; done)) | refine Bk.alloc ?_ _)
      have HB : Hid (Below w.heap.size w W) := Lib.hid (by rw [← hW]; exact (by repeat (first | exact Below.refl _ _ | (refine Below.alloc ?_ (by simp <;> omega) _) | (refine Below.setCell ?_ (by simp <;> omega) _) | (refine Below.drew ?_) | (refine bel_drewN ?_ _))))
      clear hW
      (with_reducible refine Calls.mono (KH.out _ HB.out) ?_)
      rintro e w1 ⟨rfl, hb⟩
      replace bX := bX.on hb
      replace bS := bS.on hb
      replace bA := bA.on hb
      replace HB := Lib.hid (bel_end HB.out hb)
      clear hb
      have bX_0 := bX.cell 0 rfl
      have bX_1 := bX.cell 1 rfl
      have bX_2 := bX.cell 2 rfl
      have bX_3 := bX.cell 3 rfl
      have bX_4 := bX.cell 4 rfl
      have bX_5 := bX.cell 5 rfl
      have bX_l := bX.lt
      have bS_0 := bS.cell 0 rfl
      have bS_1 := bS.cell 1 rfl
      have bS_2 := bS.cell 2 rfl
      have bS_3 := bS.cell 3 rfl
      have bS_l := bS.lt
      have bA_0 := bA.cell 0 rfl
      have bA_1 := bA.cell 1 rfl
      have bA_2 := bA.cell 2 rfl
      have bA_3 := bA.cell 3 rfl
      have bA_4 := bA.cell 4 rfl
      have bA_5 := bA.cell 5 rfl
      have bA_6 := bA.cell 6 rfl
      have bA_7 := bA.cell 7 rfl
      have bA_l := bA.lt
      go_wp2_with fail
      clear bX_0 bX_1 bX_2 bX_3 bX_4 bX_5 bX_l
      clear bS_0 bS_1 bS_2 bS_3 bS_l
      clear bA_0 bA_1 bA_2 bA_3 bA_4 bA_5 bA_6 bA_7 bA_l
      (with_reducible refine Calls.mono (KH.out _ HB.out) ?_)
      rintro e w2 ⟨rfl, hb⟩
      replace bX := bX.on hb
      replace bS := bS.on hb
      replace bA := bA.on hb
      replace HB := Lib.hid (bel_end HB.out hb)
      clear hb
      have bX_0 := bX.cell 0 rfl
      have bX_1 := bX.cell 1 rfl
      have bX_2 := bX.cell 2 rfl
      have bX_3 := bX.cell 3 rfl
      have bX_4 := bX.cell 4 rfl
      have bX_5 := bX.cell 5 rfl
      have bX_l := bX.lt
      have bS_0 := bS.cell 0 rfl
      have bS_1 := bS.cell 1 rfl
      have bS_2 := bS.cell 2 rfl
      have bS_3 := bS.cell 3 rfl
      have bS_l := bS.lt
      have bA_0 := bA.cell 0 rfl
      have bA_1 := bA.cell 1 rfl
      have bA_2 := bA.cell 2 rfl
      have bA_3 := bA.cell 3 rfl
      have bA_4 := bA.cell 4 rfl
      have bA_5 := bA.cell 5 rfl
      have bA_6 := bA.cell 6 rfl
      have bA_7 := bA.cell 7 rfl
      have bA_l := bA.lt
      go_wp2
      go_ret
      exact ⟨rfl, HB.out⟩
    case true =>
      have g : 0 < k := by simpa [inP] using hin
      cases hc : crB ys (i : Int) c h (fk k false : Nat)
      all_goals rw [show fk k false = k - 1 from rfl] at hc
      all_goals simp only [if_true, if_false, Bool.false_eq_true]
      case true =>
        have ew : IntKind.wrap .i64 ((k : Int) - 1) = ((k : Int) - 1) := by exact IntWalk.i64_in _ (by omega)
        have KH : Hid (∀ W : World, Below w.heap.size w W → Calls Tryz.prog 37 #[.agg #[.slice a zs.length ca, .slice b ys.length cb], .int .i64 ((k : Int) - 1)] W fun e w' => e = .returned (.bool true) ∧ Below W.heap.size W w') := Lib.hid (fun W hb => by have := hkt_any W a b ca cb zs ys ((k : Int) - 1) (by omega); rwa [show hkB zs ((k : Int) - 1) = true by unfold hkB; simp <;> omega] at this)
        have KV : Hid (∀ W : World, Below w.heap.size w W → Calls Tryz.prog 81 #[.agg #[.slice a zs.length ca, .slice b ys.length cb, .int .i64 (i : Int), .int .i64 c, .int .i64 s, .int .i64 h, .int .i64 (k : Int), .int .i64 ((k : Int) - 1)]] W fun e w' => e = .returned (.int .i64 1) ∧ Below W.heap.size W w') := Lib.hid (fun W hb => by have := avd_any W a b ca cb zs ys i k (k - 1) c s h (HP.out.on hb) r hk (by omega); rwa [show vdV ys i c h k (k - 1) = 1 by unfold vdV; rw [hx, hc]; rfl, show (((k - 1) : Nat) : Int) = ((k : Int) - 1) by omega] at this)
        clear h12 hp r hk hx g hin hc
        unfold fkI
        go_enter Tryz.func72, Tryz.ntmps72
        go_wp2_with fail
        generalize hW : World.alloc _ _ = W
        have bX : Bk W (w.heap.size) #[.slice a zs.length ca, .slice b ys.length cb, .int .i64 (i : Int), .int .i64 c, .int .i64 s, .int .i64 h] 74 := by rw [← hW]; repeat (first | (refine Bk.new' ?_; (simp; done)) | refine Bk.alloc ?_ _)
        have bS : Bk W (w.heap.size + 1) #[.int .i64 (k : Int), .bool false, .int .i64 lo, .int .i64 hi] 38 := by rw [← hW]; repeat (first | (refine Bk.new' ?_; (simp; done)) | refine Bk.alloc ?_ _)
        have bA : Bk W (w.heap.size + 1 + 1) #[.slice a zs.length ca, .slice b ys.length cb, .int .i64 (i : Int), .int .i64 c, .int .i64 s, .int .i64 h, .int .i64 (k : Int), .int .i64 ((k : Int) - 1)] 115 := by rw [← hW]; repeat (first | (refine Bk.new' ?_; (simp; done)) | refine Bk.alloc ?_ _)
        have HB : Hid (Below w.heap.size w W) := Lib.hid (by rw [← hW]; exact (by repeat (first | exact Below.refl _ _ | (refine Below.alloc ?_ (by simp <;> omega) _) | (refine Below.setCell ?_ (by simp <;> omega) _) | (refine Below.drew ?_) | (refine bel_drewN ?_ _))))
        clear hW
        (with_reducible refine Calls.mono (KH.out _ HB.out) ?_)
        rintro e w1 ⟨rfl, hb⟩
        replace bX := bX.on hb
        replace bS := bS.on hb
        replace bA := bA.on hb
        replace HB := Lib.hid (bel_end HB.out hb)
        clear hb
        have bX_0 := bX.cell 0 rfl
        have bX_1 := bX.cell 1 rfl
        have bX_2 := bX.cell 2 rfl
        have bX_3 := bX.cell 3 rfl
        have bX_4 := bX.cell 4 rfl
        have bX_5 := bX.cell 5 rfl
        have bX_l := bX.lt
        have bS_0 := bS.cell 0 rfl
        have bS_1 := bS.cell 1 rfl
        have bS_2 := bS.cell 2 rfl
        have bS_3 := bS.cell 3 rfl
        have bS_l := bS.lt
        have bA_0 := bA.cell 0 rfl
        have bA_1 := bA.cell 1 rfl
        have bA_2 := bA.cell 2 rfl
        have bA_3 := bA.cell 3 rfl
        have bA_4 := bA.cell 4 rfl
        have bA_5 := bA.cell 5 rfl
        have bA_6 := bA.cell 6 rfl
        have bA_7 := bA.cell 7 rfl
        have bA_l := bA.lt
        go_wp2_with fail
        clear bX_0 bX_1 bX_2 bX_3 bX_4 bX_5 bX_l
        clear bS_0 bS_1 bS_2 bS_3 bS_l
        clear bA_0 bA_1 bA_2 bA_3 bA_4 bA_5 bA_6 bA_7 bA_l
        (with_reducible refine Calls.mono (KH.out _ HB.out) ?_)
        rintro e w2 ⟨rfl, hb⟩
        replace bX := bX.on hb
        replace bS := bS.on hb
        replace bA := bA.on hb
        replace HB := Lib.hid (bel_end HB.out hb)
        clear hb
        have bX_0 := bX.cell 0 rfl
        have bX_1 := bX.cell 1 rfl
        have bX_2 := bX.cell 2 rfl
        have bX_3 := bX.cell 3 rfl
        have bX_4 := bX.cell 4 rfl
        have bX_5 := bX.cell 5 rfl
        have bX_l := bX.lt
        have bS_0 := bS.cell 0 rfl
        have bS_1 := bS.cell 1 rfl
        have bS_2 := bS.cell 2 rfl
        have bS_3 := bS.cell 3 rfl
        have bS_l := bS.lt
        have bA_0 := bA.cell 0 rfl
        have bA_1 := bA.cell 1 rfl
        have bA_2 := bA.cell 2 rfl
        have bA_3 := bA.cell 3 rfl
        have bA_4 := bA.cell 4 rfl
        have bA_5 := bA.cell 5 rfl
        have bA_6 := bA.cell 6 rfl
        have bA_7 := bA.cell 7 rfl
        have bA_l := bA.lt
        go_wp2_with fail
        clear bX_0 bX_1 bX_2 bX_3 bX_4 bX_5 bX_l
        clear bS_0 bS_1 bS_2 bS_3 bS_l
        clear bA_0 bA_1 bA_2 bA_3 bA_4 bA_5 bA_6 bA_7 bA_l
        (with_reducible refine Calls.mono (KV.out _ HB.out) ?_)
        rintro e w3 ⟨rfl, hb⟩
        replace bX := bX.on hb
        replace bS := bS.on hb
        replace bA := bA.on hb
        replace HB := Lib.hid (bel_end HB.out hb)
        clear hb
        have bX_0 := bX.cell 0 rfl
        have bX_1 := bX.cell 1 rfl
        have bX_2 := bX.cell 2 rfl
        have bX_3 := bX.cell 3 rfl
        have bX_4 := bX.cell 4 rfl
        have bX_5 := bX.cell 5 rfl
        have bX_l := bX.lt
        have bS_0 := bS.cell 0 rfl
        have bS_1 := bS.cell 1 rfl
        have bS_2 := bS.cell 2 rfl
        have bS_3 := bS.cell 3 rfl
        have bS_l := bS.lt
        have bA_0 := bA.cell 0 rfl
        have bA_1 := bA.cell 1 rfl
        have bA_2 := bA.cell 2 rfl
        have bA_3 := bA.cell 3 rfl
        have bA_4 := bA.cell 4 rfl
        have bA_5 := bA.cell 5 rfl
        have bA_6 := bA.cell 6 rfl
        have bA_7 := bA.cell 7 rfl
        have bA_l := bA.lt
        go_wp2
        go_ret
        exact ⟨rfl, HB.out⟩
      case false =>
        have ew : IntKind.wrap .i64 ((k : Int) - 1) = ((k : Int) - 1) := by exact IntWalk.i64_in _ (by omega)
        have KH : Hid (∀ W : World, Below w.heap.size w W → Calls Tryz.prog 37 #[.agg #[.slice a zs.length ca, .slice b ys.length cb], .int .i64 ((k : Int) - 1)] W fun e w' => e = .returned (.bool true) ∧ Below W.heap.size W w') := Lib.hid (fun W hb => by have := hkt_any W a b ca cb zs ys ((k : Int) - 1) (by omega); rwa [show hkB zs ((k : Int) - 1) = true by unfold hkB; simp <;> omega] at this)
        have KV : Hid (∀ W : World, Below w.heap.size w W → Calls Tryz.prog 81 #[.agg #[.slice a zs.length ca, .slice b ys.length cb, .int .i64 (i : Int), .int .i64 c, .int .i64 s, .int .i64 h, .int .i64 (k : Int), .int .i64 ((k : Int) - 1)]] W fun e w' => e = .returned (.int .i64 2) ∧ Below W.heap.size W w') := Lib.hid (fun W hb => by have := avd_any W a b ca cb zs ys i k (k - 1) c s h (HP.out.on hb) r hk (by omega); rwa [show vdV ys i c h k (k - 1) = 2 by unfold vdV; rw [hx, hc]; rfl, show (((k - 1) : Nat) : Int) = ((k : Int) - 1) by omega] at this)
        clear h12 hp r hk hx g hin hc
        unfold fkI
        go_enter Tryz.func72, Tryz.ntmps72
        go_wp2_with fail
        generalize hW : World.alloc _ _ = W
        have bX : Bk W (w.heap.size) #[.slice a zs.length ca, .slice b ys.length cb, .int .i64 (i : Int), .int .i64 c, .int .i64 s, .int .i64 h] 74 := by rw [← hW]; repeat (first | (refine Bk.new' ?_; (simp; done)) | refine Bk.alloc ?_ _)
        have bS : Bk W (w.heap.size + 1) #[.int .i64 (k : Int), .bool false, .int .i64 lo, .int .i64 hi] 38 := by rw [← hW]; repeat (first | (refine Bk.new' ?_; (simp; done)) | refine Bk.alloc ?_ _)
        have bA : Bk W (w.heap.size + 1 + 1) #[.slice a zs.length ca, .slice b ys.length cb, .int .i64 (i : Int), .int .i64 c, .int .i64 s, .int .i64 h, .int .i64 (k : Int), .int .i64 ((k : Int) - 1)] 115 := by rw [← hW]; repeat (first | (refine Bk.new' ?_; (simp; done)) | refine Bk.alloc ?_ _)
        have HB : Hid (Below w.heap.size w W) := Lib.hid (by rw [← hW]; exact (by repeat (first | exact Below.refl _ _ | (refine Below.alloc ?_ (by simp <;> omega) _) | (refine Below.setCell ?_ (by simp <;> omega) _) | (refine Below.drew ?_) | (refine bel_drewN ?_ _))))
        clear hW
        (with_reducible refine Calls.mono (KH.out _ HB.out) ?_)
        rintro e w1 ⟨rfl, hb⟩
        replace bX := bX.on hb
        replace bS := bS.on hb
        replace bA := bA.on hb
        replace HB := Lib.hid (bel_end HB.out hb)
        clear hb
        have bX_0 := bX.cell 0 rfl
        have bX_1 := bX.cell 1 rfl
        have bX_2 := bX.cell 2 rfl
        have bX_3 := bX.cell 3 rfl
        have bX_4 := bX.cell 4 rfl
        have bX_5 := bX.cell 5 rfl
        have bX_l := bX.lt
        have bS_0 := bS.cell 0 rfl
        have bS_1 := bS.cell 1 rfl
        have bS_2 := bS.cell 2 rfl
        have bS_3 := bS.cell 3 rfl
        have bS_l := bS.lt
        have bA_0 := bA.cell 0 rfl
        have bA_1 := bA.cell 1 rfl
        have bA_2 := bA.cell 2 rfl
        have bA_3 := bA.cell 3 rfl
        have bA_4 := bA.cell 4 rfl
        have bA_5 := bA.cell 5 rfl
        have bA_6 := bA.cell 6 rfl
        have bA_7 := bA.cell 7 rfl
        have bA_l := bA.lt
        go_wp2_with fail
        clear bX_0 bX_1 bX_2 bX_3 bX_4 bX_5 bX_l
        clear bS_0 bS_1 bS_2 bS_3 bS_l
        clear bA_0 bA_1 bA_2 bA_3 bA_4 bA_5 bA_6 bA_7 bA_l
        (with_reducible refine Calls.mono (KH.out _ HB.out) ?_)
        rintro e w2 ⟨rfl, hb⟩
        replace bX := bX.on hb
        replace bS := bS.on hb
        replace bA := bA.on hb
        replace HB := Lib.hid (bel_end HB.out hb)
        clear hb
        have bX_0 := bX.cell 0 rfl
        have bX_1 := bX.cell 1 rfl
        have bX_2 := bX.cell 2 rfl
        have bX_3 := bX.cell 3 rfl
        have bX_4 := bX.cell 4 rfl
        have bX_5 := bX.cell 5 rfl
        have bX_l := bX.lt
        have bS_0 := bS.cell 0 rfl
        have bS_1 := bS.cell 1 rfl
        have bS_2 := bS.cell 2 rfl
        have bS_3 := bS.cell 3 rfl
        have bS_l := bS.lt
        have bA_0 := bA.cell 0 rfl
        have bA_1 := bA.cell 1 rfl
        have bA_2 := bA.cell 2 rfl
        have bA_3 := bA.cell 3 rfl
        have bA_4 := bA.cell 4 rfl
        have bA_5 := bA.cell 5 rfl
        have bA_6 := bA.cell 6 rfl
        have bA_7 := bA.cell 7 rfl
        have bA_l := bA.lt
        go_wp2_with fail
        clear bX_0 bX_1 bX_2 bX_3 bX_4 bX_5 bX_l
        clear bS_0 bS_1 bS_2 bS_3 bS_l
        clear bA_0 bA_1 bA_2 bA_3 bA_4 bA_5 bA_6 bA_7 bA_l
        (with_reducible refine Calls.mono (KV.out _ HB.out) ?_)
        rintro e w3 ⟨rfl, hb⟩
        replace bX := bX.on hb
        replace bS := bS.on hb
        replace bA := bA.on hb
        replace HB := Lib.hid (bel_end HB.out hb)
        clear hb
        have bX_0 := bX.cell 0 rfl
        have bX_1 := bX.cell 1 rfl
        have bX_2 := bX.cell 2 rfl
        have bX_3 := bX.cell 3 rfl
        have bX_4 := bX.cell 4 rfl
        have bX_5 := bX.cell 5 rfl
        have bX_l := bX.lt
        have bS_0 := bS.cell 0 rfl
        have bS_1 := bS.cell 1 rfl
        have bS_2 := bS.cell 2 rfl
        have bS_3 := bS.cell 3 rfl
        have bS_l := bS.lt
        have bA_0 := bA.cell 0 rfl
        have bA_1 := bA.cell 1 rfl
        have bA_2 := bA.cell 2 rfl
        have bA_3 := bA.cell 3 rfl
        have bA_4 := bA.cell 4 rfl
        have bA_5 := bA.cell 5 rfl
        have bA_6 := bA.cell 6 rfl
        have bA_7 := bA.cell 7 rfl
        have bA_l := bA.lt
        go_wp2
        go_ret
        exact ⟨rfl, HB.out⟩
end Go.Proofs.YtgecbfbmmbfnmaaGreat
