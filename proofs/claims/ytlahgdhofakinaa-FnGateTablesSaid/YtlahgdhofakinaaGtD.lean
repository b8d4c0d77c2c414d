/- Slices of contacts and of motions as lists; the contracts of the checks over them, and of GateCost and InGate. -/
import Derived.Test.YtlahgdhofakinaaGtC
import Derived.LoopTactic
import Derived.StillTailTactics
import Derived.Outline
namespace Go.Proofs.Ytlahgdhofakinaa
open Go.ChangeShapes Go.WideShapes Go.ChangeAt Go.RowKit Go.Shelf Num
set_option linter.unusedVariables false
set_option linter.unusedSimpArgs false

/-- the slice at 'a' reads as the contacts 'ps'; its memory lies below block B -/
def Cts (w : World) (B : Nat) (a : Option Addr) (ps : List (Int × Int)) : Prop :=
  0 < ps.length → ∃ b off, a = some ⟨b, off, none⟩ ∧ b < B ∧ ∀ j, j < ps.length → w.cell? ⟨b, off + j * 2, none⟩ = some (.int .i64 (ps.getD j (0, 0)).1) ∧ w.cell? ⟨b, off + j * 2 + 1, none⟩ = some (.int .i64 (ps.getD j (0, 0)).2)
theorem Cts.below {w w' : World} {B : Nat} {a : Option Addr} {ps : List (Int × Int)} (h : Cts w B a ps) (hb : Below B w w') : Cts w' B a ps := fun hp => by
  obtain ⟨b, off, e, hB, hc⟩ := h hp
  exact ⟨b, off, e, hB, fun j hj => ⟨(hb.cell (p := ⟨b, off + j * 2, none⟩) hB).trans (hc j hj).1, (hb.cell (p := ⟨b, off + j * 2 + 1, none⟩) hB).trans (hc j hj).2⟩⟩
theorem Cts.more {w : World} {B B' : Nat} {a : Option Addr} {ps : List (Int × Int)} (h : Cts w B a ps) (hb : B ≤ B') : Cts w B' a ps := fun hp => by
  obtain ⟨b, off, e, hB, hc⟩ := h hp
  exact ⟨b, off, e, by omega, hc⟩
theorem Cts.on {w w' : World} {a : Option Addr} {ps : List (Int × Int)} (h : Cts w w.heap.size a ps) (hb : Below w.heap.size w w') : Cts w' w'.heap.size a ps := (h.below hb).more hb.size
theorem Cts.at_ {w : World} {B : Nat} {a : Option Addr} {ps : List (Int × Int)} (h : Cts w B a ps) {j : Nat} (hj : j < ps.length) :
    ∃ b off x y, a = some ⟨b, off, none⟩ ∧ b < B ∧ ps.getD j (0, 0) = (x, y) ∧ w.cell? ⟨b, off + j * 2, none⟩ = some (.int .i64 x) ∧ w.cell? ⟨b, off + j * 2 + 1, none⟩ = some (.int .i64 y) := by
  obtain ⟨b, off, e, hB, hc⟩ := h (by omega)
  exact ⟨b, off, _, _, e, hB, rfl, (hc j hj).1, (hc j hj).2⟩
theorem Cts.one {w : World} {g : Nat} {x y : Int} {t : TypeId} (h : Bk w g #[.int .i64 x, .int .i64 y] t) : Cts w w.heap.size (some ⟨g, 0, none⟩) [(x, y)] := fun _ =>
  ⟨g, 0, rfl, h.lt, fun j hj => by
    have : j = 0 := by simpa using hj
    subst this
    exact ⟨h.cell 0 rfl, h.cell 1 rfl⟩⟩
/-- a motion's five numbers -/
abbrev Mo := Int × Int × Int × Int × Int
def mo0 : Mo := (0, 0, 0, 0, 0)
/-- the slice at 'a' reads as the motions 'ms' -/
def Mts (w : World) (B : Nat) (a : Option Addr) (ms : List Mo) : Prop :=
  0 < ms.length → ∃ b off, a = some ⟨b, off, none⟩ ∧ b < B ∧ ∀ j, j < ms.length → w.cell? ⟨b, off + j * 5, none⟩ = some (.int .i64 (ms.getD j mo0).1) ∧ w.cell? ⟨b, off + j * 5 + 1, none⟩ = some (.int .i64 (ms.getD j mo0).2.1) ∧
    w.cell? ⟨b, off + j * 5 + 2, none⟩ = some (.int .i64 (ms.getD j mo0).2.2.1) ∧ w.cell? ⟨b, off + j * 5 + 3, none⟩ = some (.int .i64 (ms.getD j mo0).2.2.2.1) ∧ w.cell? ⟨b, off + j * 5 + 4, none⟩ = some (.int .i64 (ms.getD j mo0).2.2.2.2)
theorem Mts.below {w w' : World} {B : Nat} {a : Option Addr} {ms : List Mo} (h : Mts w B a ms) (hb : Below B w w') : Mts w' B a ms := fun hp => by
  obtain ⟨b, off, e, hB, hc⟩ := h hp
  refine ⟨b, off, e, hB, fun j hj => ?_⟩
  obtain ⟨c0, c1, c2, c3, c4⟩ := hc j hj
  exact ⟨(hb.cell (p := ⟨b, off + j * 5, none⟩) hB).trans c0, (hb.cell (p := ⟨b, off + j * 5 + 1, none⟩) hB).trans c1, (hb.cell (p := ⟨b, off + j * 5 + 2, none⟩) hB).trans c2, (hb.cell (p := ⟨b, off + j * 5 + 3, none⟩) hB).trans c3, (hb.cell (p := ⟨b, off + j * 5 + 4, none⟩) hB).trans c4⟩
theorem Mts.more {w : World} {B B' : Nat} {a : Option Addr} {ms : List Mo} (h : Mts w B a ms) (hb : B ≤ B') : Mts w B' a ms := fun hp => by
  obtain ⟨b, off, e, hB, hc⟩ := h hp
  exact ⟨b, off, e, by omega, hc⟩
theorem Mts.on {w w' : World} {a : Option Addr} {ms : List Mo} (h : Mts w w.heap.size a ms) (hb : Below w.heap.size w w') : Mts w' w'.heap.size a ms := (h.below hb).more hb.size
theorem Mts.at_ {w : World} {B : Nat} {a : Option Addr} {ms : List Mo} (h : Mts w B a ms) {j : Nat} (hj : j < ms.length) :
    ∃ b off x y u v s, a = some ⟨b, off, none⟩ ∧ b < B ∧ ms.getD j mo0 = (x, y, u, v, s) ∧ w.cell? ⟨b, off + j * 5, none⟩ = some (.int .i64 x) ∧ w.cell? ⟨b, off + j * 5 + 1, none⟩ = some (.int .i64 y) ∧ w.cell? ⟨b, off + j * 5 + 2, none⟩ = some (.int .i64 u) ∧ w.cell? ⟨b, off + j * 5 + 3, none⟩ = some (.int .i64 v) ∧ w.cell? ⟨b, off + j * 5 + 4, none⟩ = some (.int .i64 s) := by
  obtain ⟨b, off, e, hB, hc⟩ := h (by omega)
  obtain ⟨c0, c1, c2, c3, c4⟩ := hc j hj
  exact ⟨b, off, _, _, _, _, _, e, hB, rfl, c0, c1, c2, c3, c4⟩
theorem Mts.one {w : World} {g : Nat} {x y u v s : Int} {t : TypeId} (h : Bk w g #[.int .i64 x, .int .i64 y, .int .i64 u, .int .i64 v, .int .i64 s] t) : Mts w w.heap.size (some ⟨g, 0, none⟩) [(x, y, u, v, s)] := fun _ =>
  ⟨g, 0, rfl, h.lt, fun j hj => by
    have : j = 0 := by simpa using hj
    subst this
    exact ⟨h.cell 0 rfl, h.cell 1 rfl, h.cell 2 rfl, h.cell 3 rfl, h.cell 4 rfl⟩⟩
theorem Mts.nil (w : World) (B : Nat) (a : Option Addr) : Mts w B a [] := fun h => absurd h (by simp)
def moB (m : Mo) : Bool := mtB m.1 m.2.1 m.2.2.1 m.2.2.2.1 m.2.2.2.2
def allM (ms : List Mo) : Bool := decide (∀ j, j < ms.length → moB (ms.getD j mo0) = true)
theorem allM_t {ms : List Mo} (h : ∀ j, j < ms.length → moB (ms.getD j mo0) = true) : allM ms = true := by unfold allM; exact decide_eq_true h
theorem allM_f {ms : List Mo} {k : Nat} (hk : k < ms.length) (h : moB (ms.getD k mo0) = false) : allM ms = false := by
  unfold allM; exact decide_eq_false (fun g => by rw [g k hk] at h; cases h)
theorem allM_at {ms : List Mo} (h : allM ms = true) {j : Nat} (hj : j < ms.length) : moB (ms.getD j mo0) = true := by
  unfold allM at h; exact of_decide_eq_true h j hj
theorem allM_nil : allM [] = true := by decide
theorem allM_one (x y u v s : Int) : allM [(x, y, u, v, s)] = mtB x y u v s := by
  cases h : mtB x y u v s
  · exact allM_f (k := 0) (by simp) h
  · exact allM_t (fun j hj => by have : j = 0 := by simpa using hj
                                 subst this; exact h)
theorem allC_one (x y : Int) : allC [(x, y)] = ctB x y := by
  cases h : ctB x y
  · exact allC_f (k := 0) (by simp) h
  · exact allC_t (fun j hj => by have : j = 0 := by simpa using hj
                                 subst this; exact h)
/-- the code of motions and contacts -/
def ewC (ms : List Mo) (ps : List (Int × Int)) : Int := if allM ms && allC ps then if 6 < ms.length ∨ 6 < ps.length then 3 else 0 else 1
theorem ewC_nil (ps : List (Int × Int)) : ewC [] ps = csC ps := by
  unfold ewC csC
  rw [allM_nil, Bool.true_and]
  simp
theorem ewC_one (x y u v s : Int) (ps : List (Int × Int)) : ewC [(x, y, u, v, s)] ps = mcC x y u v s ps := by
  unfold ewC mcC csC
  rw [allM_one]
  cases mtB x y u v s <;> cases allC ps <;> simp
theorem ewC_pair (x y u v s p q : Int) : ewC [(x, y, u, v, s)] [(p, q)] = if mtB x y u v s && ctB p q then 0 else 1 := by
  unfold ewC
  rw [allM_one, allC_one]
  rfl

set_option maxRecDepth 100000 in
set_option maxHeartbeats 4000000 in
theorem ixc_any (w : World) (a : Option Addr) (cap : Nat) (ps : List (Int × Int)) (hl : ps.length ≤ 9223372036854775807) (hz : Cts w w.heap.size a ps) :
    Calls Try.prog 121 #[.slice a ps.length cap, .func (.func 102) #[] #[]] w fun e w' => ∃ i : Int, e = .returned (.int .i64 i) ∧ decide (0 ≤ i) = (!allC ps) ∧ Below w.heap.size w w' := by
  have HZ := Lib.hid hz
  clear hz
  go_enter Try.func121, Try.ntmps121
  go_wp2
  go_loopw [8] (fun i wr => ∃ k : Nat, k ≤ ps.length ∧ i = .int .i64 k ∧ Below w.heap.size w wr ∧ ∀ j, j < k → ctB (ps.getD j (0, 0)).1 (ps.getD j (0, 0)).2 = true) (fun i _ => ps.length - (intOf i).toNat)
  case atStart => exact ⟨0, by omega, rfl, Below.refl _ _, fun j hj => by omega⟩
  case round =>
    obtain ⟨k, hk, rfl, hb, hr⟩ := hrel
    have HR := Lib.hid hr
    clear hr
    by_cases hlt : k < ps.length
    case pos =>
      obtain ⟨b, off, x, y, rfl, hB, hxy, hc0, hc1⟩ := (HZ.out.below hb).at_ hlt
      have HB := Lib.hid hb
      have HX := Lib.hid hxy
      clear hb hxy
      cases hh : ctB x y
      case false =>
        have K : Hid (∀ W : World, Calls Try.prog 102 #[.agg #[.int .i64 x, .int .i64 y]] W fun e w' => e = .returned (.bool (!false)) ∧ Below W.heap.size W w') := Lib.hid (fun W => by have := inc_any W x y; rwa [hh] at this)
        go_wp2_with (go_at_call 102; (with_reducible refine Calls.mono (K.out _) ?_); rintro e w' ⟨rfl, hb⟩)
        go_ret
        exact ⟨(k : Int), rfl, by rw [allC_f hlt (by rw [HX.out]; exact hh)]; simp, bel_end HB.out hb⟩
      case true =>
        have K : Hid (∀ W : World, Calls Try.prog 102 #[.agg #[.int .i64 x, .int .i64 y]] W fun e w' => e = .returned (.bool (!true)) ∧ Below W.heap.size W w') := Lib.hid (fun W => by have := inc_any W x y; rwa [hh] at this)
        go_wp2_with (go_at_call 102; (with_reducible refine Calls.mono (K.out _) ?_); rintro e w' ⟨rfl, hb⟩)
        go_roundw
        case rel => exact ⟨k + 1, by omega, by go_num, bel_end HB.out hb, fun j hj => by
          by_cases hjk : j < k
          · exact HR.out j hjk
          · obtain rfl : j = k := by omega
            rw [HX.out]; exact hh⟩
        case measure => simp [intOf]; omega
    case neg =>
      go_wp2
      go_ret
      exact ⟨-1, rfl, by rw [allC_t (fun j hj => HR.out j (by omega))]; rfl, hb⟩

set_option maxRecDepth 100000 in
set_option maxHeartbeats 2000000 in
theorem cfc_any (w : World) (a : Option Addr) (cap : Nat) (ps : List (Int × Int)) (hl : ps.length ≤ 9223372036854775807) (hz : Cts w w.heap.size a ps) :
    Calls Try.prog 101 #[.slice a ps.length cap, .func (.func 102) #[] #[]] w fun e w' => e = .returned (.bool (!allC ps)) ∧ Below w.heap.size w w' := by
  go_enter Try.func101, Try.ntmps101
  go_wp2_with fail
  refine (ixc_any _ _ _ ps hl hz).mono ?_
  rintro e w' ⟨i, rfl, hi, hb⟩
  have HI := Lib.hid hi
  have HB := Lib.hid hb
  clear hi hb
  go_wp2
  go_ret
  exact ⟨ret_bool HI.out, HB.out⟩

set_option maxRecDepth 100000 in
set_option maxHeartbeats 4000000 in
theorem ixm_any (w : World) (a : Option Addr) (cap : Nat) (ms : List (Mo)) (hl : ms.length ≤ 9223372036854775807) (hz : Mts w w.heap.size a ms) :
    Calls Try.prog 120 #[.slice a ms.length cap, .func (.func 100) #[] #[]] w fun e w' => ∃ i : Int, e = .returned (.int .i64 i) ∧ decide (0 ≤ i) = (!allM ms) ∧ Below w.heap.size w w' := by
  have HZ := Lib.hid hz
  clear hz
  go_enter Try.func120, Try.ntmps120
  go_wp2
  go_loopw [8] (fun i wr => ∃ k : Nat, k ≤ ms.length ∧ i = .int .i64 k ∧ Below w.heap.size w wr ∧ ∀ j, j < k → moB (ms.getD j mo0) = true) (fun i _ => ms.length - (intOf i).toNat)
  case atStart => exact ⟨0, by omega, rfl, Below.refl _ _, fun j hj => by omega⟩
  case round =>
    obtain ⟨k, hk, rfl, hb, hr⟩ := hrel
    have HR := Lib.hid hr
    clear hr
    by_cases hlt : k < ms.length
    case pos =>
      obtain ⟨b, off, x, y, u, v, s, rfl, hB, hxy, hc0, hc1, hc2, hc3, hc4⟩ := (HZ.out.below hb).at_ hlt
      have HB := Lib.hid hb
      have HX := Lib.hid hxy
      clear hb hxy
      cases hh : mtB x y u v s
      case false =>
        have K : Hid (∀ W : World, Calls Try.prog 100 #[.agg #[.int .i64 x, .int .i64 y, .int .i64 u, .int .i64 v, .int .i64 s]] W fun e w' => e = .returned (.bool (!false)) ∧ Below W.heap.size W w') := Lib.hid (fun W => by have := inm_any W x y u v s; rwa [hh] at this)
        go_wp2_with (go_at_call 100; (with_reducible refine Calls.mono (K.out _) ?_); rintro e w' ⟨rfl, hb⟩)
        go_ret
        exact ⟨(k : Int), rfl, by rw [allM_f hlt (by rw [HX.out]; exact hh)]; simp, bel_end HB.out hb⟩
      case true =>
        have K : Hid (∀ W : World, Calls Try.prog 100 #[.agg #[.int .i64 x, .int .i64 y, .int .i64 u, .int .i64 v, .int .i64 s]] W fun e w' => e = .returned (.bool (!true)) ∧ Below W.heap.size W w') := Lib.hid (fun W => by have := inm_any W x y u v s; rwa [hh] at this)
        go_wp2_with (go_at_call 100; (with_reducible refine Calls.mono (K.out _) ?_); rintro e w' ⟨rfl, hb⟩)
        go_roundw
        case rel => exact ⟨k + 1, by omega, by go_num, bel_end HB.out hb, fun j hj => by
          by_cases hjk : j < k
          · exact HR.out j hjk
          · obtain rfl : j = k := by omega
            rw [HX.out]; exact hh⟩
        case measure => simp [intOf]; omega
    case neg =>
      go_wp2
      go_ret
      exact ⟨-1, rfl, by rw [allM_t (fun j hj => HR.out j (by omega))]; rfl, hb⟩

set_option maxRecDepth 100000 in
set_option maxHeartbeats 2000000 in
theorem cfm_any (w : World) (a : Option Addr) (cap : Nat) (ms : List (Mo)) (hl : ms.length ≤ 9223372036854775807) (hz : Mts w w.heap.size a ms) :
    Calls Try.prog 99 #[.slice a ms.length cap, .func (.func 100) #[] #[]] w fun e w' => e = .returned (.bool (!allM ms)) ∧ Below w.heap.size w w' := by
  go_enter Try.func99, Try.ntmps99
  go_wp2_with fail
  refine (ixm_any _ _ _ ms hl hz).mono ?_
  rintro e w' ⟨i, rfl, hi, hb⟩
  have HI := Lib.hid hi
  have HB := Lib.hid hb
  clear hi hb
  go_wp2
  go_ret
  exact ⟨ret_bool HI.out, HB.out⟩

set_option maxRecDepth 100000 in
set_option maxHeartbeats 4000000 in
theorem iew_any (w : World) (a b : Option Addr) (c d n m : Nat) (ps : List (Int × Int)) (ms : List Mo) (hn : ps.length = n) (hm : ms.length = m) (hl : n ≤ 9223372036854775807) (hl2 : m ≤ 9223372036854775807) (hz : Cts w w.heap.size a ps) (hy : Mts w w.heap.size b ms) :
    Calls Try.prog 62 #[.slice a n c, .slice b m d] w fun e w' => e = .returned (.int .i64 (ewC ms ps)) ∧ Below w.heap.size w w' := by
  subst hn hm
  have HZ := Lib.hid hz
  have HY := Lib.hid hy
  clear hz hy
  have HE : Hid (ewC ms ps = if allM ms && allC ps then if 6 < ms.length ∨ 6 < ps.length then 3 else 0 else 1) := Lib.hid rfl
  cases h1 : allM ms
  case false =>
    rw [h1] at HE
    have KM : Hid (∀ W : World, Below w.heap.size w W → Calls Try.prog 99 #[.slice b ms.length d, .func (.func 100) #[] #[]] W fun e w' => e = .returned (.bool true) ∧ Below W.heap.size W w') := Lib.hid (fun W hb => by have := cfm_any W b d ms hl2 (HY.out.on hb); rwa [h1, Bool.not_false] at this)
    go_enter Try.func62, Try.ntmps62
    go_wp2_with fail
    (with_reducible refine Calls.mono (KM.out _ (Below.refl _ _)) ?_)
    rintro e w1 ⟨rfl, hb1⟩
    have HB := Lib.hid hb1
    clear hb1
    go_wp2
    go_ret
    exact ⟨ret_int HE.out.symm, HB.out⟩
  case true =>
    have KM : Hid (∀ W : World, Below w.heap.size w W → Calls Try.prog 99 #[.slice b ms.length d, .func (.func 100) #[] #[]] W fun e w' => e = .returned (.bool false) ∧ Below W.heap.size W w') := Lib.hid (fun W hb => by have := cfm_any W b d ms hl2 (HY.out.on hb); rwa [h1, Bool.not_true] at this)
    cases h2 : allC ps
    case false =>
      rw [h1, h2] at HE
      have KC : Hid (∀ W : World, Below w.heap.size w W → Calls Try.prog 101 #[.slice a ps.length c, .func (.func 102) #[] #[]] W fun e w' => e = .returned (.bool true) ∧ Below W.heap.size W w') := Lib.hid (fun W hb => by have := cfc_any W a c ps hl (HZ.out.on hb); rwa [h2, Bool.not_false] at this)
      go_enter Try.func62, Try.ntmps62
      go_wp2_with fail
      (with_reducible refine Calls.mono (KM.out _ (Below.refl _ _)) ?_)
      rintro e w1 ⟨rfl, hb1⟩
      have HB := Lib.hid hb1
      clear hb1
      go_wp2_with fail
      (with_reducible refine Calls.mono (KC.out _ HB.out) ?_)
      rintro e w2 ⟨rfl, hb1⟩
      replace HB := Lib.hid (bel_end HB.out hb1)
      clear hb1
      go_wp2
      go_ret
      exact ⟨ret_int HE.out.symm, HB.out⟩
    case true =>
      rw [h1, h2] at HE
      have KC : Hid (∀ W : World, Below w.heap.size w W → Calls Try.prog 101 #[.slice a ps.length c, .func (.func 102) #[] #[]] W fun e w' => e = .returned (.bool false) ∧ Below W.heap.size W w') := Lib.hid (fun W hb => by have := cfc_any W a c ps hl (HZ.out.on hb); rwa [h2, Bool.not_true] at this)
      by_cases h3 : 6 < ms.length
      case pos =>
        have HE2 : Hid (ewC ms ps = 3) := Lib.hid (by rw [HE.out, Bool.and_true, if_pos rfl, if_pos (Or.inl h3)])
        have h4 : (6 : Int) < (ms.length : Int) := by omega
        have h5 : decide ((6 : Int) < (ms.length : Int)) = true := by simp; omega
        go_enter Try.func62, Try.ntmps62
        go_wp2_with fail
        (with_reducible refine Calls.mono (KM.out _ (Below.refl _ _)) ?_)
        rintro e w1 ⟨rfl, hb1⟩
        have HB := Lib.hid hb1
        clear hb1
        clear h1 h2 h3
        go_wp2_with fail
        (with_reducible refine Calls.mono (KC.out _ HB.out) ?_)
        rintro e w2 ⟨rfl, hb1⟩
        replace HB := Lib.hid (bel_end HB.out hb1)
        clear hb1
        go_wp2
        go_ret
        exact ⟨ret_int HE2.out.symm, HB.out⟩
      case neg =>
        skip
        have h4 : ¬ (6 : Int) < (ms.length : Int) := by omega
        have h5 : decide ((6 : Int) < (ms.length : Int)) = false := by simp; omega
        by_cases h6 : 6 < ps.length
        case pos =>
          have HE2 : Hid (ewC ms ps = 3) := Lib.hid (by rw [HE.out, Bool.and_true, if_pos rfl, if_pos (Or.inr h6)])
          have h7 : (6 : Int) < (ps.length : Int) := by omega
          have h8 : decide ((6 : Int) < (ps.length : Int)) = true := by simp; omega
          go_enter Try.func62, Try.ntmps62
          go_wp2_with fail
          (with_reducible refine Calls.mono (KM.out _ (Below.refl _ _)) ?_)
          rintro e w1 ⟨rfl, hb1⟩
          have HB := Lib.hid hb1
          clear hb1
          clear h1 h2 h3 h6
          go_wp2_with fail
          (with_reducible refine Calls.mono (KC.out _ HB.out) ?_)
          rintro e w2 ⟨rfl, hb1⟩
          replace HB := Lib.hid (bel_end HB.out hb1)
          clear hb1
          go_wp2
          go_ret
          exact ⟨ret_int HE2.out.symm, HB.out⟩
        case neg =>
          have HE2 : Hid (ewC ms ps = 0) := Lib.hid (by rw [HE.out, Bool.and_true, if_pos rfl, if_neg (by omega)])
          have h7 : ¬ (6 : Int) < (ps.length : Int) := by omega
          have h8 : decide ((6 : Int) < (ps.length : Int)) = false := by simp; omega
          go_enter Try.func62, Try.ntmps62
          go_wp2_with fail
          (with_reducible refine Calls.mono (KM.out _ (Below.refl _ _)) ?_)
          rintro e w1 ⟨rfl, hb1⟩
          have HB := Lib.hid hb1
          clear hb1
          clear h1 h2 h3 h6
          go_wp2_with fail
          (with_reducible refine Calls.mono (KC.out _ HB.out) ?_)
          rintro e w2 ⟨rfl, hb1⟩
          replace HB := Lib.hid (bel_end HB.out hb1)
          clear hb1
          go_wp2
          go_ret
          exact ⟨ret_int HE2.out.symm, HB.out⟩

set_option maxRecDepth 100000 in
set_option maxHeartbeats 4000000 in
theorem lcs_any (w : World) (a : Option Addr) (cap : Nat) (ps : List (Int × Int)) (hl : ps.length ≤ 9223372036854775807) (hz : Cts w w.heap.size a ps) :
    Calls Try.prog 65 #[.slice a ps.length cap] w fun e w' => e = .returned (.int .i64 (csC ps)) ∧ Below w.heap.size w w' := by
  have HZ := Lib.hid hz
  clear hz
  go_enter Try.func65, Try.ntmps65
  go_wp2
  go_loopw [3] (fun i wr => ∃ k : Nat, k ≤ ps.length ∧ i = .int .i64 k ∧ Below w.heap.size w wr ∧ ∀ j, j < k → ctB (ps.getD j (0, 0)).1 (ps.getD j (0, 0)).2 = true) (fun i _ => ps.length - (intOf i).toNat)
  case atStart => exact ⟨0, by omega, rfl, Below.refl _ _, fun j hj => by omega⟩
  case round =>
    obtain ⟨k, hk, rfl, hb, hr⟩ := hrel
    have HR := Lib.hid hr
    clear hr
    by_cases hlt : k < ps.length
    case pos =>
      obtain ⟨b, off, x, y, rfl, hB, hxy, hc0, hc1⟩ := (HZ.out.below hb).at_ hlt
      have HB := Lib.hid hb
      have HX := Lib.hid hxy
      clear hb hxy
      cases hh : ctB x y
      case false =>
        have K : Hid (∀ W : World, Calls Try.prog 105 #[.agg #[.int .i64 x, .int .i64 y]] W fun e w' => e = .returned (.bool false) ∧ Below W.heap.size W w') := Lib.hid (fun W => by have := lct14_any W x y; rwa [hh] at this)
        go_wp2_with (go_at_call 105; (with_reducible refine Calls.mono (K.out _) ?_); rintro e w' ⟨rfl, hb⟩)
        go_ret
        exact ⟨ret_int (csC_bad (allC_f hlt (by rw [HX.out]; exact hh))).symm, bel_end HB.out hb⟩
      case true =>
        have K : Hid (∀ W : World, Calls Try.prog 105 #[.agg #[.int .i64 x, .int .i64 y]] W fun e w' => e = .returned (.bool true) ∧ Below W.heap.size W w') := Lib.hid (fun W => by have := lct14_any W x y; rwa [hh] at this)
        go_wp2_with (go_at_call 105; (with_reducible refine Calls.mono (K.out _) ?_); rintro e w' ⟨rfl, hb⟩)
        go_roundw
        case rel => exact ⟨k + 1, by omega, by go_num, bel_end HB.out hb, fun j hj => by
          by_cases hjk : j < k
          · exact HR.out j hjk
          · obtain rfl : j = k := by omega
            rw [HX.out]; exact hh⟩
        case measure => simp [intOf]; omega
    case neg =>
      have HA := Lib.hid (allC_t (fun j hj => HR.out j (by omega)))
      have HB := Lib.hid hb
      clear hb HR
      by_cases h6 : 6 < ps.length
      case pos =>
        have h7 : (6 : Int) < (ps.length : Int) := by omega
        have HE := Lib.hid (csC_long HA.out h6)
        clear h6
        go_wp2
        go_ret
        exact ⟨ret_int HE.out.symm, HB.out⟩
      case neg =>
        have h7 : ¬ (6 : Int) < (ps.length : Int) := by omega
        have HE := Lib.hid (csC_ok HA.out h6)
        clear h6
        go_wp2
        go_ret
        exact ⟨ret_int HE.out.symm, HB.out⟩

end Go.Proofs.Ytlahgdhofakinaa
