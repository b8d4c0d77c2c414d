import Derived.Test.YtgecbfbmmbfnmaaGreatBas
import Derived.Test.YtgecbfbmmbfnmaaGreatMth
import Derived.Below
import Derived.LoopTactic
import Derived.WalkMore
import Derived.Deep.LoopGhost
import Derived.Test.YtgecbfbmmbfnmaaGreatDir
import Derived.Test.YtgecbfbmmbfnmaaGreatLys
import Derived.Deep.RegionHeld3
import Derived.Deep.DeepCutAuto
import Derived.Deep.RegionWith
namespace Go.Proofs.YtgecbfbmmbfnmaaGreat
section
/- Contracts of RootBounds, the program's and the model's, and the walk of its exact law. -/
open Go.ChangeShapes Go.WideShapes Go.ChangeAt Go.RowKit Num
set_option linter.unusedVariables false
theorem ird_any (n : Int) (n1 : 0 ≤ n) (n2 : n ≤ 4000000000000000000) (w : World) :
    Calls Tryz.prog 122 #[.int .i64 n] w fun e w' => e = .returned (.int .i64 (rt n)) ∧ w = w' := by
  go_enter Tryz.func122, Tryz.ntmps122
  go_wp2
  go_step3
  go_wp2
  go_step3
  go_wp2
  go_loop [3, 4] (fun l h => ∃ lo hi : Int, l = .int .i64 lo ∧ h = .int .i64 hi ∧ 0 ≤ lo ∧ lo ≤ hi ∧ hi ≤ 2000000000 ∧ lo * lo ≤ n ∧ n < (hi + 1) * (hi + 1)) (fun l h => (intOf h - intOf l).toNat)
  case atStart => exact ⟨0, 2000000000, rfl, rfl, by omega, by omega, by omega, by omega, by omega⟩
  case round =>
    obtain ⟨lo, hi, rfl, rfl, h1, h2, h3, h4, h5⟩ := hrel
    have H4 := Lib.hid h4
    have H5 := Lib.hid h5
    clear h4 h5
    by_cases hc : lo < hi
    · have e0 : 0 ≤ (lo + hi + 1) / 2 := by omega
      have e1 : (lo + hi + 1) / 2 ≤ 2000000000 := by omega
      have s0 := rsq_le (a := 0) (b := (lo + hi + 1) / 2) (by omega) (by omega)
      have s1 := rsq_le e0 e1
      rcases Int.lt_trichotomy ((lo + hi + 1) / 2 * ((lo + hi + 1) / 2)) n with hs | hs | hs
      · have hb : ((lo + hi + 1) / 2 * ((lo + hi + 1) / 2) == n) = false := by simp; omega
        go_wp2
        go_round
        case rel => exact ⟨(lo + hi + 1) / 2, hi, rfl, rfl, by omega, by omega, by omega, by omega, H5.out⟩
        case measure => simp [intOf]; omega
      · have hb : ((lo + hi + 1) / 2 * ((lo + hi + 1) / 2) == n) = true := by simp; omega
        have HS := Lib.hid hs
        clear hs
        go_wp2
        go_ret
        exact ⟨ret_int (rt_unique e0 (by have := HS.out; omega) (by have := HS.out; have := rsq_lt e0 (show (lo + hi + 1) / 2 < (lo + hi + 1) / 2 + 1 by omega); omega)).symm, rfl⟩
      · have hb : ((lo + hi + 1) / 2 * ((lo + hi + 1) / 2) == n) = false := by simp; omega
        go_wp2
        go_round
        case rel => exact ⟨lo, (lo + hi + 1) / 2 - 1, rfl, rfl, by omega, by omega, by omega, H4.out, by rw [show (lo + hi + 1) / 2 - 1 + 1 = (lo + hi + 1) / 2 by omega]; omega⟩
        case measure => simp [intOf]; omega
    · go_wp2
      go_ret
      obtain rfl : lo = hi := by omega
      exact ⟨ret_int (rt_unique h1 H4.out H5.out).symm, rfl⟩

theorem lrt_any (n : Int) (n1 : 0 ≤ n) (n2 : n ≤ 4000000000000000000) (w : World) :
    Calls Tryz.prog 88 #[.int .i64 n] w fun e w' => e = .returned (.int .i64 (rt n)) ∧ w = w' := by
  go_enter Tryz.func88, Tryz.ntmps88
  go_wp2
  go_loop [3, 4] (fun l h => ∃ lo hi : Int, l = .int .i64 lo ∧ h = .int .i64 hi ∧ 0 ≤ lo ∧ lo < hi ∧ hi ≤ 2000000001 ∧ lo * lo ≤ n ∧ n < hi * hi) (fun l h => (intOf h - intOf l).toNat)
  case atStart => exact ⟨0, 2000000001, rfl, rfl, by omega, by omega, by omega, by omega, by omega⟩
  case round =>
    obtain ⟨lo, hi, rfl, rfl, h1, h2, h3, h4, h5⟩ := hrel
    have H4 := Lib.hid h4
    have H5 := Lib.hid h5
    clear h4 h5
    by_cases hc : 1 < hi - lo
    · have e0 : 0 ≤ (lo + hi) / 2 := by omega
      have e1 : (lo + hi) / 2 ≤ 2000000000 := by omega
      have s0 := rsq_le (a := 0) (b := (lo + hi) / 2) (by omega) (by omega)
      have s1 := rsq_le e0 e1
      by_cases hs : (lo + hi) / 2 * ((lo + hi) / 2) ≤ n
      · go_wp2
        go_round
        case rel => exact ⟨(lo + hi) / 2, hi, rfl, rfl, by omega, by omega, by omega, by omega, H5.out⟩
        case measure => simp [intOf]; omega
      · go_wp2
        go_round
        case rel => exact ⟨lo, (lo + hi) / 2, rfl, rfl, by omega, by omega, by omega, H4.out, by omega⟩
        case measure => simp [intOf]; omega
    · go_wp2
      go_ret
      obtain rfl : hi = lo + 1 := by omega
      exact ⟨ret_int (rt_unique h1 H4.out H5.out).symm, rfl⟩

/-- the root rounded up -/
def rtup (n : Int) : Int := if rt n * rt n = n then rt n else rt n + 1
theorem lru_any (n : Int) (n1 : 0 ≤ n) (n2 : n ≤ 4000000000000000000) (w : World) :
    Calls Tryz.prog 89 #[.int .i64 n] w fun e w' => e = .returned (.int .i64 (rtup n)) ∧ w = w' := by
  obtain ⟨g1, g2⟩ := rt_sq n n1
  have g3 := rt_nonneg n
  have g4 := rt_le n1 n2
  have g5 := rsq_le (a := 0) (b := rt n) (by omega) g3
  have HG := Lib.hid g2
  clear g2
  have HU : Hid (rtup n = if rt n * rt n = n then rt n else rt n + 1) := Lib.hid rfl
  by_cases h : rt n * rt n < n
  · go_enter Tryz.func89, Tryz.ntmps89
    go_wp2_with (go_at_call 88; refine (lrt_any _ (by omega) (by omega) _).mono ?_; rintro e w' ⟨rfl, rfl⟩)
    go_ret
    exact ⟨ret_int (by rw [HU.out, if_neg (by omega)]), rfl⟩
  · go_enter Tryz.func89, Tryz.ntmps89
    go_wp2_with (go_at_call 88; refine (lrt_any _ (by omega) (by omega) _).mono ?_; rintro e w' ⟨rfl, rfl⟩)
    go_ret
    exact ⟨ret_int (by rw [HU.out, if_pos (by omega)]), rfl⟩

def rcode (n : Int) : Int := if 0 ≤ n ∧ n ≤ 4000000000000000000 then 0 else 2
def rlo (n : Int) : Int := if 0 ≤ n ∧ n ≤ 4000000000000000000 then rt n else 0
def rhi (n : Int) : Int := if 0 ≤ n ∧ n ≤ 4000000000000000000 then rtup n else 0
def RootEnd (n : Int) (w : World) (e : Ending) (w' : World) : Prop := e = .returned (.tuple #[.int .i64 (rlo n), .int .i64 (rhi n), .int .i64 (rcode n)]) ∧ w = w'
theorem rootEnd_no {n : Int} {w : World} (h : ¬ (0 ≤ n ∧ n ≤ 4000000000000000000)) : RootEnd n w (.returned (.tuple #[.int .i64 0, .int .i64 0, .int .i64 2])) w :=
  ⟨ret_int3 (by unfold rlo; rw [if_neg h]) (by unfold rhi; rw [if_neg h]) (by unfold rcode; rw [if_neg h]), rfl⟩
theorem rootEnd_yes {n a b : Int} {w : World} (h : 0 ≤ n) (g : n ≤ 4000000000000000000) (ha : a = rt n) (hb : b = rtup n) : RootEnd n w (.returned (.tuple #[.int .i64 a, .int .i64 b, .int .i64 0])) w :=
  ⟨ret_int3 (by unfold rlo; rw [if_pos ⟨h, g⟩, ha]) (by unfold rhi; rw [if_pos ⟨h, g⟩, hb]) (by unfold rcode; rw [if_pos ⟨h, g⟩]), rfl⟩
theorem irb_any (n : Int) (w : World) :
    Calls Tryz.prog 116 #[.int .i64 n] w (RootEnd n w) := by
  by_cases h1 : n < 0
  · go_enter Tryz.func116, Tryz.ntmps116
    go_wp2
    go_ret3
    exact rootEnd_no (by omega)
  · by_cases h2 : 4000000000000000000 < n
    · go_enter Tryz.func116, Tryz.ntmps116
      go_wp2
      go_ret3
      exact rootEnd_no (by omega)
    · obtain ⟨g1, g2⟩ := rt_sq n (by omega)
      have g3 := rt_nonneg n
      have g4 := rt_le (n := n) (by omega) (by omega)
      have g5 := rsq_le (a := 0) (b := rt n) (by omega) g3
      have HG := Lib.hid g2
      clear g2
      by_cases h : rt n * rt n = n
      · have hb : (rt n * rt n == n) = true := by simpa using h
        have HH := Lib.hid h
        clear h
        go_enter Tryz.func116, Tryz.ntmps116
        go_wp2_with (go_at_call 122; refine (ird_any _ (by omega) (by omega) _).mono ?_; rintro e w' ⟨rfl, rfl⟩)
        go_ret3
        exact rootEnd_yes (by omega) (by omega) rfl (by unfold rtup; rw [if_pos HH.out])
      · have hb : (rt n * rt n == n) = false := by simpa using h
        have HH := Lib.hid h
        clear h
        go_enter Tryz.func116, Tryz.ntmps116
        go_wp2_with (go_at_call 122; refine (ird_any _ (by omega) (by omega) _).mono ?_; rintro e w' ⟨rfl, rfl⟩)
        go_ret3
        exact rootEnd_yes (by omega) (by omega) rfl (by unfold rtup; rw [if_neg HH.out])
end
section
/- Contracts of the program's ray: its scale, its cosines, whether it crosses a knot, its sines, its errors. Contracts of the program's ray: its sines, its errors. -/
open Go.ChangeShapes Go.WideShapes Go.ChangeAt Go.RowKit Go.Shelf Num
set_option linter.unusedVariables false

theorem at6 {W w2 : World} {m : Nat} {v0 v1 v2 v3 v4 v5 : Value} {t : TypeId} (h : Bk W m #[v0, v1, v2, v3, v4, v5] t) (hb : Below W.heap.size W w2) :
    w2.cell? ⟨m, 0, none⟩ = some v0 ∧ w2.cell? ⟨m, 1, none⟩ = some v1 ∧ w2.cell? ⟨m, 2, none⟩ = some v2 ∧ w2.cell? ⟨m, 3, none⟩ = some v3 ∧ w2.cell? ⟨m, 4, none⟩ = some v4 ∧ w2.cell? ⟨m, 5, none⟩ = some v5 ∧ Below W.heap.size W w2 :=
  ⟨(h.on hb).cell 0 rfl, (h.on hb).cell 1 rfl, (h.on hb).cell 2 rfl, (h.on hb).cell 3 rfl, (h.on hb).cell 4 rfl, (h.on hb).cell 5 rfl, hb⟩
/-- the code of a profile, a direction, a source and a knot -/
def rcT (p d i k : Bool) : Int := if p && d then (if i && k then 0 else 2) else 1
theorem rcT_0 {p d i k : Bool} (e : rcT p d i k = 0) : p = true ∧ d = true ∧ i = true ∧ k = true := by cases p <;> cases d <;> cases i <;> cases k <;> simp_all [rcT]
theorem fld_speed (w : World) (z u : Int) : (Instr.field 146 (.agg #[.int .i64 z, .int .i64 u]) 1).run Tryz.prog w = .ok (.int .i64 u) w := by
  have ht : Tryz.prog.underlying 146 = some (.struct (Tryz.prog.fieldsOf 146)) := by kernel_rfl
  simp [Instr.field, asAgg, go_sem]
theorem mul_in {a b A B : Int} (h1 : 0 ≤ a) (h2 : a ≤ A) (h3 : 0 ≤ b) (h4 : b ≤ B) : 0 ≤ a * b ∧ a * b ≤ A * B :=
  ⟨Int.mul_nonneg h1 h3, Int.mul_le_mul h2 h4 h3 (by omega)⟩

set_option maxRecDepth 100000 in
set_option maxHeartbeats 1000000 in
theorem rsc_any (w : World) (a b : Option Addr) (ca cb : Nat) (zs ys : List Int) (src : Int) (i : Nat) (c s h : Int) (hp : Prof w w.heap.size a b zs ys) (ho : Okp zs ys) (hi : i < zs.length) (hs : src = (i : Int)) (h1 : 1 ≤ h) (h2 : h ≤ 1000) :
    Calls Tryz.prog 91 #[.agg #[.slice a zs.length ca, .slice b ys.length cb, .int .i64 src, .int .i64 c, .int .i64 s, .int .i64 h]] w fun e w' => e = .returned (.int .i64 (h * ys.getD i 0)) ∧ Below w.heap.size w w' := by
  subst hs
  have HP := Lib.hid hp
  have s1 := ho.sge i
  have s2 := ho.shi i
  have K : Hid (∀ W : World, Below w.heap.size w W → Calls Tryz.prog 92 #[.agg #[.slice a zs.length ca, .slice b ys.length cb], .int .i64 (i : Int)] W fun e w' => e = .returned (.agg #[.int .i64 (zs.getD i 0), .int .i64 (ys.getD i 0)]) ∧ Below W.heap.size W w') := Lib.hid (fun W hb => kat_any W a b ca cb zs ys i (HP.out.on hb) ho.len hi)
  obtain ⟨u, hu⟩ : ∃ u, ys.getD i 0 = u := ⟨_, rfl⟩
  obtain ⟨z, hz⟩ : ∃ z, zs.getD i 0 = z := ⟨_, rfl⟩
  rw [hu] at s1 s2 K ⊢
  rw [hz] at K
  have e1 : IntKind.wrap .i64 (h * u) = h * u := wr_mul (A := 1000) (B := 1700000) (by omega) (by omega) (by omega) (by omega) (by omega) (by omega)
  clear ho hi hp hu hz
  go_enter Tryz.func91, Tryz.ntmps91
  go_wp2_with fail
  generalize hW : World.alloc _ _ = W
  have bX : Bk W (w.heap.size) #[.slice a zs.length ca, .slice b ys.length cb, .int .i64 (i : Int), .int .i64 c, .int .i64 s, .int .i64 h] 74 := by rw [← hW]; repeat (first | exact Bk.new' (by simp) | refine Bk.alloc ?_ _)
  have HB : Hid (Below w.heap.size w W) := Lib.hid (by rw [← hW]; exact (by repeat (first | exact Below.refl _ _ | (refine Below.alloc ?_ (by simp <;> omega) _) | (refine Below.setCell ?_ (by simp <;> omega) _) | (refine Below.drew ?_) | (refine bel_drewN ?_ _))))
  clear hW
  have x0 := bX.cell 0 rfl
  have x1 := bX.cell 1 rfl
  have x2 := bX.cell 2 rfl
  have x3 := bX.cell 3 rfl
  have x4 := bX.cell 4 rfl
  have x5 := bX.cell 5 rfl
  have hfl := fun (w : World) => fld_speed w z u
  go_region_with (go_at_call 92; (with_reducible refine Calls.mono (K.out _ (bel_end HB.out ?hq)) ?_); (case hq => exact (Below.refl _ _).drew); rintro e w1 ⟨rfl, hb⟩; have d0 := kc1 (show W.drew.cell? _ = _ from x0) hb; have d1 := kc1 (show W.drew.cell? _ = _ from x1) hb; have d2 := kc1 (show W.drew.cell? _ = _ from x2) hb; have d3 := kc1 (show W.drew.cell? _ = _ from x3) hb; have d4 := kc1 (show W.drew.cell? _ = _ from x4) hb; have d5 := kc1 (show W.drew.cell? _ = _ from x5) hb)
  all_goals
    go_wp2
    go_ret
    exact ⟨rfl, bel_end HB.out (bel_end (Below.refl _ _).drew hb)⟩

set_option maxRecDepth 100000 in
set_option maxHeartbeats 1000000 in
theorem rco_any (w : World) (a b : Option Addr) (ca cb : Nat) (zs ys : List Int) (src : Int) (i : Nat) (c s h : Int) (hp : Prof w w.heap.size a b zs ys) (ho : Okp zs ys) (hi : i < zs.length) (h1 : 1 ≤ c) (h2 : c ≤ 1000) :
    Calls Tryz.prog 90 #[.agg #[.slice a zs.length ca, .slice b ys.length cb, .int .i64 src, .int .i64 c, .int .i64 s, .int .i64 h], .int .i64 (i : Int)] w fun e w' => e = .returned (.int .i64 (c * ys.getD i 0)) ∧ Below w.heap.size w w' := by
  skip
  have HP := Lib.hid hp
  have s1 := ho.sge i
  have s2 := ho.shi i
  have K : Hid (∀ W : World, Below w.heap.size w W → Calls Tryz.prog 92 #[.agg #[.slice a zs.length ca, .slice b ys.length cb], .int .i64 (i : Int)] W fun e w' => e = .returned (.agg #[.int .i64 (zs.getD i 0), .int .i64 (ys.getD i 0)]) ∧ Below W.heap.size W w') := Lib.hid (fun W hb => kat_any W a b ca cb zs ys i (HP.out.on hb) ho.len hi)
  obtain ⟨u, hu⟩ : ∃ u, ys.getD i 0 = u := ⟨_, rfl⟩
  obtain ⟨z, hz⟩ : ∃ z, zs.getD i 0 = z := ⟨_, rfl⟩
  rw [hu] at s1 s2 K ⊢
  rw [hz] at K
  have e1 : IntKind.wrap .i64 (c * u) = c * u := wr_mul (A := 1000) (B := 1700000) (by omega) (by omega) (by omega) (by omega) (by omega) (by omega)
  clear ho hi hp hu hz
  go_enter Tryz.func90, Tryz.ntmps90
  go_wp2_with fail
  generalize hW : World.alloc _ _ = W
  have bX : Bk W (w.heap.size) #[.slice a zs.length ca, .slice b ys.length cb, .int .i64 src, .int .i64 c, .int .i64 s, .int .i64 h] 74 := by rw [← hW]; repeat (first | exact Bk.new' (by simp) | refine Bk.alloc ?_ _)
  have HB : Hid (Below w.heap.size w W) := Lib.hid (by rw [← hW]; exact (by repeat (first | exact Below.refl _ _ | (refine Below.alloc ?_ (by simp <;> omega) _) | (refine Below.setCell ?_ (by simp <;> omega) _) | (refine Below.drew ?_) | (refine bel_drewN ?_ _))))
  clear hW
  have x0 := bX.cell 0 rfl
  have x1 := bX.cell 1 rfl
  have x2 := bX.cell 2 rfl
  have x3 := bX.cell 3 rfl
  have x4 := bX.cell 4 rfl
  have x5 := bX.cell 5 rfl
  have hfl := fun (w : World) => fld_speed w z u
  go_region_with (go_at_call 92; (with_reducible refine Calls.mono (K.out _ (bel_end HB.out ?hq)) ?_); (case hq => exact (Below.refl _ _).drew); rintro e w1 ⟨rfl, hb⟩; have d0 := kc1 (show W.drew.cell? _ = _ from x0) hb; have d1 := kc1 (show W.drew.cell? _ = _ from x1) hb; have d2 := kc1 (show W.drew.cell? _ = _ from x2) hb; have d3 := kc1 (show W.drew.cell? _ = _ from x3) hb; have d4 := kc1 (show W.drew.cell? _ = _ from x4) hb; have d5 := kc1 (show W.drew.cell? _ = _ from x5) hb)
  all_goals
    go_wp2
    go_ret
    exact ⟨rfl, bel_end HB.out (bel_end (Below.refl _ _).drew hb)⟩

set_option maxRecDepth 100000 in
set_option maxHeartbeats 2000000 in
theorem rcc_any (w : World) (a b : Option Addr) (ca cb : Nat) (zs ys : List Int) (i k : Nat) (c s h : Int) (hp : Prof w w.heap.size a b zs ys) (ho : Okp zs ys) (hi : i < zs.length) (hk : k < zs.length) (od : DirOk c s h) :
    Calls Tryz.prog 87 #[.agg #[.slice a zs.length ca, .slice b ys.length cb, .int .i64 (i : Int), .int .i64 c, .int .i64 s, .int .i64 h], .int .i64 (k : Int)] w fun e w' => e = .returned (.bool (decide ((c * ys.getD k 0) < (h * ys.getD i 0)))) ∧ Below w.heap.size w w' := by
  have HP := Lib.hid hp
  have c1 := od.c1
  have c2 := od.c2
  have h1 := od.h1
  have h2 := od.h2
  have q1 := mul_in (a := h) (b := ys.getD i 0) (A := 1000) (B := 1700000) (by omega) (by omega) (ho.sge i) (ho.shi i)
  have q2 := mul_in (a := c) (b := ys.getD k 0) (A := 1000) (B := 1700000) (by omega) (by omega) (ho.sge k) (ho.shi k)
  have K1 : Hid (∀ W : World, Below w.heap.size w W → Calls Tryz.prog 90 #[.agg #[.slice a zs.length ca, .slice b ys.length cb, .int .i64 (i : Int), .int .i64 c, .int .i64 s, .int .i64 h], .int .i64 (k : Int)] W fun e w' => e = .returned (.int .i64 (c * ys.getD k 0)) ∧ Below W.heap.size W w') := Lib.hid (fun W hb => rco_any W a b ca cb zs ys i k c s h (HP.out.on hb) ho hk c1 (by omega))
  have K2 : Hid (∀ W : World, Below w.heap.size w W → Calls Tryz.prog 91 #[.agg #[.slice a zs.length ca, .slice b ys.length cb, .int .i64 (i : Int), .int .i64 c, .int .i64 s, .int .i64 h]] W fun e w' => e = .returned (.int .i64 (h * ys.getD i 0)) ∧ Below W.heap.size W w') := Lib.hid (fun W hb => rsc_any W a b ca cb zs ys i i c s h (HP.out.on hb) ho hi rfl h1 h2)
  obtain ⟨A, hA⟩ : ∃ u, h * ys.getD i 0 = u := ⟨_, rfl⟩
  obtain ⟨B, hB⟩ : ∃ u, c * ys.getD k 0 = u := ⟨_, rfl⟩
  rw [hA] at q1 K2
  rw [hB] at q2 K1
  rw [hA, hB]
  clear od ho hi hk hA hB c1 c2 h1 h2 hp
  cases hd : decide (B < A)
  all_goals
    have hd2 := Lib.hid hd
    go_enter Tryz.func87, Tryz.ntmps87
    go_wp2_with fail
    generalize hW : World.alloc _ _ = W
    have bX : Bk W (w.heap.size) #[.slice a zs.length ca, .slice b ys.length cb, .int .i64 (i : Int), .int .i64 c, .int .i64 s, .int .i64 h] 74 := by rw [← hW]; repeat (first | exact Bk.new' (by simp) | refine Bk.alloc ?_ _)
    have HB : Hid (Below w.heap.size w W) := Lib.hid (by rw [← hW]; exact (by repeat (first | exact Below.refl _ _ | (refine Below.alloc ?_ (by simp <;> omega) _) | (refine Below.setCell ?_ (by simp <;> omega) _) | (refine Below.drew ?_) | (refine bel_drewN ?_ _))))
    clear hW
    go_region_held3 (fun w' => w'.cell? ⟨w.heap.size, 0, none⟩ = some (.slice a zs.length ca) ∧ w'.cell? ⟨w.heap.size, 1, none⟩ = some (.slice b ys.length cb) ∧ w'.cell? ⟨w.heap.size, 2, none⟩ = some (.int .i64 (i : Int)) ∧ w'.cell? ⟨w.heap.size, 3, none⟩ = some (.int .i64 c) ∧ w'.cell? ⟨w.heap.size, 4, none⟩ = some (.int .i64 s) ∧ w'.cell? ⟨w.heap.size, 5, none⟩ = some (.int .i64 h) ∧ Below W.heap.size W w')
      (first
        | (exact at6 bX (Below.refl _ W).drew)
        | (go_split_ands; (with_reducible exact at6 bX hkB)))
      (first
        | (go_at_call 90; (with_reducible refine Calls.mono (K1.out _ (bel_end HB.out ?hq)) ?_); (case hq => (go_split_ands; assumption)); rintro e wA ⟨rfl, hbA⟩; have hkB := bel_in hbA (by go_split_ands; assumption) (Nat.le_refl _))
        | (go_at_call 91; (with_reducible refine Calls.mono (K2.out _ (bel_end HB.out ?hq)) ?_); (case hq => (go_split_ands; assumption)); rintro e wB ⟨rfl, hbB⟩; have hkB := bel_in hbB (by go_split_ands; assumption) (Nat.le_refl _)))
    all_goals
      go_wp2
      go_ret
      exact ⟨rfl, bel_end HB.out hkB⟩
open Go.ChangeShapes Go.WideShapes Go.ChangeAt Go.RowKit Go.Shelf Num
set_option linter.unusedVariables false

set_option maxRecDepth 100000 in
set_option maxHeartbeats 2000000 in
theorem rsn_any (w : World) (a b : Option Addr) (ca cb : Nat) (zs ys : List Int) (i k : Nat) (c s h : Int) (hp : Prof w w.heap.size a b zs ys) (ho : Okp zs ys) (hi : i < zs.length) (hk : k < zs.length) (od : DirOk c s h) (hx : c * ys.getD k 0 < h * ys.getD i 0) :
    Calls Tryz.prog 112 #[.agg #[.slice a zs.length ca, .slice b ys.length cb, .int .i64 (i : Int), .int .i64 c, .int .i64 s, .int .i64 h], .int .i64 (k : Int)] w fun e w' => e = .returned (.agg #[.int .i64 (rt ((h * ys.getD i 0) * (h * ys.getD i 0) - (c * ys.getD k 0) * (c * ys.getD k 0))), .int .i64 (rtup ((h * ys.getD i 0) * (h * ys.getD i 0) - (c * ys.getD k 0) * (c * ys.getD k 0)))]) ∧ Below w.heap.size w w' := by
  have HP := Lib.hid hp
  have c1 := od.c1
  have c2 := od.c2
  have h1 := od.h1
  have h2 := od.h2
  have q1 := mul_in (a := h) (b := ys.getD i 0) (A := 1000) (B := 1700000) (by omega) (by omega) (ho.sge i) (ho.shi i)
  have q2 := mul_in (a := c) (b := ys.getD k 0) (A := 1000) (B := 1700000) (by omega) (by omega) (ho.sge k) (ho.shi k)
  have K1 : Hid (∀ W : World, Below w.heap.size w W → Calls Tryz.prog 90 #[.agg #[.slice a zs.length ca, .slice b ys.length cb, .int .i64 (i : Int), .int .i64 c, .int .i64 s, .int .i64 h], .int .i64 (k : Int)] W fun e w' => e = .returned (.int .i64 (c * ys.getD k 0)) ∧ Below W.heap.size W w') := Lib.hid (fun W hb => rco_any W a b ca cb zs ys i k c s h (HP.out.on hb) ho hk c1 (by omega))
  have K2 : Hid (∀ W : World, Below w.heap.size w W → Calls Tryz.prog 91 #[.agg #[.slice a zs.length ca, .slice b ys.length cb, .int .i64 (i : Int), .int .i64 c, .int .i64 s, .int .i64 h]] W fun e w' => e = .returned (.int .i64 (h * ys.getD i 0)) ∧ Below W.heap.size W w') := Lib.hid (fun W hb => rsc_any W a b ca cb zs ys i i c s h (HP.out.on hb) ho hi rfl h1 h2)
  obtain ⟨A, hA⟩ : ∃ u, h * ys.getD i 0 = u := ⟨_, rfl⟩
  obtain ⟨B, hB⟩ : ∃ u, c * ys.getD k 0 = u := ⟨_, rfl⟩
  rw [hA] at q1 K2
  rw [hB] at q2 K1
  rw [hA, hB] at hx ⊢
  clear od ho hi hk hA hB c1 c2 h1 h2 hp
  have e1 : IntKind.wrap .i64 (A * A) = A * A := wr_mul (A := 1700000000) (B := 1700000000) (by omega) (by omega) (by omega) (by omega) (by omega) (by omega)
  have e2 : IntKind.wrap .i64 (B * B) = B * B := wr_mul (A := 1700000000) (B := 1700000000) (by omega) (by omega) (by omega) (by omega) (by omega) (by omega)
  have m1 := mul_in (a := A) (b := A) (A := 1700000000) (B := 1700000000) (by omega) (by omega) (by omega) (by omega)
  have m2 := mul_in (a := B) (b := B) (A := 1700000000) (B := 1700000000) (by omega) (by omega) (by omega) (by omega)
  have m3 : B * B ≤ A * A := Int.mul_le_mul (by omega) (by omega) (by omega) (by omega)
  have e3 : IntKind.wrap .i64 (A * A - B * B) = A * A - B * B := IntWalk.i64_in _ (by omega)
  have R : Hid (∀ w : World, Calls Tryz.prog 116 #[.int .i64 (A * A - B * B)] w fun e w' => e = .returned (.tuple #[.int .i64 (rt (A * A - B * B)), .int .i64 (rtup (A * A - B * B)), .int .i64 0]) ∧ w = w') := Lib.hid (fun w => by
    have := irb_any (A * A - B * B) w
    unfold RootEnd rlo rhi rcode at this
    rwa [if_pos (by omega), if_pos (by omega), if_pos (by omega)] at this)
  obtain ⟨X, hX⟩ : ∃ x, rt (A * A - B * B) = x := ⟨_, rfl⟩
  obtain ⟨Y, hY⟩ : ∃ x, rtup (A * A - B * B) = x := ⟨_, rfl⟩
  rw [hX, hY] at R ⊢
  clear hX hY m1 m2 m3 q1 q2 hx
  go_enter Tryz.func112, Tryz.ntmps112
  go_wp2_with fail
  generalize hW : World.alloc _ _ = W
  have bX : Bk W (w.heap.size) #[.slice a zs.length ca, .slice b ys.length cb, .int .i64 (i : Int), .int .i64 c, .int .i64 s, .int .i64 h] 74 := by rw [← hW]; repeat (first | exact Bk.new' (by simp) | refine Bk.alloc ?_ _)
  have bR : Bk W (w.heap.size + 1) #[.int .i64 0, .int .i64 0] 34 := by rw [← hW]; repeat (first | exact Bk.new' (by simp) | refine Bk.alloc ?_ _)
  have HB : Hid (Below w.heap.size w W) := Lib.hid (by rw [← hW]; exact (by repeat (first | exact Below.refl _ _ | (refine Below.alloc ?_ (by simp <;> omega) _) | (refine Below.setCell ?_ (by simp <;> omega) _) | (refine Below.drew ?_) | (refine bel_drewN ?_ _))))
  clear hW
  go_region_held3 (fun w' => w'.cell? ⟨w.heap.size, 0, none⟩ = some (.slice a zs.length ca) ∧ w'.cell? ⟨w.heap.size, 1, none⟩ = some (.slice b ys.length cb) ∧ w'.cell? ⟨w.heap.size, 2, none⟩ = some (.int .i64 (i : Int)) ∧ w'.cell? ⟨w.heap.size, 3, none⟩ = some (.int .i64 c) ∧ w'.cell? ⟨w.heap.size, 4, none⟩ = some (.int .i64 s) ∧ w'.cell? ⟨w.heap.size, 5, none⟩ = some (.int .i64 h) ∧ Below W.heap.size W w')
    (first
      | (exact at6 bX (Below.refl _ W).drew)
      | (go_split_ands; (with_reducible exact at6 bX hkB)))
    (first
      | (go_at_call 90; (with_reducible refine Calls.mono (K1.out _ (bel_end HB.out ?hq)) ?_); (case hq => (go_split_ands; assumption)); rintro e wA ⟨rfl, hbA⟩; have hkB := bel_in hbA (by go_split_ands; assumption) (Nat.le_refl _))
      | (go_at_call 91; (with_reducible refine Calls.mono (K2.out _ (bel_end HB.out ?hq)) ?_); (case hq => (go_split_ands; assumption)); rintro e wB ⟨rfl, hbB⟩; have hkB := bel_in hbB (by go_split_ands; assumption) (Nat.le_refl _)))
  all_goals
    have hb := hkB
    have bR2 := bR.on hb
    have HB2 := Lib.hid (bel_end HB.out hb)
    clear hkB hbA hbB hb
    go_wp2_with fail
    (with_reducible refine Calls.mono (R.out _) ?_)
    rintro e w' ⟨rfl, hw⟩
    subst hw
    have r0 := bR2.cell 0 rfl
    have r1 := bR2.cell 1 rfl
    have f0 := bR2.frozen 0
    have f1 := bR2.frozen 1
    have rl := bR2.lt
    go_wp2
    exact bodyPost_ret (v := .agg #[.int .i64 X, .int .i64 Y]) (by simp [results, Tryz.results112, go_sem, r0, r1]) rfl ⟨rfl, (HB2.out.setCell (by simp) _).setCell (by simp) _⟩

set_option maxRecDepth 100000 in
set_option maxHeartbeats 2000000 in
theorem rer_any (w : World) (a b : Option Addr) (ca cb : Nat) (zs ys : List Int) (src k c s h : Int) (hp : Prof w w.heap.size a b zs ys) :
    Calls Tryz.prog 56 #[.agg #[.slice a zs.length ca, .slice b ys.length cb, .int .i64 src, .int .i64 c, .int .i64 s, .int .i64 h], .int .i64 k] w fun e w' => e = .returned (.int .i64 (rcT (prfB zs ys) (dirB c s h) (hkB zs src) (hkB zs k))) ∧ Below w.heap.size w w' := by
  have HP := Lib.hid hp
  clear hp
  cases hd : dirB c s h
  · have HD := Lib.hid hd
    have HT : Hid (rcT (prfB zs ys) false (hkB zs src) (hkB zs k) = 1) := Lib.hid (by unfold rcT; rw [Bool.and_false]; rfl)
    clear hd
    go_enter Tryz.func56, Tryz.ntmps56
    go_wp2_with fail
    generalize hW : World.alloc _ _ = W
    have bX : Bk W (w.heap.size) #[.slice a zs.length ca, .slice b ys.length cb, .int .i64 src, .int .i64 c, .int .i64 s, .int .i64 h] 74 := by rw [← hW]; repeat (first | exact Bk.new' (by simp) | refine Bk.alloc ?_ _)
    have HB : Hid (Below w.heap.size w W) := Lib.hid (by rw [← hW]; exact (by repeat (first | exact Below.refl _ _ | (refine Below.alloc ?_ (by simp <;> omega) _) | (refine Below.setCell ?_ (by simp <;> omega) _) | (refine Below.drew ?_) | (refine bel_drewN ?_ _))))
    clear hW
    refine (idr_any _ _ _ _).mono ?_
    rw [HD.out]
    rintro e w1 ⟨rfl, hb⟩
    replace bX := bX.on hb
    replace HB := Lib.hid (bel_end HB.out hb)
    clear hb
    have x0 := bX.cell 0 rfl
    have x1 := bX.cell 1 rfl
    have x2 := bX.cell 2 rfl
    have xl := bX.lt
    go_wp2
    go_ret
    exact ⟨ret_int HT.out.symm, HB.out⟩
  have HD := Lib.hid hd
  clear hd
  obtain ⟨q1, h1⟩ : ∃ q, cdT (prfB zs ys) (hkB zs src) = q := ⟨_, rfl⟩
  obtain ⟨q2, h2⟩ : ∃ q, cdT (prfB zs ys) (hkB zs k) = q := ⟨_, rfl⟩
  have K1 : Hid (∀ W : World, Below w.heap.size w W → Calls Tryz.prog 49 #[.agg #[.slice a zs.length ca, .slice b ys.length cb], .func (.func 37) #[.agg #[.slice a zs.length ca, .slice b ys.length cb]] #[], .int .i64 src] W fun e w' => e = .returned (.int .i64 q1) ∧ Below W.heap.size W w') := Lib.hid (fun W hb => by have := eok_any W a b ca cb zs ys src (HP.out.on hb); rwa [h1] at this)
  have K2 : Hid (∀ W : World, Below w.heap.size w W → Calls Tryz.prog 49 #[.agg #[.slice a zs.length ca, .slice b ys.length cb], .func (.func 37) #[.agg #[.slice a zs.length ca, .slice b ys.length cb]] #[], .int .i64 k] W fun e w' => e = .returned (.int .i64 q2) ∧ Below W.heap.size W w') := Lib.hid (fun W hb => by have := eok_any W a b ca cb zs ys k (HP.out.on hb); rwa [h2] at this)
  have HT : Hid (rcT (prfB zs ys) true (hkB zs src) (hkB zs k) = if q1 = 0 then q2 else q1) := Lib.hid (by subst h1 h2; cases prfB zs ys <;> cases hkB zs src <;> cases hkB zs k <;> rfl)
  clear h1 h2
  by_cases hq : q1 = 0
  all_goals
    go_enter Tryz.func56, Tryz.ntmps56
    go_wp2_with fail
    generalize hW : World.alloc _ _ = W
    have bX : Bk W (w.heap.size) #[.slice a zs.length ca, .slice b ys.length cb, .int .i64 src, .int .i64 c, .int .i64 s, .int .i64 h] 74 := by rw [← hW]; repeat (first | exact Bk.new' (by simp) | refine Bk.alloc ?_ _)
    have HB : Hid (Below w.heap.size w W) := Lib.hid (by rw [← hW]; exact (by repeat (first | exact Below.refl _ _ | (refine Below.alloc ?_ (by simp <;> omega) _) | (refine Below.setCell ?_ (by simp <;> omega) _) | (refine Below.drew ?_) | (refine bel_drewN ?_ _))))
    clear hW
    refine (idr_any _ _ _ _).mono ?_
    rw [HD.out]
    rintro e w1 ⟨rfl, hb⟩
    replace bX := bX.on hb
    replace HB := Lib.hid (bel_end HB.out hb)
    clear hb
    have x0 := bX.cell 0 rfl
    have x1 := bX.cell 1 rfl
    have x2 := bX.cell 2 rfl
    have xl := bX.lt
    go_wp2_with fail
    generalize hW : World.alloc _ _ = W2
    have hb : Below w1.heap.size w1 W2 := by rw [← hW]; exact (by repeat (first | exact Below.refl _ _ | (refine Below.alloc ?_ (by simp <;> omega) _) | (refine Below.setCell ?_ (by simp <;> omega) _) | (refine Below.drew ?_) | (refine bel_drewN ?_ _)))
    have bP : Bk W2 w1.heap.size #[.slice a zs.length ca, .slice b ys.length cb] 26 := by rw [← hW]; exact Bk.new' rfl
    replace bX := bX.on hb
    replace HB := Lib.hid (bel_end HB.out hb)
    clear hW hb x0 x1 x2 xl
    (with_reducible refine Calls.mono (K1.out _ HB.out) ?_)
    rintro e w3 ⟨rfl, hb⟩
    replace bX := bX.on hb
    replace bP := bP.on hb
    replace HB := Lib.hid (bel_end HB.out hb)
    clear hb
    have p0 := bP.cell 0 rfl
    have p1 := bP.cell 1 rfl
    have pl := bP.lt
  · subst hq
    go_wp2_with fail
    (with_reducible refine Calls.mono (K2.out _ HB.out) ?_)
    rintro e w4 ⟨rfl, hb⟩
    go_wp2
    go_ret
    exact ⟨ret_int (by rw [HT.out]; simp), bel_end HB.out hb⟩
  · have hq0 : (q1 != 0) = true := by simpa using hq
    go_wp2
    go_ret
    exact ⟨ret_int (HT.out.trans (if_neg hq)).symm, HB.out⟩
end
section
/- Contracts of the model's helpers on rays. -/
open Go.ChangeShapes Go.WideShapes Go.ChangeAt Go.RowKit Go.Shelf Num
set_option linter.unusedVariables false
theorem inB_hkn (zs : List Int) (x : Int) : inB x 0 ((zs.length : Int) - 1) = hkB zs x := by
  unfold inB hkB
  rw [Bool.eq_iff_iff]
  simp only [decide_eq_true_eq, Bool.and_eq_true]
  omega
set_option maxRecDepth 100000 in
set_option maxHeartbeats 2000000 in
theorem lrc_any (w : World) (a b : Option Addr) (ca cb : Nat) (zs ys : List Int) (src k c s h : Int) (hp : Prof w w.heap.size a b zs ys) :
    Calls Tryz.prog 73 #[.agg #[.slice a zs.length ca, .slice b ys.length cb], .int .i64 src, .agg #[.int .i64 c, .int .i64 s, .int .i64 h], .int .i64 k] w fun e w' => e = .returned (.int .i64 (rcT (prfB zs ys) (dirB c s h) (hkB zs src) (hkB zs k))) ∧ Below w.heap.size w w' := by
  have HP := Lib.hid hp
  have lz := hp.lz
  clear hp
  have ez : IntKind.wrap .i64 ((zs.length : Int) - 1) = (zs.length : Int) - 1 := IntWalk.i64_in _ (by omega)
  cases hv : prfB zs ys
  · have HV := Lib.hid hv
    clear hv
    go_enter Tryz.func73, Tryz.ntmps73
    go_wp2_with fail
    generalize hW : World.alloc _ _ = W
    have HB : Hid (Below w.heap.size w W) := Lib.hid (by rw [← hW]; exact (by repeat (first | exact Below.refl _ _ | (refine Below.alloc ?_ (by simp <;> omega) _) | (refine Below.setCell ?_ (by simp <;> omega) _) | (refine Below.drew ?_) | (refine bel_drewN ?_ _))))
    clear hW
    refine (spr_any _ _ _ _ _ zs ys (HP.out.on HB.out)).mono ?_
    rw [HV.out]
    rintro e w1 ⟨rfl, hb⟩
    go_wp2
    go_ret
    exact ⟨rfl, bel_end HB.out hb⟩
  have HV := Lib.hid hv
  clear hv
  cases hd : dirB c s h
  all_goals
    have HD := Lib.hid hd
    clear hd
  · go_enter Tryz.func73, Tryz.ntmps73
    go_wp2_with fail
    generalize hW : World.alloc _ _ = W
    have bD : Bk W (w.heap.size + 1) #[.int .i64 c, .int .i64 s, .int .i64 h] 28 := by rw [← hW]; repeat (first | exact Bk.new' (by simp) | refine Bk.alloc ?_ _)
    have bP : Bk W (w.heap.size) #[.slice a zs.length ca, .slice b ys.length cb] 26 := by rw [← hW]; repeat (first | exact Bk.new' (by simp) | refine Bk.alloc ?_ _)
    have HB : Hid (Below w.heap.size w W) := Lib.hid (by rw [← hW]; exact (by repeat (first | exact Below.refl _ _ | (refine Below.alloc ?_ (by simp <;> omega) _) | (refine Below.setCell ?_ (by simp <;> omega) _) | (refine Below.drew ?_) | (refine bel_drewN ?_ _))))
    clear hW
    refine (spr_any _ _ _ _ _ zs ys (HP.out.on HB.out)).mono ?_
    rw [HV.out]
    rintro e w1 ⟨rfl, hb⟩
    replace bD := bD.on hb
    replace bP := bP.on hb
    replace HB := Lib.hid (bel_end HB.out hb)
    clear hb
    have d0 := bD.cell 0 rfl
    have d1 := bD.cell 1 rfl
    have d2 := bD.cell 2 rfl
    go_wp2_with fail
    refine (sdr_any _ _ _ _).mono ?_
    rw [HD.out]
    rintro e w2 ⟨rfl, hb⟩
    replace bP := bP.on hb
    have p0 := bP.cell 0 rfl
    have pl := bP.lt
    go_wp2
    go_ret
    exact ⟨rfl, bel_end HB.out hb⟩
  cases hi : hkB zs src
  · have L1 : Hid (∀ w : World, Calls Tryz.prog 44 #[.int .i64 src, .int .i64 0, .int .i64 ((zs.length : Int) - 1)] w fun e w' => e = .returned (.bool false) ∧ w = w') := Lib.hid (fun w => by have := lin_any src 0 ((zs.length : Int) - 1) w; rwa [inB_hkn, hi] at this)
    go_enter Tryz.func73, Tryz.ntmps73
    go_wp2_with fail
    generalize hW : World.alloc _ _ = W
    have bD : Bk W (w.heap.size + 1) #[.int .i64 c, .int .i64 s, .int .i64 h] 28 := by rw [← hW]; repeat (first | exact Bk.new' (by simp) | refine Bk.alloc ?_ _)
    have bP : Bk W (w.heap.size) #[.slice a zs.length ca, .slice b ys.length cb] 26 := by rw [← hW]; repeat (first | exact Bk.new' (by simp) | refine Bk.alloc ?_ _)
    have HB : Hid (Below w.heap.size w W) := Lib.hid (by rw [← hW]; exact (by repeat (first | exact Below.refl _ _ | (refine Below.alloc ?_ (by simp <;> omega) _) | (refine Below.setCell ?_ (by simp <;> omega) _) | (refine Below.drew ?_) | (refine bel_drewN ?_ _))))
    clear hW
    refine (spr_any _ _ _ _ _ zs ys (HP.out.on HB.out)).mono ?_
    rw [HV.out]
    rintro e w1 ⟨rfl, hb⟩
    replace bD := bD.on hb
    replace bP := bP.on hb
    replace HB := Lib.hid (bel_end HB.out hb)
    clear hb
    have d0 := bD.cell 0 rfl
    have d1 := bD.cell 1 rfl
    have d2 := bD.cell 2 rfl
    go_wp2_with fail
    refine (sdr_any _ _ _ _).mono ?_
    rw [HD.out]
    rintro e w2 ⟨rfl, hb⟩
    replace bP := bP.on hb
    have p0 := bP.cell 0 rfl
    have pl := bP.lt
    go_wp2_with (go_at_call 44; (with_reducible refine Calls.mono (L1.out _) ?_); rintro e w' ⟨rfl, hw⟩; subst hw)
    go_ret
    exact ⟨rfl, bel_end HB.out hb⟩
  · have L1 : Hid (∀ w : World, Calls Tryz.prog 44 #[.int .i64 src, .int .i64 0, .int .i64 ((zs.length : Int) - 1)] w fun e w' => e = .returned (.bool true) ∧ w = w') := Lib.hid (fun w => by have := lin_any src 0 ((zs.length : Int) - 1) w; rwa [inB_hkn, hi] at this)
    cases hk : hkB zs k
    · have L2 : Hid (∀ w : World, Calls Tryz.prog 44 #[.int .i64 k, .int .i64 0, .int .i64 ((zs.length : Int) - 1)] w fun e w' => e = .returned (.bool false) ∧ w = w') := Lib.hid (fun w => by have := lin_any k 0 ((zs.length : Int) - 1) w; rwa [inB_hkn, hk] at this)
      clear hi hk
      go_enter Tryz.func73, Tryz.ntmps73
      go_wp2_with fail
      generalize hW : World.alloc _ _ = W
      have bD : Bk W (w.heap.size + 1) #[.int .i64 c, .int .i64 s, .int .i64 h] 28 := by rw [← hW]; repeat (first | exact Bk.new' (by simp) | refine Bk.alloc ?_ _)
      have bP : Bk W (w.heap.size) #[.slice a zs.length ca, .slice b ys.length cb] 26 := by rw [← hW]; repeat (first | exact Bk.new' (by simp) | refine Bk.alloc ?_ _)
      have HB : Hid (Below w.heap.size w W) := Lib.hid (by rw [← hW]; exact (by repeat (first | exact Below.refl _ _ | (refine Below.alloc ?_ (by simp <;> omega) _) | (refine Below.setCell ?_ (by simp <;> omega) _) | (refine Below.drew ?_) | (refine bel_drewN ?_ _))))
      clear hW
      refine (spr_any _ _ _ _ _ zs ys (HP.out.on HB.out)).mono ?_
      rw [HV.out]
      rintro e w1 ⟨rfl, hb⟩
      replace bD := bD.on hb
      replace bP := bP.on hb
      replace HB := Lib.hid (bel_end HB.out hb)
      clear hb
      have d0 := bD.cell 0 rfl
      have d1 := bD.cell 1 rfl
      have d2 := bD.cell 2 rfl
      go_wp2_with fail
      refine (sdr_any _ _ _ _).mono ?_
      rw [HD.out]
      rintro e w2 ⟨rfl, hb⟩
      replace bP := bP.on hb
      have p0 := bP.cell 0 rfl
      have pl := bP.lt
      go_wp2_with (first | (go_at_call 44; (with_reducible refine Calls.mono (L1.out _) ?_); rintro e w' ⟨rfl, hw⟩; subst hw) | (go_at_call 44; (with_reducible refine Calls.mono (L2.out _) ?_); rintro e w' ⟨rfl, hw⟩; subst hw))
      go_ret
      exact ⟨rfl, bel_end HB.out hb⟩
    · have L2 : Hid (∀ w : World, Calls Tryz.prog 44 #[.int .i64 k, .int .i64 0, .int .i64 ((zs.length : Int) - 1)] w fun e w' => e = .returned (.bool true) ∧ w = w') := Lib.hid (fun w => by have := lin_any k 0 ((zs.length : Int) - 1) w; rwa [inB_hkn, hk] at this)
      clear hi hk
      go_enter Tryz.func73, Tryz.ntmps73
      go_wp2_with fail
      generalize hW : World.alloc _ _ = W
      have bD : Bk W (w.heap.size + 1) #[.int .i64 c, .int .i64 s, .int .i64 h] 28 := by rw [← hW]; repeat (first | exact Bk.new' (by simp) | refine Bk.alloc ?_ _)
      have bP : Bk W (w.heap.size) #[.slice a zs.length ca, .slice b ys.length cb] 26 := by rw [← hW]; repeat (first | exact Bk.new' (by simp) | refine Bk.alloc ?_ _)
      have HB : Hid (Below w.heap.size w W) := Lib.hid (by rw [← hW]; exact (by repeat (first | exact Below.refl _ _ | (refine Below.alloc ?_ (by simp <;> omega) _) | (refine Below.setCell ?_ (by simp <;> omega) _) | (refine Below.drew ?_) | (refine bel_drewN ?_ _))))
      clear hW
      refine (spr_any _ _ _ _ _ zs ys (HP.out.on HB.out)).mono ?_
      rw [HV.out]
      rintro e w1 ⟨rfl, hb⟩
      replace bD := bD.on hb
      replace bP := bP.on hb
      replace HB := Lib.hid (bel_end HB.out hb)
      clear hb
      have d0 := bD.cell 0 rfl
      have d1 := bD.cell 1 rfl
      have d2 := bD.cell 2 rfl
      go_wp2_with fail
      refine (sdr_any _ _ _ _).mono ?_
      rw [HD.out]
      rintro e w2 ⟨rfl, hb⟩
      replace bP := bP.on hb
      have p0 := bP.cell 0 rfl
      have pl := bP.lt
      go_wp2_with (first | (go_at_call 44; (with_reducible refine Calls.mono (L1.out _) ?_); rintro e w' ⟨rfl, hw⟩; subst hw) | (go_at_call 44; (with_reducible refine Calls.mono (L2.out _) ?_); rintro e w' ⟨rfl, hw⟩; subst hw))
      go_ret
      exact ⟨rfl, bel_end HB.out hb⟩

set_option maxRecDepth 100000 in
set_option maxHeartbeats 2000000 in
theorem lsq_any (w : World) (a b : Option Addr) (ca cb : Nat) (zs ys : List Int) (i k : Nat) (c s h : Int) (hp : Prof w w.heap.size a b zs ys) (ho : Okp zs ys) (hi : i < zs.length) (hk : k < zs.length) (od : DirOk c s h) :
    Calls Tryz.prog 82 #[.agg #[.slice a zs.length ca, .slice b ys.length cb], .int .i64 (i : Int), .agg #[.int .i64 c, .int .i64 s, .int .i64 h], .int .i64 (k : Int)] w fun e w' => e = .returned (.int .i64 ((h * ys.getD i 0 - c * ys.getD k 0) * (h * ys.getD i 0 + c * ys.getD k 0))) ∧ Below w.heap.size w w' := by
  have c1 := od.c1
  have c2 := od.c2
  have h1 := od.h1
  have h2 := od.h2
  have q1 := mul_in (a := h) (b := ys.getD i 0) (A := 1000) (B := 1700000) (by omega) (by omega) (ho.sge i) (ho.shi i)
  have q2 := mul_in (a := c) (b := ys.getD k 0) (A := 1000) (B := 1700000) (by omega) (by omega) (ho.sge k) (ho.shi k)
  have hl := ho.len
  have ly := hp.ly
  have hi2 : i < ys.length := by omega
  have hk2 : k < ys.length := by omega
  obtain ⟨b0, off, rfl, hB0, g1⟩ := hp.sy.at_ hi2
  have g2 : w.cell? ⟨b0, off + k, none⟩ = some (.int .i64 (ys.getD k 0)) := by
    obtain ⟨b2, o2, e2, _, g2⟩ := hp.sy.at_ hk2
    injection e2 with e2
    injection e2 with e3 e4
    subst e3 e4
    exact g2
  obtain ⟨u, hu⟩ : ∃ u, ys.getD i 0 = u := ⟨_, rfl⟩
  obtain ⟨v, hv⟩ : ∃ u, ys.getD k 0 = u := ⟨_, rfl⟩
  rw [hu] at q1 g1
  rw [hv] at q2 g2
  rw [hu, hv]
  have e1 : IntKind.wrap .i64 (h * u) = h * u := IntWalk.i64_in _ (by omega)
  have e2 : IntKind.wrap .i64 (c * v) = c * v := IntWalk.i64_in _ (by omega)
  have e3 : IntKind.wrap .i64 (h * u - c * v) = h * u - c * v := IntWalk.i64_in _ (by omega)
  have e4 : IntKind.wrap .i64 (h * u + c * v) = h * u + c * v := IntWalk.i64_in _ (by omega)
  have e5 : IntKind.wrap .i64 ((h * u - c * v) * (h * u + c * v)) = (h * u - c * v) * (h * u + c * v) := by
    refine IntWalk.i64_in _ ?_
    have := mul_abs (a := h * u - c * v) (n := h * u + c * v) (A := 1700000000) (N := 3400000000) (by omega) (by omega)
    omega
  clear hu hv q1 q2 c1 c2 h1 h2 od ho hp hl hi hk
  go_enter Tryz.func82, Tryz.ntmps82
  go_wp2_with fail
  generalize hW : World.alloc _ _ = W
  have bD : Bk W (w.heap.size + 1) #[.int .i64 c, .int .i64 s, .int .i64 h] 28 := by rw [← hW]; repeat (first | exact Bk.new' (by simp) | refine Bk.alloc ?_ _)
  have bP : Bk W (w.heap.size) #[.slice a zs.length ca, .slice (some ⟨b0, off, none⟩) ys.length cb] 26 := by rw [← hW]; repeat (first | exact Bk.new' (by simp) | refine Bk.alloc ?_ _)
  have HB : Hid (Below w.heap.size w W) := Lib.hid (by rw [← hW]; exact (by repeat (first | exact Below.refl _ _ | (refine Below.alloc ?_ (by simp <;> omega) _) | (refine Below.setCell ?_ (by simp <;> omega) _) | (refine Below.drew ?_) | (refine bel_drewN ?_ _))))
  have HB1 := HB.out
  clear hW
  replace g1 := kc1 g1 HB1
  replace g2 := kc1 g2 HB1
  have d0 := bD.cell 0 rfl
  have d2 := bD.cell 2 rfl
  have p1 := bP.cell 1 rfl
  clear HB1
  go_quiet (fail)
  go_wp2
  go_ret
  exact ⟨rfl, bel_drewN HB.out _⟩

theorem sq_eq (A B : Int) : (A - B) * (A + B) = A * A - B * B := by rw [Int.sub_mul, Int.mul_add, Int.mul_add, Int.mul_comm B A]; omega
theorem sq_pos {A B : Int} (hA : 0 ≤ A) (hB : 0 ≤ B) : (0 < (A - B) * (A + B)) ↔ B < A := by
  constructor
  · intro h
    rcases Int.lt_or_le B A with l | l
    · exact l
    · have := Int.mul_le_mul_of_nonneg_right (show A - B ≤ 0 by omega) (show 0 ≤ A + B by omega)
      omega
  · intro h; exact Int.mul_pos (by omega) (by omega)

set_option maxRecDepth 100000 in
set_option maxHeartbeats 2000000 in
theorem lsn_any (w : World) (a b : Option Addr) (ca cb : Nat) (zs ys : List Int) (i k : Nat) (c s h : Int) (hp : Prof w w.heap.size a b zs ys) (ho : Okp zs ys) (hi : i < zs.length) (hk : k < zs.length) (od : DirOk c s h) (hx : c * ys.getD k 0 < h * ys.getD i 0) :
    Calls Tryz.prog 83 #[.agg #[.slice a zs.length ca, .slice b ys.length cb], .int .i64 (i : Int), .agg #[.int .i64 c, .int .i64 s, .int .i64 h], .int .i64 (k : Int)] w fun e w' => e = .returned (.agg #[.int .i64 (rt ((h * ys.getD i 0) * (h * ys.getD i 0) - (c * ys.getD k 0) * (c * ys.getD k 0))), .int .i64 (rtup ((h * ys.getD i 0) * (h * ys.getD i 0) - (c * ys.getD k 0) * (c * ys.getD k 0)))]) ∧ Below w.heap.size w w' := by
  have HP := Lib.hid hp
  have q1 := mul_in (a := h) (b := ys.getD i 0) (A := 1000) (B := 1700000) (by have := od.h1; omega) (by have := od.h2; omega) (ho.sge i) (ho.shi i)
  have q2 := mul_in (a := c) (b := ys.getD k 0) (A := 1000) (B := 1700000) (by have := od.c1; omega) (by have := od.c2; have := od.h2; omega) (ho.sge k) (ho.shi k)
  have K : Hid (∀ W : World, Below w.heap.size w W → Calls Tryz.prog 82 #[.agg #[.slice a zs.length ca, .slice b ys.length cb], .int .i64 (i : Int), .agg #[.int .i64 c, .int .i64 s, .int .i64 h], .int .i64 (k : Int)] W fun e w' => e = .returned (.int .i64 ((h * ys.getD i 0) * (h * ys.getD i 0) - (c * ys.getD k 0) * (c * ys.getD k 0))) ∧ Below W.heap.size W w') := Lib.hid (fun W hb => by have := lsq_any W a b ca cb zs ys i k c s h (HP.out.on hb) ho hi hk od; rwa [sq_eq] at this)
  obtain ⟨A, hA⟩ : ∃ u, h * ys.getD i 0 = u := ⟨_, rfl⟩
  obtain ⟨B, hB⟩ : ∃ u, c * ys.getD k 0 = u := ⟨_, rfl⟩
  rw [hA] at q1 K hx
  rw [hB] at q2 K hx
  rw [hA, hB]
  have m1 := mul_in (a := A) (b := A) (A := 1700000000) (B := 1700000000) (by omega) (by omega) (by omega) (by omega)
  have m2 := mul_in (a := B) (b := B) (A := 1700000000) (B := 1700000000) (by omega) (by omega) (by omega) (by omega)
  have m3 : B * B ≤ A * A := Int.mul_le_mul (by omega) (by omega) (by omega) (by omega)
  obtain ⟨N, hN⟩ : ∃ n, A * A - B * B = n := ⟨_, rfl⟩
  have n0 : 0 ≤ N := by omega
  have n1 : N ≤ 4000000000000000000 := by omega
  rw [hN] at K ⊢
  have R1 : Hid (∀ w : World, Calls Tryz.prog 88 #[.int .i64 N] w fun e w' => e = .returned (.int .i64 (rt N)) ∧ w = w') := Lib.hid (fun w => lrt_any N n0 n1 w)
  have R2 : Hid (∀ w : World, Calls Tryz.prog 89 #[.int .i64 N] w fun e w' => e = .returned (.int .i64 (rtup N)) ∧ w = w') := Lib.hid (fun w => lru_any N n0 n1 w)
  obtain ⟨X, hX⟩ : ∃ x, rt N = x := ⟨_, rfl⟩
  obtain ⟨Y, hY⟩ : ∃ x, rtup N = x := ⟨_, rfl⟩
  rw [hX] at R1
  rw [hY] at R2
  rw [hX, hY]
  clear hX hY m1 m2 m3 q1 q2 hx n0 n1 hN hA hB od ho hi hk hp
  go_enter Tryz.func83, Tryz.ntmps83
  go_wp2_with fail
  generalize hW : World.alloc _ _ = W
  have bR : Bk W (w.heap.size + 1 + 1) #[.int .i64 0, .int .i64 0] 34 := by rw [← hW]; repeat (first | exact Bk.new' (by simp) | refine Bk.alloc ?_ _)
  have HB : Hid (Below w.heap.size w W) := Lib.hid (by rw [← hW]; exact (by repeat (first | exact Below.refl _ _ | (refine Below.alloc ?_ (by simp <;> omega) _) | (refine Below.setCell ?_ (by simp <;> omega) _) | (refine Below.drew ?_) | (refine bel_drewN ?_ _))))
  clear hW
  (with_reducible refine Calls.mono (K.out _ HB.out) ?_)
  rintro e w1 ⟨rfl, hb⟩
  replace bR := bR.on hb
  replace HB := Lib.hid (bel_end HB.out hb)
  clear hb
  have r0 := bR.cell 0 rfl
  have r1 := bR.cell 1 rfl
  have f0 := bR.frozen 0
  have f1 := bR.frozen 1
  have rl := bR.lt
  go_wp2_with (first | (go_at_call 88; (with_reducible refine Calls.mono (R1.out _) ?_); rintro e w' ⟨rfl, hw⟩; subst hw) | (go_at_call 89; (with_reducible refine Calls.mono (R2.out _) ?_); rintro e w' ⟨rfl, hw⟩; subst hw))
  exact bodyPost_ret (v := .agg #[.int .i64 X, .int .i64 Y]) (by simp [results, Tryz.results83, go_sem, r0, r1]) rfl ⟨rfl, (HB.out.setCell (by simp; omega) _).setCell (by simp; omega) _⟩
end
section
/- Contracts of CanCross and SineAt of the program. Contracts of CanCross and SineAt of the model. -/
open Go.ChangeShapes Go.WideShapes Go.ChangeAt Go.RowKit Go.Shelf Num
set_option linter.unusedVariables false

/-- the code of a ray at a knot -/
def rcod (zs ys : List Int) (src c s h k : Int) : Int := rcT (prfB zs ys) (dirB c s h) (hkB zs src) (hkB zs k)
/-- the scale of a ray, its cosine at a knot -/
def rA (ys : List Int) (src h : Int) : Int := h * ys.getD src.toNat 0
def rB (ys : List Int) (k c : Int) : Int := c * ys.getD k.toNat 0
def crB (ys : List Int) (src c h k : Int) : Bool := decide (rB ys k c < rA ys src h)
def sqN (ys : List Int) (src c h k : Int) : Int := rA ys src h * rA ys src h - rB ys k c * rB ys k c
theorem rA_nat (ys : List Int) (i : Nat) (h : Int) : rA ys (i : Int) h = h * ys.getD i 0 := rfl
theorem rB_nat (ys : List Int) (k : Nat) (c : Int) : rB ys (k : Int) c = c * ys.getD k 0 := rfl
open Go.ChangeShapes Go.WideShapes Go.ChangeAt Go.RowKit Go.Shelf Num
set_option linter.unusedVariables false
end
end Go.Proofs.YtgecbfbmmbfnmaaGreat
