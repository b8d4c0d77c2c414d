/- The model's sines at any knot, roots of what is not positive too. -/
import Derived.Test.YtgecbfbmmbfnmaaArcF
import Derived.Test.YtgecbfbmmbfnmaaRayS
namespace Go.Proofs.Ytgecbfbmmbfnmaa
open Go.ChangeShapes Go.WideShapes Go.ChangeAt Go.RowKit Go.Shelf Num
set_option linter.unusedVariables false
theorem lrn_any (n : Int) (hn : n < 0) (w : World) :
    Calls Try.prog 78 #[.int .i64 n] w fun e w' => e = .returned (.int .i64 0) ∧ w = w' := by
  go_enter Try.func78, Try.ntmps78
  go_wp2
  go_loop [3, 4] (fun l h => ∃ lo hi : Int, l = .int .i64 lo ∧ h = .int .i64 hi ∧ 0 ≤ lo ∧ lo ≤ 0 ∧ lo < hi ∧ hi ≤ 2000000001) (fun l h => (intOf h - intOf l).toNat)
  case atStart => exact ⟨0, 2000000001, rfl, rfl, by omega, by omega, by omega, by omega⟩
  case round =>
    obtain ⟨lo, hi, rfl, rfl, h1, h2, h3, h4⟩ := hrel
    by_cases hc : 1 < hi - lo
    · have e0 : 0 ≤ (lo + hi) / 2 := by omega
      have e1 : (lo + hi) / 2 ≤ 2000000000 := by omega
      have s0 := rsq_le (a := 0) (b := (lo + hi) / 2) (by omega) (by omega)
      have s1 := rsq_le e0 e1
      have hs : ¬ (lo + hi) / 2 * ((lo + hi) / 2) ≤ n := by omega
      go_wp2
      go_round
      case rel => exact ⟨lo, (lo + hi) / 2, rfl, rfl, by omega, by omega, by omega, by omega⟩
      case measure => simp [intOf]; omega
    · go_wp2
      go_ret
      exact ⟨ret_int (by omega), rfl⟩
theorem rt_zero : rt 0 = 0 := rt_unique (by omega) (by omega) (by omega)
theorem lrz_any (n : Int) (hn : n ≤ 0) (w : World) :
    Calls Try.prog 78 #[.int .i64 n] w fun e w' => e = .returned (.int .i64 0) ∧ w = w' := by
  by_cases h : n < 0
  · exact lrn_any n h w
  · obtain rfl : n = 0 := by omega
    have := lrt_any 0 (by omega) (by omega) w
    rwa [rt_zero] at this
theorem luz_any (n : Int) (hn : n ≤ 0) (w : World) :
    Calls Try.prog 79 #[.int .i64 n] w fun e w' => e = .returned (.int .i64 0) ∧ w = w' := by
  have h0 : ¬ (0 : Int) < n := by omega
  have h1 : ¬ (0 : Int) * 0 < n := by omega
  go_enter Try.func79, Try.ntmps79
  go_wp2_with (go_at_call 78; refine (lrz_any _ hn _).mono ?_; rintro e w' ⟨rfl, rfl⟩)
  go_ret
  exact ⟨rfl, rfl⟩
/-- bounds of the sine at any knot: zero where the ray does not come -/
def sL (ys : List Int) (i : Nat) (c h : Int) (k : Nat) : Int := if crB ys (i : Int) c h (k : Int) then sLo ys i c h k else 0
def sH (ys : List Int) (i : Nat) (c h : Int) (k : Nat) : Int := if crB ys (i : Int) c h (k : Int) then sHi ys i c h k else 0
theorem RyOk.sg {zs ys : List Int} {i : Nat} {c s h : Int} (r : RyOk zs ys i c s h) (k : Nat) : 0 ≤ sL ys i c h k ∧ sL ys i c h k ≤ sH ys i c h k ∧ sH ys i c h k ≤ 2000000001 ∧ (crB ys (i : Int) c h (k : Int) = true → 1 ≤ sL ys i c h k) := by
  unfold sL sH
  cases e : crB ys (i : Int) c h (k : Int)
  · simp
  · have g := r.sn e
    have a1 := g.l1
    have a2 := g.l2
    have a3 := g.lh
    have a4 := g.h2
    rw [if_pos rfl, if_pos rfl]
    exact ⟨by omega, a3, by omega, fun _ => a1⟩
set_option maxRecDepth 100000 in
set_option maxHeartbeats 2000000 in
theorem lsz_any (w : World) (a b : Option Addr) (ca cb : Nat) (zs ys : List Int) (i k : Nat) (c s h : Int) (hp : Prof w w.heap.size a b zs ys) (r : RyOk zs ys i c s h) (hk : k < zs.length) (hx : crB ys (i : Int) c h (k : Int) = false) :
    Calls Try.prog 73 #[.agg #[.slice a zs.length ca, .slice b ys.length cb], .int .i64 (i : Int), .agg #[.int .i64 c, .int .i64 s, .int .i64 h], .int .i64 (k : Int)] w fun e w' => e = .returned (.agg #[.int .i64 0, .int .i64 0]) ∧ Below w.heap.size w w' := by
  have HP := Lib.hid hp
  have hge := crB_ge hx
  have hA := r.A
  have hB := r.B k
  have hs := sq_pos hA.1 hB.1
  have K : Hid (∀ W : World, Below w.heap.size w W → Calls Try.prog 72 #[.agg #[.slice a zs.length ca, .slice b ys.length cb], .int .i64 (i : Int), .agg #[.int .i64 c, .int .i64 s, .int .i64 h], .int .i64 (k : Int)] W fun e w' => e = .returned (.int .i64 ((h * ys.getD i 0 - c * ys.getD k 0) * (h * ys.getD i 0 + c * ys.getD k 0))) ∧ Below W.heap.size W w') := Lib.hid (fun W hb => lsq_any W a b ca cb zs ys i k c s h (HP.out.on hb) r.ok r.hi hk r.od)
  obtain ⟨N, hN⟩ : ∃ n, (h * ys.getD i 0 - c * ys.getD k 0) * (h * ys.getD i 0 + c * ys.getD k 0) = n := ⟨_, rfl⟩
  rw [hN] at K hs
  have n0 : N ≤ 0 := by
    rcases Int.lt_or_le 0 N with l | l
    · have := hs.1 l; omega
    · exact l
  have R1 : Hid (∀ w : World, Calls Try.prog 78 #[.int .i64 N] w fun e w' => e = .returned (.int .i64 0) ∧ w = w') := Lib.hid (fun w => lrz_any N n0 w)
  have R2 : Hid (∀ w : World, Calls Try.prog 79 #[.int .i64 N] w fun e w' => e = .returned (.int .i64 0) ∧ w = w') := Lib.hid (fun w => luz_any N n0 w)
  clear n0 hN hs hA hB hge hx hk hp r
  go_enter Try.func73, Try.ntmps73
  go_wp2_with fail
  generalize hW : World.alloc _ _ = W
  have bR : Bk W (w.heap.size + 1 + 1) #[.int .i64 0, .int .i64 0] 29 := by rw [← hW]; repeat (first | exact Bk.new' (by simp) | refine Bk.alloc ?_ _)
  have HB : Hid (Below w.heap.size w W) := Lib.hid (by rw [← hW]; exact (by repeat (first | exact Below.refl _ _ | (refine Below.alloc ?_ (by simp <;> omega) _) | (refine Below.setCell ?_ (by simp <;> omega) _) | (refine Below.drew ?_) | (refine bel_drewN ?_ _))))
  clear hW
  (with_reducible refine Calls.mono (K.out _ HB.out) ?_)
  rintro e w1 ⟨rfl, hb⟩
  replace bR := bR.on hb
  replace HB := Lib.hid (bel_end HB.out hb)
  clear hb
  have r0 := bR.cell 0 rfl
  have r1 := bR.cell 1 rfl
  have f0 := bR.frozen 0
  have f1 := bR.frozen 1
  have rl := bR.lt
  go_wp2_with (first | (go_at_call 78; (with_reducible refine Calls.mono (R1.out _) ?_); rintro e w' ⟨rfl, hw⟩; subst hw) | (go_at_call 79; (with_reducible refine Calls.mono (R2.out _) ?_); rintro e w' ⟨rfl, hw⟩; subst hw))
  exact bodyPost_ret (v := .agg #[.int .i64 0, .int .i64 0]) (by simp [results, Try.results73, go_sem, r0, r1]) rfl ⟨rfl, (HB.out.setCell (by simp; omega) _).setCell (by simp; omega) _⟩
theorem lsg_any (w : World) (a b : Option Addr) (ca cb : Nat) (zs ys : List Int) (i k : Nat) (c s h : Int) (hp : Prof w w.heap.size a b zs ys) (r : RyOk zs ys i c s h) (hk : k < zs.length) :
    Calls Try.prog 73 #[.agg #[.slice a zs.length ca, .slice b ys.length cb], .int .i64 (i : Int), .agg #[.int .i64 c, .int .i64 s, .int .i64 h], .int .i64 (k : Int)] w fun e w' => e = .returned (.agg #[.int .i64 (sL ys i c h k), .int .i64 (sH ys i c h k)]) ∧ Below w.heap.size w w' := by
  unfold sL sH
  cases e : crB ys (i : Int) c h (k : Int)
  · have := lsz_any w a b ca cb zs ys i k c s h hp r hk e
    simpa using this
  · have := lsn_any w a b ca cb zs ys i k c s h hp r.ok r.hi hk r.od (crB_lt e)
    rw [if_pos rfl, if_pos rfl]
    exact this
end Go.Proofs.Ytgecbfbmmbfnmaa
