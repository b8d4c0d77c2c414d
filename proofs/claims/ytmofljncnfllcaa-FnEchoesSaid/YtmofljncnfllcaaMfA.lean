/- Contracts of matched filters' small functions, the program's and the model's: traces, thresholds, errors of a match, matches, weights. -/
import Derived.Test.YtmofljncnfllcaaMfM
import Derived.Test.YtmofljncnfllcaaPuL
namespace Go.Proofs.Ytmofljncnfllcaa
open Go.ChangeShapes Go.WideShapes Go.ChangeAt Go.RowKit Go.Shelf Num
set_option linter.unusedVariables false
set_option linter.unusedSimpArgs false
theorem itc_any (w : World) (a : Option Addr) (cap : Nat) (zs : List Int) (hl : zs.length ≤ 9223372036854775807) (hz : Ints .i64 w w.heap.size a zs) :
    Calls Try.prog 43 #[.slice a zs.length cap] w fun e w' => e = .returned (.bool (trcB zs)) ∧ Below w.heap.size w w' := by
  have HZ := Lib.hid hz
  clear hz
  by_cases h4 : zs.length ≤ 400
  · have HE : Hid (trcB zs = !anyLack (-1000000000000) 1000000000000 zs) := Lib.hid (by unfold trcB; rw [decide_eq_true h4]; rfl)
    have hb : Below w.heap.size w (w.alloc (.cells #[.int .i64 (-1000000000000), .int .i64 1000000000000] 57)) := (by repeat (first | exact Below.refl _ _ | (refine Below.alloc ?_ (by simp <;> omega) _) | (refine Below.setCell ?_ (by simp <;> omega) _) | (refine Below.drew ?_) | (refine bel_drewN ?_ _)))
    have K := Lib.hid (are_any (w.alloc (.cells #[.int .i64 (-1000000000000), .int .i64 1000000000000] 57)) a cap _ zs (-1000000000000) 1000000000000 rfl hl ((HZ.out.below hb).more hb.size))
    have HB := Lib.hid hb
    clear hb
    go_enter Try.func43, Try.ntmps43
    go_wp2_with fail
    refine K.out.mono ?_
    rintro e w1 ⟨rfl, hb1⟩
    replace HB := Lib.hid (bel_end HB.out hb1)
    clear hb1
    go_wp2
    go_ret
    exact ⟨ret_bool HE.out.symm, HB.out⟩
  · have HE : Hid (trcB zs = false) := Lib.hid (by unfold trcB; rw [decide_eq_false h4]; rfl)
    go_enter Try.func43, Try.ntmps43
    go_wp2
    go_ret
    exact ⟨ret_bool HE.out.symm, (by repeat (first | exact Below.refl _ _ | (refine Below.alloc ?_ (by simp <;> omega) _) | (refine Below.setCell ?_ (by simp <;> omega) _) | (refine Below.drew ?_) | (refine bel_drewN ?_ _)))⟩
theorem stc_any (w : World) (B : Nat) (a : Option Addr) (cap : Nat) (zs : List Int) (hl : zs.length ≤ 9223372036854775807) (hz : Ints .i64 w B a zs) :
    Calls Try.prog 41 #[.slice a zs.length cap] w fun e w' => e = .returned (.bool (trcB zs)) ∧ w = w' := by
  have HE : Hid (withB zs 400 (-1000000000000) 1000000000000 = trcB zs) := Lib.hid (by unfold withB trcB; rw [Bool.and_comm]; congr 1; rw [Bool.eq_iff_iff]; simp; omega)
  go_enter Try.func41, Try.ntmps41
  go_wp2_with (go_at_call 70; refine (wth_any _ _ _ _ zs _ _ _ hl hz).mono ?_; rw [HE.out]; rintro e w' ⟨rfl, rfl⟩)
  go_ret
  exact ⟨rfl, rfl⟩
theorem ith_any (w : World) (x : Int) :
    Calls Try.prog 59 #[.int .i64 x] w fun e w' => e = .returned (.bool (hasB 1 1000000000000 x)) ∧ w = w' := by
  by_cases h1 : 1 ≤ x
  · by_cases h2 : x ≤ 1000000000000
    · go_enter Try.func59, Try.ntmps59
      go_wp2
      go_ret
      exact ⟨ret_bool (by unfold hasB; rw [decide_eq_true h1, decide_eq_true h2]; rfl), rfl⟩
    · go_enter Try.func59, Try.ntmps59
      go_wp2
      go_ret
      exact ⟨ret_bool (by unfold hasB; rw [decide_eq_true (by omega), decide_eq_false (by omega)]; rfl), rfl⟩
  · go_enter Try.func59, Try.ntmps59
    go_wp2
    go_ret
    exact ⟨ret_bool (by unfold hasB; rw [decide_eq_false (by omega)]; rfl), rfl⟩
theorem ino_any (w : World) (x : Int) :
    Calls Try.prog 51 #[.int .i64 x] w fun e w' => e = .returned (.bool (hasB 0 1000 x)) ∧ w = w' := by
  by_cases h1 : 0 ≤ x
  · by_cases h2 : x ≤ 1000
    · go_enter Try.func51, Try.ntmps51
      go_wp2
      go_ret
      exact ⟨ret_bool (by unfold hasB; rw [decide_eq_true h1, decide_eq_true h2]; rfl), rfl⟩
    · go_enter Try.func51, Try.ntmps51
      go_wp2
      go_ret
      exact ⟨ret_bool (by unfold hasB; rw [decide_eq_true (by omega), decide_eq_false (by omega)]; rfl), rfl⟩
  · go_enter Try.func51, Try.ntmps51
    go_wp2
    go_ret
    exact ⟨ret_bool (by unfold hasB; rw [decide_eq_false (by omega)]; rfl), rfl⟩
set_option maxHeartbeats 1000000 in
theorem imq_any (w : World) (a b : Option Addr) (c d : Nat) (ss ps : List Int) (l1 : ss.length ≤ 1048576) (l2 : ps.length ≤ 1048576) (hz : Ints .i64 w w.heap.size a ss) (hy : Ints .i64 w w.heap.size b ps) :
    Calls Try.prog 39 #[.slice a ss.length c, .slice b ps.length d] w fun e w' => e = .returned (.int .i64 (mtC ss ps)) ∧ Below w.heap.size w w' := by
  have HZ := Lib.hid hz
  have HY := Lib.hid hy
  clear hz hy
  cases hs : sigB ss
  case false =>
    have H1 : Hid (mtC ss ps = 1) := Lib.hid (by unfold mtC; rw [hs]; rfl)
    go_enter Try.func39, Try.ntmps39
    go_wp2_with fail
    refine (isg_any _ _ _ ss (by omega) HZ.out).mono ?_
    rw [hs]
    rintro e w1 ⟨rfl, hb⟩
    have HB := Lib.hid hb
    clear hb
    go_wp2
    go_ret
    exact ⟨ret_int H1.out.symm, HB.out⟩
  case true =>
    cases hp : sigB ps
    case false =>
      have H1 : Hid (mtC ss ps = 1) := Lib.hid (by unfold mtC; rw [hs, hp]; rfl)
      go_enter Try.func39, Try.ntmps39
      go_wp2_with fail
      refine (isg_any _ _ _ ss (by omega) HZ.out).mono ?_
      rw [hs]
      rintro e w1 ⟨rfl, hb⟩
      have HB := Lib.hid hb
      have HY1 := Lib.hid ((HY.out.below hb).more hb.size)
      clear hb
      go_wp2_with fail
      refine (isg_any _ _ _ ps (by omega) HY1.out).mono ?_
      rw [hp]
      rintro e w2 ⟨rfl, hb⟩
      replace HB := Lib.hid (bel_end HB.out hb)
      clear hb
      go_wp2
      go_ret
      exact ⟨ret_int H1.out.symm, HB.out⟩
    case true =>
      have HC : Hid (mtC ss ps = if decide (ps.length = 0) || decide (ss.length < ps.length) then 5 else 0) := Lib.hid (by unfold mtC; rw [hs, hp]; rfl)
      obtain ⟨n, hn⟩ : ∃ n, ss.length = n := ⟨_, rfl⟩
      obtain ⟨m, hm⟩ : ∃ m, ps.length = m := ⟨_, rfl⟩
      have K1 : Hid (∀ W : World, Ints .i64 W W.heap.size a ss → Calls Try.prog 33 #[.slice a n c] W fun e w' => e = .returned (.bool true) ∧ Below W.heap.size W w') := Lib.hid (fun W h => by have := isg_any W a c ss (by omega) h; rwa [hs, hn] at this)
      have K2 : Hid (∀ W : World, Ints .i64 W W.heap.size b ps → Calls Try.prog 33 #[.slice b m d] W fun e w' => e = .returned (.bool true) ∧ Below W.heap.size W w') := Lib.hid (fun W h => by have := isg_any W b d ps (by omega) h; rwa [hp, hm] at this)
      rw [hn, hm] at HC ⊢
      rw [hn] at l1
      rw [hm] at l2
      clear hn hm hs hp
      by_cases h0 : m = 0
      case pos =>
        subst h0
        have H1 : Hid (mtC ss ps = 5) := Lib.hid (by rw [HC.out]; rfl)
        go_enter Try.func39, Try.ntmps39
        go_wp2_with fail
        refine (K1.out _ HZ.out).mono ?_
        rintro e w1 ⟨rfl, hb⟩
        have HB := Lib.hid hb
        have HY1 := Lib.hid ((HY.out.below hb).more hb.size)
        clear hb
        go_wp2_with fail
        refine (K2.out _ HY1.out).mono ?_
        rintro e w2 ⟨rfl, hb⟩
        replace HB := Lib.hid (bel_end HB.out hb)
        clear hb
        go_wp2
        go_ret
        exact ⟨ret_int H1.out.symm, HB.out⟩
      case neg =>
        have hm0 : ((m : Int) == 0) = false := by simp; omega
        by_cases hlt : n < m
        case pos =>
          have H1 : Hid (mtC ss ps = 5) := Lib.hid (by rw [HC.out, decide_eq_true hlt, Bool.or_true]; rfl)
          replace h0 := Lib.hid h0
          go_enter Try.func39, Try.ntmps39
          go_wp2_with fail
          refine (K1.out _ HZ.out).mono ?_
          rintro e w1 ⟨rfl, hb⟩
          have HB := Lib.hid hb
          have HY1 := Lib.hid ((HY.out.below hb).more hb.size)
          clear hb
          go_wp2_with fail
          refine (K2.out _ HY1.out).mono ?_
          rintro e w2 ⟨rfl, hb⟩
          replace HB := Lib.hid (bel_end HB.out hb)
          clear hb
          go_wp2
          go_ret
          exact ⟨ret_int H1.out.symm, HB.out⟩
        case neg =>
          have H1 : Hid (mtC ss ps = 0) := Lib.hid (by rw [HC.out, decide_eq_false h0, decide_eq_false hlt]; rfl)
          replace h0 := Lib.hid h0
          go_enter Try.func39, Try.ntmps39
          go_wp2_with fail
          refine (K1.out _ HZ.out).mono ?_
          rintro e w1 ⟨rfl, hb⟩
          have HB := Lib.hid hb
          have HY1 := Lib.hid ((HY.out.below hb).more hb.size)
          clear hb
          go_wp2_with fail
          refine (K2.out _ HY1.out).mono ?_
          rintro e w2 ⟨rfl, hb⟩
          replace HB := Lib.hid (bel_end HB.out hb)
          clear hb
          go_wp2
          go_ret
          exact ⟨ret_int H1.out.symm, HB.out⟩
set_option maxHeartbeats 1000000 in
theorem smc_any (w : World) (B B' : Nat) (a b : Option Addr) (c d : Nat) (ss ps : List Int) (l1 : ss.length ≤ 1048576) (l2 : ps.length ≤ 1048576) (hz : Ints .i64 w B a ss) (hy : Ints .i64 w B' b ps) :
    Calls Try.prog 37 #[.slice a ss.length c, .slice b ps.length d] w fun e w' => e = .returned (.int .i64 (mtC ss ps)) ∧ w = w' := by
  have HC : Hid (mtC ss ps = if sigB ss && sigB ps then (if decide (ps.length = 0) || decide (ss.length < ps.length) then 5 else 0) else 1) := Lib.hid rfl
  obtain ⟨n, hn⟩ : ∃ n, ss.length = n := ⟨_, rfl⟩
  obtain ⟨m, hm⟩ : ∃ m, ps.length = m := ⟨_, rfl⟩
  have K1 : Hid (Calls Try.prog 45 #[.slice a n c] w fun e w' => e = .returned (.bool (sigB ss)) ∧ w = w') := Lib.hid (by have := ssg_any w B a c ss (by omega) hz; rwa [hn] at this)
  have K2 : Hid (Calls Try.prog 45 #[.slice b m d] w fun e w' => e = .returned (.bool (sigB ps)) ∧ w = w') := Lib.hid (by have := ssg_any w B' b d ps (by omega) hy; rwa [hm] at this)
  rw [hn, hm] at HC ⊢
  rw [hn] at l1
  rw [hm] at l2
  clear hn hm hz hy
  cases hs : sigB ss
  case false =>
    rw [hs] at K1 HC
    have H1 : Hid (mtC ss ps = 1) := Lib.hid HC.out
    go_enter Try.func37, Try.ntmps37
    go_wp2_with (go_at_call 45; refine K1.out.mono ?_; rintro e w' ⟨rfl, rfl⟩)
    go_ret
    exact ⟨ret_int H1.out.symm, rfl⟩
  case true =>
    cases hp : sigB ps
    case false =>
      rw [hs] at K1
      rw [hs, hp] at HC
      rw [hp] at K2
      have H1 : Hid (mtC ss ps = 1) := Lib.hid HC.out
      go_enter Try.func37, Try.ntmps37
      go_wp2_with (first | (go_at_call 45; with_reducible refine Calls.mono K1.out ?_; rintro e w' ⟨rfl, rfl⟩) | (go_at_call 45; with_reducible refine Calls.mono K2.out ?_; rintro e w' ⟨rfl, rfl⟩))
      go_ret
      exact ⟨ret_int H1.out.symm, rfl⟩
    case true =>
      rw [hs] at K1
      rw [hs, hp] at HC
      rw [hp] at K2
      replace HC : Hid (mtC ss ps = if decide (m = 0) || decide (n < m) then 5 else 0) := Lib.hid HC.out
      clear hs hp
      by_cases h0 : m = 0
      case pos =>
        subst h0
        have H1 : Hid (mtC ss ps = 5) := Lib.hid (by rw [HC.out]; rfl)
        go_enter Try.func37, Try.ntmps37
        go_wp2_with (first | (go_at_call 45; with_reducible refine Calls.mono K1.out ?_; rintro e w' ⟨rfl, rfl⟩) | (go_at_call 45; with_reducible refine Calls.mono K2.out ?_; rintro e w' ⟨rfl, rfl⟩))
        go_ret
        exact ⟨ret_int H1.out.symm, rfl⟩
      case neg =>
        have hm0 : ((m : Int) == 0) = false := by simp; omega
        by_cases hlt : n < m
        case pos =>
          have H1 : Hid (mtC ss ps = 5) := Lib.hid (by rw [HC.out, decide_eq_true hlt, Bool.or_true]; rfl)
          replace h0 := Lib.hid h0
          go_enter Try.func37, Try.ntmps37
          go_wp2_with (first | (go_at_call 45; with_reducible refine Calls.mono K1.out ?_; rintro e w' ⟨rfl, rfl⟩) | (go_at_call 45; with_reducible refine Calls.mono K2.out ?_; rintro e w' ⟨rfl, rfl⟩))
          go_ret
          exact ⟨ret_int H1.out.symm, rfl⟩
        case neg =>
          have H1 : Hid (mtC ss ps = 0) := Lib.hid (by rw [HC.out, decide_eq_false h0, decide_eq_false hlt]; rfl)
          replace h0 := Lib.hid h0
          go_enter Try.func37, Try.ntmps37
          go_wp2_with (first | (go_at_call 45; with_reducible refine Calls.mono K1.out ?_; rintro e w' ⟨rfl, rfl⟩) | (go_at_call 45; with_reducible refine Calls.mono K2.out ?_; rintro e w' ⟨rfl, rfl⟩))
          go_ret
          exact ⟨ret_int H1.out.symm, rfl⟩
end Go.Proofs.Ytmofljncnfllcaa
