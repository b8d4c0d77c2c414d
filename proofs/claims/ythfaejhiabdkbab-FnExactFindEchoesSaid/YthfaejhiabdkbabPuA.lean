/- Contracts of pulses' small functions, the program's and the model's: numbers within bounds, signals, sums of products, correlations, sidelobes. -/
import Derived.Test.YthfaejhiabdkbabPuM
import Derived.Test.YthfaejhiabdkbabPrs
import Derived.LoopTactic
import Derived.Outline
import Derived.Handy
import Derived.Deep.QuietTactic
import Derived.BigQuiet
namespace Go.Proofs.Ythfaejhiabdkbab
open Go.ChangeShapes Go.WideShapes Go.ChangeAt Go.RowKit Num
set_option linter.unusedVariables false
set_option linter.unusedSimpArgs false
theorem are_any (w : World) (a : Option Addr) (cap n : Nat) (zs : List Int) (lo hi : Int) (hn : zs.length = n) (hl : n ≤ 9223372036854775807) (hz : Ints .i64 w w.heap.size a zs) :
    Calls Try.prog 62 #[.agg #[.int .i64 lo, .int .i64 hi], .slice a n cap] w fun e w' => e = .returned (.bool (!anyLack lo hi zs)) ∧ Below w.heap.size w w' := by
  subst hn
  have HZ := Lib.hid hz
  clear hz
  go_enter Try.func62, Try.ntmps62
  go_wp2_with fail
  have hb : Below w.heap.size w (w.alloc (.cells #[.int .i64 lo, .int .i64 hi] 62)) := (by repeat (first | exact Below.refl _ _ | (refine Below.alloc ?_ (by simp <;> omega) _) | (refine Below.setCell ?_ (by simp <;> omega) _) | (refine Below.drew ?_) | (refine bel_drewN ?_ _)))
  have HB := Lib.hid hb
  refine (cfl_any _ _ _ zs lo hi hl ((HZ.out.below hb).more hb.size)).mono ?_
  rintro e w1 ⟨rfl, hb1⟩
  replace HB := Lib.hid (bel_end HB.out hb1)
  clear hb hb1
  go_wp2
  go_ret
  exact ⟨rfl, HB.out⟩
theorem isg_any (w : World) (a : Option Addr) (cap : Nat) (zs : List Int) (hl : zs.length ≤ 9223372036854775807) (hz : Ints .i64 w w.heap.size a zs) :
    Calls Try.prog 53 #[.slice a zs.length cap] w fun e w' => e = .returned (.bool (sigB zs)) ∧ Below w.heap.size w w' := by
  have HZ := Lib.hid hz
  clear hz
  by_cases h4 : zs.length ≤ 400
  · have HE : Hid (sigB zs = !anyLack (-1000) 1000 zs) := Lib.hid (by unfold sigB; rw [decide_eq_true h4]; rfl)
    have hb : Below w.heap.size w (w.alloc (.cells #[.int .i64 (-1000), .int .i64 1000] 62)) := (by repeat (first | exact Below.refl _ _ | (refine Below.alloc ?_ (by simp <;> omega) _) | (refine Below.setCell ?_ (by simp <;> omega) _) | (refine Below.drew ?_) | (refine bel_drewN ?_ _)))
    have K := Lib.hid (are_any (w.alloc (.cells #[.int .i64 (-1000), .int .i64 1000] 62)) a cap _ zs (-1000) 1000 rfl hl ((HZ.out.below hb).more hb.size))
    have HB := Lib.hid hb
    clear hb
    go_enter Try.func53, Try.ntmps53
    go_wp2_with fail
    refine K.out.mono ?_
    rintro e w1 ⟨rfl, hb1⟩
    replace HB := Lib.hid (bel_end HB.out hb1)
    clear hb1
    go_wp2
    go_ret
    exact ⟨ret_bool HE.out.symm, HB.out⟩
  · have HE : Hid (sigB zs = false) := Lib.hid (by unfold sigB; rw [decide_eq_false h4]; rfl)
    go_enter Try.func53, Try.ntmps53
    go_wp2
    go_ret
    exact ⟨ret_bool HE.out.symm, (by repeat (first | exact Below.refl _ _ | (refine Below.alloc ?_ (by simp <;> omega) _) | (refine Below.setCell ?_ (by simp <;> omega) _) | (refine Below.drew ?_) | (refine bel_drewN ?_ _)))⟩
/-- the model's bounds -/
def withB (zs : List Int) (most lo hi : Int) : Bool := !anyLack lo hi zs && decide ((zs.length : Int) ≤ most)
theorem hasB_inB (x lo hi : Int) : hasB lo hi x = inB x lo hi := by unfold hasB inB; rw [Bool.eq_iff_iff]; simp
theorem wth_any (w : World) (B : Nat) (a : Option Addr) (cap : Nat) (zs : List Int) (most lo hi : Int) (hl : zs.length ≤ 9223372036854775807) (hz : Ints .i64 w B a zs) :
    Calls Try.prog 65 #[.slice a zs.length cap, .int .i64 most, .int .i64 lo, .int .i64 hi] w fun e w' => e = .returned (.bool (withB zs most lo hi)) ∧ w = w' := by
  go_enter Try.func65, Try.ntmps65
  go_wp2
  go_loop [9] (fun i => ∃ k : Nat, k ≤ zs.length ∧ i = .int .i64 k ∧ ∀ j, j < k → hasB lo hi (zs.getD j 0) = true) (fun i => zs.length - (intOf i).toNat)
  case atStart => exact ⟨0, by omega, rfl, fun j hj => by omega⟩
  case round =>
    obtain ⟨k, hk, rfl, hr⟩ := hrel
    have HR := Lib.hid hr
    clear hr
    by_cases hlt : k < zs.length
    · obtain ⟨b, off, rfl, hB, hc⟩ := hz.at_ hlt
      clear hz
      obtain ⟨x, hx⟩ : ∃ x, zs.getD k 0 = x := ⟨_, rfl⟩
      rw [hx] at hc
      have HX := Lib.hid hx
      clear hx
      cases hv : inB x lo hi
      · go_wp2_with (go_at_call 40; refine (lin_any _ _ _ _).mono ?_; rw [hv]; rintro e w' ⟨rfl, rfl⟩)
        go_ret
        exact ⟨ret_bool (by unfold withB; rw [anyLack_t hlt (by rw [HX.out, hasB_inB]; exact hv)]; rfl), rfl⟩
      · go_wp2_with (go_at_call 40; refine (lin_any _ _ _ _).mono ?_; rw [hv]; rintro e w' ⟨rfl, rfl⟩)
        go_round
        case rel => exact ⟨k + 1, by omega, by go_num, fun j hj => by
          by_cases hjk : j = k
          · rw [hjk, HX.out, hasB_inB]; exact hv
          · exact HR.out j (by omega)⟩
        case measure => simp [intOf]; omega
    · obtain rfl : k = zs.length := by omega
      clear hz
      go_wp2
      go_ret
      exact ⟨ret_bool (by unfold withB; rw [anyLack_f HR.out]; rfl), rfl⟩
theorem ssg_any (w : World) (B : Nat) (a : Option Addr) (cap : Nat) (zs : List Int) (hl : zs.length ≤ 9223372036854775807) (hz : Ints .i64 w B a zs) :
    Calls Try.prog 46 #[.slice a zs.length cap] w fun e w' => e = .returned (.bool (sigB zs)) ∧ w = w' := by
  have HE : Hid (withB zs 400 (-1000) 1000 = sigB zs) := Lib.hid (by unfold withB sigB; rw [Bool.and_comm]; congr 1; rw [Bool.eq_iff_iff]; simp; omega)
  go_enter Try.func46, Try.ntmps46
  go_wp2_with (go_at_call 65; refine (wth_any _ _ _ _ zs _ _ _ hl hz).mono ?_; rw [HE.out]; rintro e w' ⟨rfl, rfl⟩)
  go_ret
  exact ⟨rfl, rfl⟩
theorem sop_any (w : World) (B n m : Nat) (a b : Option Addr) (c d : Nat) (xs ys : List Int) (hn : xs.length = n) (hm : ys.length = m) (hl : n ≤ m) (h4 : n ≤ 400) (hm4 : m ≤ 1000000) (h1 : smlL 1000 xs) (h2 : smlL 1000 ys) (hx : Ints .i64 w B a xs) (hy : Ints .i64 w B b ys) :
    Calls Try.prog 72 #[.slice a n c, .slice b m d] w fun e w' => e = .returned (.int .i64 (dotT xs ys n)) ∧ w = w' := by
  have HN := Lib.hid hn
  have HM := Lib.hid hm
  have H1 := Lib.hid h1
  have H2 := Lib.hid h2
  clear hn hm h1 h2
  go_enter Try.func72, Try.ntmps72
  go_wp2
  go_loop [5, 10] (fun s i => ∃ k : Nat, k ≤ n ∧ i = .int .i64 k ∧ s = .int .i64 (dotT xs ys k)) (fun _ i => n - (intOf i).toNat)
  case atStart => exact ⟨0, by omega, rfl, rfl⟩
  case round =>
    obtain ⟨k, hk, rfl, rfl⟩ := hrel
    by_cases hlt : k < n
    · obtain ⟨b1, o1, rfl, -, hc1⟩ := hx.at_ (j := k) (by rw [HN.out]; exact hlt)
      obtain ⟨b2, o2, rfl, -, hc2⟩ := hy.at_ (j := k) (by rw [HM.out]; omega)
      have hp := prod_bd (H1.out k) (H2.out k)
      have hd := dotT_bd H1.out H2.out k
      have hs := dotT_succ xs ys k
      obtain ⟨x, hx1⟩ : ∃ x, xs.getD k 0 = x := ⟨_, rfl⟩
      obtain ⟨y, hy1⟩ : ∃ y, ys.getD k 0 = y := ⟨_, rfl⟩
      obtain ⟨S, hS⟩ : ∃ S, dotT xs ys k = S := ⟨_, rfl⟩
      rw [hx1] at hc1 hp hs
      rw [hy1] at hc2 hp hs
      rw [hS] at hd hs ⊢
      have HS := Lib.hid hs
      obtain ⟨p1, p2⟩ := hp
      have q1 : -400000000 ≤ S := by omega
      have q2 : S ≤ 400000000 := by omega
      clear hx hy hx1 hy1 hS hs hd
      go_wp2
      go_round
      case rel => exact ⟨k + 1, by omega, by go_num, by rw [HS.out]⟩
      case measure => simp [intOf]; omega
    · obtain rfl : k = n := by omega
      go_wp2
      go_ret
      exact ⟨rfl, rfl⟩
/-- where a slice from k on begins -/
def frA (a : Option Addr) (c k : Nat) : Option Addr := if c = k then a else a.map (·.add k)
theorem Ints.from_ {w : World} {B : Nat} {a : Option Addr} {zs : List Int} (h : Ints .i64 w B a zs) {c k : Nat} (hc : zs.length ≤ c) : Ints .i64 w B (frA a c k) (zs.drop k) := fun hp => by
  rw [List.length_drop] at hp
  obtain ⟨b, off, rfl, hB, hcl⟩ := h (by omega)
  refine ⟨b, off + k, by unfold frA; rw [if_neg (by omega)]; simp [Addr.add], hB, fun j hj => ?_⟩
  rw [List.length_drop] at hj
  rw [getD_drop, Nat.add_assoc]
  exact hcl (k + j) (by omega)
end Go.Proofs.Ythfaejhiabdkbab
