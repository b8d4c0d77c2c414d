/- The walk of the law FnCorrelated over drawn data: it returns true and writes nothing that was there. -/
import Derived.Test.YtpnebnjpeiieaaaPuX
import Derived.Test.YtpnebnjpeiieaaaPuD
import Derived.Test.YtpnebnjpeiieaaaPuK
namespace Go.Proofs.Ytpnebnjpeiieaaa
open Go.ChangeShapes Go.WideShapes Go.ChangeAt Go.RowKit Go.Shelf Num
set_option linter.unusedVariables false
set_option linter.unusedSimpArgs false
/-- the laws' comparison of a list with itself -/
theorem lkw_any (w : World) (a b : Option Addr) (c d : Nat) (xs : List Int) (hl : xs.length ≤ 1048576) (hx : Ints .i64 w w.heap.size a xs) (hy : Ints .i64 w w.heap.size b xs) :
    Calls Try.prog 24 #[.slice a xs.length c, .slice b xs.length d] w fun e w' => e = .returned (.bool true) ∧ Below w.heap.size w w' :=
  (lki_any w w.heap.size a b c d xs hl hx hy).mono (by rintro e w' ⟨rfl, n, rfl⟩; exact ⟨rfl, bel_drewN (Below.refl _ _) _⟩)

set_option maxRecDepth 100000 in
set_option maxHeartbeats 8000000 in
theorem lcor (a0 : Option Addr) (len0 cap0 : Nat) (z0 : List Int) (w : World) (w0 : IsRow .u8 w a0 len0 cap0 z0) :
    Calls Try.prog 3 #[.slice a0 len0 cap0] w fun e w' => e = .returned (.bool true) ∧ Below w.heap.size w w' := by
  obtain ⟨hlen, hcode⟩ := Code8.of_row w0
  obtain ⟨zs, hzs⟩ : ∃ zs, z0.take len0 = zs := ⟨_, rfl⟩
  rw [hzs] at hlen hcode
  subst hlen
  clear hzs w0
  have HC := Lib.hid hcode
  clear hcode
  have HB := Lib.hid (Below.refl w.heap.size w)
  by_cases hbig : 4096 < zs.length
  · have hd : decide ((4096 : Int) < (zs.length : Int)) = true := by simp; omega
    go_enter Try.func3, Try.ntmps3
    go_wp2_with (go_at_call 14; refine (big_any _ _ _ _).mono ?_; rw [hd]; rintro e w' ⟨rfl, rfl⟩)
    go_ret
    exact ⟨rfl, Below.refl _ _⟩
  · have hd : decide ((4096 : Int) < (zs.length : Int)) = false := by simp; omega
    go_enter Try.func3, Try.ntmps3
    go_wp2_with (go_at_call 14; refine (big_any _ _ _ _).mono ?_; rw [hd]; rintro e w' ⟨rfl, rfl⟩)
    clear hd
    refine (dco_any _ _ _ zs HC.out).mono ?_
    rintro e w1 ⟨pa, pc, pn, ps, rfl, rfl, n4, nc, hp, hb⟩
    replace HB := Lib.hid (HB.out.trans (hb.mono HB.out.size))
    have q1 := hb.size
    have HP := Lib.hid (IntL.of hp)
    clear hp hb
    have l12 := crL_len ps
    have l13 := trL_len ps
    cases hsg : sigB ps
    case false =>
      have e1 : crL ps = [] := by unfold crL; rw [hsg]; rfl
      have e2 : trL ps = [] := by unfold trL; rw [hsg]; rfl
      have e3 : sgC ps = 1 := by unfold sgC; rw [hsg]; rfl
      have e4 : enV ps = 0 := by unfold enV; rw [hsg]; rfl
      have e5 : sbV ps = 0 := by unfold sbV; rw [hsg]; rfl
      have S1 : Hid (∀ (W : World), Ints .i64 W W.heap.size pa ps → Calls Try.prog 17 #[.slice pa ps.length pc] W fun e w' => ∃ (a' : Option Addr) (c' : Nat), e = .returned (.tuple #[.slice a' ([] : List Int).length c', .int .i64 (1)]) ∧ OwnA w' W.heap.size w'.heap.size a' c' ([] : List Int) ∧ Below W.heap.size W w') := Lib.hid (fun W hz => by have := scr_any W pa pc ps (by omega) hz; (try rw [e1] at this); (try rw [e2] at this); (try rw [e3] at this); (try rw [e4] at this); (try rw [e5] at this); (try rw [hsg] at this); exact this)
      have S2 : Hid (∀ (W : World), Ints .i64 W W.heap.size pa ps → Calls Try.prog 16 #[.slice pa ps.length pc] W fun e w' => ∃ (a' : Option Addr) (c' : Nat), e = .returned (.tuple #[.slice a' ([] : List Int).length c', .int .i64 (1)]) ∧ OwnA w' W.heap.size w'.heap.size a' c' ([] : List Int) ∧ Below W.heap.size W w') := Lib.hid (fun W hz => by have := icr_any W pa pc ps (by omega) nc hz; (try rw [e1] at this); (try rw [e2] at this); (try rw [e3] at this); (try rw [e4] at this); (try rw [e5] at this); (try rw [hsg] at this); exact this)
      have S3 : Hid (∀ (W : World), Ints .i64 W W.heap.size pa ps → Calls Try.prog 19 #[.slice pa ps.length pc] W fun e w' => e = .returned (.tuple #[.int .i64 (0), .int .i64 (1)]) ∧ Below W.heap.size W w') := Lib.hid (fun W hz => by have := ssb_b (w := W) pa pc ps (by omega) hz; (try rw [e1] at this); (try rw [e2] at this); (try rw [e3] at this); (try rw [e4] at this); (try rw [e5] at this); (try rw [hsg] at this); exact this)
      have S4 : Hid (∀ (W : World), Ints .i64 W W.heap.size pa ps → Calls Try.prog 18 #[.slice pa ps.length pc] W fun e w' => e = .returned (.tuple #[.int .i64 (0), .int .i64 (1)]) ∧ Below W.heap.size W w') := Lib.hid (fun W hz => by have := isb_any W pa pc ps (by omega) nc hz; (try rw [e1] at this); (try rw [e2] at this); (try rw [e3] at this); (try rw [e4] at this); (try rw [e5] at this); (try rw [hsg] at this); exact this)
      have S5 : Hid (∀ (W : World), Ints .i64 W W.heap.size pa ps → Calls Try.prog 21 #[.slice pa ps.length pc] W fun e w' => e = .returned (.tuple #[.int .i64 (0), .int .i64 (1)]) ∧ Below W.heap.size W w') := Lib.hid (fun W hz => by have := sen_b (w := W) pa pc ps (by omega) hz; (try rw [e1] at this); (try rw [e2] at this); (try rw [e3] at this); (try rw [e4] at this); (try rw [e5] at this); (try rw [hsg] at this); exact this)
      have S6 : Hid (∀ (W : World), Ints .i64 W W.heap.size pa ps → Calls Try.prog 20 #[.slice pa ps.length pc] W fun e w' => e = .returned (.tuple #[.int .i64 (0), .int .i64 (1)]) ∧ Below W.heap.size W w') := Lib.hid (fun W hz => by have := ien_any W pa pc ps (by omega) nc hz; (try rw [e1] at this); (try rw [e2] at this); (try rw [e3] at this); (try rw [e4] at this); (try rw [e5] at this); (try rw [hsg] at this); exact this)
      have S7 : Hid (∀ (W : World), Ints .i64 W W.heap.size pa ps → Calls Try.prog 23 #[.slice pa ps.length pc] W fun e w' => ∃ (a' : Option Addr) (c' : Nat), e = .returned (.tuple #[.slice a' ([] : List Int).length c', .int .i64 (1)]) ∧ OwnA w' W.heap.size w'.heap.size a' c' ([] : List Int) ∧ Below W.heap.size W w') := Lib.hid (fun W hz => by have := str_any W pa pc ps (by omega) hz; (try rw [e1] at this); (try rw [e2] at this); (try rw [e3] at this); (try rw [e4] at this); (try rw [e5] at this); (try rw [hsg] at this); exact this)
      have S8 : Hid (∀ (W : World), Ints .i64 W W.heap.size pa ps → Calls Try.prog 22 #[.slice pa ps.length pc] W fun e w' => ∃ (a' : Option Addr) (c' : Nat), e = .returned (.tuple #[.slice a' ([] : List Int).length c', .int .i64 (1)]) ∧ OwnA w' W.heap.size w'.heap.size a' c' ([] : List Int) ∧ Below W.heap.size W w') := Lib.hid (fun W hz => by have := itr_any W pa pc ps (by omega) hz; (try rw [e1] at this); (try rw [e2] at this); (try rw [e3] at this); (try rw [e4] at this); (try rw [e5] at this); (try rw [hsg] at this); exact this)
      have S9 : Hid (∀ (W : World), Ints .i64 W W.heap.size pa ps → Calls Try.prog 25 #[.slice pa ps.length pc] W fun e w' => e = .returned (.bool false) ∧ Below W.heap.size W w') := Lib.hid (fun W hz => by have := isg_any W pa pc ps (by omega) hz; (try rw [e1] at this); (try rw [e2] at this); (try rw [e3] at this); (try rw [e4] at this); (try rw [e5] at this); (try rw [hsg] at this); exact this)
      clear e1 e2 e3 e4 e5 hsg l12 l13
      go_wp2_with fail
      refine (S2.out _ HP.out.ints).mono ?_
      rintro e w2 ⟨xa, xc, rfl, ho, hb⟩
      replace HP := Lib.hid (HP.out.on hb)
      replace HB := Lib.hid (HB.out.trans (hb.mono HB.out.size))
      have q2 := hb.size
      have HX := Lib.hid ho
      clear ho hb
      go_wp2_with fail
      refine (S1.out _ HP.out.ints).mono ?_
      rintro e w3 ⟨ma, mc, rfl, ho, hb⟩
      replace HP := Lib.hid (HP.out.on hb)
      replace HX := Lib.hid (HX.out.on hb)
      replace HB := Lib.hid (HB.out.trans (hb.mono HB.out.size))
      have q3 := hb.size
      have HM := Lib.hid ho
      clear ho hb
      go_wp2_with fail
      refine (S4.out _ HP.out.ints).mono ?_
      rintro e w4 ⟨rfl, hb⟩
      replace HP := Lib.hid (HP.out.on hb)
      replace HX := Lib.hid (HX.out.on hb)
      replace HM := Lib.hid (HM.out.on hb)
      replace HB := Lib.hid (HB.out.trans (hb.mono HB.out.size))
      have q4 := hb.size
      clear hb
      go_wp2_with fail
      refine (S3.out _ HP.out.ints).mono ?_
      rintro e w5 ⟨rfl, hb⟩
      replace HP := Lib.hid (HP.out.on hb)
      replace HX := Lib.hid (HX.out.on hb)
      replace HM := Lib.hid (HM.out.on hb)
      replace HB := Lib.hid (HB.out.trans (hb.mono HB.out.size))
      have q5 := hb.size
      clear hb
      go_wp2_with fail
      refine (S6.out _ HP.out.ints).mono ?_
      rintro e w6 ⟨rfl, hb⟩
      replace HP := Lib.hid (HP.out.on hb)
      replace HX := Lib.hid (HX.out.on hb)
      replace HM := Lib.hid (HM.out.on hb)
      replace HB := Lib.hid (HB.out.trans (hb.mono HB.out.size))
      have q6 := hb.size
      clear hb
      go_wp2_with fail
      refine (S5.out _ HP.out.ints).mono ?_
      rintro e w7 ⟨rfl, hb⟩
      replace HP := Lib.hid (HP.out.on hb)
      replace HX := Lib.hid (HX.out.on hb)
      replace HM := Lib.hid (HM.out.on hb)
      replace HB := Lib.hid (HB.out.trans (hb.mono HB.out.size))
      have q7 := hb.size
      clear hb
      go_wp2_with fail
      refine (S8.out _ HP.out.ints).mono ?_
      rintro e w8 ⟨ya, yc, rfl, ho, hb⟩
      replace HP := Lib.hid (HP.out.on hb)
      replace HX := Lib.hid (HX.out.on hb)
      replace HM := Lib.hid (HM.out.on hb)
      replace HB := Lib.hid (HB.out.trans (hb.mono HB.out.size))
      have q8 := hb.size
      have HY := Lib.hid ho
      clear ho hb
      go_wp2_with fail
      refine (S7.out _ HP.out.ints).mono ?_
      rintro e w9 ⟨za, zc, rfl, ho, hb⟩
      replace HP := Lib.hid (HP.out.on hb)
      replace HX := Lib.hid (HX.out.on hb)
      replace HM := Lib.hid (HM.out.on hb)
      replace HY := Lib.hid (HY.out.on hb)
      replace HB := Lib.hid (HB.out.trans (hb.mono HB.out.size))
      have q9 := hb.size
      have HZ := Lib.hid ho
      clear ho hb
      go_wp2_with fail
      refine (lkw_any _ _ _ _ _ [] (by simp) HX.out.ints HM.out.ints).mono ?_
      rintro e w10 ⟨rfl, hb⟩
      replace HP := Lib.hid (HP.out.on hb)
      replace HX := Lib.hid (HX.out.on hb)
      replace HM := Lib.hid (HM.out.on hb)
      replace HY := Lib.hid (HY.out.on hb)
      replace HZ := Lib.hid (HZ.out.on hb)
      replace HB := Lib.hid (HB.out.trans (hb.mono HB.out.size))
      have q10 := hb.size
      clear hb
      go_wp2_with fail
      refine (lkw_any _ _ _ _ _ [] (by simp) HY.out.ints HZ.out.ints).mono ?_
      rintro e w11 ⟨rfl, hb⟩
      replace HP := Lib.hid (HP.out.on hb)
      replace HX := Lib.hid (HX.out.on hb)
      replace HM := Lib.hid (HM.out.on hb)
      replace HY := Lib.hid (HY.out.on hb)
      replace HZ := Lib.hid (HZ.out.on hb)
      replace HB := Lib.hid (HB.out.trans (hb.mono HB.out.size))
      have q11 := hb.size
      clear hb
      go_wp2_with fail
      refine (S9.out _ HP.out.ints).mono ?_
      rintro e w12 ⟨rfl, hb⟩
      replace HP := Lib.hid (HP.out.on hb)
      replace HX := Lib.hid (HX.out.on hb)
      replace HM := Lib.hid (HM.out.on hb)
      replace HY := Lib.hid (HY.out.on hb)
      replace HZ := Lib.hid (HZ.out.on hb)
      replace HB := Lib.hid (HB.out.trans (hb.mono HB.out.size))
      have q12 := hb.size
      clear hb
      go_wp2
      go_ret
      exact ⟨rfl, HB.out⟩
    case true =>
      obtain ⟨g4, gs⟩ := sigB_t hsg
      have e1 : crL ps = corL ps ps.length := by unfold crL; rw [hsg]; rfl
      have e2 : trL ps = ps.reverse := by unfold trL; rw [hsg]; rfl
      have e3 : sgC ps = 0 := by unfold sgC; rw [hsg]; rfl
      have e4 : enV ps = cor ps 0 := by unfold enV; rw [hsg]; rfl
      have e5 : sbV ps = sideV ps := by unfold sbV; rw [hsg]; rfl
      have e6 : crL ps.reverse = corL ps ps.length := by unfold crL; rw [sigB_rev, hsg]; exact corL_rev ps
      have e7 : sgC ps.reverse = 0 := by unfold sgC; rw [sigB_rev, hsg]; rfl
      have HBD : Hid (∀ k, k < ps.length → (corL ps ps.length).getD k 0 = cor ps k ∧ (-400000000 ≤ cor ps k ∧ cor ps k ≤ 400000000) ∧ ((cor ps k).natAbs : Int) ≤ cor ps 0 ∧ (0 < k → ((cor ps k).natAbs : Int) ≤ sideV ps)) := Lib.hid (fun k hk => ⟨corL_at ps hk, cor_bd gs g4 k, cor_le ps (by omega), fun h0 => side_ge ps h0 hk⟩)
      have hse := side_le ps
      have hll : (corL ps ps.length).length = ps.length := corL_len _ _
      have hrl : ps.reverse.length = ps.length := List.length_reverse ..
      obtain ⟨LL, hL⟩ : ∃ x, corL ps ps.length = x := ⟨_, rfl⟩
      obtain ⟨E, hE⟩ : ∃ x, cor ps 0 = x := ⟨_, rfl⟩
      obtain ⟨D, hD⟩ : ∃ x, sideV ps = x := ⟨_, rfl⟩
      obtain ⟨R, hR⟩ : ∃ x, ps.reverse = x := ⟨_, rfl⟩
      rw [hL] at e1 hll HBD e6
      rw [hE] at e4 hse HBD
      rw [hD] at e5 hse HBD
      rw [hR] at e2 e6 e7 hrl
      have S1 : Hid (∀ (W : World), Ints .i64 W W.heap.size pa ps → Calls Try.prog 17 #[.slice pa ps.length pc] W fun e w' => ∃ (a' : Option Addr) (c' : Nat), e = .returned (.tuple #[.slice a' LL.length c', .int .i64 (0)]) ∧ OwnA w' W.heap.size w'.heap.size a' c' LL ∧ Below W.heap.size W w') := Lib.hid (fun W hz => by have := scr_any W pa pc ps (by omega) hz; (try rw [e1] at this); (try rw [e2] at this); (try rw [e3] at this); (try rw [e4] at this); (try rw [e5] at this); (try rw [hsg] at this); exact this)
      have S2 : Hid (∀ (W : World), Ints .i64 W W.heap.size pa ps → Calls Try.prog 16 #[.slice pa ps.length pc] W fun e w' => ∃ (a' : Option Addr) (c' : Nat), e = .returned (.tuple #[.slice a' LL.length c', .int .i64 (0)]) ∧ OwnA w' W.heap.size w'.heap.size a' c' LL ∧ Below W.heap.size W w') := Lib.hid (fun W hz => by have := icr_any W pa pc ps (by omega) nc hz; (try rw [e1] at this); (try rw [e2] at this); (try rw [e3] at this); (try rw [e4] at this); (try rw [e5] at this); (try rw [hsg] at this); exact this)
      have S3 : Hid (∀ (W : World), Ints .i64 W W.heap.size pa ps → Calls Try.prog 19 #[.slice pa ps.length pc] W fun e w' => e = .returned (.tuple #[.int .i64 (D), .int .i64 (0)]) ∧ Below W.heap.size W w') := Lib.hid (fun W hz => by have := ssb_b (w := W) pa pc ps (by omega) hz; (try rw [e1] at this); (try rw [e2] at this); (try rw [e3] at this); (try rw [e4] at this); (try rw [e5] at this); (try rw [hsg] at this); exact this)
      have S4 : Hid (∀ (W : World), Ints .i64 W W.heap.size pa ps → Calls Try.prog 18 #[.slice pa ps.length pc] W fun e w' => e = .returned (.tuple #[.int .i64 (D), .int .i64 (0)]) ∧ Below W.heap.size W w') := Lib.hid (fun W hz => by have := isb_any W pa pc ps (by omega) nc hz; (try rw [e1] at this); (try rw [e2] at this); (try rw [e3] at this); (try rw [e4] at this); (try rw [e5] at this); (try rw [hsg] at this); exact this)
      have S5 : Hid (∀ (W : World), Ints .i64 W W.heap.size pa ps → Calls Try.prog 21 #[.slice pa ps.length pc] W fun e w' => e = .returned (.tuple #[.int .i64 (E), .int .i64 (0)]) ∧ Below W.heap.size W w') := Lib.hid (fun W hz => by have := sen_b (w := W) pa pc ps (by omega) hz; (try rw [e1] at this); (try rw [e2] at this); (try rw [e3] at this); (try rw [e4] at this); (try rw [e5] at this); (try rw [hsg] at this); exact this)
      have S6 : Hid (∀ (W : World), Ints .i64 W W.heap.size pa ps → Calls Try.prog 20 #[.slice pa ps.length pc] W fun e w' => e = .returned (.tuple #[.int .i64 (E), .int .i64 (0)]) ∧ Below W.heap.size W w') := Lib.hid (fun W hz => by have := ien_any W pa pc ps (by omega) nc hz; (try rw [e1] at this); (try rw [e2] at this); (try rw [e3] at this); (try rw [e4] at this); (try rw [e5] at this); (try rw [hsg] at this); exact this)
      have S7 : Hid (∀ (W : World), Ints .i64 W W.heap.size pa ps → Calls Try.prog 23 #[.slice pa ps.length pc] W fun e w' => ∃ (a' : Option Addr) (c' : Nat), e = .returned (.tuple #[.slice a' R.length c', .int .i64 (0)]) ∧ OwnA w' W.heap.size w'.heap.size a' c' R ∧ Below W.heap.size W w') := Lib.hid (fun W hz => by have := str_any W pa pc ps (by omega) hz; (try rw [e1] at this); (try rw [e2] at this); (try rw [e3] at this); (try rw [e4] at this); (try rw [e5] at this); (try rw [hsg] at this); exact this)
      have S8 : Hid (∀ (W : World), Ints .i64 W W.heap.size pa ps → Calls Try.prog 22 #[.slice pa ps.length pc] W fun e w' => ∃ (a' : Option Addr) (c' : Nat), e = .returned (.tuple #[.slice a' R.length c', .int .i64 (0)]) ∧ OwnA w' W.heap.size w'.heap.size a' c' R ∧ Below W.heap.size W w') := Lib.hid (fun W hz => by have := itr_any W pa pc ps (by omega) hz; (try rw [e1] at this); (try rw [e2] at this); (try rw [e3] at this); (try rw [e4] at this); (try rw [e5] at this); (try rw [hsg] at this); exact this)
      have S9 : Hid (∀ (W : World), Ints .i64 W W.heap.size pa ps → Calls Try.prog 25 #[.slice pa ps.length pc] W fun e w' => e = .returned (.bool true) ∧ Below W.heap.size W w') := Lib.hid (fun W hz => by have := isg_any W pa pc ps (by omega) hz; (try rw [e1] at this); (try rw [e2] at this); (try rw [e3] at this); (try rw [e4] at this); (try rw [e5] at this); (try rw [hsg] at this); exact this)
      have ST : Hid (∀ (W : World) (a : Option Addr) (c : Nat), R.length ≤ c → Ints .i64 W W.heap.size a R → Calls Try.prog 16 #[.slice a R.length c] W fun e w' => ∃ (a' : Option Addr) (c' : Nat), e = .returned (.tuple #[.slice a' LL.length c', .int .i64 0]) ∧ OwnA w' W.heap.size w'.heap.size a' c' LL ∧ Below W.heap.size W w') := Lib.hid (fun W a c hc hz => by have := icr_any W a c R (by omega) hc hz; rwa [e6, e7] at this)
      have hE0 : cor ps 0 = E := hE
      have HR4 : R.length ≤ 400 := by omega
      have HL4 : LL.length ≤ 400 := by omega
      have HLP := Lib.hid hll
      have HE0 := Lib.hid hE0
      clear e1 e2 e3 e4 e5 e6 e7 hsg l12 l13 hL hE hD hR gs hll hE0 hrl
      go_wp2_with fail
      refine (S2.out _ HP.out.ints).mono ?_
      rintro e w2 ⟨xa, xc, rfl, ho, hb⟩
      replace HP := Lib.hid (HP.out.on hb)
      replace HB := Lib.hid (HB.out.trans (hb.mono HB.out.size))
      have q2 := hb.size
      have HX := Lib.hid ho
      clear ho hb
      go_wp2_with fail
      refine (S1.out _ HP.out.ints).mono ?_
      rintro e w3 ⟨ma, mc, rfl, ho, hb⟩
      replace HP := Lib.hid (HP.out.on hb)
      replace HX := Lib.hid (HX.out.on hb)
      replace HB := Lib.hid (HB.out.trans (hb.mono HB.out.size))
      have q3 := hb.size
      have HM := Lib.hid ho
      clear ho hb
      go_wp2_with fail
      refine (S4.out _ HP.out.ints).mono ?_
      rintro e w4 ⟨rfl, hb⟩
      replace HP := Lib.hid (HP.out.on hb)
      replace HX := Lib.hid (HX.out.on hb)
      replace HM := Lib.hid (HM.out.on hb)
      replace HB := Lib.hid (HB.out.trans (hb.mono HB.out.size))
      have q4 := hb.size
      clear hb
      go_wp2_with fail
      refine (S3.out _ HP.out.ints).mono ?_
      rintro e w5 ⟨rfl, hb⟩
      replace HP := Lib.hid (HP.out.on hb)
      replace HX := Lib.hid (HX.out.on hb)
      replace HM := Lib.hid (HM.out.on hb)
      replace HB := Lib.hid (HB.out.trans (hb.mono HB.out.size))
      have q5 := hb.size
      clear hb
      go_wp2_with fail
      refine (S6.out _ HP.out.ints).mono ?_
      rintro e w6 ⟨rfl, hb⟩
      replace HP := Lib.hid (HP.out.on hb)
      replace HX := Lib.hid (HX.out.on hb)
      replace HM := Lib.hid (HM.out.on hb)
      replace HB := Lib.hid (HB.out.trans (hb.mono HB.out.size))
      have q6 := hb.size
      clear hb
      go_wp2_with fail
      refine (S5.out _ HP.out.ints).mono ?_
      rintro e w7 ⟨rfl, hb⟩
      replace HP := Lib.hid (HP.out.on hb)
      replace HX := Lib.hid (HX.out.on hb)
      replace HM := Lib.hid (HM.out.on hb)
      replace HB := Lib.hid (HB.out.trans (hb.mono HB.out.size))
      have q7 := hb.size
      clear hb
      go_wp2_with fail
      refine (S8.out _ HP.out.ints).mono ?_
      rintro e w8 ⟨ya, yc, rfl, ho, hb⟩
      replace HP := Lib.hid (HP.out.on hb)
      replace HX := Lib.hid (HX.out.on hb)
      replace HM := Lib.hid (HM.out.on hb)
      replace HB := Lib.hid (HB.out.trans (hb.mono HB.out.size))
      have q8 := hb.size
      have HY := Lib.hid ho
      clear ho hb
      go_wp2_with fail
      refine (S7.out _ HP.out.ints).mono ?_
      rintro e w9 ⟨za, zc, rfl, ho, hb⟩
      replace HP := Lib.hid (HP.out.on hb)
      replace HX := Lib.hid (HX.out.on hb)
      replace HM := Lib.hid (HM.out.on hb)
      replace HY := Lib.hid (HY.out.on hb)
      replace HB := Lib.hid (HB.out.trans (hb.mono HB.out.size))
      have q9 := hb.size
      have HZ := Lib.hid ho
      clear ho hb
      go_wp2_with fail
      refine (lkw_any _ _ _ _ _ LL (by omega) HX.out.ints HM.out.ints).mono ?_
      rintro e w10 ⟨rfl, hb⟩
      replace HP := Lib.hid (HP.out.on hb)
      replace HX := Lib.hid (HX.out.on hb)
      replace HM := Lib.hid (HM.out.on hb)
      replace HY := Lib.hid (HY.out.on hb)
      replace HZ := Lib.hid (HZ.out.on hb)
      replace HB := Lib.hid (HB.out.trans (hb.mono HB.out.size))
      have q10 := hb.size
      clear hb
      go_wp2_with fail
      refine (lkw_any _ _ _ _ _ R (by omega) HY.out.ints HZ.out.ints).mono ?_
      rintro e w11 ⟨rfl, hb⟩
      replace HP := Lib.hid (HP.out.on hb)
      replace HX := Lib.hid (HX.out.on hb)
      replace HM := Lib.hid (HM.out.on hb)
      replace HY := Lib.hid (HY.out.on hb)
      replace HZ := Lib.hid (HZ.out.on hb)
      replace HB := Lib.hid (HB.out.trans (hb.mono HB.out.size))
      have q11 := hb.size
      clear hb
      go_wp2_with fail
      refine (S9.out _ HP.out.ints).mono ?_
      rintro e w12 ⟨rfl, hb⟩
      replace HP := Lib.hid (HP.out.on hb)
      replace HX := Lib.hid (HX.out.on hb)
      replace HM := Lib.hid (HM.out.on hb)
      replace HY := Lib.hid (HY.out.on hb)
      replace HZ := Lib.hid (HZ.out.on hb)
      replace HB := Lib.hid (HB.out.trans (hb.mono HB.out.size))
      have q12 := hb.size
      clear hb
      go_wp2_with fail
      refine (ST.out _ _ _ (ownA_cap HY.out) HY.out.ints).mono ?_
      rintro e w13 ⟨ba, bc, rfl, ho, hb⟩
      replace HP := Lib.hid (HP.out.on hb)
      replace HX := Lib.hid (HX.out.on hb)
      replace HM := Lib.hid (HM.out.on hb)
      replace HY := Lib.hid (HY.out.on hb)
      replace HZ := Lib.hid (HZ.out.on hb)
      replace HB := Lib.hid (HB.out.trans (hb.mono HB.out.size))
      have q13 := hb.size
      have HU := Lib.hid ho
      clear ho hb
      obtain ⟨W, hW⟩ : ∃ X, X = w13 := ⟨_, rfl⟩
      rw [← hW] at HX HM HU HB ⊢
      clear hW S1 S2 S3 S4 S5 S6 S7 S8 S9 ST HP HY HZ
      go_wp2_with fail
      go_loopw [22] (fun z wr => ∃ k : Nat, (∃ n, wr = W.drewN n) ∧ k ≤ LL.length ∧ z = .int .i64 (k : Int)) (fun z _ => LL.length - (intOf z).toNat)
      case atStart => exact ⟨0, ⟨0, rfl⟩, by omega, rfl⟩
      case round =>
        obtain ⟨k, ⟨nd, rfl⟩, hk, rfl⟩ := hrel
        by_cases hlt : k < LL.length
        · obtain ⟨b1, o1, ra, -, hc1⟩ := HX.out.ints.at_ (j := k) hlt
          obtain ⟨c1, ⟨c2, c3⟩, c4, c5⟩ := HBD.out k (by rw [← HLP.out]; exact hlt)
          subst ra
          rw [c1] at hc1
          obtain ⟨v, hv⟩ : ∃ v, cor ps k = v := ⟨_, rfl⟩
          rw [hv] at hc1 c2 c3 c4 c5
          have hneg : IntKind.wrap .i64 (-v) = -v := IntWalk.i64_in _ (by omega)
          obtain ⟨M, hM⟩ : ∃ M : Int, (if v < -v then -v else v) = M := ⟨_, rfl⟩
          have hMv : M = (v.natAbs : Int) := by rw [← hM]; split <;> omega
          rw [← hMv] at c4 c5
          have d1 : decide (E < M) = false := by simp; omega
          clear hv hMv c2 c3 c4 c1
          by_cases hk0 : k = 0
          · subst hk0
            rw [Nat.add_zero] at hc1
            have d2 : decide ((0 : Int) < 0) = false := rfl
            clear c5
            go_wp2
            go_quiet (fail)
            go_wp2
            go_roundw
            case rel => exact ⟨1, ⟨_, rfl⟩, by omega, rfl⟩
            case measure => (simp [intOf] <;> omega)
          · have c6 := c5 (by omega)
            have d2 : decide ((0 : Int) < (k : Int)) = true := decide_eq_true (by omega)
            have d2n : decide (0 < k) = true := decide_eq_true (by omega)
            have d2p : 0 < k := by omega
            have d3 : decide (D < M) = false := by simp; omega
            clear c5 c6
            go_wp2
            go_quiet (fail)
            go_wp2
            go_roundw
            case rel => exact ⟨k + 1, ⟨_, rfl⟩, by omega, by go_num⟩
            case measure => simp [intOf]; omega
        · obtain rfl : k = LL.length := by omega
          have HB2 : Hid (Below w.heap.size w (W.drewN nd)) := Lib.hid (below_drewN HB.out _)
          have HU2 := Lib.hid (HU.out.ints.drewN nd)
          have HM2 := Lib.hid (HM.out.ints.drewN nd)
          have HX2 := Lib.hid (HX.out.ints.drewN nd)
          obtain ⟨W2, hW⟩ : ∃ X, X = W.drewN nd := ⟨_, rfl⟩
          have hsz : W2.heap.size = W.heap.size := by rw [hW]; rfl
          rw [← hW] at HB2 HU2 HM2 HX2 ⊢
          rw [← hsz] at HU2 HM2 HX2
          clear hW hsz
          go_wp2_with fail
          refine (lkw_any _ _ _ _ _ LL (by omega) HU2.out HM2.out).mono ?_
          rintro e w9 ⟨rfl, hb⟩
          replace HX2 := Lib.hid ((HX2.out.below hb).more hb.size)
          replace HB2 := Lib.hid (HB2.out.trans (hb.mono HB2.out.size))
          clear hb
          have dne : decide (D ≤ E) = true := by simpa using hse
          by_cases h0 : LL.length = 0
          · have z0 : ((LL.length : Int) == 0) = true := by rw [h0]; rfl
            go_wp2
            go_ret
            exact ⟨rfl, HB2.out⟩
          · have z0 : ((LL.length : Int) == 0) = false := by rw [beq_eq_false_iff_ne]; omega
            obtain ⟨b1, o1, ra, -, hc1⟩ := HX2.out.at_ (j := 0) (by omega)
            obtain ⟨c1, -⟩ := HBD.out 0 (by rw [← HLP.out]; omega)
            subst ra
            rw [c1, HE0.out, Nat.add_zero] at hc1
            go_wp2
            go_ret
            exact ⟨by first | rfl | (simp; done), HB2.out⟩
end Go.Proofs.Ytpnebnjpeiieaaa
