/- Contracts of AreChannels, the program's and the model's, and the walk of its exact law. -/
import Derived.Test.YthfaejhiabdkbaaRwC
import Derived.Test.YthfaejhiabdkbaaPuA
import Derived.Test.YthfaejhiabdkbaaDir
namespace Go.Proofs.Ythfaejhiabdkbaa
open Go.ChangeShapes Go.WideShapes Go.ChangeAt Go.RowKit Go.Shelf Num
set_option linter.unusedVariables false
set_option linter.unusedSimpArgs false
/-- a signal as long as the first one -/
def chP (zss : List (List Int)) (j : Nat) : Prop := sigB (gR zss j) = true ∧ (gR zss j).length = (gR zss 0).length
instance (zss : List (List Int)) (j : Nat) : Decidable (chP zss j) := by unfold chP; infer_instance
/-- channels -/
def chB (zss : List (List Int)) : Bool := decide (0 < zss.length) && decide (zss.length ≤ 12) && decide (∀ j, j < zss.length → chP zss j)
theorem chB_t {zss : List (List Int)} (h : chB zss = true) : 0 < zss.length ∧ zss.length ≤ 12 ∧ ∀ j, j < zss.length → chP zss j := by
  unfold chB at h
  simp only [Bool.and_eq_true, decide_eq_true_eq] at h
  exact ⟨h.1.1, h.1.2, h.2⟩
theorem chB_mk {zss : List (List Int)} (h0 : 0 < zss.length) (h1 : zss.length ≤ 12) (h : ∀ j, j < zss.length → chP zss j) : chB zss = true := by
  unfold chB
  rw [decide_eq_true h0, decide_eq_true h1, decide_eq_true h]; rfl
theorem chB_f {zss : List (List Int)} (h : ¬ (0 < zss.length ∧ zss.length ≤ 12 ∧ ∀ j, j < zss.length → chP zss j)) : chB zss = false := by
  cases e : chB zss
  · rfl
  · exact absurd (chB_t e) h
set_option maxHeartbeats 1000000 in
theorem ich_any (w : World) (a : Option Addr) (cap : Nat) (zss : List (List Int)) (hl : zss.length ≤ 1048576) (hr : ∀ j, j < zss.length → (gR zss j).length ≤ 1048576) (hx : RwL w w.heap.size a zss) :
    Calls Try.prog 28 #[.slice a zss.length cap] w fun e w' => e = .returned (.bool (chB zss)) ∧ Below w.heap.size w w' := by
  have HX := Lib.hid hx
  have HR := Lib.hid hr
  clear hx hr
  by_cases h0 : 0 < zss.length
  rotate_left
  · have H : Hid (chB zss = false) := Lib.hid (chB_f (fun h => h0 h.1))
    obtain rfl : zss = [] := List.length_eq_zero_iff.1 (by omega)
    go_enter Try.func28, Try.ntmps28
    go_wp2
    go_ret
    exact ⟨ret_bool H.out.symm, Below.refl _ _⟩
  have hne : ((zss.length : Int) == 0) = false := by rw [beq_eq_false_iff_ne]; omega
  by_cases h1 : zss.length ≤ 12
  rotate_left
  · have H : Hid (chB zss = false) := Lib.hid (chB_f (fun h => h1 h.2.1))
    go_enter Try.func28, Try.ntmps28
    go_wp2
    go_ret
    exact ⟨ret_bool H.out.symm, Below.refl _ _⟩
  obtain ⟨n, hn⟩ : ∃ n, zss.length = n := ⟨_, rfl⟩
  rw [hn] at hl h0 h1 hne ⊢
  have N1 := Lib.hid hn
  clear hn
  go_enter Try.func28, Try.ntmps28
  go_wp2
  go_loopw [15] (fun i wr => ∃ k : Nat, k ≤ n ∧ i = .int .i64 k ∧ Below w.heap.size w wr ∧ ∀ j, j < k → chP zss j) (fun i _ => n - (intOf i).toNat)
  case atStart => exact ⟨0, by omega, rfl, Below.refl _ _, fun j hj => by omega⟩
  case round =>
    obtain ⟨k, hk, rfl, hb, hr⟩ := hrel
    have HB := Lib.hid hb
    have HP := Lib.hid hr
    clear hb hr
    by_cases hlt : k < n
    · obtain ⟨b, off, p, c, rfl, -, hc, -, hp⟩ := (HX.out.below HB.out).at_ (j := k) (by rw [N1.out]; exact hlt)
      have hL := HR.out k (by rw [N1.out]; exact hlt)
      have hz : Ints .i64 wr wr.heap.size p (gR zss k) := hp.more HB.out.size
      cases hs : sigB (gR zss k)
      · have K : Hid (∀ W, _ → Calls Try.prog 44 #[.slice p (gR zss k).length c] W _) := Lib.hid (fun W (hz : Ints .i64 W W.heap.size p (gR zss k)) => isg_any W p c (gR zss k) (by omega) hz)
        rw [hs] at K
        have HZ := Lib.hid hz
        clear hp hz hL
        go_wp2_with fail
        refine (K.out _ HZ.out).mono ?_
        rintro e w2 ⟨rfl, hb⟩
        go_wp2
        go_ret
        exact ⟨ret_bool (chB_f (fun h => by have := (h.2.2 k (by rw [N1.out]; exact hlt)).1; rw [hs] at this; cases this)).symm, bel_end HB.out hb⟩
      · have K : Hid (∀ W, _ → Calls Try.prog 44 #[.slice p (gR zss k).length c] W _) := Lib.hid (fun W (hz : Ints .i64 W W.heap.size p (gR zss k)) => isg_any W p c (gR zss k) (by omega) hz)
        rw [hs] at K
        have HZ := Lib.hid hz
        have HS := Lib.hid hs
        clear hp hz hs
        have hL0 := HR.out 0 (by rw [N1.out]; exact h0)
        have HQ : Hid (chP zss k ↔ (gR zss k).length = (gR zss 0).length) := Lib.hid ⟨fun h => h.2, fun h => ⟨HS.out, h⟩⟩
        obtain ⟨L, hLe⟩ : ∃ L, (gR zss k).length = L := ⟨_, rfl⟩
        have HLE := Lib.hid hLe
        rw [hLe] at hc K HQ hL
        clear hLe
        go_wp2_with fail
        refine (K.out _ HZ.out).mono ?_
        rintro e w2 ⟨rfl, hb⟩
        replace HB := Lib.hid (bel_end HB.out hb)
        clear hb hc K
        obtain ⟨b', off', p0, c0, he, -, hc0, -, -⟩ := (HX.out.below HB.out).at_ (j := 0) (by rw [N1.out]; exact h0)
        simp only [Option.some.injEq, Addr.mk.injEq, and_true] at he
        obtain ⟨e1, e2⟩ := he
        subst e1 e2
        rw [Nat.add_zero] at hc0
        obtain ⟨L0, hLe0⟩ : ∃ L, (gR zss 0).length = L := ⟨_, rfl⟩
        rw [hLe0] at hc0 HQ hL0
        clear hLe0
        by_cases hq : L = L0
        · have hd : ((L : Int) != (L0 : Int)) = false := by subst hq; simp
          have HQ2 := Lib.hid (HQ.out.2 hq)
          clear hq
          go_wp2
          go_roundw
          case rel =>
            refine ⟨k + 1, by omega, by go_num, HB.out, fun j hj => ?_⟩
            by_cases hjk : j < k
            · exact HP.out j hjk
            · obtain rfl : j = k := by omega
              exact HQ2.out
          case measure => simp [intOf]; omega
        · have hd : ((L : Int) != (L0 : Int)) = true := by simp; omega
          have HQ2 := Lib.hid (fun h => hq (HQ.out.1 h))
          clear hq
          go_wp2
          go_ret
          exact ⟨ret_bool (chB_f (fun h => HQ2.out (h.2.2 k (by rw [N1.out]; exact hlt)))).symm, HB.out⟩
    · obtain rfl : k = n := by omega
      go_wp2
      go_ret
      exact ⟨ret_bool (chB_mk (by rw [N1.out]; exact h0) (by rw [N1.out]; exact h1) (fun j hj => HP.out j (by rw [N1.out] at hj; exact hj))).symm, HB.out⟩
set_option maxRecDepth 100000 in
set_option maxHeartbeats 2000000 in
theorem sch_any (w : World) (B : Nat) (a : Option Addr) (cap : Nat) (zss : List (List Int)) (hl : zss.length ≤ 1048576) (hr : ∀ j, j < zss.length → (gR zss j).length ≤ 1048576) (hx : RwL w B a zss) :
    Calls Try.prog 26 #[.slice a zss.length cap] w fun e w' => e = .returned (.bool (chB zss)) ∧ ∃ n, w' = w.drewN n := by
  have HX := Lib.hid hx
  have HR := Lib.hid hr
  clear hx hr
  by_cases h0 : 0 < zss.length
  rotate_left
  · have H : Hid (chB zss = false) := Lib.hid (chB_f (fun h => h0 h.1))
    obtain rfl : zss = [] := List.length_eq_zero_iff.1 (by omega)
    go_enter Try.func26, Try.ntmps26
    go_wp2
    go_ret
    exact ⟨ret_bool H.out.symm, 0, rfl⟩
  by_cases h1 : zss.length ≤ 12
  rotate_left
  · have H : Hid (chB zss = false) := Lib.hid (chB_f (fun h => h1 h.2.1))
    go_enter Try.func26, Try.ntmps26
    go_wp2
    go_ret
    exact ⟨ret_bool H.out.symm, 0, rfl⟩
  obtain ⟨n, hn⟩ : ∃ n, zss.length = n := ⟨_, rfl⟩
  rw [hn] at hl h0 h1 ⊢
  have N1 := Lib.hid hn
  clear hn
  go_enter Try.func26, Try.ntmps26
  go_wp2
  go_loopw [3] (fun i wr => ∃ k : Nat, k ≤ n ∧ i = .int .i64 k ∧ (∃ m, wr = w.drewN m) ∧ ∀ j, j < k → chP zss j) (fun i _ => n - (intOf i).toNat)
  case atStart => exact ⟨0, by omega, rfl, ⟨0, rfl⟩, fun j hj => by omega⟩
  case round =>
    obtain ⟨k, hk, rfl, hm, hr⟩ := hrel
    have HM := Lib.hid hm
    have HP := Lib.hid hr
    have hb : Below B w wr := by obtain ⟨m, rfl⟩ := hm; exact bel_drewN (Below.refl _ _) _
    replace HX := Lib.hid (HX.out.below hb)
    clear hb hr hm
    by_cases hlt : k < n
    · obtain ⟨b, off, p, c, rfl, -, hc, -, hp⟩ := HX.out.at_ (j := k) (by rw [N1.out]; exact hlt)
      obtain ⟨b', off', p0, c0, he, -, hc0, -, -⟩ := HX.out.at_ (j := 0) (by rw [N1.out]; exact h0)
      simp only [Option.some.injEq, Addr.mk.injEq, and_true] at he
      obtain ⟨e1, e2⟩ := he
      subst e1 e2
      rw [Nat.add_zero] at hc0
      have hL := HR.out k (by rw [N1.out]; exact hlt)
      have K : Hid (∀ m, Calls Try.prog 42 #[.slice p (gR zss k).length c] (wr.drewN m) _) := Lib.hid (fun m => ssg_any (wr.drewN m) B p c (gR zss k) (by omega) (hp.drewN m))
      clear hp
      cases hs : sigB (gR zss k)
      · rw [hs] at K
        have HS := Lib.hid hs
        clear hs hL
        go_wp2
        go_quiet (first | (go_at_call 42; (with_reducible exact in_call (K.out _))) | fail)
        go_wp2
        go_ret
        exact ⟨ret_bool (chB_f (fun h => by have := (h.2.2 k (by rw [N1.out]; exact hlt)).1; rw [HS.out] at this; cases this)).symm, by obtain ⟨m, hm⟩ := HM.out; exact ⟨m + nq, by rw [hm, World.drewN_drewN]⟩⟩
      · rw [hs] at K
        have HQ : Hid (chP zss k ↔ (gR zss k).length = (gR zss 0).length) := Lib.hid ⟨fun h => h.2, fun h => ⟨hs, h⟩⟩
        have hL0 := HR.out 0 (by rw [N1.out]; exact h0)
        clear hs
        obtain ⟨L, hLe⟩ : ∃ L, (gR zss k).length = L := ⟨_, rfl⟩
        obtain ⟨L0, hLe0⟩ : ∃ L, (gR zss 0).length = L := ⟨_, rfl⟩
        rw [hLe] at hc K HQ hL
        rw [hLe0] at hc0 HQ hL0
        clear hLe hLe0
        by_cases hq : L = L0
        · have hd : ((L : Int) != (L0 : Int)) = false := by subst hq; simp
          have HQ2 := Lib.hid (HQ.out.2 hq)
          clear hq
          go_wp2
          go_quiet (first | (go_at_call 42; (with_reducible exact in_call (K.out _))) | fail)
          go_wp2
          go_roundw
          case rel =>
            refine ⟨k + 1, by omega, by go_num, by obtain ⟨m, hm⟩ := HM.out; exact ⟨m + nq, by rw [hm, World.drewN_drewN]⟩, fun j hj => ?_⟩
            by_cases hjk : j < k
            · exact HP.out j hjk
            · obtain rfl : j = k := by omega
              exact HQ2.out
          case measure => simp [intOf]; omega
        · have hd : ((L : Int) != (L0 : Int)) = true := by simp; omega
          have HQ2 := Lib.hid (fun h => hq (HQ.out.1 h))
          clear hq
          go_wp2
          go_quiet (first | (go_at_call 42; (with_reducible exact in_call (K.out _))) | fail)
          go_wp2
          go_ret
          exact ⟨ret_bool (chB_f (fun h => HQ2.out (h.2.2 k (by rw [N1.out]; exact hlt)))).symm, by obtain ⟨m, hm⟩ := HM.out; exact ⟨m + nq, by rw [hm, World.drewN_drewN]⟩⟩
    · obtain rfl : k = n := by omega
      go_wp2
      go_ret
      exact ⟨ret_bool (chB_mk (by rw [N1.out]; exact h0) (by rw [N1.out]; exact h1) (fun j hj => HP.out j (by rw [N1.out] at hj; exact hj))).symm, HM.out⟩
theorem lach (a0 : Option Addr) (len0 cap0 : Nat) (z0 : List (List Int)) (w : World) (w0 : IsRows w a0 len0 cap0 z0) :
    Calls Try.prog 7 #[.slice a0 len0 cap0] w fun e w' => e = .returned (.bool true) ∧ Below w.heap.size w w' := by
  obtain ⟨hm, hlen, hz, hrl⟩ := RwL.of_rows w0
  obtain ⟨zss, hzs⟩ : ∃ zss, z0.take len0 = zss := ⟨_, rfl⟩
  rw [hzs] at hz hlen hrl
  subst hlen
  clear hzs w0
  have HZ := Lib.hid hz
  have HRL := Lib.hid hrl
  have K := Lib.hid (szs_any w _ a0 cap0 zss 1048576 hm hrl (by omega) (by omega) hz)
  clear hz hrl
  obtain ⟨q, hq⟩ : ∃ q, szR zss 1048576 = q := ⟨_, rfl⟩
  rw [hq] at K
  by_cases hneg : q < 0
  · go_enter Try.func7, Try.ntmps7
    go_wp2_with (go_at_call 25; refine K.out.mono ?_; rintro e w' ⟨rfl, rfl⟩)
    go_ret
    exact ⟨rfl, Below.refl _ _⟩
  have hfit := szR_fit (zss := zss) (by omega)
  have HL : Hid (∀ j, j < zss.length → (gR zss j).length ≤ 1048576) := Lib.hid (fun j hj => by have := totR_row zss hj; omega)
  have h2 : zss.length ≤ 1048576 := by omega
  clear hq hm hfit
  go_enter Try.func7, Try.ntmps7
  go_wp2_with (go_at_call 25; refine K.out.mono ?_; rintro e w' ⟨rfl, rfl⟩)
  clear K
  refine (tos_any w a0 cap0 zss h2 HL.out HZ.out).mono ?_
  rintro e w1 ⟨g1, q1, rfl, ho, hb⟩
  have HB := Lib.hid hb
  have HS := Lib.hid ho.rows
  replace HZ := Lib.hid (HZ.out.below hb)
  clear ho hb
  go_wp2_with fail
  refine (sch_any w1 _ _ _ zss h2 HL.out HS.out).mono ?_
  rintro e w2 ⟨rfl, n2, hw⟩
  have hb : Below w1.heap.size w1 w2 := by rw [hw]; exact bel_drewN (Below.refl _ _) _
  replace HZ := Lib.hid (HZ.out.below (hb.mono HB.out.size))
  replace HB := Lib.hid (bel_end HB.out hb)
  clear hw hb HS
  go_wp2_with fail
  refine (tos_any w2 a0 cap0 zss h2 HL.out (HZ.out.more HB.out.size)).mono ?_
  rintro e w3 ⟨g3, q3, rfl, ho, hb⟩
  have HX := Lib.hid ho.rows
  replace HZ := Lib.hid (HZ.out.below (hb.mono HB.out.size))
  replace HB := Lib.hid (bel_end HB.out hb)
  clear ho hb
  go_wp2_with fail
  refine (ich_any w3 _ _ zss h2 HL.out HX.out).mono ?_
  rintro e w4 ⟨rfl, hb⟩
  replace HX := Lib.hid ((HX.out.below hb).more hb.size)
  replace HZ := Lib.hid (HZ.out.below (hb.mono HB.out.size))
  replace HB := Lib.hid (bel_end HB.out hb)
  clear hb
  go_wp2_with fail
  refine (tos_any w4 a0 cap0 zss h2 HL.out (HZ.out.more HB.out.size)).mono ?_
  rintro e w5 ⟨g5, q5, rfl, ho, hb⟩
  have HC := Lib.hid ho.rows
  replace HX := Lib.hid ((HX.out.below hb).more hb.size)
  replace HB := Lib.hid (bel_end HB.out hb)
  clear ho hb
  go_wp2_with fail
  refine (eqs_any w5 _ _ _ _ _ zss h2 HL.out HX.out HC.out).mono ?_
  rintro e w6 ⟨rfl, n6, hw⟩
  have hb : Below w5.heap.size w5 w6 := by rw [hw]; exact bel_drewN (Below.refl _ _) _
  clear hw
  go_wp2
  go_ret
  exact ⟨rfl, bel_end HB.out hb⟩
end Go.Proofs.Ythfaejhiabdkbaa
