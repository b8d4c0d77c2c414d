/- The law of medians over drawn lists. -/
import Derived.Test.YtaamfgpdfakakaaMDraw
import Derived.Test.YtaamfgpdfakakaaMed
namespace Go.Proofs.Ytaamfgpdfakakaa
open Go.ChangeShapes Go.WideShapes Go.ChangeAt Go.RowKit Num
set_option linter.unusedVariables false
/-- a list and a bound that a draw has made -/
def ListTwo (w : World) (e : Ending) (w' : World) : Prop :=
  ∃ (a : Option Addr) (cap : Nat) (ps : List Int) (n : Int), e = .returned (.tuple #[.slice a ps.length cap, .int .i64 n]) ∧ ps.length ≤ 201 ∧ Ints .i64 w' w'.heap.size a ps ∧ Below w.heap.size w w'
theorem dir_any (w : World) (a : Option Addr) (cap : Nat) (zs : List Int) (h : Code8 w w.heap.size a zs) :
    Calls Try.prog 27 #[.slice a zs.length cap] w (ListTwo w) := by
  have H := Lib.hid h
  clear h
  go_enter Try.func27, Try.ntmps27
  go_wp2_with fail
  refine (from_any _ _ _ zs H.out).mono ?_
  rintro e w1 ⟨s, rfl, hs, hsrc, hb⟩
  have S1 := Lib.hid hsrc
  have B1 := Lib.hid hb
  clear hsrc hb
  go_wp2_with fail
  refine (nxt_any _ _ _ S1.out).mono ?_
  rintro e w2 ⟨x, rfl, hx0, hx1, -, hsrc, hg⟩
  have S2 := Lib.hid hsrc
  have B2 := Lib.hid (B1.out.trans (below_of_grown hg hs B1.out.size))
  have hxb := hx1 (by omega)
  clear hsrc hg hx1
  go_wp2_with fail
  refine (dli_any _ _ _ S2.out hx0 (by omega)).mono ?_
  rintro e w3 ⟨b, c, ps, rfl, hl, -, hi, hsrc, hg⟩
  have I3 := Lib.hid hi
  have B3 := Lib.hid (B2.out.trans (below_of_grown hg hs B2.out.size))
  clear hsrc hg hi
  go_wp2_with fail
  go_ret2
  exact ⟨b, c, ps, x, rfl, hl, I3.out, B3.out⟩

def leq (x : Int) (y : Int) : Bool := decide (y ≤ x)
def geq (x : Int) (y : Int) : Bool := decide (x ≤ y)
theorem srt_pair (L : List Int) {i j : Nat} (hij : i ≤ j) (hj : j < (srtL L).length) : (srtL L).getD i 0 ≤ (srtL L).getD j 0 := by
  have h1 : (srtL L).Pairwise (· ≤ ·) := by
    have := List.pairwise_mergeSort (le := fun x y : Int => decide (x ≤ y)) (by intro a b c; simp; omega) (by intro a b; simp; omega) L
    exact this.imp (by intro a b h; simpa using h)
  rcases Nat.lt_or_ge i j with h | h
  · have := List.pairwise_iff_getElem.1 h1 i j (by omega) hj h
    rwa [List.getD_eq_getElem?_getD, List.getD_eq_getElem?_getD, List.getElem?_eq_getElem (by omega), List.getElem?_eq_getElem hj]
  · obtain rfl : i = j := by omega
    exact Int.le_refl _
theorem cnt_srt (L : List Int) (p : Int → Bool) : L.countP p = (srtL L).countP p := ((List.mergeSort_perm L _).countP_eq p).symm
theorem low_half {L : List Int} {x : Int} (h0 : 0 < L.length) (hx : (srtL L).getD ((L.length - 1) / 2) 0 = x) : L.length ≤ 2 * L.countP (leq x) := by
  rw [cnt_srt]
  have hS := srtL_len L
  obtain ⟨h, hh⟩ : ∃ h, (L.length - 1) / 2 = h := ⟨_, rfl⟩
  rw [hh] at hx
  have e : ((srtL L).take (h + 1)).countP (leq x) = h + 1 := by
    rw [List.countP_eq_length.2]
    · simp; omega
    · intro a ha
      obtain ⟨j, hj, rfl⟩ := List.getElem_of_mem ha
      have hj2 : j < h + 1 := by simp at hj; omega
      rw [List.getElem_take]
      have := srt_pair L (i := j) (j := h) (by omega) (by omega)
      rw [hx, List.getD_eq_getElem?_getD, List.getElem?_eq_getElem (by omega)] at this
      exact decide_eq_true this
  have e2 : (srtL L).countP (leq x) = ((srtL L).take (h + 1)).countP (leq x) + ((srtL L).drop (h + 1)).countP (leq x) := by
    rw [← List.countP_append, List.take_append_drop]
  omega
theorem high_half {L : List Int} {x : Int} (h0 : 0 < L.length) (hx : (srtL L).getD ((L.length - 1) / 2) 0 = x) : L.length ≤ 2 * L.countP (geq x) := by
  rw [cnt_srt]
  have hS := srtL_len L
  obtain ⟨h, hh⟩ : ∃ h, (L.length - 1) / 2 = h := ⟨_, rfl⟩
  rw [hh] at hx
  have e : ((srtL L).drop h).countP (geq x) = L.length - h := by
    rw [List.countP_eq_length.2]
    · simp; omega
    · intro a ha
      obtain ⟨j, hj, rfl⟩ := List.getElem_of_mem ha
      have hj2 : h + j < L.length := by simp at hj; omega
      rw [List.getElem_drop]
      have := srt_pair L (i := h) (j := h + j) (by omega) (by omega)
      rw [hx, List.getD_eq_getElem?_getD, List.getElem?_eq_getElem (by omega)] at this
      exact decide_eq_true this
  have e2 : (srtL L).countP (geq x) = ((srtL L).take h).countP (geq x) + ((srtL L).drop h).countP (geq x) := by
    rw [← List.countP_append, List.take_append_drop]
  omega
theorem has_med {L : List Int} {x : Int} (h0 : 0 < L.length) (hx : (srtL L).getD ((L.length - 1) / 2) 0 = x) : hasB L x = true := by
  have hS := srtL_len L
  unfold hasB
  rw [List.contains_iff_mem, ← (List.mergeSort_perm L (fun x y => decide (x ≤ y))).mem_iff]
  rw [List.getD_eq_getElem?_getD, List.getElem?_eq_getElem (by omega)] at hx
  rw [← hx]
  exact List.getElem_mem _
theorem cnt_snoc {L : List Int} {p : Int → Bool} {k : Nat} {y : Int} (hk : k < L.length) (hy : L.getD k 0 = y) : (L.take (k + 1)).countP p = (L.take k).countP p + (if p y then 1 else 0) := by
  rw [take_snoc' hk, hy, List.countP_append]; simp [List.countP_cons]

theorem medE_0 {zs : List Int} (h : medE zs = 0) : 0 < zs.length ∧ (srtL zs).getD ((zs.length - 1) / 2) 0 = medV zs := by
  unfold medE at h
  unfold medV
  split at h
  · simp at h
  · rename_i h1
    split at h
    · rename_i h2
      split at h
      · simp at h
      · rename_i h3
        rw [if_neg h1, if_pos h2, if_neg h3]
        exact ⟨by omega, rfl⟩
    · simp at h
theorem leq_t {x y : Int} (h : y ≤ x) : leq x y = true := decide_eq_true h
theorem leq_f {x y : Int} (h : ¬ y ≤ x) : leq x y = false := decide_eq_false h
theorem geq_t {x y : Int} (h : x ≤ y) : geq x y = true := decide_eq_true h
theorem geq_f {x y : Int} (h : ¬ x ≤ y) : geq x y = false := decide_eq_false h
theorem cnt_le {L : List Int} {p : Int → Bool} {k : Nat} : (L.take k).countP p ≤ k := Nat.le_trans List.countP_le_length (by simp; omega)

set_option maxHeartbeats 4000000 in
theorem lmds (a0 : Option Addr) (len0 cap0 : Nat) (z0 : List Int) (w : World) (w0 : IsRow .u8 w a0 len0 cap0 z0) :
    Calls Try.prog 4 #[.slice a0 len0 cap0] w fun e w' => e = .returned (.bool true) ∧ Below w.heap.size w w' := by
  obtain ⟨hlen, hcode⟩ := Code8.of_row w0
  obtain ⟨zs, hzs⟩ : ∃ zs, z0.take len0 = zs := ⟨_, rfl⟩
  rw [hzs] at hlen hcode
  subst hlen
  clear hzs w0
  have HC := Lib.hid hcode
  clear hcode
  by_cases hbig : 4096 < zs.length
  · have hd : decide ((4096 : Int) < (zs.length : Int)) = true := by simp; omega
    go_enter Try.func4, Try.ntmps4
    go_wp2_with (go_at_call 18; refine (big_any _ _ _ _).mono ?_; rw [hd]; rintro e w' ⟨rfl, rfl⟩)
    go_ret
    exact ⟨rfl, Below.refl _ _⟩
  · have hd : decide ((4096 : Int) < (zs.length : Int)) = false := by simp; omega
    go_enter Try.func4, Try.ntmps4
    go_wp2_with (go_at_call 18; refine (big_any _ _ _ _).mono ?_; rw [hd]; rintro e w' ⟨rfl, rfl⟩)
    clear hd
    refine (dmo_any _ _ _ zs HC.out).mono ?_
    rintro e w1 ⟨b, c, ps, rfl, hl, hi, hb⟩
    have I1 := Lib.hid hi
    have B1 := Lib.hid hb
    clear hi hb
    go_wp2_with fail
    refine (imd_any _ _ _ ps (by omega) I1.out).mono ?_
    rintro e w2 ⟨rfl, hb2⟩
    have I2 := Lib.hid ((I1.out.below hb2).more hb2.size)
    have B2 := Lib.hid (B1.out.trans (hb2.mono B1.out.size))
    clear hb2
    go_wp2_with fail
    refine (smd_any _ _ _ ps (by omega) I2.out).mono ?_
    rintro e w3 ⟨rfl, hb3⟩
    have I3 := Lib.hid ((I2.out.below hb3).more hb3.size)
    have B3 := Lib.hid (B2.out.trans (hb3.mono B2.out.size))
    clear hb3
    go_wp2_with fail
    refine (dir_any _ _ _ zs (HC.out.below B3.out (Nat.le_refl _) |>.more B3.out.size)).mono ?_
    rintro e w4 ⟨d, c2, us, n, rfl, hl2, hi, hb4⟩
    have I4 := Lib.hid ((I3.out.below hb4).more hb4.size)
    have U4 := Lib.hid hi
    have B4 := Lib.hid (B3.out.trans (hb4.mono B3.out.size))
    clear hb4 hi
    go_wp2_with fail
    refine (iir_any _ _ _ _ us n (by omega) U4.out).mono ?_
    rintro e w' ⟨rfl, rfl⟩
    go_wp2_with fail
    refine (sir_any _ _ _ _ us n (by omega) U4.out).mono ?_
    rintro e w' ⟨rfl, n1, rfl⟩
    have I5 := Lib.hid (I4.out.drewN n1)
    have B5 := Lib.hid (below_drewN B4.out n1)
    obtain ⟨w5, hw5⟩ : ∃ W, W = w4.drewN n1 := ⟨_, rfl⟩
    rw [← hw5]
    rw [← hw5] at I5 B5
    clear hw5 I1 I2 I3 I4 U4 B1 B2 B3 B4 hl2
    by_cases hE : medE ps = 0
    · obtain ⟨hp, hx⟩ := medE_0 hE
      obtain ⟨x, hxx⟩ : ∃ x, medV ps = x := ⟨_, rfl⟩
      rw [hxx] at hx
      rw [hxx, hE]
      have hlo := low_half hp hx
      have hhi := high_half hp hx
      have HH := Lib.hid (has_med hp hx)
      clear hx hE hxx
      go_wp2_with fail
      go_loop [10, 11, 12] (fun l h i => ∃ k : Nat, k ≤ ps.length ∧ i = .int .i64 k ∧ l = .int .i64 (((ps.take k).countP (leq x) : Nat) : Int) ∧ h = .int .i64 (((ps.take k).countP (geq x) : Nat) : Int)) (fun _ _ i => ps.length - (intOf i).toNat)
      case atStart => exact ⟨0, by omega, rfl, rfl, rfl⟩
      case round =>
        obtain ⟨k, hk, rfl, rfl, rfl⟩ := hrel
        by_cases hlt : k < ps.length
        · obtain ⟨b', off, rfl, hB, hc⟩ := I5.out.at_ hlt
          obtain ⟨y, hy⟩ : ∃ y, ps.getD k 0 = y := ⟨_, rfl⟩
          rw [hy] at hc
          have c1 := cnt_snoc (p := leq x) hlt hy
          have c2' := cnt_snoc (p := geq x) hlt hy
          have b1 := cnt_le (L := ps) (p := leq x) (k := k)
          have b2 := cnt_le (L := ps) (p := geq x) (k := k)
          obtain ⟨C, hC⟩ : ∃ C, (ps.take k).countP (leq x) = C := ⟨_, rfl⟩
          obtain ⟨D, hD⟩ : ∃ D, (ps.take k).countP (geq x) = D := ⟨_, rfl⟩
          rw [hC] at c1 b1
          rw [hD] at c2' b2
          rw [hC, hD]
          have C1 := Lib.hid c1
          have C2 := Lib.hid c2'
          clear hy hC hD c1 c2' hlo hhi
          by_cases h1 : y ≤ x
          all_goals by_cases h2 : x ≤ y
          all_goals
            go_wp2
            go_round
          all_goals first
            | (case rel => exact ⟨k + 1, by omega, by go_num, by rw [C1.out]; simp [leq, h1], by rw [C2.out]; simp [geq, h2]⟩)
            | (case measure => simp [intOf]; omega)
        · obtain rfl : k = ps.length := by omega
          rw [List.take_length]
          have b1 : ps.countP (leq x) ≤ ps.length := List.countP_le_length
          have b2 : ps.countP (geq x) ≤ ps.length := List.countP_le_length
          go_wp2_with (go_at_call 30; refine (has_any _ _ _ _ ps x (by omega) I5.out).mono ?_; rw [HH.out]; rintro e w' ⟨rfl, rfl⟩)
          go_ret
          exact ⟨ret_bool (decide_eq_true (by omega)), B5.out⟩
    · have hne : (medE ps != 0) = true := by simpa using hE
      go_wp2
      go_ret
      exact ⟨rfl, B5.out⟩
end Go.Proofs.Ytaamfgpdfakakaa
