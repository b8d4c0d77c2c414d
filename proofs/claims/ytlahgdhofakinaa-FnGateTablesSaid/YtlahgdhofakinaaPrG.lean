/- Contracts of the program's AreCosts, costsError, SumBound, FreeContacts. -/
import Derived.Test.YtlahgdhofakinaaPrF
import Derived.Test.YtlahgdhofakinaaPrD
import Derived.Test.YtlahgdhofakinaaPuP
namespace Go.Proofs.Ytlahgdhofakinaa
open Go.ChangeShapes Go.WideShapes Go.ChangeAt Go.RowKit Go.Shelf Num
set_option linter.unusedVariables false
set_option linter.unusedSimpArgs false
theorem wb_al {zs : List Int} (h : zs.length ≤ 6) (g : anyLack (-1) 1000000000000 zs = false) : withB zs 6 (-1) 1000000000000 = true := by
  unfold withB; rw [g, decide_eq_true (show (zs.length : Int) ≤ 6 by omega)]; rfl
theorem wb_no {zs : List Int} (g : anyLack (-1) 1000000000000 zs = true) : ¬ withB zs 6 (-1) 1000000000000 = true := by
  unfold withB; rw [g]; simp
set_option maxHeartbeats 2000000 in
theorem iac_any (w : World) (a : Option Addr) (cap n : Nat) (zss : List (List Int)) (hn : zss.length = n) (hl : n ≤ 9223372036854775807) (hr : ∀ j, j < zss.length → (gR zss j).length ≤ 9223372036854775807) (hx : RwL w w.heap.size a zss) :
    Calls Try.prog 26 #[.slice a n cap] w fun e w' => e = .returned (.bool (acB zss)) ∧ Below w.heap.size w w' := by
  have HX := Lib.hid hx
  have HR := Lib.hid hr
  have N1 := Lib.hid hn
  clear hx hr hn
  by_cases h1 : n ≤ 6
  rotate_left
  · have H : Hid (acB zss = false) := Lib.hid (acB_f (fun h => h1 (by have := h.1; have := N1.out; omega)))
    go_enter Try.func26, Try.ntmps26
    go_wp2
    go_ret
    exact ⟨ret_bool H.out.symm, Below.refl _ _⟩
  go_enter Try.func26, Try.ntmps26
  go_wp2_with fail
  generalize hW : World.alloc _ _ = W
  have bE : Bk W w.heap.size #[.int .i64 (-1), .int .i64 1000000000000] 81 := by rw [← hW]; exact Bk.new' rfl
  have HB : Hid (Below w.heap.size w W) := Lib.hid (by rw [← hW]; exact (Below.refl _ _).alloc (Nat.le_refl _) _)
  have BE := Lib.hid bE
  clear hW bE
  replace HX := Lib.hid ((HX.out.below HB.out).more HB.out.size)
  go_loopw [12] (fun i wr => ∃ k : Nat, k ≤ n ∧ i = .int .i64 k ∧ Below W.heap.size W wr ∧ ∀ j, j < k → acR zss j) (fun i _ => n - (intOf i).toNat)
  case atStart => exact ⟨0, by omega, rfl, Below.refl _ _, fun j hj => by omega⟩
  case round =>
    obtain ⟨k, hk, rfl, hb, hp⟩ := hrel
    have HP := Lib.hid hp
    have HW := Lib.hid hb
    clear hp
    by_cases hlt : k < n
    · have hn0 : 0 < n := by omega
      have hxr := HX.out.below hb
      obtain ⟨b, off, p, c, rfl, -, hc, -, hp⟩ := hxr.at_ (j := k) (by rw [N1.out]; exact hlt)
      obtain ⟨b', off', p0, c0, he, -, hc0, -, -⟩ := hxr.at_ (j := 0) (by rw [N1.out]; omega)
      simp only [Option.some.injEq, Addr.mk.injEq, and_true] at he
      obtain ⟨e1, e2⟩ := he
      subst e1 e2
      rw [Nat.add_zero] at hc0
      have bE := BE.out.on hb
      have c0 := bE.cell 0 rfl
      have c1 := bE.cell 1 rfl
      have cl := bE.lt
      clear bE hxr
      have hL := HR.out k (by rw [N1.out]; exact hlt)
      have hL0 := HR.out 0 (by rw [N1.out]; omega)
      have K : Hid (Calls Try.prog 72 #[.agg #[.int .i64 (-1), .int .i64 1000000000000], .slice p (gR zss k).length c] wr _) := Lib.hid (are_any wr p c _ (gR zss k) (-1) 1000000000000 rfl hL (hp.more hb.size))
      clear hp hb
      have HQ : Hid (acR zss k ↔ (gR zss k).length = (gR zss 0).length ∧ withB (gR zss k) 6 (-1) 1000000000000 = true) := Lib.hid Iff.rfl
      have HT : Hid ((gR zss k).length ≤ 6 → anyLack (-1) 1000000000000 (gR zss k) = false → withB (gR zss k) 6 (-1) 1000000000000 = true) := Lib.hid (fun h g => wb_al h g)
      have HF : Hid (anyLack (-1) 1000000000000 (gR zss k) = true → ¬ withB (gR zss k) 6 (-1) 1000000000000 = true) := Lib.hid wb_no
      have HG : Hid (¬ (gR zss k).length ≤ 6 → ¬ withB (gR zss k) 6 (-1) 1000000000000 = true) := Lib.hid (fun h g => h (wb_iff.1 g).1)
      obtain ⟨L, hLe⟩ : ∃ L, (gR zss k).length = L := ⟨_, rfl⟩
      obtain ⟨L0, hLe0⟩ : ∃ L, (gR zss 0).length = L := ⟨_, rfl⟩
      obtain ⟨AL, hAL⟩ : ∃ AL, anyLack (-1) 1000000000000 (gR zss k) = AL := ⟨_, rfl⟩
      rw [hLe] at hc K HQ hL HT HG
      rw [hLe0] at hc0 HQ hL0
      rw [hAL] at K HT HF
      clear hLe hLe0 hAL
      have no : Hid (¬ acR zss k → acB zss = false) := Lib.hid (fun h => acB_no (by rw [N1.out]; exact hlt) h)
      by_cases h6 : L ≤ 6
      · by_cases hq : L = L0
        · have hd : ((L : Int) != (L0 : Int)) = false := by subst hq; simp
          cases AL
          · have HQ2 : Hid (acR zss k) := Lib.hid (HQ.out.2 ⟨hq, HT.out h6 rfl⟩)
            clear hq HQ HT HF HG no
            go_wp2_with (go_at_call 72; (with_reducible refine Calls.mono K.out ?_); rintro e w' ⟨rfl, hb⟩; have HW2 := Lib.hid (bel_end HW.out hb); clear hb)
            go_roundw
            case rel =>
              refine ⟨k + 1, by omega, by go_num, HW2.out, fun j hj => ?_⟩
              by_cases hjk : j < k
              · exact HP.out j hjk
              · obtain rfl : j = k := by omega
                exact HQ2.out
            case measure => simp [intOf] <;> omega
          · have HQ2 : Hid (acB zss = false) := Lib.hid (no.out (fun h => HF.out rfl (HQ.out.1 h).2))
            clear hq HQ HT HF HG no
            go_wp2_with (go_at_call 72; (with_reducible refine Calls.mono K.out ?_); rintro e w' ⟨rfl, hb⟩; have HW2 := Lib.hid (bel_end HW.out hb); clear hb)
            go_ret
            exact ⟨ret_bool HQ2.out.symm, bel_end HB.out HW2.out⟩
        · have hd : ((L : Int) != (L0 : Int)) = true := by simp; omega
          have HQ2 : Hid (acB zss = false) := Lib.hid (no.out (fun h => hq (HQ.out.1 h).1))
          clear hq HQ K HT HF HG no
          go_wp2
          go_ret
          exact ⟨ret_bool HQ2.out.symm, bel_end HB.out HW.out⟩
      · have HQ2 : Hid (acB zss = false) := Lib.hid (no.out (fun h => HG.out h6 (HQ.out.1 h).2))
        clear HQ K HT HF HG no
        go_wp2
        go_ret
        exact ⟨ret_bool HQ2.out.symm, bel_end HB.out HW.out⟩
    · obtain rfl : k = n := by omega
      clear hb
      go_wp2
      go_ret
      exact ⟨ret_bool (acB_mk (by rw [N1.out]; exact h1) (fun j hj => HP.out j (by rw [N1.out] at hj; exact hj))).symm, bel_end HB.out HW.out⟩
theorem has_in (x lo hi : Int) : hasB lo hi x = inB x lo hi := by unfold hasB inB; rw [Bool.decide_and]
/-- the code of costs and a miss -/
theorem cer_any (w : World) (a : Option Addr) (cap n : Nat) (zss : List (List Int)) (hn : zss.length = n) (hl : n ≤ 9223372036854775807) (hr : ∀ j, j < zss.length → (gR zss j).length ≤ 9223372036854775807) (hx : RwL w w.heap.size a zss) (miss : Int) :
    Calls Try.prog 76 #[.slice a n cap, .int .i64 miss] w fun e w' => e = .returned (.int .i64 (coC zss miss)) ∧ Below w.heap.size w w' := by
  have K1 := Lib.hid (iac_any w a cap n zss hn hl hr hx)
  have K2 : Hid (∀ W : World, Calls Try.prog 72 #[.agg #[.int .i64 0, .int .i64 1000000000000], .slice (some ⟨W.heap.size, 0, none⟩) 1 1] (W.alloc (.cells #[.int .i64 miss] 2)) _) := Lib.hid (fun W => are1_any W miss 0 1000000000000)
  have HC : Hid (coC zss miss = if acB zss = true then (if hasB 0 1000000000000 miss = true then 0 else 2) else 1) := Lib.hid (by unfold coC; rw [has_in])
  clear hn hl hr hx
  cases h1 : acB zss
  · rw [h1] at K1 HC
    rw [if_neg (by decide)] at HC
    clear h1 K2
    go_enter Try.func76, Try.ntmps76
    go_wp2_with (go_at_call 26; (with_reducible refine Calls.mono K1.out ?_); rintro e w' ⟨rfl, hb⟩; have HB := Lib.hid hb; clear hb)
    go_ret
    exact ⟨by rw [HC.out]; rfl, HB.out⟩
  · rw [h1] at K1 HC
    rw [if_pos rfl] at HC
    clear h1
    obtain ⟨V, hV⟩ : ∃ V, hasB 0 1000000000000 miss = V := ⟨_, rfl⟩
    rw [hV] at K2 HC
    clear hV
    go_enter Try.func76, Try.ntmps76
    cases V
    · rw [if_neg (by decide)] at HC
      go_wp2_with (first | (go_at_call 26; (with_reducible refine Calls.mono K1.out ?_); rintro e w' ⟨rfl, hb⟩; have HB := Lib.hid hb; clear hb) | (go_at_call 72; (with_reducible refine Calls.mono (K2.out _) ?_); rintro e w2 ⟨rfl, hb⟩; have HB2 := Lib.hid (bel_end HB.out hb); clear hb))
      go_ret
      exact ⟨by rw [HC.out]; rfl, HB2.out⟩
    · rw [if_pos rfl] at HC
      go_wp2_with (first | (go_at_call 26; (with_reducible refine Calls.mono K1.out ?_); rintro e w' ⟨rfl, hb⟩; have HB := Lib.hid hb; clear hb) | (go_at_call 72; (with_reducible refine Calls.mono (K2.out _) ?_); rintro e w2 ⟨rfl, hb⟩; have HB2 := Lib.hid (bel_end HB.out hb); clear hb))
      go_ret
      exact ⟨by rw [HC.out]; rfl, HB2.out⟩
set_option maxHeartbeats 2000000 in
theorem isb_any (w : World) (a : Option Addr) (cap n : Nat) (zss : List (List Int)) (hn : zss.length = n) (hl : n ≤ 9223372036854775807) (hr : ∀ j, j < zss.length → (gR zss j).length ≤ 9223372036854775807) (hx : RwL w w.heap.size a zss) (miss : Int) :
    Calls Try.prog 34 #[.slice a n cap, .int .i64 miss] w fun e w' => e = .returned (.tuple #[.int .i64 (sumbV zss miss), .int .i64 (coC zss miss)]) ∧ Below w.heap.size w w' := by
  have KC := Lib.hid (cer_any w a cap n zss hn hl hr hx miss)
  have HX := Lib.hid hx
  have N1 := Lib.hid hn
  clear hx hn hl hr
  obtain ⟨k, hk⟩ : ∃ k, coC zss miss = k := ⟨_, rfl⟩
  have HK := Lib.hid hk
  by_cases h0 : k = 0
  rotate_left
  · have hd : (k != 0) = true := by simpa using h0
    have HN := Lib.hid (show ¬ coC zss miss = 0 by rw [hk]; exact h0)
    rw [hk] at KC ⊢
    clear hk
    go_enter Try.func34, Try.ntmps34
    go_wp2_with (go_at_call 76; (with_reducible refine Calls.mono KC.out ?_); rintro e w' ⟨rfl, hb⟩; have HB := Lib.hid hb; clear hb)
    go_ret2
    exact ⟨pri_ii (by unfold sumbV; rw [if_neg HN.out]) rfl, HB.out⟩
  subst h0
  obtain ⟨ha, m0, m1⟩ := coC_0 hk
  have h6 : n ≤ 6 := by have := ha.1; have := N1.out; omega
  have HA := Lib.hid ha
  have HV : Hid (sumbV zss miss = sbT zss miss n) := Lib.hid (by unfold sumbV; rw [if_pos hk, N1.out])
  have HB : Hid (∀ k : Nat, k ≤ n → 0 ≤ sbT zss miss k ∧ sbT zss miss k ≤ 6000000000000) := Lib.hid (fun k hk => by have := sbT_bd (zss := zss) m0 m1 k; omega)
  have HL : Hid (∀ i k : Nat, 0 ≤ lsT zss miss i k ∧ lsT zss miss i k ≤ 1000000000000) := Lib.hid (fun i k => by have := lsT_le (zss := zss) (miss := miss) (i := i) m0 k; omega)
  rw [hk] at KC ⊢
  clear hk ha
  go_enter Try.func34, Try.ntmps34
  go_wp2_with (go_at_call 76; (with_reducible refine Calls.mono KC.out ?_); rintro e w1 ⟨rfl, hb⟩; have HW := Lib.hid hb; replace HX := Lib.hid ((HX.out.below hb).more hb.size); clear hb)
  go_loop [7, 21] (fun s i => ∃ k : Nat, k ≤ n ∧ i = .int .i64 k ∧ s = .int .i64 (sbT zss miss k)) (fun _ i => n - (intOf i).toNat)
  case atStart => exact ⟨0, by omega, rfl, rfl⟩
  case round =>
    obtain ⟨i, hi, rfl, rfl⟩ := hrel
    by_cases hlt : i < n
    · obtain ⟨b, off, p, c, rfl, -, hc, hcc, hp⟩ := HX.out.at_ (j := i) (by rw [N1.out]; exact hlt)
      have hb0 := HB.out i (by omega)
      have hb1 := HB.out (i + 1) (by omega)
      have hs : sbT zss miss (i + 1) = sbT zss miss i + lsT zss miss i (gR zss i).length := rfl
      have hrl := acP_rows HA.out i
      have HEN : Hid (∀ j, j < (gR zss i).length → -1 ≤ (gR zss i).getD j 0) := Lib.hid (fun j hj => ((HA.out.2 i (by rw [N1.out]; exact hlt)).2.2 j hj).1)
      obtain ⟨L, hLe⟩ : ∃ L, (gR zss i).length = L := ⟨_, rfl⟩
      rw [hLe] at hc hcc hs hrl HEN
      have HLE := Lib.hid hLe
      obtain ⟨s, hse⟩ : ∃ s, sbT zss miss i = s := ⟨_, rfl⟩
      rw [hse] at hs hb0 ⊢
      have HS := Lib.hid hs
      have HP := Lib.hid hp
      clear hLe hse hs hp
      go_wp2
      go_loop [10, 28] (fun l k => ∃ j : Nat, j ≤ L ∧ k = .int .i64 j ∧ l = .int .i64 (lsT zss miss i j)) (fun _ k => L - (intOf k).toNat)
      case atStart => exact ⟨0, by omega, rfl, rfl⟩
      case round =>
        obtain ⟨j, hj, rfl, rfl⟩ := hrel
        have hl0 := HL.out i j
        have hst : lsT zss miss i (j + 1) = if 0 ≤ (gR zss i).getD j 0 then (if (gR zss i).getD j 0 < lsT zss miss i j then (gR zss i).getD j 0 else lsT zss miss i j) else lsT zss miss i j := rfl
        obtain ⟨l, hle⟩ : ∃ l, lsT zss miss i j = l := ⟨_, rfl⟩
        rw [hle] at hl0 hst ⊢
        by_cases hjl : j < L
        · obtain ⟨b3, off3, rfl, -, hy⟩ := HP.out.at_ (j := j) (by rw [HLE.out]; exact hjl)
          have hen := HEN.out j hjl
          obtain ⟨y, hye⟩ : ∃ y, (gR zss i).getD j 0 = y := ⟨_, rfl⟩
          rw [hye] at hy hst hen
          clear hye hle
          by_cases hy0 : 0 ≤ y
          · rw [if_pos hy0] at hst
            have hne : (y != -1) = true := by simp; omega
            by_cases hyl : y < l
            · rw [if_pos hyl] at hst
              have HST := Lib.hid hst
              have hmn : min l y = y := by omega
              clear hst
              go_wp2
              go_round
              case rel => exact ⟨j + 1, by omega, by go_num, by rw [HST.out]⟩
              case measure => simp [intOf] <;> omega
            · rw [if_neg hyl] at hst
              have HST := Lib.hid hst
              have hmn : min l y = l := by omega
              clear hst
              go_wp2
              go_round
              case rel => exact ⟨j + 1, by omega, by go_num, by rw [HST.out]⟩
              case measure => simp [intOf] <;> omega
          · rw [if_neg hy0] at hst
            have HST := Lib.hid hst
            obtain rfl : y = -1 := by omega
            clear hst
            go_wp2
            go_round
            case rel => exact ⟨j + 1, by omega, by go_num, by rw [HST.out]⟩
            case measure => simp [intOf] <;> omega
        · obtain rfl : j = L := by omega
          have hsum : sbT zss miss (i + 1) = s + l := by rw [HS.out, hle]
          rw [hsum] at hb1
          have HSUM := Lib.hid hsum
          clear hst hle hsum
          go_wp2
          go_round
          case rel => exact ⟨i + 1, by omega, by go_num, by rw [HSUM.out]⟩
          case measure => simp [intOf] <;> omega
    · obtain rfl : i = n := by omega
      go_wp2
      go_ret2
      exact ⟨pri_ii HV.out rfl, HW.out⟩
end Go.Proofs.Ytlahgdhofakinaa
