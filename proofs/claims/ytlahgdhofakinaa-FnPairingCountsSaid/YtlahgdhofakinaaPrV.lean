/- The program's IsPairing, SumOfPairs, FreeContacts. -/
import Derived.Test.YtlahgdhofakinaaPrG
import Derived.Test.YtlahgdhofakinaaPrC
namespace Go.Proofs.Ytlahgdhofakinaa
open Go.ChangeShapes Go.WideShapes Go.ChangeAt Go.RowKit Go.Shelf Num
set_option linter.unusedVariables false
set_option linter.unusedSimpArgs false
theorem pd6_snoc {t : List Int} {c : Int} (h : t.length < 6) : pd6 (t ++ [c]) = (pd6 t).set t.length c := by
  apply pI_ext
  · rw [pd6_len (by simp; omega), List.length_set, pd6_len (by omega)]
  · intro j hj
    rw [pd6_len (by simp; omega)] at hj
    rw [pI_set (by rw [pd6_len (by omega)]; omega)]
    by_cases e : j = t.length
    · subst e
      rw [if_pos rfl, pd6_lt (by simp), pI_snoc]
    · rw [if_neg e]
      by_cases hl : j < t.length
      · rw [pd6_lt (by simp; omega), pd6_lt hl, pI_snoc_lt hl]
      · rw [pd6_ge (by simp; omega) hj, pd6_ge (by omega) hj]
theorem pd6_neg {t : List Int} (h : t.length < 6) : pd6 (t ++ [-1]) = pd6 t := by
  rw [pd6_snoc h, set_self (pd6_ge (Nat.le_refl _) h) (by rw [pd6_len (by omega)]; exact h)]
theorem mem_pd6 {t : List Int} {c : Int} (h : t.length ≤ 6) (hc : 0 ≤ c) : c ∈ pd6 t ↔ c ∈ t := by
  unfold pd6
  rw [List.mem_append, List.mem_replicate]
  constructor
  · rintro (h | h)
    · exact h
    · omega
  · exact Or.inl
theorem pd6_nil : pd6 [] = un6 := rfl
set_option maxRecDepth 100000 in
set_option maxHeartbeats 8000000 in
theorem ipg_any (w : World) (a : Option Addr) (cap n : Nat) (zss : List (List Int)) (hn : zss.length = n) (hl : n ≤ 9223372036854775807) (hr : ∀ j, j < zss.length → (gR zss j).length ≤ 9223372036854775807) (hx : RwL w w.heap.size a zss) (a2 : Option Addr) (cap2 m : Nat) (ps : List Int) (hm : ps.length = m) (hl2 : m ≤ 9223372036854775807) (hz : Ints .i64 w w.heap.size a2 ps) :
    Calls Try.prog 37 #[.slice a n cap, .slice a2 m cap2] w fun e w' => e = .returned (.bool (acB zss && prB zss ps)) ∧ Below w.heap.size w w' := by
  have KA := Lib.hid (iac_any w a cap n zss hn hl hr hx)
  have HX := Lib.hid hx
  have HZ := Lib.hid hz
  have N1 := Lib.hid hn
  have N2 := Lib.hid hm
  clear hx hz hn hm hr
  cases h1 : acB zss
  · rw [h1] at KA
    clear h1
    go_enter Try.func37, Try.ntmps37
    go_wp2_with (go_at_call 26; (with_reducible refine Calls.mono KA.out ?_); rintro e w1 ⟨rfl, hb⟩; have HB1 := Lib.hid hb; clear hb)
    go_ret
    exact ⟨rfl, HB1.out⟩
  have ha := acB_t h1
  have h6 : n ≤ 6 := by have := ha.1; have := N1.out; omega
  have HA := Lib.hid ha
  rw [h1] at KA
  rw [Bool.true_and]
  clear h1 ha
  by_cases hmn : m = n
  rotate_left
  · have H : Hid (prB zss ps = false) := Lib.hid (decide_eq_false (fun h => hmn (by have := h.1; rw [N1.out, N2.out] at this; exact this)))
    have hd : ((m : Int) != (n : Int)) = true := by simp; omega
    go_enter Try.func37, Try.ntmps37
    go_wp2_with (go_at_call 26; (with_reducible refine Calls.mono KA.out ?_); rintro e w1 ⟨rfl, hb⟩; have HB1 := Lib.hid hb; clear hb)
    go_ret
    exact ⟨ret_bool H.out.symm, HB1.out⟩
  subst hmn
  have hd0 : ((m : Int) != (m : Int)) = false := by simp
  have KU : Hid (∀ W : World, Calls Try.prog 85 #[] W _) := Lib.hid (fun W => upa_any W)
  unfold arV arC at KU
  go_enter Try.func37, Try.ntmps37
  go_upto_region 4 with (first | (go_at_call 26; (with_reducible refine Calls.mono KA.out ?_); rintro e w1 ⟨rfl, hb⟩; have HB1 := Lib.hid hb; clear hb) | (go_at_call 85; (with_reducible refine Calls.mono (KU.out _) ?_); rintro e w2 ⟨rfl, hb⟩; have HB2 := Lib.hid (bel_end HB1.out hb); clear hb))
  generalize hW : World.alloc _ _ = W
  obtain ⟨g, hg⟩ : ∃ g, w2.heap.size = g := ⟨_, rfl⟩
  have b0 : Bk W g (arC (pd6 (ps.take 0))) 90 := by rw [← hW, ← hg, List.take_zero, pd6_nil]; exact Bk.new' rfl
  have HB3 : Hid (Below w.heap.size w W) := Lib.hid (by rw [← hW]; exact HB2.out.alloc HB2.out.size _)
  have hwg : w.heap.size ≤ g := by rw [← hg]; exact HB2.out.size
  rw [hg]
  have B0 := Lib.hid b0
  clear hW hg KA KU HB1 HB2 hd0 b0
  go_wp2_with fail
  go_loopw [22] (fun i wr => ∃ k : Nat, k ≤ m ∧ i = .int .i64 k ∧ Bk wr g (arC (pd6 (ps.take k))) 90 ∧ (∀ j, j < k → PrO zss ps j) ∧ Below w.heap.size w wr) (fun i _ => m - (intOf i).toNat)
  case atStart => exact ⟨0, by omega, rfl, B0.out, fun j hj => by omega, HB3.out⟩
  case round =>
    obtain ⟨k, hk, rfl, hb0, hp, hbl⟩ := hrel
    have HP := Lib.hid hp
    have BQ := Lib.hid hb0
    have HB := Lib.hid hbl
    clear hp hb0 B0 HB3
    by_cases hlt : k < m
    · have hn0 : 0 < m := by omega
      obtain ⟨b, off, p, c, rfl, hBb, hc0, hcc, hp⟩ := HX.out.at_ (j := k) (by rw [N1.out]; exact hlt)
      have hc := (hbl.cell (p := ⟨b, off + k, none⟩) hBb).trans hc0
      obtain ⟨b2, off2, rfl, -, hd⟩ := (HZ.out.below hbl).at_ (j := k) (by rw [N2.out]; exact hlt)
      clear hbl
      have hL := (acP_rows HA.out k)
      have hlt2 : (ps.take k).length = k := by rw [List.length_take, N2.out]; omega
      have HTL := Lib.hid hlt2
      have HSN : Hid (∀ x, ps.getD k 0 = x → ps.take (k + 1) = ps.take k ++ [x]) := Lib.hid (fun x e => by rw [take_snoc (by rw [N2.out]; exact hlt)]; unfold pI; rw [e])
      have HPO : Hid (PrO zss ps k ↔ -1 ≤ ps.getD k 0 ∧ ps.getD k 0 ≤ ((gR zss k).length : Int) - 1 ∧ (0 ≤ ps.getD k 0 → 0 ≤ (gR zss k).getD (ps.getD k 0).toNat 0 ∧ ¬ ps.getD k 0 ∈ ps.take k)) := Lib.hid Iff.rfl
      have HEN : Hid (∀ j, j < (gR zss k).length → -1 ≤ (gR zss k).getD j 0) := Lib.hid (fun j hj => ((HA.out.2 k (by rw [N1.out]; exact hlt)).2.2 j hj).1)
      have hqr : pI (pd6 (ps.take k)) k = -1 := pd6_ge (by omega) (by omega)
      have HQR := Lib.hid hqr
      have hql : (pd6 (ps.take k)).length = 6 := pd6_len (by omega)
      have HQL := Lib.hid hql
      have HNX : Hid (∀ x, ps.getD k 0 = x → pd6 (ps.take (k + 1)) = (pd6 (ps.take k)).set k x) := Lib.hid (fun x e => by rw [HSN.out x e, pd6_snoc (by omega), HTL.out])
      have HMM : Hid (∀ x, 0 ≤ x → (x ∈ pd6 (ps.take k) ↔ x ∈ ps.take k)) := Lib.hid (fun x h0 => mem_pd6 (by omega) h0)
      have no : Hid (¬ PrO zss ps k → prB zss ps = false) := Lib.hid (fun h => prB_no (by rw [N2.out]; exact hlt) h)
      obtain ⟨L, hLe⟩ : ∃ L, (gR zss k).length = L := ⟨_, rfl⟩
      obtain ⟨x, hxe⟩ : ∃ x, ps.getD k 0 = x := ⟨_, rfl⟩
      rw [hLe] at hc0 hc hcc HPO HEN hL
      have HC0 := Lib.hid hc0
      clear hc0
      rw [hxe] at hd HPO
      replace HNX := Lib.hid (HNX.out x hxe)
      have HLE := Lib.hid hLe
      have HPP := Lib.hid hp
      obtain ⟨q, hq⟩ : ∃ q, pd6 (ps.take k) = q := ⟨_, rfl⟩
      rw [hq] at BQ HQR HQL HNX HMM
      clear hLe hxe hp hlt2 hqr hql hq HSN
      by_cases hx0 : x = -1
      · have HQ2 : Hid (PrO zss ps k) := Lib.hid (HPO.out.2 ⟨by omega, by omega, fun h => by omega⟩)
        have HNX2 : Hid (pd6 (ps.take (k + 1)) = q) := Lib.hid (by rw [HNX.out, hx0]; exact set_self HQR.out (by rw [HQL.out]; omega))
        subst hx0
        clear HPO HMM HEN no HPP hc hcc HNX
        go_wp2_with fail
        go_roundw
        case rel => exact ⟨k + 1, by omega, by go_num, by rw [HNX2.out]; exact BQ.out, fun j hj => by
          by_cases e : j < k
          · exact HP.out j e
          · obtain rfl : j = k := by omega
            exact HQ2.out, HB.out⟩
        case measure => simp [intOf] <;> omega
      · have hdx : (x == -1) = false := by simpa using hx0
        have K2 : Hid (∀ W : World, Calls Try.prog 72 #[.agg #[.int .i64 0, .int .i64 ((L : Int) - 1)], .slice (some ⟨W.heap.size, 0, none⟩) 1 1] (W.alloc (.cells #[.int .i64 x] 2)) _) := Lib.hid (fun W => are1_any W x 0 ((L : Int) - 1))
        obtain ⟨V, hV⟩ : ∃ V, hasB 0 ((L : Int) - 1) x = V := ⟨_, rfl⟩
        have HV := Lib.hid hV
        rw [hV] at K2
        clear hV
        go_upto_region 9 with fail
        generalize hW : World.alloc _ _ = W5
        obtain ⟨g5, hg5⟩ : ∃ g5, wr.heap.size = g5 := ⟨_, rfl⟩
        have bI5 : Bk W5 g5 #[.int .i64 0, .int .i64 ((L : Int) - 1)] 81 := by rw [← hW, ← hg5]; exact Bk.new' rfl
        have hb5 : Below wr.heap.size wr W5 := by rw [← hW]; exact (Below.refl _ _).alloc (Nat.le_refl _) _
        have BQ5 := Lib.hid (BQ.out.on hb5)
        have HB5 := Lib.hid (bel_end HB.out hb5)
        rw [hg5]
        have i_0 := bI5.cell 0 rfl
        have i_1 := bI5.cell 1 rfl
        have i_l := bI5.lt
        clear hW hg5 bI5 hb5 hc
        cases V
        · have HQ2 : Hid (prB zss ps = false) := Lib.hid (no.out (fun h => by
            have h2 := HPO.out.1 h
            have h3 := HV.out
            unfold hasB at h3
            rw [decide_eq_true (show 0 ≤ x by omega), decide_eq_true (show x ≤ (L : Int) - 1 by omega)] at h3
            cases h3))
          clear HPO HMM HEN no HPP
          go_wp2_with (go_at_call 72; (with_reducible refine Calls.mono (K2.out _) ?_); rintro e w6 ⟨rfl, hb⟩; have HB6 := Lib.hid (bel_end HB5.out hb); clear hb)
          go_ret
          exact ⟨ret_bool HQ2.out.symm, HB6.out⟩
        · have hxx : 0 ≤ x ∧ x ≤ (L : Int) - 1 := by
            have h3 := HV.out
            unfold hasB at h3
            rw [Bool.and_eq_true, decide_eq_true_eq, decide_eq_true_eq] at h3
            exact h3
          obtain ⟨j, rfl⟩ : ∃ j : Nat, x = j := ⟨x.toNat, by omega⟩
          have hjL : j < L := by omega
          obtain ⟨b3, off3, rfl, hBb3, hy⟩ := HPP.out.at_ (j := j) (by rw [HLE.out]; exact hjL)
          have hen := HEN.out j hjL
          have HPO2 : Hid (PrO zss ps k ↔ 0 ≤ (gR zss k).getD j 0 ∧ ¬ (j : Int) ∈ ps.take k) := Lib.hid (by
            rw [HPO.out, Int.toNat_natCast]
            exact ⟨fun h => h.2.2 (by omega), fun h => ⟨by omega, by omega, fun _ => h⟩⟩)
          have HMJ := Lib.hid (HMM.out (j : Int) (by omega))
          obtain ⟨y, hye⟩ : ∃ y, (gR zss k).getD j 0 = y := ⟨_, rfl⟩
          rw [hye] at hy hen HPO2
          have HY := Lib.hid hy
          clear hye hy HPO HMM HEN HPP hcc
          have KF := Lib.hid (fun W : World => isf_any W q k (j : Int) HQL.out (by omega))
          unfold arV arC at KF
          have HFR : Hid (frB q k (j : Int) = !decide ((j : Int) ∈ q)) := Lib.hid (by unfold frB; rw [HQR.out]; rfl)
          by_cases hy1 : y = -1
          · subst hy1
            have HQ2 : Hid (prB zss ps = false) := Lib.hid (no.out (fun h => by have := (HPO2.out.1 h).1; omega))
            clear HPO2 no KF
            go_wp2_with (go_at_call 72; (with_reducible refine Calls.mono (K2.out _) ?_); rintro e w6 ⟨rfl, hb⟩; have HB6 := Lib.hid (bel_end HB5.out hb); have hcw := (HB6.out.cell (p := ⟨b, off + k, none⟩) hBb).trans HC0.out; have hyw := (HB6.out.cell (p := ⟨b3, off3 + j, none⟩) hBb3).trans HY.out; clear hb)
            go_ret
            exact ⟨ret_bool HQ2.out.symm, HB6.out⟩
          · have hdy : (y == -1) = false := by simpa using hy1
            have AR6 : Hid (∀ w6 : World, Below W5.heap.size W5 w6 → Bk w6 g #[.int .i64 (pI q 0), .int .i64 (pI q 1), .int .i64 (pI q 2), .int .i64 (pI q 3), .int .i64 (pI q 4), .int .i64 (pI q 5)] 90) := Lib.hid (fun w6 hb => BQ5.out.on hb)
            cases hF : frB q k (j : Int)
            · rw [hF] at KF
              have HQ2 : Hid (prB zss ps = false) := Lib.hid (no.out (fun h => by
                have h2 := (HPO2.out.1 h).2
                rw [HFR.out] at hF
                simp only [Bool.not_eq_false', decide_eq_true_eq] at hF
                exact h2 (HMJ.out.1 hF)))
              clear HPO2 no hF
              go_wp2_with (first | (go_at_call 72; (with_reducible refine Calls.mono (K2.out _) ?_); rintro e w6 ⟨rfl, hb⟩; have HB6 := Lib.hid (bel_end HB5.out hb); have hcw := (HB6.out.cell (p := ⟨b, off + k, none⟩) hBb).trans HC0.out; have hyw := (HB6.out.cell (p := ⟨b3, off3 + j, none⟩) hBb3).trans HY.out; have b6 := AR6.out w6 hb; have b6_0 := b6.cell 0 rfl; have b6_1 := b6.cell 1 rfl; have b6_2 := b6.cell 2 rfl; have b6_3 := b6.cell 3 rfl; have b6_4 := b6.cell 4 rfl; have b6_5 := b6.cell 5 rfl; have b6_l := b6.lt; clear hb b6) | (go_at_call 86; (with_reducible refine Calls.mono (KF.out _) ?_); rintro e w7 ⟨rfl, hb7⟩; have HB7 := Lib.hid (bel_end HB6.out hb7); clear hb7))
              go_ret
              exact ⟨ret_bool HQ2.out.symm, HB7.out⟩
            · rw [hF] at KF
              have HQ2 : Hid (PrO zss ps k) := Lib.hid (HPO2.out.2 ⟨by omega, fun h => by
                rw [HFR.out] at hF
                simp only [Bool.not_eq_true', decide_eq_false_iff_not] at hF
                exact hF (HMJ.out.2 h)⟩)
              have KW := Lib.hid (fun W : World => wit_any W q k (j : Int) HQL.out (by omega))
              unfold arV arC at KW
              clear HPO2 no hF HMJ HFR
              obtain ⟨t, ht⟩ : ∃ t, q.set k (j : Int) = t := ⟨_, rfl⟩
              rw [ht] at KW HNX
              clear ht
              go_upto_region 11 with (first | (go_at_call 72; (with_reducible refine Calls.mono (K2.out _) ?_); rintro e w6 ⟨rfl, hb⟩; have HB6 := Lib.hid (bel_end HB5.out hb); have hcw := (HB6.out.cell (p := ⟨b, off + k, none⟩) hBb).trans HC0.out; have hyw := (HB6.out.cell (p := ⟨b3, off3 + j, none⟩) hBb3).trans HY.out; have b6 := AR6.out w6 hb; have HB56 := Lib.hid hb; have b6_0 := b6.cell 0 rfl; have b6_1 := b6.cell 1 rfl; have b6_2 := b6.cell 2 rfl; have b6_3 := b6.cell 3 rfl; have b6_4 := b6.cell 4 rfl; have b6_5 := b6.cell 5 rfl; have b6_l := b6.lt; clear hb b6) | (go_at_call 86; (with_reducible refine Calls.mono (KF.out _) ?_); rintro e w7 ⟨rfl, hb7⟩; have HB7 := Lib.hid (bel_end HB6.out hb7); have HB57 := Lib.hid (bel_end HB56.out hb7); clear hb7))
              clear hcw hyw b6_0 b6_1 b6_2 b6_3 b6_4 b6_5 b6_l
              have b7 := AR6.out w7 HB57.out
              have b7_0 := b7.cell 0 rfl
              have b7_1 := b7.cell 1 rfl
              have b7_2 := b7.cell 2 rfl
              have b7_3 := b7.cell 3 rfl
              have b7_4 := b7.cell 4 rfl
              have b7_5 := b7.cell 5 rfl
              have b7_l := b7.lt
              clear b7
              go_wp2_with (go_at_call 87; (with_reducible refine Calls.mono (KW.out _) ?_); rintro e w8 ⟨rfl, hb8⟩; have HB8 := Lib.hid (bel_end HB7.out hb8); have b8 := AR6.out w8 (bel_end HB57.out hb8); clear hb8 b7_0 b7_1 b7_2 b7_3 b7_4 b7_5 b7_l; have b8_0 := b8.cell 0 rfl; have b8_1 := b8.cell 1 rfl; have b8_2 := b8.cell 2 rfl; have b8_3 := b8.cell 3 rfl; have b8_4 := b8.cell 4 rfl; have b8_5 := b8.cell 5 rfl; have b8_f0 := b8.frozen 0; have b8_f1 := b8.frozen 1; have b8_f2 := b8.frozen 2; have b8_f3 := b8.frozen 3; have b8_f4 := b8.frozen 4; have b8_f5 := b8.frozen 5; have b8_l := b8.lt; have B8 := Lib.hid b8; clear b8)
              generalize hW : World.setCell _ _ _ = W9
              have bB9 : Bk W9 g (arC t) 90 := by rw [← hW]; exact (Bk.set (Bk.set (Bk.set (Bk.set (Bk.set (Bk.set B8.out 0 _ rfl) 1 _ rfl) 2 _ rfl) 3 _ rfl) 4 _ rfl) 5 _ rfl)
              have HB9 : Hid (Below w.heap.size w W9) := Lib.hid (by rw [← hW]; repeat (first | exact HB8.out | (refine Below.setCell ?_ (by simp; omega) _)))
              clear hW b8_0 b8_1 b8_2 b8_3 b8_4 b8_5 b8_f0 b8_f1 b8_f2 b8_f3 b8_f4 b8_f5 b8_l
              go_roundw
              case rel => exact ⟨k + 1, by omega, by go_num, by rw [HNX.out]; exact bB9, fun j hj => by
                by_cases e : j < k
                · exact HP.out j e
                · obtain rfl : j = k := by omega
                  exact HQ2.out, HB9.out⟩
              case measure => simp [intOf] <;> omega
    · obtain rfl : k = m := by omega
      clear hbl
      go_wp2_with fail
      go_ret
      exact ⟨ret_bool (prB_mk (by rw [N1.out, N2.out]) (fun j hj => HP.out j (by rw [N2.out] at hj; exact hj))).symm, HB.out⟩
end Go.Proofs.Ytlahgdhofakinaa
