/- Contracts of the model's sums of pairings, of the code of costs and a miss, and of the best pairing. -/
import Derived.Test.YtlahgdhofakinaaPrL
namespace Go.Proofs.Ytlahgdhofakinaa
open Go.ChangeShapes Go.WideShapes Go.ChangeAt Go.RowKit Go.Shelf Num
set_option linter.unusedVariables false
set_option linter.unusedSimpArgs false
set_option maxHeartbeats 1000000 in
theorem ssm_any (w : World) (B : Nat) (a a2 : Option Addr) (cap cap2 n m : Nat) (zss : List (List Int)) (ps : List Int) (miss : Int) (hn : zss.length = n) (hm : ps.length = m) (ha : AcP zss) (hp : prB zss ps = true) (m0 : 0 ≤ miss) (m1 : miss ≤ 1000000000000) (hx : RwL w B a zss) (hz : Ints .i64 w B a2 ps) :
    Calls Try.prog 79 #[.slice a n cap, .int .i64 miss, .slice a2 m cap2] w fun e w' => e = .returned (.int .i64 (smV zss miss ps)) ∧ ∃ n, w' = w.drewN n := by
  obtain ⟨hpl, hpe⟩ := prB_t hp
  have hn6 := ha.1
  have HB : Hid (∀ k : Nat, k ≤ m → 0 ≤ smT zss miss ps k ∧ smT zss miss ps k ≤ 6000000000000) := Lib.hid (fun k hk => by
    have := smT_bd ha hpe (by omega) m0 m1 k (by omega)
    omega)
  rw [hn] at hn6 hpl
  rw [hm] at hpl
  subst hpl
  have HV : Hid (smV zss miss ps = smT zss miss ps m) := Lib.hid (by unfold smV; rw [hm])
  have HX := Lib.hid hx
  have HZ := Lib.hid hz
  have N1 := Lib.hid hn
  have N2 := Lib.hid hm
  have HP := Lib.hid hpe
  clear hx hz hn hm ha hp hpe m0 m1
  go_enter Try.func79, Try.ntmps79
  go_wp2
  go_loopw [7, 8] (fun s i wr => ∃ k : Nat, k ≤ m ∧ i = .int .i64 k ∧ s = .int .i64 (smT zss miss ps k) ∧ ∃ q, wr = w.drewN q) (fun _ i _ => m - (intOf i).toNat)
  case atStart => exact ⟨0, by omega, rfl, rfl, 0, rfl⟩
  case round =>
    obtain ⟨k, hk, rfl, rfl, hm⟩ := hrel
    have HM := Lib.hid hm
    have hb : Below B w wr := by obtain ⟨q, rfl⟩ := hm; exact bel_drewN (Below.refl _ _) _
    replace HX := Lib.hid (HX.out.below hb)
    replace HZ := Lib.hid (HZ.out.below hb)
    clear hb hm
    by_cases hlt : k < m
    · have hn0 : 0 < m := by omega
      obtain ⟨b, off, p, c, rfl, -, hc, hcc, hp⟩ := HX.out.at_ (j := k) (by rw [N1.out]; exact hlt)
      obtain ⟨b2, off2, rfl, -, hd⟩ := HZ.out.at_ (j := k) (by rw [N2.out]; exact hlt)
      have hb0 := HB.out k (by omega)
      have hb1 := HB.out (k + 1) (by omega)
      have hs : smT zss miss ps (k + 1) = smT zss miss ps k + smA zss miss ps k := rfl
      have hsa : smA zss miss ps k = if ps.getD k 0 < 0 then miss else (gR zss k).getD (ps.getD k 0).toNat 0 := rfl
      obtain ⟨h1, h2, -⟩ := HP.out k (by rw [N2.out]; exact hlt)
      unfold pI at h1 h2
      obtain ⟨x, hxe⟩ : ∃ x, ps.getD k 0 = x := ⟨_, rfl⟩
      rw [hxe] at hd hsa h1 h2
      obtain ⟨L, hLe⟩ : ∃ L, (gR zss k).length = L := ⟨_, rfl⟩
      rw [hLe] at hc hcc h2
      have HLE := Lib.hid hLe
      obtain ⟨s, hse⟩ : ∃ s, smT zss miss ps k = s := ⟨_, rfl⟩
      rw [hse] at hs hb0 ⊢
      clear hxe hLe hse
      by_cases hx0 : x < 0
      · rw [if_pos hx0] at hsa
        rw [hsa] at hs
        rw [hs] at hb1
        have HS := Lib.hid hs
        clear hs hsa hp
        obtain rfl : x = -1 := by omega
        go_wp2
        go_roundw
        case rel => exact ⟨k + 1, by omega, by go_num, by rw [HS.out], HM.out⟩
        case measure => simp [intOf] <;> omega
      · obtain ⟨j, rfl⟩ : ∃ j : Nat, x = j := ⟨x.toNat, by omega⟩
        have hjL : j < L := by omega
        obtain ⟨b3, off3, rfl, -, hy⟩ := hp.at_ (j := j) (by rw [HLE.out]; exact hjL)
        rw [if_neg hx0, Int.toNat_natCast] at hsa
        obtain ⟨y, hye⟩ : ∃ y, (gR zss k).getD j 0 = y := ⟨_, rfl⟩
        rw [hye] at hy hsa
        rw [hsa] at hs
        rw [hs] at hb1
        have HS := Lib.hid hs
        clear hs hsa hp hye
        go_wp2
        go_quiet (fail)
        go_wp2
        go_roundw
        case rel => exact ⟨k + 1, by omega, by go_num, by rw [HS.out], by obtain ⟨q, hq⟩ := HM.out; exact ⟨_, by rw [hq]; exact World.drewN_drewN _ _ _⟩⟩
        case measure => simp [intOf] <;> omega
    · obtain rfl : k = m := by omega
      go_wp2
      go_ret
      exact ⟨by rw [HV.out]; rfl, HM.out⟩
/-- the code of costs and a miss -/
def coC (zss : List (List Int)) (miss : Int) : Int := if acB zss = true then (if inB miss 0 1000000000000 = true then 0 else 2) else 1
theorem prc_any (w : World) (B : Nat) (a : Option Addr) (cap n : Nat) (zss : List (List Int)) (miss : Int) (hn : zss.length = n) (hl : n ≤ 9223372036854775807) (hr : ∀ j, j < zss.length → (gR zss j).length ≤ 9223372036854775807) (hx : RwL w B a zss) :
    Calls Try.prog 83 #[.slice a n cap, .int .i64 miss] w fun e w' => e = .returned (.int .i64 (coC zss miss)) ∧ ∃ n, w' = w.drewN n := by
  have K1 := Lib.hid (sac_any w B a cap n zss hn hl hr hx)
  have K2 : Hid (∀ W : World, Calls Try.prog 77 #[.int .i64 miss] W _) := Lib.hid (fun W => lms_any miss W)
  have HC : Hid (coC zss miss = if acB zss = true then (if inB miss 0 1000000000000 = true then 0 else 2) else 1) := Lib.hid rfl
  clear hn hl hr hx
  cases h1 : acB zss
  · rw [h1] at K1 HC
    rw [if_neg (by decide)] at HC
    clear h1 K2
    go_enter Try.func83, Try.ntmps83
    go_wp2_with (go_at_call 49; (with_reducible refine Calls.mono K1.out ?_); rintro e w' ⟨rfl, q, rfl⟩)
    go_ret
    exact ⟨by rw [HC.out]; rfl, _, rfl⟩
  · rw [h1] at K1 HC
    rw [if_pos rfl] at HC
    clear h1
    cases h2 : inB miss 0 1000000000000
    · rw [h2] at K2 HC
      rw [if_neg (by decide)] at HC
      clear h2
      go_enter Try.func83, Try.ntmps83
      go_wp2_with (first | (go_at_call 49; (with_reducible refine Calls.mono K1.out ?_); rintro e w' ⟨rfl, q, rfl⟩) | (go_at_call 77; (with_reducible refine Calls.mono (K2.out _) ?_); rintro e w' ⟨rfl, rfl⟩))
      go_ret
      exact ⟨by rw [HC.out]; rfl, _, rfl⟩
    · rw [h2] at K2 HC
      rw [if_pos rfl] at HC
      clear h2
      go_enter Try.func83, Try.ntmps83
      go_wp2_with (first | (go_at_call 49; (with_reducible refine Calls.mono K1.out ?_); rintro e w' ⟨rfl, q, rfl⟩) | (go_at_call 77; (with_reducible refine Calls.mono (K2.out _) ?_); rintro e w' ⟨rfl, rfl⟩))
      go_ret
      exact ⟨by rw [HC.out]; rfl, _, rfl⟩
theorem pow7_le7 : ∀ r, r < 7 → pow7 r ≤ 117649 := by decide
theorem acP_rows {zss : List (List Int)} (h : AcP zss) (j : Nat) : (gR zss j).length ≤ 6 := by
  by_cases hj : j < zss.length
  · exact (h.2 j hj).2.1
  · unfold gR
    rw [List.getD_eq_getElem?_getD, List.getElem?_eq_none (by omega)]
    simp
set_option maxHeartbeats 2000000 in
theorem lbs_any (w : World) (a : Option Addr) (cap n : Nat) (zss : List (List Int)) (miss : Int) (hn : zss.length = n) (ha : AcP zss) (m0 : 0 ≤ miss) (m1 : miss ≤ 1000000000000) (hx : RwL w w.heap.size a zss) :
    Calls Try.prog 84 #[.slice a n cap, .int .i64 miss] w fun e w' => ∃ g c : Nat, e = .returned (.slice (some ⟨g, 0, none⟩) (bstP zss miss).length c) ∧ OwnA w' w.heap.size w'.heap.size (some ⟨g, 0, none⟩) c (bstP zss miss) ∧ Below w.heap.size w w' := by
  have h6 : n ≤ 6 := by have := ha.1; omega
  have K0 := Lib.hid (lal_any n w a none cap 0 n 0 zss [] hn rfl (by omega) h6 (acP_rows ha) (fun _ => rfl) hx (fun hp => by simp at hp))
  have HA := Lib.hid ha
  have HX := Lib.hid hx
  have N1 := Lib.hid hn
  obtain ⟨LA, hLA⟩ : ∃ u, allP zss n [] = u := ⟨_, rfl⟩
  have HBP : Hid (bstP zss miss = gR LA (bI (smV zss miss) LA (LA.length - 1))) := Lib.hid (by unfold bstP; rw [hn, hLA])
  have HPR : Hid (∀ j, j < LA.length → prB zss (gR LA j) = true) := Lib.hid (fun j hj => by
    refine allP_pr.1 ?_
    rw [hn, hLA]
    exact gR_mem hj)
  have hpos : 0 < LA.length := by rw [← hLA]; exact allP_pos _ _ _
  have hmx : LA.length ≤ 117649 := by rw [← hLA]; exact Nat.le_trans (allP_le (acP_rows ha) n []) (show pow7 n ≤ 117649 by exact pow7_le7 n (by omega))
  rw [hLA] at K0
  clear hn ha hx hLA
  go_enter Try.func84, Try.ntmps84
  go_wp2_with fail
  refine K0.out.mono ?_
  rintro e w1 ⟨G, c, vs, rfl, hR⟩
  have HR := Lib.hid hR
  have HW := Lib.hid hR.bel
  obtain ⟨N, hN⟩ : ∃ N, LA.length = N := ⟨_, rfl⟩
  have HN := Lib.hid hN
  rw [hN] at hpos hmx HBP HPR ⊢
  clear hR hN K0
  go_wp2
  go_loopw [6, 7] (fun s i wr => ∃ k : Nat, 1 ≤ k ∧ k ≤ N ∧ i = .int .i64 k ∧ s = .int .i64 (bI (smV zss miss) LA (k - 1) : Nat) ∧ ∃ q, wr = w1.drewN q) (fun _ i _ => N - (intOf i).toNat)
  case atStart => exact ⟨1, by omega, by omega, rfl, rfl, 0, rfl⟩
  case round =>
    obtain ⟨k, hk1, hk, rfl, rfl, hm⟩ := hrel
    have HM := Lib.hid hm
    have hb1 : Below w1.heap.size w1 wr := by obtain ⟨q, rfl⟩ := hm; exact bel_drewN (Below.refl _ _) _
    have HRR := Lib.hid (HR.out.on hb1)
    have HXX := Lib.hid ((HX.out.below (bel_end HW.out hb1)))
    clear hb1 hm
    have hbi := (bI_le (smV zss miss) LA (k - 1)).1
    have HST : Hid (bI (smV zss miss) LA k = if smV zss miss (gR LA k) < smV zss miss (gR LA (bI (smV zss miss) LA (k - 1))) then k else bI (smV zss miss) LA (k - 1)) := Lib.hid (by
      obtain ⟨i, rfl⟩ : ∃ i, k = i + 1 := ⟨k - 1, by omega⟩
      rfl)
    obtain ⟨t, ht⟩ : ∃ t, bI (smV zss miss) LA (k - 1) = t := ⟨_, rfl⟩
    have HT := Lib.hid ht
    rw [ht] at hbi HST ⊢
    clear ht
    obtain ⟨g2, d2, -, hc2, ho2⟩ := HRR.out.own (j := t) (by rw [HN.out]; omega)
    by_cases hlt : k < N
    · obtain ⟨g1, d1, -, hc1, ho1⟩ := HRR.out.own (j := k) (by rw [HN.out]; exact hlt)
      have K1 : Hid (∀ q : Nat, Calls Try.prog 79 #[.slice a n cap, .int .i64 miss, .slice (some ⟨g1, 0, none⟩) (gR LA k).length d1] (wr.drewN q) _) := Lib.hid (fun q => ssm_any (wr.drewN q) wr.heap.size a _ cap d1 n _ zss (gR LA k) miss N1.out rfl HA.out (HPR.out k hlt) m0 m1 ((HXX.out.more (Nat.le_trans HW.out.size (by obtain ⟨q, hq⟩ := HM.out; rw [hq]; exact Nat.le_refl _)))) (ho1.ints))
      have K2 : Hid (∀ q : Nat, Calls Try.prog 79 #[.slice a n cap, .int .i64 miss, .slice (some ⟨g2, 0, none⟩) (gR LA t).length d2] (wr.drewN q) _) := Lib.hid (fun q => ssm_any (wr.drewN q) wr.heap.size a _ cap d2 n _ zss (gR LA t) miss N1.out rfl HA.out (HPR.out t (by omega)) m0 m1 ((HXX.out.more (Nat.le_trans HW.out.size (by obtain ⟨q, hq⟩ := HM.out; rw [hq]; exact Nat.le_refl _)))) (ho2.ints))
      obtain ⟨x, hx⟩ : ∃ x, smV zss miss (gR LA k) = x := ⟨_, rfl⟩
      obtain ⟨y, hy⟩ : ∃ y, smV zss miss (gR LA t) = y := ⟨_, rfl⟩
      rw [hx] at K1 HST
      rw [hy] at K2 HST
      clear hx hy ho1 ho2
      by_cases hxy : x < y
      · rw [if_pos hxy] at HST
        go_wp2
        go_quiet (first | (go_at_call 79; (with_reducible exact Calls.quiet_of (K1.out _))) | (go_at_call 79; (with_reducible exact Calls.quiet_of (K2.out _))) | fail)
        go_wp2
        go_roundw
        case rel => exact ⟨k + 1, by omega, by omega, by go_num, by rw [Nat.add_sub_cancel, HST.out], by obtain ⟨q, hq⟩ := HM.out; exact ⟨_, by rw [hq]; exact World.drewN_drewN _ _ _⟩⟩
        case measure => simp [intOf] <;> omega
      · rw [if_neg hxy] at HST
        go_wp2
        go_quiet (first | (go_at_call 79; (with_reducible exact Calls.quiet_of (K1.out _))) | (go_at_call 79; (with_reducible exact Calls.quiet_of (K2.out _))) | fail)
        go_wp2
        go_roundw
        case rel => exact ⟨k + 1, by omega, by omega, by go_num, by rw [Nat.add_sub_cancel, HST.out], by obtain ⟨q, hq⟩ := HM.out; exact ⟨_, by rw [hq]; exact World.drewN_drewN _ _ _⟩⟩
        case measure => simp [intOf] <;> omega
    · obtain rfl : k = N := by omega
      have HB9 : Hid (Below w.heap.size w wr) := Lib.hid (by obtain ⟨q, hq⟩ := HM.out; rw [hq]; exact bel_drewN HW.out _)
      have HO2 := Lib.hid ho2
      rw [HT.out] at HBP
      clear ho2
      go_wp2
      go_ret
      exact ⟨g2, d2, by rw [HBP.out]; rfl, by rw [HBP.out]; exact HO2.out, HB9.out⟩
end Go.Proofs.Ytlahgdhofakinaa
