/- The model's bound on the least sum, and the free columns. -/
import Derived.Test.YtlahgdhofakinaaPrC
namespace Go.Proofs.Ytlahgdhofakinaa
open Go.ChangeShapes Go.WideShapes Go.ChangeAt Go.RowKit Go.Shelf Num
set_option linter.unusedVariables false
set_option linter.unusedSimpArgs false
theorem sbT_bd {zss : List (List Int)} {miss : Int} (m0 : 0 ≤ miss) (m1 : miss ≤ 1000000000000) : ∀ k : Nat, 0 ≤ sbT zss miss k ∧ sbT zss miss k ≤ 1000000000000 * (k : Int)
  | 0 => by simp [sbT]
  | k + 1 => by
    have h1 := sbT_bd (zss := zss) m0 m1 k
    have h2 := lsT_le (zss := zss) (miss := miss) (i := k) m0 (gR zss k).length
    simp only [sbT]
    omega
def sumbV (zss : List (List Int)) (miss : Int) : Int := if coC zss miss = 0 then sbT zss miss zss.length else 0
set_option maxHeartbeats 2000000 in
theorem sbd_any (w : World) (a : Option Addr) (cap n : Nat) (zss : List (List Int)) (hn : zss.length = n) (hl : n ≤ 9223372036854775807) (hr : ∀ j, j < zss.length → (gR zss j).length ≤ 9223372036854775807) (hx : RwL w w.heap.size a zss) (miss : Int) :
    Calls Try.prog 35 #[.slice a n cap, .int .i64 miss] w fun e w' => e = .returned (.tuple #[.int .i64 (sumbV zss miss), .int .i64 (coC zss miss)]) ∧ Below w.heap.size w w' := by
  have KC := Lib.hid (prc_any w w.heap.size a cap n zss miss hn hl hr hx)
  have HX := Lib.hid hx
  have N1 := Lib.hid hn
  clear hx hn hl hr
  obtain ⟨k, hk⟩ : ∃ k, coC zss miss = k := ⟨_, rfl⟩
  have HK := Lib.hid hk
  by_cases h0 : k = 0
  rotate_left
  · have hd : (k != 0) = true := by simpa using h0
    have HN := Lib.hid (show ¬ coC zss miss = 0 by rw [hk]; exact h0)
    rw [hk] at KC ⊢
    clear hk
    go_enter Try.func35, Try.ntmps35
    go_wp2_with (go_at_call 83; (with_reducible refine Calls.mono KC.out ?_); rintro e w' ⟨rfl, q, rfl⟩)
    go_ret2
    exact ⟨pri_ii (by unfold sumbV; rw [if_neg HN.out]) rfl, bel_drewN (Below.refl _ _) _⟩
  subst h0
  obtain ⟨ha, m0, m1⟩ := coC_0 hk
  have h6 : n ≤ 6 := by have := ha.1; have := N1.out; omega
  have HA := Lib.hid ha
  have HV : Hid (sumbV zss miss = sbT zss miss n) := Lib.hid (by unfold sumbV; rw [if_pos hk, N1.out])
  have HB : Hid (∀ k : Nat, k ≤ n → 0 ≤ sbT zss miss k ∧ sbT zss miss k ≤ 6000000000000) := Lib.hid (fun k hk => by have := sbT_bd (zss := zss) m0 m1 k; omega)
  have HL : Hid (∀ i k : Nat, 0 ≤ lsT zss miss i k ∧ lsT zss miss i k ≤ 1000000000000) := Lib.hid (fun i k => by have := lsT_le (zss := zss) (miss := miss) (i := i) m0 k; omega)
  rw [hk] at KC ⊢
  clear hk ha
  go_enter Try.func35, Try.ntmps35
  go_wp2_with (go_at_call 83; (with_reducible refine Calls.mono KC.out ?_); rintro e w' ⟨rfl, q, rfl⟩)
  replace HX := Lib.hid (HX.out.drN q)
  obtain ⟨w1, hw1⟩ : ∃ u, w.drewN q = u := ⟨_, rfl⟩
  have HW : Hid (Below w.heap.size w w1) := Lib.hid (by rw [← hw1]; exact bel_drewN (Below.refl _ _) _)
  rw [hw1] at HX ⊢
  clear hw1 KC
  go_loop [7, 8] (fun s i => ∃ k : Nat, k ≤ n ∧ i = .int .i64 k ∧ s = .int .i64 (sbT zss miss k)) (fun _ i => n - (intOf i).toNat)
  case atStart => exact ⟨0, by omega, rfl, rfl⟩
  case round =>
    obtain ⟨i, hi, rfl, rfl⟩ := hrel
    by_cases hlt : i < n
    · obtain ⟨b, off, p, c, rfl, -, hc, hcc, hp⟩ := HX.out.at_ (j := i) (by rw [N1.out]; exact hlt)
      have hb0 := HB.out i (by omega)
      have hb1 := HB.out (i + 1) (by omega)
      have hs : sbT zss miss (i + 1) = sbT zss miss i + lsT zss miss i (gR zss i).length := rfl
      have hrl := acP_rows HA.out i
      obtain ⟨L, hLe⟩ : ∃ L, (gR zss i).length = L := ⟨_, rfl⟩
      rw [hLe] at hc hcc hs hrl
      have HLE := Lib.hid hLe
      obtain ⟨s, hse⟩ : ∃ s, sbT zss miss i = s := ⟨_, rfl⟩
      rw [hse] at hs hb0 ⊢
      have HS := Lib.hid hs
      have HP := Lib.hid hp
      clear hLe hse hs hp
      go_wp2
      go_loop [9, 10] (fun l k => ∃ j : Nat, j ≤ L ∧ k = .int .i64 j ∧ l = .int .i64 (lsT zss miss i j)) (fun _ k => L - (intOf k).toNat)
      case atStart => exact ⟨0, by omega, rfl, rfl⟩
      case round =>
        obtain ⟨j, hj, rfl, rfl⟩ := hrel
        have hl0 := HL.out i j
        have hst : lsT zss miss i (j + 1) = if 0 ≤ (gR zss i).getD j 0 then (if (gR zss i).getD j 0 < lsT zss miss i j then (gR zss i).getD j 0 else lsT zss miss i j) else lsT zss miss i j := rfl
        obtain ⟨l, hle⟩ : ∃ l, lsT zss miss i j = l := ⟨_, rfl⟩
        rw [hle] at hl0 hst ⊢
        by_cases hjl : j < L
        · obtain ⟨b3, off3, rfl, -, hy⟩ := HP.out.at_ (j := j) (by rw [HLE.out]; exact hjl)
          obtain ⟨y, hye⟩ : ∃ y, (gR zss i).getD j 0 = y := ⟨_, rfl⟩
          rw [hye] at hy hst
          clear hye hle
          by_cases hy0 : 0 ≤ y
          · rw [if_pos hy0] at hst
            by_cases hyl : y < l
            · rw [if_pos hyl] at hst
              have HST := Lib.hid hst
              have hmn : min l y = y := by omega
              clear hst
              go_wp2
              go_round
              case rel => exact ⟨j + 1, by omega, by go_num, by rw [HST.out]⟩
              case measure => simp [intOf] <;> omega
            · rw [if_neg hyl] at hst
              have HST := Lib.hid hst
              have hmn : min l y = l := by omega
              clear hst
              go_wp2
              go_round
              case rel => exact ⟨j + 1, by omega, by go_num, by rw [HST.out]⟩
              case measure => simp [intOf] <;> omega
          · rw [if_neg hy0] at hst
            have HST := Lib.hid hst
            have hdy : decide (0 ≤ y) = false := decide_eq_false hy0
            clear hst
            go_wp2
            go_round
            case rel => exact ⟨j + 1, by omega, by go_num, by rw [HST.out]⟩
            case measure => simp [intOf] <;> omega
        · obtain rfl : j = L := by omega
          have hsum : sbT zss miss (i + 1) = s + l := by rw [HS.out, hle]
          rw [hsum] at hb1
          have HSUM := Lib.hid hsum
          clear hst hle hsum
          go_wp2
          go_round
          case rel => exact ⟨i + 1, by omega, by go_num, by rw [HSUM.out]⟩
          case measure => simp [intOf] <;> omega
    · obtain rfl : i = n := by omega
      go_wp2
      go_ret2
      exact ⟨pri_ii HV.out rfl, HW.out⟩
set_option maxHeartbeats 2000000 in
theorem lfr_any (w : World) (a2 : Option Addr) (cap2 m C : Nat) (ps : List Int) (hm : ps.length = m) (hl2 : m ≤ 9223372036854775807) (hC : C ≤ 6) (hz : Ints .i64 w w.heap.size a2 ps) :
    Calls Try.prog 93 #[.int .i64 C, .slice a2 m cap2] w fun e w' => ∃ g c : Nat, e = .returned (.slice (some ⟨g, 0, none⟩) (fcL ps C).length c) ∧ RowG w 2 1 g c (fcL ps C).length ((fcL ps C).map iv4) w' := by
  obtain ⟨i0, hi, hz0, hz1, hz2⟩ := info_parts info_i64
  have HZ := Lib.hid hz
  have N2 := Lib.hid hm
  clear hz hm
  go_enter Try.func93, Try.ntmps93
  go_wp2
  go_loopw [5, 6] (fun o i wr => ∃ (k ge ce : Nat), k ≤ C ∧ i = .int .i64 k ∧ o = .slice (some ⟨ge, 0, none⟩) (fcL ps k).length ce ∧ RowG w 2 1 ge ce (fcL ps k).length ((fcL ps k).map iv4) wr) (fun _ i _ => C - (intOf i).toNat)
  case atStart => exact ⟨0, w.heap.size, 0, by omega, rfl, rfl, RowG.lit (Bk.new w _ _) (Nat.le_refl _) ((Below.refl _ _).alloc (Nat.le_refl _) _)⟩
  case round =>
    obtain ⟨k, ge, ce, hk, rfl, rfl, hR⟩ := hrel
    have HR := Lib.hid hR
    have KH : Hid (Calls Try.prog 90 #[.slice a2 m cap2, .int .i64 k] wr fun e w' => e = .returned (.bool (decide ((k : Int) ∈ ps))) ∧ wr = w') := Lib.hid (lhs_any wr _ a2 cap2 m ps k N2.out hl2 (HZ.out.below hR.bel))
    have hfl := fcL_len ps k
    have HS : Hid (fcL ps (k + 1) = if (k : Int) ∈ ps then fcL ps k else fcL ps k ++ [(k : Int)]) := Lib.hid rfl
    obtain ⟨LS, hLS⟩ : ∃ u, fcL ps k = u := ⟨_, rfl⟩
    rw [hLS] at HR hfl HS ⊢
    by_cases hlt : k < C
    · clear hR hLS
      cases hh : decide ((k : Int) ∈ ps)
      · rw [hh] at KH
        have HEQ : Hid (fcL ps (k + 1) = LS ++ [(k : Int)]) := Lib.hid (by rw [HS.out, if_neg (of_decide_eq_false hh)])
        clear hh HS
        go_wp2_with (first | (go_at_call 90; (with_reducible refine Calls.mono KH.out ?_); rintro e w' ⟨rfl, rfl⟩) | (at_builtin; refine wpList_append_lies _ rfl _ _ 38 rfl w.heap.size 2 i0 (.int .i64 0) 1 8 Try.underlying38 hi hz0 hz1 hz2 rfl (by decide) (.slice (some ⟨ge, 0, none⟩) LS.length ce) LS.length (LS.map iv4) rfl (HR.out.own.alloc _) ⟨wr.heap.size, 0, none⟩ 1 1 [.int .i64 (k : Int)] rfl rfl (World.news_of_block (cs := #[.int .i64 (k : Int)]) (t := 2) (fr := (0, 0)) (heap_alloc_new wr _)) (by simp [Value.oneCell']) (by decide) (by unfold maxLen; omega) (by omega) (by simp; exact Nat.le_succ_of_le HR.out.bel.size) (wr.heap.size + 1) (by simp) ?_; intro g2 cp2 w9 hown hgrow hat hlt9; have HP9 := Lib.hid ((HR.out.on ((Below.refl _ _).alloc (Nat.le_refl _) _)).snoc hown hgrow); clear hown hgrow hat hlt9))
        go_roundw
        case rel => exact ⟨k + 1, g2, cp2, by omega, by go_num, by rw [HEQ.out, List.length_append]; rfl, by rw [HEQ.out, List.length_append, List.map_append]; exact HP9.out⟩
        case measure => simp [intOf] <;> omega
      · rw [hh] at KH
        have HEQ : Hid (fcL ps (k + 1) = LS) := Lib.hid (by rw [HS.out, if_pos (of_decide_eq_true hh)])
        clear hh HS
        go_wp2_with (go_at_call 90; (with_reducible refine Calls.mono KH.out ?_); rintro e w' ⟨rfl, rfl⟩)
        go_roundw
        case rel => exact ⟨k + 1, ge, ce, by omega, by go_num, by rw [HEQ.out], by rw [HEQ.out]; exact HR.out⟩
        case measure => simp [intOf] <;> omega
    · obtain rfl : k = C := by omega
      clear KH HS
      go_wp2
      go_ret
      exact ⟨ge, ce, by rw [hLS]; rfl, by rw [hLS]; exact HR.out⟩
/-- what FreeContacts answers -/
def fcC (zss : List (List Int)) (ps : List Int) : Int := if acB zss = true then (if prB zss ps = true then 0 else 2) else 1
def fcV (zss : List (List Int)) (ps : List Int) : List Int := if fcC zss ps = 0 then (if 0 < zss.length then fcL ps (gR zss 0).length else []) else []
set_option maxHeartbeats 2000000 in
theorem sfc_any (w : World) (a : Option Addr) (cap n : Nat) (zss : List (List Int)) (hn : zss.length = n) (hl : n ≤ 9223372036854775807) (hr : ∀ j, j < zss.length → (gR zss j).length ≤ 9223372036854775807) (hx : RwL w w.heap.size a zss) (a2 : Option Addr) (cap2 m : Nat) (ps : List Int) (hm : ps.length = m) (hl2 : m ≤ 9223372036854775807) (hcap : m ≤ cap2) (hz : Ints .i64 w w.heap.size a2 ps) :
    Calls Try.prog 43 #[.slice a n cap, .slice a2 m cap2] w fun e w' => ∃ (g : Option Addr) (c : Nat), e = .returned (.tuple #[.slice g (fcV zss ps).length c, .int .i64 (fcC zss ps)]) ∧ OwnA w' w.heap.size w'.heap.size g c (fcV zss ps) ∧ Below w.heap.size w w' := by
  have KA := Lib.hid (sac_any w w.heap.size a cap n zss hn hl hr hx)
  have KP : Hid (∀ q : Nat, Calls Try.prog 78 #[.slice a n cap, .slice a2 m cap2] (w.drewN q) _) := Lib.hid (fun q => spr_any (w.drewN q) w.heap.size a a2 cap cap2 n m zss ps hn hm hl hl2 hcap hr (hx.drN q) (hz.drewN q))
  have HC : Hid (fcC zss ps = if acB zss = true then (if prB zss ps = true then 0 else 2) else 1) := Lib.hid rfl
  have HV : Hid (fcV zss ps = if fcC zss ps = 0 then (if 0 < n then fcL ps (gR zss 0).length else []) else []) := Lib.hid (by unfold fcV; rw [hn])
  have HX := Lib.hid hx
  have HZ := Lib.hid hz
  have N1 := Lib.hid hn
  have N2 := Lib.hid hm
  clear hx hz hn hm hl hr hcap
  cases h1 : acB zss
  · rw [h1, if_neg (by decide)] at HC
    rw [HC.out, if_neg (by decide)] at HV
    rw [h1] at KA
    clear h1 KP
    go_enter Try.func43, Try.ntmps43
    go_wp2_with (go_at_call 49; (with_reducible refine Calls.mono KA.out ?_); rintro e w' ⟨rfl, q, rfl⟩)
    go_ret2
    exact ⟨none, 0, by rw [HV.out, HC.out]; rfl, by rw [HV.out]; exact ownA_nil _ _ (Nat.le_refl _), bel_drewN (Below.refl _ _) _⟩
  have ha := acB_t h1
  rw [h1, if_pos rfl] at HC
  rw [h1] at KA
  cases h2 : prB zss ps
  · rw [h2, if_neg (by decide)] at HC
    rw [HC.out, if_neg (by decide)] at HV
    rw [h2] at KP
    clear h1 h2 ha
    go_enter Try.func43, Try.ntmps43
    go_wp2_with (first | (go_at_call 49; (with_reducible refine Calls.mono KA.out ?_); rintro e w' ⟨rfl, q, rfl⟩) | (go_at_call 78; (with_reducible refine Calls.mono (KP.out _) ?_); rintro e w' ⟨rfl, q2, rfl⟩))
    go_ret2
    exact ⟨none, 0, by rw [HV.out, HC.out]; rfl, by rw [HV.out]; exact ownA_nil _ _ (Nat.le_refl _), by first | exact bel_drewN (Below.refl _ _) _ | exact bel_drewN (bel_drewN (Below.refl _ _) _) _⟩
  · rw [h2, if_pos rfl] at HC
    rw [HC.out, if_pos rfl] at HV
    rw [h2] at KP
    have hL6 := acP_rows ha 0
    clear h1 h2 ha
    by_cases h0 : 0 < n
    · rw [if_pos h0] at HV
      obtain ⟨b, off, p, c, rfl, -, hc, -, -⟩ := HX.out.at_ (j := 0) (by rw [N1.out]; exact h0)
      rw [Nat.add_zero] at hc
      have hd : ((n : Int) == 0) = false := by rw [beq_eq_false_iff_ne]; omega
      have KF : Hid (∀ q : Nat, Calls Try.prog 93 #[.int .i64 ((gR zss 0).length : Int), .slice a2 m cap2] (w.drewN q) _) := Lib.hid (fun q => lfr_any (w.drewN q) a2 cap2 m (gR zss 0).length ps N2.out hl2 hL6 (HZ.out.drewN q))
      clear hL6
      go_enter Try.func43, Try.ntmps43
      go_wp2_with (first | (go_at_call 49; (with_reducible refine Calls.mono KA.out ?_); rintro e w' ⟨rfl, q, rfl⟩) | (go_at_call 78; (with_reducible refine Calls.mono (KP.out _) ?_); rintro e w' ⟨rfl, q2, rfl⟩))
      refine (KF.out _).mono ?_
      rintro e w2 ⟨g, c9, rfl, hR⟩
      have HO := Lib.hid (ownA_row hR rfl (Nat.le_refl _))
      have HB := Lib.hid hR.bel
      clear hR KF
      go_wp2
      go_ret2
      exact ⟨some ⟨g, 0, none⟩, c9, by rw [HV.out, HC.out]; rfl, by rw [HV.out]; exact HO.out.less (Nat.le_refl _), bel_end (by first | exact bel_drewN (Below.refl _ _) _ | exact bel_drewN (bel_drewN (Below.refl _ _) _) _) HB.out⟩
    · rw [if_neg h0] at HV
      obtain rfl : n = 0 := by omega
      clear hL6
      go_enter Try.func43, Try.ntmps43
      go_wp2_with (first | (go_at_call 49; (with_reducible refine Calls.mono KA.out ?_); rintro e w' ⟨rfl, q, rfl⟩) | (go_at_call 78; (with_reducible refine Calls.mono (KP.out _) ?_); rintro e w' ⟨rfl, q2, rfl⟩))
      go_ret2
      have hr0 := RowG.lit (w1 := w.drewN (q + q2)) (m := 1) (Bk.new (w.drewN (q + q2)) #[] 2) (Nat.le_refl _) ((Below.refl _ _).alloc (Nat.le_refl _) _)
      exact ⟨some ⟨w.heap.size, 0, none⟩, 0, by rw [HV.out, HC.out]; rfl, by rw [HV.out]; exact ownA_row (L := []) hr0 rfl (Nat.le_refl _), bel_end (bel_drewN (Below.refl _ _) _) hr0.bel⟩
end Go.Proofs.Ytlahgdhofakinaa
