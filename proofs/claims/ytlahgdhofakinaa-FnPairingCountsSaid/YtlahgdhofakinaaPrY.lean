/- The program's SumOfPairs and FreeContacts. -/
import Derived.Test.YtlahgdhofakinaaPrV
import Derived.Test.YtlahgdhofakinaaPrD
namespace Go.Proofs.Ytlahgdhofakinaa
open Go.ChangeShapes Go.WideShapes Go.ChangeAt Go.RowKit Go.Shelf Num
set_option linter.unusedVariables false
set_option linter.unusedSimpArgs false
theorem coC_spC (zss : List (List Int)) (miss : Int) (ps : List Int) : spC zss miss ps = if coC zss miss = 0 then (if prB zss ps = true then 0 else 2) else coC zss miss := by
  unfold spC coC
  cases acB zss
  · simp
  · cases inB miss 0 1000000000000
    · simp
    · cases prB zss ps <;> simp
section
variable (w : World) (a : Option Addr) (cap n : Nat) (zss : List (List Int)) (hn : zss.length = n) (hl : n ≤ 9223372036854775807) (hr : ∀ j, j < zss.length → (gR zss j).length ≤ 9223372036854775807) (hx : RwL w w.heap.size a zss) (a2 : Option Addr) (cap2 m : Nat) (ps : List Int) (hm : ps.length = m) (hl2 : m ≤ 9223372036854775807) (hz : Ints .i64 w w.heap.size a2 ps)
include hn hl hr hx hm hl2 hz
set_option maxHeartbeats 4000000 in
theorem isp_any (miss : Int) :
    Calls Try.prog 28 #[.slice a n cap, .int .i64 miss, .slice a2 m cap2] w fun e w' => e = .returned (.tuple #[.int .i64 (spV zss miss ps), .int .i64 (spC zss miss ps)]) ∧ Below w.heap.size w w' := by
  have KC := Lib.hid (cer_any w a cap n zss hn hl hr hx miss)
  have HX := Lib.hid hx
  have HZ := Lib.hid hz
  have HR := Lib.hid hr
  have N1 := Lib.hid hn
  have N2 := Lib.hid hm
  have HC : Hid (spC zss miss ps = if coC zss miss = 0 then (if prB zss ps = true then 0 else 2) else coC zss miss) := Lib.hid (coC_spC zss miss ps)
  have HVL : Hid (spV zss miss ps = if spC zss miss ps = 0 then smV zss miss ps else 0) := Lib.hid rfl
  clear hx hz hn hm hr
  obtain ⟨k, hk⟩ : ∃ k, coC zss miss = k := ⟨_, rfl⟩
  rw [hk] at KC HC
  by_cases h0 : k = 0
  rotate_left
  · have hd : (k != 0) = true := by simpa using h0
    rw [if_neg h0] at HC
    rw [HC.out, if_neg h0] at HVL
    clear hk
    go_enter Try.func28, Try.ntmps28
    go_wp2_with (go_at_call 76; (with_reducible refine Calls.mono KC.out ?_); rintro e w1 ⟨rfl, hb⟩; have HB1 := Lib.hid hb; clear hb)
    go_ret2
    exact ⟨pri_ii HVL.out HC.out, HB1.out⟩
  subst h0
  rw [if_pos rfl] at HC
  obtain ⟨ha, m0, m1⟩ := coC_0 hk
  have HA := Lib.hid ha
  have h6 : n ≤ 6 := by have := ha.1; have := N1.out; omega
  clear hk
  cases hP : prB zss ps
  · rw [hP, if_neg (by decide)] at HC
    rw [HC.out, if_neg (by decide)] at HVL
    have HPB : Hid ((acB zss && prB zss ps) = false) := Lib.hid (by rw [hP]; simp)
    clear ha hP
    go_enter Try.func28, Try.ntmps28
    go_wp2_with (first | (go_at_call 76; (with_reducible refine Calls.mono KC.out ?_); rintro e w1 ⟨rfl, hb⟩; have HB1 := Lib.hid hb; have KP := Lib.hid (ipg_any w1 _ cap _ zss N1.out (by omega) HR.out ((HX.out.below hb).more hb.size) a2 cap2 m ps N2.out hl2 ((HZ.out.below hb).more hb.size)); rw [HPB.out] at KP; clear hb) | (go_at_call 37; (with_reducible refine Calls.mono KP.out ?_); rintro e w2 ⟨rfl, hb⟩; have HB2 := Lib.hid (bel_end HB1.out hb); clear hb))
    go_ret2
    exact ⟨pri_ii HVL.out HC.out, HB2.out⟩
  rw [hP, if_pos rfl] at HC
  rw [HC.out, if_pos rfl] at HVL
  have HPB : Hid ((acB zss && prB zss ps) = true) := Lib.hid (by rw [hP, show acB zss = true from decide_eq_true ha]; rfl)
  obtain ⟨hpl, hpe⟩ := prB_t hP
  have HBD : Hid (∀ k : Nat, k ≤ m → 0 ≤ smT zss miss ps k ∧ smT zss miss ps k ≤ 6000000000000) := Lib.hid (fun k hk => by
    have := N2.out
    have := N1.out
    have := smT_bd ha hpe (by omega) m0 m1 k (by omega)
    omega)
  obtain rfl : m = n := by rw [← N2.out, ← N1.out, hpl]
  have HPE := Lib.hid hpe
  have HSV : Hid (smV zss miss ps = smT zss miss ps m) := Lib.hid (by unfold smV; rw [N2.out])
  clear ha hP hpl hpe
  go_enter Try.func28, Try.ntmps28
  go_wp2_with (first | (go_at_call 76; (with_reducible refine Calls.mono KC.out ?_); rintro e w1 ⟨rfl, hb⟩; have HB1 := Lib.hid hb; have KP := Lib.hid (ipg_any w1 _ cap _ zss N1.out (by omega) HR.out ((HX.out.below hb).more hb.size) a2 cap2 m ps N2.out hl2 ((HZ.out.below hb).more hb.size)); rw [HPB.out] at KP; clear hb) | (go_at_call 37; (with_reducible refine Calls.mono KP.out ?_); rintro e w2 ⟨rfl, hb⟩; have HB2 := Lib.hid (bel_end HB1.out hb); clear hb))
  replace HX := Lib.hid (HX.out.below HB2.out)
  replace HZ := Lib.hid (HZ.out.below HB2.out)
  clear KC KP HB1
  go_loop [9, 24] (fun s i => ∃ k : Nat, k ≤ m ∧ i = .int .i64 k ∧ s = .int .i64 (smT zss miss ps k)) (fun _ i => m - (intOf i).toNat)
  case atStart => exact ⟨0, by omega, rfl, rfl⟩
  case round =>
    obtain ⟨k, hk, rfl, rfl⟩ := hrel
    by_cases hlt : k < m
    · have hn0 : 0 < m := by omega
      obtain ⟨b, off, p, c, rfl, -, hc, hcc, hp⟩ := HX.out.at_ (j := k) (by rw [N1.out]; exact hlt)
      obtain ⟨b2, off2, rfl, -, hd⟩ := HZ.out.at_ (j := k) (by rw [N2.out]; exact hlt)
      have hb0 := HBD.out k (by omega)
      have hb1 := HBD.out (k + 1) (by omega)
      have hs : smT zss miss ps (k + 1) = smT zss miss ps k + smA zss miss ps k := rfl
      have hsa : smA zss miss ps k = if ps.getD k 0 < 0 then miss else (gR zss k).getD (ps.getD k 0).toNat 0 := rfl
      obtain ⟨h1, h2, -⟩ := HPE.out k (by rw [N2.out]; exact hlt)
      unfold pI at h1 h2
      obtain ⟨x, hxe⟩ : ∃ x, ps.getD k 0 = x := ⟨_, rfl⟩
      rw [hxe] at hd hsa h1 h2
      obtain ⟨L, hLe⟩ : ∃ L, (gR zss k).length = L := ⟨_, rfl⟩
      rw [hLe] at hc hcc h2
      have HLE := Lib.hid hLe
      obtain ⟨s, hse⟩ : ∃ s, smT zss miss ps k = s := ⟨_, rfl⟩
      rw [hse] at hs hb0 ⊢
      clear hxe hLe hse
      by_cases hx0 : x < 0
      · rw [if_pos hx0] at hsa
        rw [hsa] at hs
        rw [hs] at hb1
        have HS := Lib.hid hs
        clear hs hsa hp
        obtain rfl : x = -1 := by omega
        go_wp2
        go_round
        case rel => exact ⟨k + 1, by omega, by go_num, by rw [HS.out]⟩
        case measure => simp [intOf] <;> omega
      · obtain ⟨j, rfl⟩ : ∃ j : Nat, x = j := ⟨x.toNat, by omega⟩
        have hjL : j < L := by omega
        have hdx : ((j : Int) == -1) = false := by rw [beq_eq_false_iff_ne]; omega
        obtain ⟨b3, off3, rfl, -, hy⟩ := hp.at_ (j := j) (by rw [HLE.out]; exact hjL)
        rw [if_neg hx0, Int.toNat_natCast] at hsa
        obtain ⟨y, hye⟩ : ∃ y, (gR zss k).getD j 0 = y := ⟨_, rfl⟩
        rw [hye] at hy hsa
        rw [hsa] at hs
        rw [hs] at hb1
        have HS := Lib.hid hs
        clear hs hsa hp hye
        go_wp2
        go_round
        case rel => exact ⟨k + 1, by omega, by go_num, by rw [HS.out]⟩
        case measure => simp [intOf] <;> omega
    · obtain rfl : k = m := by omega
      go_wp2
      go_ret2
      exact ⟨pri_ii (by rw [HVL.out, HSV.out]) HC.out, HB2.out⟩
set_option maxHeartbeats 4000000 in
theorem ifc_any :
    Calls Try.prog 42 #[.slice a n cap, .slice a2 m cap2] w fun e w' => ∃ (g : Option Addr) (c : Nat), e = .returned (.tuple #[.slice g (fcV zss ps).length c, .int .i64 (fcC zss ps)]) ∧ OwnA w' w.heap.size w'.heap.size g c (fcV zss ps) ∧ Below w.heap.size w w' := by
  have KA := Lib.hid (iac_any w a cap n zss hn hl hr hx)
  have HC : Hid (fcC zss ps = if acB zss = true then (if prB zss ps = true then 0 else 2) else 1) := Lib.hid rfl
  have HV : Hid (fcV zss ps = if fcC zss ps = 0 then (if 0 < n then fcL ps (gR zss 0).length else []) else []) := Lib.hid (by unfold fcV; rw [hn])
  have HX := Lib.hid hx
  have HZ := Lib.hid hz
  have HR := Lib.hid hr
  have N1 := Lib.hid hn
  have N2 := Lib.hid hm
  clear hx hz hn hm hr
  cases h1 : acB zss
  · rw [h1, if_neg (by decide)] at HC
    rw [HC.out, if_neg (by decide)] at HV
    rw [h1] at KA
    clear h1
    go_enter Try.func42, Try.ntmps42
    go_wp2_with (go_at_call 26; (with_reducible refine Calls.mono KA.out ?_); rintro e w1 ⟨rfl, hb⟩; have HB1 := Lib.hid hb; clear hb)
    go_ret2
    exact ⟨none, 0, by rw [HV.out, HC.out]; rfl, by rw [HV.out]; exact ownA_nil _ _ HB1.out.size, HB1.out⟩
  have ha := acB_t h1
  rw [h1, if_pos rfl] at HC
  rw [h1] at KA
  cases h2 : prB zss ps
  · rw [h2, if_neg (by decide)] at HC
    rw [HC.out, if_neg (by decide)] at HV
    have HPB : Hid ((acB zss && prB zss ps) = false) := Lib.hid (by rw [h2]; simp)
    clear h1 h2 ha
    go_enter Try.func42, Try.ntmps42
    go_wp2_with (first | (go_at_call 26; (with_reducible refine Calls.mono KA.out ?_); rintro e w1 ⟨rfl, hb⟩; have HB1 := Lib.hid hb; have KP := Lib.hid (ipg_any w1 _ cap _ zss N1.out (by omega) HR.out ((HX.out.below hb).more hb.size) a2 cap2 m ps N2.out hl2 ((HZ.out.below hb).more hb.size)); rw [HPB.out] at KP; clear hb) | (go_at_call 37; (with_reducible refine Calls.mono KP.out ?_); rintro e w2 ⟨rfl, hb⟩; have HB2 := Lib.hid (bel_end HB1.out hb); clear hb))
    go_ret2
    exact ⟨none, 0, by rw [HV.out, HC.out]; rfl, by rw [HV.out]; exact ownA_nil _ _ HB2.out.size, HB2.out⟩
  rw [h2, if_pos rfl] at HC
  rw [HC.out, if_pos rfl] at HV
  have HPB : Hid ((acB zss && prB zss ps) = true) := Lib.hid (by rw [h1, h2]; rfl)
  have hL6 := acP_rows ha 0
  clear h1 h2 ha
  by_cases h0 : 0 < n
  rotate_left
  · rw [if_neg h0] at HV
    obtain rfl : n = 0 := by omega
    clear hL6
    go_enter Try.func42, Try.ntmps42
    go_wp2_with (first | (go_at_call 26; (with_reducible refine Calls.mono KA.out ?_); rintro e w1 ⟨rfl, hb⟩; have HB1 := Lib.hid hb; have KP := Lib.hid (ipg_any w1 _ cap _ zss N1.out (by omega) HR.out ((HX.out.below hb).more hb.size) a2 cap2 m ps N2.out hl2 ((HZ.out.below hb).more hb.size)); rw [HPB.out] at KP; clear hb) | (go_at_call 37; (with_reducible refine Calls.mono KP.out ?_); rintro e w2 ⟨rfl, hb⟩; have HB2 := Lib.hid (bel_end HB1.out hb); clear hb))
    go_ret2
    exact ⟨none, 0, by rw [HV.out, HC.out]; rfl, by rw [HV.out]; exact ownA_nil _ _ HB2.out.size, HB2.out⟩
  rw [if_pos h0] at HV
  obtain ⟨i0, hi, hz0, hz1, hz2⟩ := info_parts info_i64
  have hd : ((n : Int) == 0) = false := by rw [beq_eq_false_iff_ne]; omega
  obtain ⟨C, hC⟩ : ∃ C, (gR zss 0).length = C := ⟨_, rfl⟩
  have HCL := Lib.hid hC
  rw [hC] at hL6 HV
  clear hC
  obtain ⟨b, off, p, c, rfl, hBb, hc, -, -⟩ := HX.out.at_ (j := 0) (by rw [N1.out]; exact h0)
  rw [Nat.add_zero, HCL.out] at hc
  have HC0 := Lib.hid hc
  clear hc
  go_enter Try.func42, Try.ntmps42
  go_upto_region 8 with (first | (go_at_call 26; (with_reducible refine Calls.mono KA.out ?_); rintro e w1 ⟨rfl, hb⟩; have HB1 := Lib.hid hb; have KP := Lib.hid (ipg_any w1 _ cap _ zss N1.out (by omega) HR.out ((HX.out.below hb).more hb.size) a2 cap2 m ps N2.out hl2 ((HZ.out.below hb).more hb.size)); rw [HPB.out] at KP; clear hb) | (go_at_call 37; (with_reducible refine Calls.mono KP.out ?_); rintro e w2 ⟨rfl, hb⟩; have HB2 := Lib.hid (bel_end HB1.out hb); clear hb))
  have hc := (HB2.out.cell (p := ⟨b, off, none⟩) hBb).trans HC0.out
  go_wp2_with fail
  clear hc KA KP HB1
  replace HZ := Lib.hid (HZ.out.below HB2.out)
  have HZ2 := Lib.hid (HZ.out.more HB2.out.size)
  go_loopw [6, 22] (fun o i wr => ∃ (k : Nat) (ge : Option Addr) (ce : Nat), k ≤ C ∧ i = .int .i64 k ∧ o = .slice ge (fcL ps k).length ce ∧ RowIn w2 ge ce (fcL ps k) wr) (fun _ i _ => C - (intOf i).toNat)
  case atStart => exact ⟨0, none, 0, by omega, rfl, rfl, RowIn.nil _⟩
  case round =>
    obtain ⟨k, ge, ce, hk, rfl, rfl, hR⟩ := hrel
    have HRW := Lib.hid hR
    have KH : Hid (Calls Try.prog 92 #[.slice a2 m cap2, .int .i64 k] wr fun e w' => e = .returned (.bool (decide ((k : Int) ∈ ps))) ∧ wr = w') := Lib.hid (sco_any wr _ a2 cap2 m ps k N2.out hl2 (HZ2.out.below hR.bel))
    have hfl := fcL_len ps k
    have HS : Hid (fcL ps (k + 1) = if (k : Int) ∈ ps then fcL ps k else fcL ps k ++ [(k : Int)]) := Lib.hid rfl
    obtain ⟨LS, hLS⟩ : ∃ u, fcL ps k = u := ⟨_, rfl⟩
    rw [hLS] at HRW hfl HS ⊢
    by_cases hlt : k < C
    · clear hR hLS
      cases hh : decide ((k : Int) ∈ ps)
      · rw [hh] at KH
        have HEQ : Hid (fcL ps (k + 1) = LS ++ [(k : Int)]) := Lib.hid (by rw [HS.out, if_neg (of_decide_eq_false hh)])
        clear hh HS
        go_wp2_with (first | (go_at_call 92; (with_reducible refine Calls.mono KH.out ?_); rintro e w' ⟨rfl, rfl⟩) | (at_builtin; refine wpList_append_lies _ rfl _ _ 38 rfl w2.heap.size 2 i0 (.int .i64 0) 1 8 Try.underlying38 hi hz0 hz1 hz2 rfl (by decide) (.slice ge LS.length ce) LS.length (LS.map iv4) rfl (HRW.out.own.alloc _) ⟨wr.heap.size, 0, none⟩ 1 1 [.int .i64 (k : Int)] rfl rfl (World.news_of_block (cs := #[.int .i64 (k : Int)]) (t := 2) (fr := (0, 0)) (heap_alloc_new wr _)) (by simp [Value.oneCell']) (by decide) (by unfold maxLen; omega) (by omega) (by simp; exact Nat.le_succ_of_le HRW.out.bel.size) (wr.heap.size + 1) (by simp) ?_; intro g2 cp2 w9 hown hgrow hat hlt9; have HP9 := Lib.hid (HRW.out.snoc hown hgrow); clear hown hgrow hat hlt9))
        go_roundw
        case rel => exact ⟨k + 1, some ⟨g2, 0, none⟩, cp2, by omega, by go_num, by rw [HEQ.out, List.length_append]; rfl, by rw [HEQ.out]; exact HP9.out⟩
        case measure => simp [intOf] <;> omega
      · rw [hh] at KH
        have HEQ : Hid (fcL ps (k + 1) = LS) := Lib.hid (by rw [HS.out, if_pos (of_decide_eq_true hh)])
        clear hh HS
        go_wp2_with (go_at_call 92; (with_reducible refine Calls.mono KH.out ?_); rintro e w' ⟨rfl, rfl⟩)
        go_roundw
        case rel => exact ⟨k + 1, ge, ce, by omega, by go_num, by rw [HEQ.out], by rw [HEQ.out]; exact HRW.out⟩
        case measure => simp [intOf] <;> omega
    · obtain rfl : k = C := by omega
      clear KH HS
      have HBE := Lib.hid (bel_end HB2.out hR.bel)
      clear hR
      go_wp2
      go_ret2
      exact ⟨ge, ce, by rw [HV.out, HC.out, hLS]; rfl, by rw [HV.out, hLS]; exact HRW.out.ownA HB2.out.size, HBE.out⟩
end
end Go.Proofs.Ytlahgdhofakinaa
