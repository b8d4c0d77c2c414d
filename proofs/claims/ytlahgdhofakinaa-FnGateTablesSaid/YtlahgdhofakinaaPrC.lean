/- The model's exact functions of pairings: IsPairing, SumOfPairs, BestPairs, LeastSum, CountPairings. -/
import Derived.Test.YtlahgdhofakinaaPrB
namespace Go.Proofs.Ytlahgdhofakinaa
open Go.ChangeShapes Go.WideShapes Go.ChangeAt Go.RowKit Go.Shelf Num
set_option linter.unusedVariables false
set_option linter.unusedSimpArgs false
theorem coC_0 {zss : List (List Int)} {miss : Int} (h : coC zss miss = 0) : AcP zss ∧ 0 ≤ miss ∧ miss ≤ 1000000000000 := by
  unfold coC at h
  split at h
  · rename_i h1
    split at h
    · rename_i h2
      unfold inB at h2
      simp only [Bool.and_eq_true, decide_eq_true_eq] at h2
      exact ⟨acB_t h1, h2.1, h2.2⟩
    · omega
  · omega
theorem pri_ii {a b a' b' : Int} (h : a' = a) (g : b' = b) : Ending.returned (.tuple #[.int .i64 a, .int .i64 b]) = .returned (.tuple #[.int .i64 a', .int .i64 b']) := by rw [h, g]
theorem RwL.drN {w : World} {B : Nat} {a : Option Addr} {zss : List (List Int)} (h : RwL w B a zss) (q : Nat) : RwL (w.drewN q) B a zss := h.below (bel_drewN (Below.refl _ _) _)
/-- what SumOfPairs, BestPairs, LeastSum and CountPairings answer -/
def spC (zss : List (List Int)) (miss : Int) (ps : List Int) : Int := if acB zss = true then (if inB miss 0 1000000000000 = true ∧ prB zss ps = true then 0 else 2) else 1
def spV (zss : List (List Int)) (miss : Int) (ps : List Int) : Int := if spC zss miss ps = 0 then smV zss miss ps else 0
def bsV (zss : List (List Int)) (miss : Int) : List Int := if coC zss miss = 0 then bstP zss miss else []
def lsV (zss : List (List Int)) (miss : Int) : Int := if coC zss miss = 0 then smV zss miss (bstP zss miss) else 0
def cnC (zss : List (List Int)) : Int := if acB zss = true then 0 else 1
def cnV (zss : List (List Int)) : Int := if acB zss = true then ((allP zss zss.length []).length : Int) else 0
section
variable (w : World) (a : Option Addr) (cap n : Nat) (zss : List (List Int)) (hn : zss.length = n) (hl : n ≤ 9223372036854775807) (hr : ∀ j, j < zss.length → (gR zss j).length ≤ 9223372036854775807) (hx : RwL w w.heap.size a zss)
include hn hl hr hx
theorem sip_any (a2 : Option Addr) (cap2 m : Nat) (ps : List Int) (hm : ps.length = m) (hl2 : m ≤ 9223372036854775807) (hcap : m ≤ cap2) (hz : Ints .i64 w w.heap.size a2 ps) :
    Calls Try.prog 44 #[.slice a n cap, .slice a2 m cap2] w fun e w' => e = .returned (.bool (acB zss && prB zss ps)) ∧ Below w.heap.size w w' := by
  have KA := Lib.hid (sac_any w w.heap.size a cap n zss hn hl hr hx)
  have KP : Hid (∀ q : Nat, Calls Try.prog 78 #[.slice a n cap, .slice a2 m cap2] (w.drewN q) _) := Lib.hid (fun q => spr_any (w.drewN q) w.heap.size a a2 cap cap2 n m zss ps hn hm hl hl2 hcap hr (hx.drN q) (hz.drewN q))
  cases h1 : acB zss
  · rw [h1] at KA
    clear h1 KP
    go_enter Try.func44, Try.ntmps44
    go_wp2_with (go_at_call 49; (with_reducible refine Calls.mono KA.out ?_); rintro e w' ⟨rfl, q, rfl⟩)
    go_ret
    exact ⟨rfl, bel_drewN (Below.refl _ _) _⟩
  · rw [h1] at KA
    clear h1
    go_enter Try.func44, Try.ntmps44
    go_wp2_with (first | (go_at_call 49; (with_reducible refine Calls.mono KA.out ?_); rintro e w' ⟨rfl, q, rfl⟩) | (go_at_call 78; (with_reducible refine Calls.mono (KP.out _) ?_); rintro e w' ⟨rfl, q2, rfl⟩))
    go_ret
    exact ⟨rfl, (by first | exact bel_drewN (Below.refl _ _) _ | exact bel_drewN (bel_drewN (Below.refl _ _) _) _ | exact bel_drewN (bel_drewN (bel_drewN (Below.refl _ _) _) _) _)⟩
theorem ssp_any (miss : Int) (a2 : Option Addr) (cap2 m : Nat) (ps : List Int) (hm : ps.length = m) (hl2 : m ≤ 9223372036854775807) (hcap : m ≤ cap2) (hz : Ints .i64 w w.heap.size a2 ps) :
    Calls Try.prog 29 #[.slice a n cap, .int .i64 miss, .slice a2 m cap2] w fun e w' => e = .returned (.tuple #[.int .i64 (spV zss miss ps), .int .i64 (spC zss miss ps)]) ∧ Below w.heap.size w w' := by
  have KA := Lib.hid (sac_any w w.heap.size a cap n zss hn hl hr hx)
  have KM : Hid (∀ W : World, Calls Try.prog 77 #[.int .i64 miss] W _) := Lib.hid (fun W => lms_any miss W)
  have KP : Hid (∀ q : Nat, Calls Try.prog 78 #[.slice a n cap, .slice a2 m cap2] (w.drewN q) _) := Lib.hid (fun q => spr_any (w.drewN q) w.heap.size a a2 cap cap2 n m zss ps hn hm hl hl2 hcap hr (hx.drN q) (hz.drewN q))
  have HC : Hid (spC zss miss ps = if acB zss = true then (if inB miss 0 1000000000000 = true ∧ prB zss ps = true then 0 else 2) else 1) := Lib.hid rfl
  have HV : Hid (spV zss miss ps = if spC zss miss ps = 0 then smV zss miss ps else 0) := Lib.hid rfl
  have KS : Hid (AcP zss → prB zss ps = true → 0 ≤ miss → miss ≤ 1000000000000 → ∀ q : Nat, Calls Try.prog 79 #[.slice a n cap, .int .i64 miss, .slice a2 m cap2] (w.drewN q) _) := Lib.hid (fun h1 h2 h3 h4 q => ssm_any (w.drewN q) w.heap.size a a2 cap cap2 n m zss ps miss hn hm h1 h2 h3 h4 (hx.drN q) (hz.drewN q))
  clear hn hl hr hx hm hl2 hcap hz
  cases h1 : acB zss
  · rw [h1, if_neg (by decide)] at HC
    rw [HC.out, if_neg (by decide)] at HV
    rw [h1] at KA
    clear h1 KS KP KM
    go_enter Try.func29, Try.ntmps29
    go_wp2_with (go_at_call 49; (with_reducible refine Calls.mono KA.out ?_); rintro e w' ⟨rfl, q, rfl⟩)
    go_ret2
    exact ⟨pri_ii HV.out HC.out, bel_drewN (Below.refl _ _) _⟩
  · rw [h1, if_pos rfl] at HC
    rw [h1] at KA
    cases h2 : inB miss 0 1000000000000
    · rw [h2, if_neg (by simp)] at HC
      rw [HC.out, if_neg (by decide)] at HV
      rw [h2] at KM
      clear h1 h2 KS KP
      go_enter Try.func29, Try.ntmps29
      go_wp2_with (first | (go_at_call 49; (with_reducible refine Calls.mono KA.out ?_); rintro e w' ⟨rfl, q, rfl⟩) | (go_at_call 77; (with_reducible refine Calls.mono (KM.out _) ?_); rintro e w' ⟨rfl, rfl⟩))
      go_ret2
      exact ⟨pri_ii HV.out HC.out, bel_drewN (Below.refl _ _) _⟩
    · cases h3 : prB zss ps
      · rw [h2, h3, if_neg (by simp)] at HC
        rw [HC.out, if_neg (by decide)] at HV
        rw [h2] at KM
        rw [h3] at KP
        clear h1 h2 h3 KS
        go_enter Try.func29, Try.ntmps29
        go_wp2_with (first | (go_at_call 49; (with_reducible refine Calls.mono KA.out ?_); rintro e w' ⟨rfl, q, rfl⟩) | (go_at_call 77; (with_reducible refine Calls.mono (KM.out _) ?_); rintro e w' ⟨rfl, rfl⟩) | (go_at_call 78; (with_reducible refine Calls.mono (KP.out _) ?_); rintro e w' ⟨rfl, q2, rfl⟩))
        go_ret2
        exact ⟨pri_ii HV.out HC.out, (by first | exact bel_drewN (Below.refl _ _) _ | exact bel_drewN (bel_drewN (Below.refl _ _) _) _ | exact bel_drewN (bel_drewN (bel_drewN (Below.refl _ _) _) _) _)⟩
      · rw [h2, h3, if_pos ⟨rfl, rfl⟩] at HC
        rw [HC.out, if_pos rfl] at HV
        have hmm : 0 ≤ miss ∧ miss ≤ 1000000000000 := by unfold inB at h2; simpa using h2
        have KT := Lib.hid (KS.out (acB_t h1) h3 hmm.1 hmm.2)
        rw [h2] at KM
        rw [h3] at KP
        clear h1 h2 h3 KS hmm
        go_enter Try.func29, Try.ntmps29
        go_wp2_with (first | (go_at_call 49; (with_reducible refine Calls.mono KA.out ?_); rintro e w' ⟨rfl, q, rfl⟩) | (go_at_call 77; (with_reducible refine Calls.mono (KM.out _) ?_); rintro e w' ⟨rfl, rfl⟩) | (go_at_call 78; (with_reducible refine Calls.mono (KP.out _) ?_); rintro e w' ⟨rfl, q2, rfl⟩) | (go_at_call 79; (with_reducible refine Calls.mono (KT.out _) ?_); rintro e w' ⟨rfl, q3, rfl⟩))
        go_ret2
        exact ⟨pri_ii HV.out HC.out, (by first | exact bel_drewN (Below.refl _ _) _ | exact bel_drewN (bel_drewN (Below.refl _ _) _) _ | exact bel_drewN (bel_drewN (bel_drewN (Below.refl _ _) _) _) _)⟩
theorem slm_any (miss : Int) :
    Calls Try.prog 33 #[.slice a n cap, .int .i64 miss] w fun e w' => e = .returned (.tuple #[.int .i64 (lsV zss miss), .int .i64 (coC zss miss)]) ∧ Below w.heap.size w w' := by
  have KC := Lib.hid (prc_any w w.heap.size a cap n zss miss hn hl hr hx)
  have HX := Lib.hid hx
  have N1 := Lib.hid hn
  clear hx hn hl hr
  obtain ⟨k, hk⟩ : ∃ k, coC zss miss = k := ⟨_, rfl⟩
  have HK := Lib.hid hk
  by_cases h0 : k = 0
  · subst h0
    obtain ⟨ha, m0, m1⟩ := coC_0 hk
    have HA := Lib.hid ha
    rw [hk] at KC ⊢
    have KB : Hid (∀ q : Nat, Calls Try.prog 84 #[.slice a n cap, .int .i64 miss] (w.drewN q) _) := Lib.hid (fun q => lbs_any (w.drewN q) a cap n zss miss N1.out ha m0 m1 (HX.out.drN q))
    have HV : Hid (lsV zss miss = smV zss miss (bstP zss miss)) := Lib.hid (by unfold lsV; rw [if_pos HK.out])
    clear hk ha
    go_enter Try.func33, Try.ntmps33
    go_wp2_with (go_at_call 83; (with_reducible refine Calls.mono KC.out ?_); rintro e w' ⟨rfl, q, rfl⟩)
    refine (KB.out _).mono ?_
    rintro e w2 ⟨g, c, rfl, ho, hb⟩
    have hb2 : Below w.heap.size w w2 := bel_end (bel_drewN (Below.refl _ _) _) hb
    have KS := Lib.hid (ssm_any w2 w2.heap.size a _ cap c n _ zss (bstP zss miss) miss N1.out rfl HA.out (bst_facts zss miss).1 m0 m1 ((HX.out.below hb2).more hb2.size) ho.ints)
    have HB := Lib.hid hb2
    clear ho hb hb2 KB
    go_wp2_with (go_at_call 79; (with_reducible refine Calls.mono KS.out ?_); rintro e w' ⟨rfl, q3, rfl⟩)
    go_ret2
    exact ⟨pri_ii HV.out rfl, bel_drewN HB.out _⟩
  · have hd : (k != 0) = true := by simpa using h0
    have HN := Lib.hid (show ¬ coC zss miss = 0 by rw [hk]; exact h0)
    rw [hk] at KC ⊢
    clear hk
    go_enter Try.func33, Try.ntmps33
    go_wp2_with (go_at_call 83; (with_reducible refine Calls.mono KC.out ?_); rintro e w' ⟨rfl, q, rfl⟩)
    go_ret2
    exact ⟨pri_ii (by unfold lsV; rw [if_neg HN.out]) rfl, bel_drewN (Below.refl _ _) _⟩
theorem sbp_any (miss : Int) :
    Calls Try.prog 31 #[.slice a n cap, .int .i64 miss] w fun e w' => ∃ (g : Option Addr) (c : Nat), e = .returned (.tuple #[.slice g (bsV zss miss).length c, .int .i64 (coC zss miss)]) ∧ OwnA w' w.heap.size w'.heap.size g c (bsV zss miss) ∧ Below w.heap.size w w' := by
  have KC := Lib.hid (prc_any w w.heap.size a cap n zss miss hn hl hr hx)
  have HX := Lib.hid hx
  have N1 := Lib.hid hn
  clear hx hn hl hr
  obtain ⟨k, hk⟩ : ∃ k, coC zss miss = k := ⟨_, rfl⟩
  have HK := Lib.hid hk
  by_cases h0 : k = 0
  · subst h0
    obtain ⟨ha, m0, m1⟩ := coC_0 hk
    have HA := Lib.hid ha
    rw [hk] at KC ⊢
    have KB : Hid (∀ q : Nat, Calls Try.prog 84 #[.slice a n cap, .int .i64 miss] (w.drewN q) _) := Lib.hid (fun q => lbs_any (w.drewN q) a cap n zss miss N1.out ha m0 m1 (HX.out.drN q))
    have HV : Hid (bsV zss miss = bstP zss miss) := Lib.hid (by unfold bsV; rw [if_pos HK.out])
    clear hk ha
    go_enter Try.func31, Try.ntmps31
    go_wp2_with (go_at_call 83; (with_reducible refine Calls.mono KC.out ?_); rintro e w' ⟨rfl, q, rfl⟩)
    refine (KB.out _).mono ?_
    rintro e w2 ⟨g, c, rfl, ho, hb⟩
    have hb2 : Below w.heap.size w w2 := bel_end (bel_drewN (Below.refl _ _) _) hb
    have HB := Lib.hid hb2
    have HO := Lib.hid ho
    clear ho hb hb2 KB
    go_wp2
    go_ret2
    exact ⟨some ⟨g, 0, none⟩, c, by rw [HV.out]; rfl, by rw [HV.out]; exact HO.out, HB.out⟩
  · have hd : (k != 0) = true := by simpa using h0
    have HN := Lib.hid (show ¬ coC zss miss = 0 by rw [hk]; exact h0)
    rw [hk] at KC ⊢
    clear hk
    go_enter Try.func31, Try.ntmps31
    go_wp2_with (go_at_call 83; (with_reducible refine Calls.mono KC.out ?_); rintro e w' ⟨rfl, q, rfl⟩)
    have HV : Hid (bsV zss miss = []) := Lib.hid (by unfold bsV; rw [if_neg HN.out])
    go_ret2
    exact ⟨none, 0, by rw [HV.out]; rfl, by rw [HV.out]; exact ownA_nil _ _ (Nat.le_refl _), bel_drewN (Below.refl _ _) _⟩
theorem scn_any :
    Calls Try.prog 47 #[.slice a n cap] w fun e w' => e = .returned (.tuple #[.int .i64 (cnV zss), .int .i64 (cnC zss)]) ∧ Below w.heap.size w w' := by
  have KA := Lib.hid (sac_any w w.heap.size a cap n zss hn hl hr hx)
  have HX := Lib.hid hx
  have N1 := Lib.hid hn
  clear hx hn hl hr
  cases h1 : acB zss
  · have HV : Hid (cnV zss = 0) := Lib.hid (by unfold cnV; rw [h1]; rfl)
    have HC : Hid (cnC zss = 1) := Lib.hid (by unfold cnC; rw [h1]; rfl)
    rw [h1] at KA
    clear h1
    go_enter Try.func47, Try.ntmps47
    go_wp2_with (go_at_call 49; (with_reducible refine Calls.mono KA.out ?_); rintro e w' ⟨rfl, q, rfl⟩)
    go_ret2
    exact ⟨pri_ii HV.out HC.out, bel_drewN (Below.refl _ _) _⟩
  · have ha := acB_t h1
    have HV : Hid (cnV zss = ((allP zss n []).length : Int)) := Lib.hid (by unfold cnV; rw [h1, N1.out]; rfl)
    have HC : Hid (cnC zss = 0) := Lib.hid (by unfold cnC; rw [h1]; rfl)
    have K0 : Hid (∀ q : Nat, Calls Try.prog 94 #[.slice a n cap, .slice none 0 0] (w.drewN q) _) := Lib.hid (fun q => lal_any n (w.drewN q) a none cap 0 n 0 zss [] N1.out rfl (by omega) (by have := ha.1; have := N1.out; omega) (acP_rows ha) (fun _ => rfl) (HX.out.drN q) (fun hp => by simp at hp))
    have hmx : (allP zss n []).length ≤ 117649 := Nat.le_trans (allP_le (acP_rows ha) n []) (pow7_le7 n (by have := ha.1; have := N1.out; omega))
    rw [h1] at KA
    clear h1 ha
    go_enter Try.func47, Try.ntmps47
    go_wp2_with (go_at_call 49; (with_reducible refine Calls.mono KA.out ?_); rintro e w' ⟨rfl, q, rfl⟩)
    refine (K0.out _).mono ?_
    rintro e w2 ⟨G, c, vs, rfl, hR⟩
    have HB : Hid (Below w.heap.size w w2) := Lib.hid (bel_end (bel_drewN (Below.refl _ _) _) hR.bel)
    clear hR
    go_wp2
    go_ret2
    exact ⟨pri_ii HV.out HC.out, HB.out⟩
end
end Go.Proofs.Ytlahgdhofakinaa
