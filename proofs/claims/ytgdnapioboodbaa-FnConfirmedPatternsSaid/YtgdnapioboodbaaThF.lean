/- The facts behind the laws of chapter 13. -/
import Derived.Test.YtgdnapioboodbaaThM
namespace Go.Proofs.Ytgdnapioboodbaa
open Num
set_option linter.unusedVariables false
set_option linter.unusedSimpArgs false
theorem tcT_in {n a m : Int} (h : tcB n a m = true) : tcT n a m = (tl a n.toNat m, 0) := by unfold tcT; rw [if_pos h]
theorem tcB_mk {n a m : Int} (n0 : 0 ≤ n) (n1 : n ≤ 12) (a0 : 0 ≤ a) (a1 : a ≤ 16) (m0 : 0 ≤ m) (m1 : m ≤ n + 1) : tcB n a m = true := by
  unfold tcB scB chB
  rw [inB_mk n0 n1, inB_mk a0 a1, inB_mk m0 m1]
  rfl
theorem tcB_t {n a m : Int} (h : tcB n a m = true) : (0 ≤ n ∧ n ≤ 12) ∧ (0 ≤ a ∧ a ≤ 16) ∧ (0 ≤ m ∧ m ≤ n + 1) := by
  unfold tcB scB chB at h
  rw [Bool.and_eq_true, Bool.and_eq_true] at h
  exact ⟨inB_t h.1.1, inB_t h.1.2, inB_t h.2⟩
theorem tcT_z {n a m X : Int} (h : tcT n a m = (X, 0)) : tcB n a m = true ∧ X = tl a n.toNat m := by
  unfold tcT at h
  split at h
  · rename_i hb
    injection h with h1
    exact ⟨hb, h1.symm⟩
  · simp at h
theorem tc_facts {n a m X : Int} (h : tcT n a m = (X, 0)) : (0 ≤ n ∧ n ≤ 12) ∧ (0 ≤ a ∧ a ≤ 16) ∧ (0 ≤ m ∧ m ≤ n + 1) ∧ (ccT n).2 = 0 ∧ tcT n a 0 = ccT n ∧ tcT n a (n + 1) = (0, 0) ∧ (∀ Y, tcT n a (m + 1) = (Y, 0) → Y ≤ X) ∧ (∀ Y, tcT n (a + 1) m = (Y, 0) → X ≤ Y) := by
  obtain ⟨hb, rfl⟩ := tcT_z h
  obtain ⟨hn, ha, hm⟩ := tcB_t hb
  have hc : ccT n = (pw n.toNat, 0) := by unfold ccT scB; rw [inB_mk hn.1 hn.2]; rfl
  refine ⟨hn, ha, hm, by rw [hc], ?_, ?_, fun Y hY => ?_, fun Y hY => ?_⟩
  · rw [hc, tcT_in (tcB_mk hn.1 hn.2 ha.1 ha.2 (by omega) (by omega)), tl_le _ (by omega)]
  · rw [tcT_in (tcB_mk hn.1 hn.2 ha.1 ha.2 (by omega) (by omega)), tl_top _ (by omega)]
  · obtain ⟨-, rfl⟩ := tcT_z hY
    exact tl_anti ha.1 ha.2 _ _
  · obtain ⟨hb2, rfl⟩ := tcT_z hY
    have := (tcB_t hb2).2.1
    exact tl_mono ha.1 this.2 _ _
theorem lt_facts {n a num den M : Int} (h : ltT n a num den = (M, 0)) : ((0 ≤ n ∧ n ≤ 12) ∧ (0 ≤ a ∧ a ≤ 16) ∧ (1 ≤ den ∧ den ≤ 1000) ∧ (0 ≤ num ∧ num ≤ den)) ∧ (0 ≤ M ∧ M ≤ n + 1) ∧ ∃ P X, ccT n = (P, 0) ∧ tcT n a M = (X, 0) ∧ X * den ≤ num * P ∧ (0 ≤ P ∧ P ≤ 281474976710656) ∧ (0 ≤ X ∧ X ≤ 281474976710656) ∧ ∀ Y, tcT n a (M - 1) = (Y, 0) → num * P < Y * den ∧ 0 ≤ Y ∧ Y ≤ 281474976710656 := by
  unfold ltT at h
  split at h
  case isFalse => simp at h
  case isTrue hb =>
    unfold ltB scB chB at hb
    rw [Bool.and_eq_true, Bool.and_eq_true] at hb
    have hn := inB_t hb.1.1
    have ha := inB_t hb.1.2
    have hf := frB_t hb.2
    injection h with hM
    obtain ⟨h1, h2, h3, h4⟩ := lsF_spec (P := thP a n.toNat num den) (n.toNat + 1) 0 (thP_top hf.2.1)
    rw [show lsF (thP a n.toNat num den) (n.toNat + 1) 0 = M from hM] at h1 h2 h3 h4
    have hm : 0 ≤ M ∧ M ≤ n + 1 := by omega
    have hp := pw_le (n := n.toNat) (by omega)
    have hp0 := pw_pos n.toNat
    have tb := fun m => tl_bd ha.1 ha.2 n.toNat m
    refine ⟨⟨hn, ha, hf.1, hf.2⟩, hm, pw n.toNat, tl a n.toNat M, by unfold ccT scB; rw [inB_mk hn.1 hn.2]; rfl, tcT_in (tcB_mk hn.1 hn.2 ha.1 ha.2 hm.1 hm.2), of_decide_eq_true h1, by omega, by have := tb M; omega, fun Y hY => ?_⟩
    obtain ⟨hb2, rfl⟩ := tcT_z hY
    have hm2 := (tcB_t hb2).2.2
    have := of_decide_eq_false (h4 (M - 1) (by omega) (by omega))
    have := tb (M - 1)
    exact ⟨by omega, by omega, by omega⟩
theorem bt_facts {n p q B : Int} (h : btT n p q = (B, 0)) : (0 ≤ n ∧ n ≤ 12) ∧ ∀ i, 0 ≤ i → i ≤ n + 1 → ∃ X Y V R, tcT n q i = (X, 0) ∧ tcT n p i = (Y, 0) ∧ tcT n q B = (V, 0) ∧ tcT n p B = (R, 0) ∧ X - Y ≤ V - R ∧ (0 ≤ X ∧ X ≤ 281474976710656) ∧ (0 ≤ Y ∧ Y ≤ 281474976710656) ∧ (0 ≤ V ∧ V ≤ 281474976710656) ∧ (0 ≤ R ∧ R ≤ 281474976710656) := by
  unfold btT at h
  split at h
  case isFalse => simp at h
  case isTrue hb =>
    unfold btB scB chB at hb
    rw [Bool.and_eq_true, Bool.and_eq_true] at hb
    have hn := inB_t hb.1
    have hp := inB_t hb.2.1
    have hq := inB_t hb.2.2
    injection h with hB
    have hr := bsF_rng (D := dfD p q n.toNat) (n.toNat + 1) 1 0 (by omega) (by omega)
    have hs := bsF_spec (D := dfD p q n.toNat) (n.toNat + 1) 1 0 (fun k k0 k1 => by obtain rfl : k = 0 := (by omega); exact Int.le_refl _)
    rw [show bsF (dfD p q n.toNat) (n.toNat + 1) 1 0 = B from hB] at hr hs
    refine ⟨hn, fun i i0 i1 => ?_⟩
    have hw := pw_le (n := n.toNat) (by omega)
    have tp := fun m => tl_bd hp.1 hp.2 n.toNat m
    have tq := fun m => tl_bd hq.1 hq.2 n.toNat m
    refine ⟨tl q n.toNat i, tl p n.toNat i, tl q n.toNat B, tl p n.toNat B, tcT_in (tcB_mk hn.1 hn.2 hq.1 hq.2 i0 i1), tcT_in (tcB_mk hn.1 hn.2 hp.1 hp.2 i0 i1), tcT_in (tcB_mk hn.1 hn.2 hq.1 hq.2 (by omega) (by omega)), tcT_in (tcB_mk hn.1 hn.2 hp.1 hp.2 (by omega) (by omega)), hs i i0 (by omega), ?_, ?_, ?_, ?_⟩
    · have := tq i; omega
    · have := tp i; omega
    · have := tq B; omega
    · have := tp B; omega
-- confirmed patterns
theorem cs_stay {zs : List Int} {m v i : Int} (hz : zs.length ≤ 13) (h : csT zs m v = (i, 0)) : 0 ≤ i ∧ i < zs.length ∧ csT (zs.take (i.toNat + 1) ++ [0]) m v = (i, 0) := by
  unfold csT at h
  split at h
  case isFalse => simp at h
  case isTrue hb =>
    split at h
    case isTrue hc => simp at h
    case isFalse hc =>
      injection h with hi
      unfold cfB at hb
      rw [Bool.and_eq_true, Bool.and_eq_true] at hb
      have hl := of_decide_eq_true hb.1.1
      obtain ⟨k, rfl⟩ : ∃ k : Nat, i = (k : Int) := ⟨i.toNat, by omega⟩
      obtain ⟨hk, hs⟩ := cfS_stay hi
      rw [Int.toNat_natCast]
      refine ⟨by omega, by omega, ?_⟩
      have hlen : (zs.take (k + 1) ++ [0]).length = k + 2 := by rw [List.length_append, List.length_take]; simp; omega
      have hlack : anyLack 0 1 (zs.take (k + 1) ++ [0]) = false := by
        have h2 : anyLack 0 1 zs = false := by simpa using hb.1.2
        refine anyLack_f (fun j hj => ?_)
        rw [hlen] at hj
        by_cases hjk : j < k + 1
        · have e : (zs.take (k + 1) ++ [0]).getD j 0 = zs.getD j 0 := by
            rw [List.getD_eq_getElem?_getD, List.getD_eq_getElem?_getD, List.getElem?_append_left (by rw [List.length_take]; omega), List.getElem?_take, if_pos hjk]
          rw [e]
          have := anyLack_at h2 (k := j) (by omega)
          rw [← inB_hasB]; exact inB_mk (by omega) (by omega)
        · obtain rfl : j = k + 1 := by omega
          rw [List.getD_eq_getElem?_getD, List.getElem?_append_right (by rw [List.length_take]; omega)]
          rw [List.length_take, Nat.min_eq_left (by omega)]
          simp
          decide
      unfold csT cfB
      rw [hlack, hb.2, decide_eq_true (by omega)]
      simp only [Bool.not_false, Bool.and_self, if_true, hs]
      rw [if_neg (by omega)]
theorem cfF_zero {zs : List Int} {m : Int} {w : Nat} (hz : ∀ j, zs.getD j 0 = 0) (hm : 1 ≤ m) : ∀ f i, cfF zs m w f i = -1 := by
  have hp : ∀ k, preS zs k = 0 := by
    intro k
    induction k with
    | zero => rfl
    | succ k ih => rw [preS_succ, ih, hz]; rfl
  intro f
  induction f with
  | zero => intro i; rfl
  | succ f ih =>
    intro i
    have hw : winS zs w i = 0 := by unfold winS; rw [hp, hp]; rfl
    rw [cfF, hw, if_neg (by omega)]
    exact ih (i + 1)
theorem cs_zero {zs : List Int} {m v : Int} (hz : ∀ j, zs.getD j 0 = 0) : (csT zs m v).2 ≠ 0 := by
  unfold csT
  split
  case isFalse => decide
  case isTrue hb =>
    unfold cfB at hb
    rw [Bool.and_eq_true, Bool.and_eq_true] at hb
    have := wiB_t hb.2
    unfold cfS
    rw [cfF_zero hz (by omega), if_pos (by omega)]
    decide
theorem ck_facts {n a m v X K : Int} {E : Int} (h : ckT n a m v = (X, 0)) (g : cpT n m v = (K, E)) : E = 0 ∧ (0 ≤ n ∧ n ≤ 12) ∧ (0 ≤ K ∧ K ≤ 4096) ∧ (n = 0 → X = 0 ∧ K = 0) ∧ ckT n 8 m v = (8 ^ n.toNat * K, 0) ∧ ∃ T, ckT n a 1 v = (T, 0) ∧ tcT n a 1 = (T, 0) := by
  unfold ckT at h
  split at h
  case isFalse => simp at h
  case isTrue hb =>
    rw [Bool.and_eq_true, Bool.and_eq_true] at hb
    have hn := inB_t (show inB n 0 12 = true from hb.1.1)
    have ha := inB_t (show inB a 0 16 = true from hb.1.2)
    have hw := wiB_t hb.2
    injection h with hX
    unfold cpT at g
    rw [hb.1.1, hb.2] at g
    simp only [Bool.and_self, if_true] at g
    injection g with hK hE
    have hbd : 0 ≤ K ∧ K ≤ 4096 := by
      rw [← hK, ← (show smN (fun x => vlP 1 1 m v.toNat ([] ++ bo n.toNat x)) (2 ^ n.toNat) = _ from (cnt_sum _ n.toNat []).symm)]
      have hs := smN_bd (f := fun x => vlP 1 1 m v.toNat ([] ++ bo n.toNat x)) (B := 1) (fun x => by
        unfold vlP
        split
        · omega
        · rw [prB_ones]; omega) (2 ^ n.toNat)
      have h2 := Nat.pow_le_pow_right (n := 2) (by decide) (show n.toNat ≤ 12 by omega)
      have h3 : 2 ^ 12 = 4096 := rfl
      have : ((2 ^ n.toNat : Nat) : Int) ≤ 4096 := by omega
      omega
    refine ⟨hE.symm, hn, hbd, fun h0 => ?_, ?_, tl a n.toNat 1, ?_, ?_⟩
    · subst h0
      rw [← hX, ← hK]
      exact ⟨cnt_none _ _ _ _, cnt_none _ _ _ _⟩
    · unfold ckT chB
      rw [hb.1.1, hb.2, inB_mk (by omega) (by omega)]
      simp only [Bool.and_self, if_true]
      rw [← hK]
      have := cnt_eight m v.toNat n.toNat []
      simp only [List.length_nil, Nat.zero_add] at this
      rw [show (16 : Int) - 8 = 8 from rfl, this]
    · unfold ckT
      have : wiB 1 v = true := by unfold wiB; rw [inB_mk hw.1.1 hw.1.2, inB_mk (by omega) (by omega)]; rfl
      rw [hb.1.1, hb.1.2, this]
      simp only [Bool.and_self, if_true]
      rw [cnt_tail (by omega)]
    · exact tcT_in (tcB_mk hn.1 hn.2 ha.1 ha.2 (by omega) (by omega))
end Go.Proofs.Ytgdnapioboodbaa
