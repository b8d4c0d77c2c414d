/- The contract of the model's count of patterns that begin with some bits. -/
import Derived.Test.YtgdnapioboodbaaThR
import Derived.Test.YtgdnapioboodbaaPuX
import Derived.Deep.AppendLies
namespace Go.Proofs.Ytgdnapioboodbaa
open Go.ChangeShapes Go.WideShapes Go.ChangeAt Go.RowKit Go.Shelf Num
set_option linter.unusedVariables false
set_option linter.unusedSimpArgs false

theorem cnt_bd {v : List Int → Int} {B : Int} (N : Nat) (h : ∀ p, p.length = N → 0 ≤ v p ∧ v p ≤ B) : ∀ (r : Nat) (p : List Int), p.length + r = N → 0 ≤ cntF v r p ∧ cntF v r p ≤ (2 ^ r : Nat) * B := by
  intro r
  induction r with
  | zero => intro p hp; have := h p (by omega); rw [cntF]; simp; exact this
  | succ r ih =>
    intro p hp
    have a := ih (p ++ [0]) (by simp; omega)
    have b := ih (p ++ [1]) (by simp; omega)
    rw [cntF, Nat.pow_succ]
    have e : ((2 ^ r * 2 : Nat) : Int) * B = (2 ^ r : Nat) * B + (2 ^ r : Nat) * B := by rw [Int.natCast_mul]; generalize ((2 ^ r : Nat) : Int) = q; grind
    omega
theorem take_snoc (p : List Int) (i : Nat) (h : i < p.length) : p.take (i + 1) = p.take i ++ [p.getD i 0] := by
  rw [List.take_add_one, List.getD_eq_getElem?_getD, List.getElem?_eq_getElem h]
  rfl
set_option maxRecDepth 100000 in
set_option maxHeartbeats 4000000 in
theorem lno13_any (w : World) (ad : Option Addr) (c n : Nat) (zs : List Int) (hn : zs.length = n) (hl : n ≤ 1000) (hnil : ad = none → c = 0) (hz : Ints .i64 w w.heap.size ad zs) :
    Calls Try.prog 67 #[.slice ad n c] w fun e w' => ∃ (g c' : Nat), e = .returned (.slice (some ⟨g, 0, none⟩) n c') ∧ RowG w 2 1 g c' n (zs.map iv4) w' := by
  obtain ⟨i0, hi, hz0, hz1, hz2⟩ := info_parts info_i64
  cases ad with
  | none =>
    obtain rfl : n = 0 := by
      rcases Nat.eq_zero_or_pos n with h | h
      · exact h
      · obtain ⟨b, off, e, -⟩ := hz (by omega)
        cases e
    obtain rfl : c = 0 := hnil rfl
    obtain rfl : zs = [] := List.eq_nil_of_length_eq_zero hn
    clear hz hn hnil
    go_enter Try.func67, Try.ntmps67
    go_wp2
    go_ret
    exact ⟨w.heap.size, 0, rfl, RowG.lit (Bk.new w _ _) (Nat.le_refl _) ((Below.refl _ _).alloc (Nat.le_refl _) _)⟩
  | some ad =>
    have hnews : ∀ j u, (zs.map iv4)[j]? = some u → w.cell? (ad.add j) = some u := by
      rcases Nat.eq_zero_or_pos zs.length with h | h
      · intro j u hu
        rw [List.getElem?_eq_none (by simp; omega)] at hu
        cases hu
      · obtain ⟨b, off, e, -, hc⟩ := hz h
        cases e
        exact ints_cells (B := 0) hc
    have HN := Lib.hid hnews
    have HL := Lib.hid hn
    have how : Hid ((w.alloc (.cells #[] 2)).ownsRow w.heap.size 2 1 (.slice (some ⟨w.heap.size, 0, none⟩) 0 0) 0 []) := Lib.hid (World.ownsRow_lit w #[] 0 (Nat.le_refl w.heap.size) (by decide) (by decide))
    clear hnews hz hn hnil
    go_enter Try.func67, Try.ntmps67
    go_wp2_with (at_builtin; refine wpList_append_own _ rfl _ _ 32 rfl w.heap.size 2 i0 (.int .i64 0) 1 8 Try.underlying32 hi hz0 hz1 hz2 rfl (by decide) _ _ _ rfl how.out ad n c (zs.map iv4) rfl ?qc1 ?qc2 ?qc3 ?qc4 ?qc5 ?qc6 ?_)
    case qc1 => rw [List.length_map, HL.out, Nat.mul_one]
    case qc2 =>
      intro j u hj
      exact Lib.cell?_alloc_some _ (HN.out j u hj)
    case qc3 => exact one_iv4
    case qc4 => unfold maxLen; omega
    case qc5 => omega
    case qc6 => simp
    intro v' w1 hown hgrow hnil
    have HB : Hid (Below w.heap.size w w1) := Lib.hid (((Below.refl _ w).alloc (Nat.le_refl _) _).grown hgrow (by simp) (by intro k hk; simp [Value.ownBlock] at hk; omega))
    obtain ⟨g, c', rfl⟩ : ∃ g c', v' = .slice (some ⟨g, 0, none⟩) n c' := by
      rcases hown.2 with ⟨h', -⟩ | ⟨g, cap', cur, hv, -⟩
      · exact absurd h' hnil
      · exact ⟨g, cap', hv⟩
    have HO := Lib.hid hown
    clear hown hgrow hnil
    go_wp2
    go_ret
    exact ⟨g, c', rfl, HO.out, HB.out⟩

theorem o_bd {a o0 o1 : Int} (ho : (0 ≤ a ∧ a ≤ 16 ∧ o0 = 16 - a ∧ o1 = a) ∨ (a = -1 ∧ o0 = 1 ∧ o1 = 1)) : (0 ≤ o0 ∧ o0 ≤ 16) ∧ (0 ≤ o1 ∧ o1 ≤ 16) := by omega
set_option maxRecDepth 100000 in
set_option maxHeartbeats 4000000 in
/-- all bits are there: the pattern counts, or not -/
theorem lct_zero (a m : Int) (u n : Nat) (o0 o1 : Int) (hn : n ≤ 12) (ho : (0 ≤ a ∧ a ≤ 16 ∧ o0 = 16 - a ∧ o1 = a) ∨ (a = -1 ∧ o0 = 1 ∧ o1 = 1)) (u1 : 1 ≤ u) (u2 : u ≤ 12) (m1 : 1 ≤ m) (m2 : m ≤ 12) (w : World) (ad : Option Addr) (c k : Nat) (p : List Int) (hk : p.length = k) (hkn : k = n) (hb : bitsL p) (hcap : k ≤ c) (hz : Ints .i64 w w.heap.size ad p) :
    Calls Try.prog 57 #[.slice ad k c, .int .i64 (n : Int), .int .i64 a, .int .i64 m, .int .i64 (u : Int)] w fun e w' => e = .returned (.int .i64 (vlP o0 o1 m u p)) ∧ w = w' := by
  have KC := Lib.hid (lcf_any w w.heap.size k ad c u m p hk (by omega) hcap u1 u2 m1 m2 hb hz)
  have HP := Lib.hid hk
  have HB := Lib.hid hb
  subst hkn
  have HV : Hid (vlP o0 o1 m u p = if cfS p m u < 0 then 0 else prB o0 o1 p) := Lib.hid rfl
  obtain ⟨R, hR⟩ : ∃ q, cfS p m u = q := ⟨_, rfl⟩
  rw [hR] at KC HV
  clear hR hb hk hcap u1 u2 m1 m2
  by_cases hc : R < 0
  · rw [if_pos hc] at HV
    clear hz
    go_enter Try.func57, Try.ntmps57
    go_wp2_with (go_at_call 62; with_reducible refine Calls.mono KC.out ?_; rintro e wc ⟨rfl, rfl⟩)
    go_ret
    exact ⟨ret_int HV.out.symm, rfl⟩
  · rw [if_neg hc] at HV
    rcases ho with ⟨a0, a1, rfl, rfl⟩ | ⟨rfl, rfl, rfl⟩
    · go_enter Try.func57, Try.ntmps57
      go_wp2_with (go_at_call 62; with_reducible refine Calls.mono KC.out ?_; rintro e wc ⟨rfl, rfl⟩)
      clear KC hc
      go_loop [11, 12] (fun v i => ∃ j : Nat, j ≤ k ∧ i = .int .i64 (j : Int) ∧ v = .int .i64 (prB (16 - o1) o1 (p.take j))) (fun _ i => k - (intOf i).toNat)
      case atStart => exact ⟨0, by omega, rfl, rfl⟩
      case round =>
        obtain ⟨j, hj, rfl, rfl⟩ := hrel
        by_cases hlt : j < k
        · obtain ⟨b, off, rfl, -, hcl⟩ := hz.at_ (j := j) (by rw [HP.out]; exact hlt)
          clear hz
          have hs := Lib.hid (show prB (16 - o1) o1 (p.take (j + 1)) = prB (16 - o1) o1 (p.take j) * (if p.getD j 0 = 1 then o1 else 16 - o1) by rw [take_snoc p j (by rw [HP.out]; exact hlt), prB_append]; simp [prB])
          have hbd := prB_bd (o0 := 16 - o1) (o1 := o1) (by omega) (by omega) a0 a1 (p.take j)
          rw [List.length_take, HP.out, Nat.min_eq_left hj] at hbd
          have hpw := pw_le (n := j) (by omega)
          obtain ⟨C, hC⟩ : ∃ q, prB (16 - o1) o1 (p.take j) = q := ⟨_, rfl⟩
          rw [hC] at hs hbd ⊢
          have q1 := prd48 (x := C) (y := o1) (by omega) (by omega) a0 (by omega)
          have q2 := prd48 (x := C) (y := 16 - o1) (by omega) (by omega) (by omega) (by omega)
          obtain ⟨R1, hR1⟩ : ∃ q, C * o1 = q := ⟨_, rfl⟩
          obtain ⟨A2, hA2⟩ : ∃ q, 16 - o1 = q := ⟨_, rfl⟩
          have e3 : IntKind.wrap .i64 (16 - o1) = A2 := by rw [IntWalk.i64_in _ (by omega)]; exact hA2
          rw [hA2] at q2 hs
          obtain ⟨R2, hR2⟩ : ∃ q, C * A2 = q := ⟨_, rfl⟩
          have e1 : IntKind.wrap .i64 (C * o1) = R1 := by rw [IntWalk.i64_in _ (by omega)]; exact hR1
          have e2 : IntKind.wrap .i64 (C * A2) = R2 := by rw [IntWalk.i64_in _ (by omega)]; exact hR2
          have hHA := Lib.hid hA2
          have hjb := HB.out j
          obtain ⟨x, hx⟩ : ∃ q, p.getD j 0 = q := ⟨_, rfl⟩
          rw [hx] at hcl hs hjb
          have a0h : (0 ≤ o1) := a0
          clear hC hbd hpw q1 q2 hA2 hx a1
          rcases hjb with rfl | rfl
          · rw [if_neg (by omega), hR2] at hs
            clear hR1 hR2
            go_wp2
            go_round
            case rel => exact ⟨j + 1, by omega, by go_num, by rw [hHA.out, hs.out]⟩
            case measure => simp [intOf]; omega
          · rw [if_pos rfl, hR1] at hs
            clear hR1 hR2
            go_wp2
            go_round
            case rel => exact ⟨j + 1, by omega, by go_num, by rw [hHA.out, hs.out]⟩
            case measure => simp [intOf]; omega
        · obtain rfl : j = k := by omega
          have HE : Hid (prB (16 - o1) o1 (p.take j) = prB (16 - o1) o1 p) := Lib.hid (by rw [← HP.out, List.take_length])
          rw [HE.out]
          clear hz
          go_wp2
          go_ret
          exact ⟨ret_int HV.out.symm, rfl⟩
    · have HE : Hid (vlP 1 1 m u p = 1) := Lib.hid (by rw [HV.out]; exact prB_ones p)
      clear hz HV
      go_enter Try.func57, Try.ntmps57
      go_wp2_with (go_at_call 62; with_reducible refine Calls.mono KC.out ?_; rintro e wc ⟨rfl, rfl⟩)
      refine wp_loop_rounds 1 ?_
      rw [rounds_succ]
      go_wp2
      all_goals (go_ret; exact ⟨ret_int HE.out.symm, rfl⟩)

set_option maxRecDepth 100000 in
set_option maxHeartbeats 8000000 in
theorem lct_any (a m : Int) (u n : Nat) (o0 o1 : Int) (hn : n ≤ 12) (ho : (0 ≤ a ∧ a ≤ 16 ∧ o0 = 16 - a ∧ o1 = a) ∨ (a = -1 ∧ o0 = 1 ∧ o1 = 1)) (u1 : 1 ≤ u) (u2 : u ≤ 12) (m1 : 1 ≤ m) (m2 : m ≤ 12) : ∀ (r : Nat) (p : List Int), p.length + r = n → bitsL p → ∀ (w : World) (ad : Option Addr) (c k : Nat), p.length = k → k ≤ c → (ad = none → c = 0) → Ints .i64 w w.heap.size ad p →
    Calls Try.prog 57 #[.slice ad k c, .int .i64 (n : Int), .int .i64 a, .int .i64 m, .int .i64 (u : Int)] w fun e w' => e = .returned (.int .i64 (cntF (vlP o0 o1 m u) r p)) ∧ Below w.heap.size w w' := by
  intro r
  induction r with
  | zero =>
    intro p hp hb w ad c k hk hcap hnil hz
    refine (lct_zero a m u n o0 o1 hn ho u1 u2 m1 m2 w ad c k p hk (by omega) hb hcap hz).mono ?_
    rintro e w' ⟨rfl, rfl⟩
    exact ⟨rfl, Below.refl _ _⟩
  | succ r ih =>
    intro p hp hb w ad c k hk hcap hnil hz
    have K0 := Lib.hid (ih (p ++ [0]) (by rw [List.length_append]; simp; omega) (bitsL_snoc hb (Or.inl rfl)))
    have K1 := Lib.hid (ih (p ++ [1]) (by rw [List.length_append]; simp; omega) (bitsL_snoc hb (Or.inr rfl)))
    have HE : Hid (cntF (vlP o0 o1 m u) (r + 1) p = cntF (vlP o0 o1 m u) r (p ++ [0]) + cntF (vlP o0 o1 m u) r (p ++ [1])) := Lib.hid rfl
    have ob := o_bd ho
    have hpw := pw_le hn
    have vb : ∀ q : List Int, q.length = n → 0 ≤ vlP o0 o1 m u q ∧ vlP o0 o1 m u q ≤ 281474976710656 := fun q hq => by have := vlP_bd (m := m) (w := u) ob.1.1 ob.1.2 ob.2.1 ob.2.2 q; rw [hq] at this; omega
    have b0 := cnt_bd n vb r (p ++ [0]) (by rw [List.length_append]; simp; omega)
    have b1 := cnt_bd n vb r (p ++ [1]) (by rw [List.length_append]; simp; omega)
    have hr := (pw_two r (by omega)).2
    obtain ⟨Q, hQ⟩ : ∃ q : Nat, 2 ^ r = q := ⟨_, rfl⟩
    rw [hQ] at b0 b1 hr
    obtain ⟨X, hX⟩ : ∃ q, cntF (vlP o0 o1 m u) r (p ++ [0]) = q := ⟨_, rfl⟩
    obtain ⟨Y, hY⟩ : ∃ q, cntF (vlP o0 o1 m u) r (p ++ [1]) = q := ⟨_, rfl⟩
    rw [hX] at K0 HE b0
    rw [hY] at K1 HE b1
    have x0 : 0 ≤ X := b0.1
    have x1 : X ≤ 1152921504606846976 := by omega
    have y0 : 0 ≤ Y := b1.1
    have y1 : Y ≤ 1152921504606846976 := by omega
    have HZ := Lib.hid hz
    have HP := Lib.hid hk
    have HNIL := Lib.hid hnil
    have hkn : (k : Int) < (n : Int) := by omega
    have hk12 : k ≤ 12 := by omega
    clear ih hX hY b0 b1 hr hQ vb ob hpw hz hk hnil hb hp ho
    obtain ⟨i0, hi, hz0, hz1, hz2⟩ := info_parts info_i64
    go_enter Try.func57, Try.ntmps57
    go_wp2_with fail
    refine (lno13_any w ad c k p HP.out (by omega) HNIL.out (HZ.out)).mono ?_
    rintro e w1 ⟨g1, c1, rfl, hR⟩
    have HR1 := Lib.hid hR
    clear hR
    go_wp2_with (at_builtin; refine wpList_append_lies _ rfl _ _ 32 rfl w.heap.size 2 i0 (.int .i64 0) 1 8 Try.underlying32 hi hz0 hz1 hz2 rfl (by decide) (.slice (some ⟨g1, 0, none⟩) k c1) k (p.map iv4) rfl (HR1.out.own.alloc _) ⟨w1.heap.size, 0, none⟩ 1 1 [.int .i64 0] rfl rfl (World.news_of_block (cs := #[.int .i64 0]) (t := 2) (fr := (0, 0)) (heap_alloc_new w1 _)) (by simp [Value.oneCell']) (by decide) (by unfold maxLen; omega) (by omega) (by simp; exact Nat.le_succ_of_le HR1.out.bel.size) (w1.heap.size + 1) (by simp) ?_; intro h1 d1 v1 hown hgrow hat hlt9; have HS1 := Lib.hid ((HR1.out.on ((Below.refl _ _).alloc (Nat.le_refl _) _)).snoc hown hgrow); clear hown hgrow hat hlt9)
    have HA1 : Hid (RowG w 2 1 h1 d1 (k + 1) ((p ++ [0]).map iv4) v1) := Lib.hid (by rw [List.map_append]; exact HS1.out)
    have HO1 := Lib.hid (ownA_row (lo := w.heap.size) HA1.out (by rw [List.length_append, HP.out]; rfl) (Nat.le_refl _))
    have HC1 := Lib.hid (ownA_cap HO1.out)
    clear HR1 HS1
    refine (K0.out v1 (some ⟨h1, 0, none⟩) d1 (k + 1) (by rw [List.length_append, HP.out]; rfl) (by have := HC1.out; rw [List.length_append, HP.out] at this; exact this) (fun e => by cases e) HO1.out.ints).mono ?_
    rintro e z1 ⟨rfl, hb⟩
    have HB := Lib.hid (bel_end HA1.out.bel hb)
    clear hb HA1 HO1 HC1
    go_wp2_with fail
    refine (lno13_any z1 ad c k p HP.out (by omega) HNIL.out ((HZ.out.below HB.out).more HB.out.size)).mono ?_
    rintro e w2 ⟨g2, c2, rfl, hR⟩
    have HR2 := Lib.hid hR
    clear hR
    go_wp2_with (at_builtin; refine wpList_append_lies _ rfl _ _ 32 rfl z1.heap.size 2 i0 (.int .i64 0) 1 8 Try.underlying32 hi hz0 hz1 hz2 rfl (by decide) (.slice (some ⟨g2, 0, none⟩) k c2) k (p.map iv4) rfl (HR2.out.own.alloc _) ⟨w2.heap.size, 0, none⟩ 1 1 [.int .i64 1] rfl rfl (World.news_of_block (cs := #[.int .i64 1]) (t := 2) (fr := (0, 0)) (heap_alloc_new w2 _)) (by simp [Value.oneCell']) (by decide) (by unfold maxLen; omega) (by omega) (by simp; exact Nat.le_succ_of_le HR2.out.bel.size) (w2.heap.size + 1) (by simp) ?_; intro h2 d2 v2 hown hgrow hat hlt9; have HS2 := Lib.hid ((HR2.out.on ((Below.refl _ _).alloc (Nat.le_refl _) _)).snoc hown hgrow); clear hown hgrow hat hlt9)
    have HA2 : Hid (RowG z1 2 1 h2 d2 (k + 1) ((p ++ [1]).map iv4) v2) := Lib.hid (by rw [List.map_append]; exact HS2.out)
    have HO2 := Lib.hid (ownA_row (lo := z1.heap.size) HA2.out (by rw [List.length_append, HP.out]; rfl) (Nat.le_refl _))
    have HC2 := Lib.hid (ownA_cap HO2.out)
    clear HR2 HS2
    refine (K1.out v2 (some ⟨h2, 0, none⟩) d2 (k + 1) (by rw [List.length_append, HP.out]; rfl) (by have := HC2.out; rw [List.length_append, HP.out] at this; exact this) (fun e => by cases e) HO2.out.ints).mono ?_
    rintro e z2 ⟨rfl, hb⟩
    have HB2 := Lib.hid (bel_end HB.out (bel_end HA2.out.bel hb))
    clear hb HA2 HO2 HC2
    go_wp2
    go_ret
    exact ⟨ret_int HE.out.symm, HB2.out⟩
end Go.Proofs.Ytgdnapioboodbaa
