/- Contracts of the model's BestCode; the walk of the exact law. -/
import Derived.Test.YtpnebnjpeiieaaaPuI
import Derived.Test.YtpnebnjpeiieaaaPuX
import Derived.IntWalk
namespace Go.Proofs.Ytpnebnjpeiieaaa
open Go.ChangeShapes Go.WideShapes Go.ChangeAt Go.RowKit Go.Shelf Num
set_option linter.unusedVariables false
set_option linter.unusedSimpArgs false
theorem sdB_bits (bs : List Int) : sideV (pulK bs 1 1 bs.length) = sdB bs := rfl
theorem cbK_bit (n c k : Nat) : bitP (cbK n c k) := fun i hi => by
  rw [cbK_len] at hi
  unfold cbK
  rw [map_getD (fun j => (((c / 2 ^ (n - 1 - j)) % 2 : Nat) : Int)) hi]
  have : c / 2 ^ (n - 1 - i) % 2 < 2 := Nat.mod_lt _ (by decide)
  omega
theorem pow_10 {n : Nat} (h : n ≤ 10) : 1 ≤ 2 ^ n ∧ 2 ^ n ≤ 1024 := ⟨Nat.one_le_two_pow, by
  have := Nat.pow_le_pow_right (n := 2) (by decide) h
  simpa using this⟩
theorem bits_one (v : Nat) (hv : v ≤ 1000000) : bits .and .i64 (v : Int) 1 = ((v % 2 : Nat) : Int) := by
  have h1 : (BitVec.ofInt 64 (v : Int)).toNat = v := by
    rw [BitVec.ofInt_natCast, BitVec.toNat_ofNat]; exact Nat.mod_eq_of_lt (by omega)
  have h2 : (BitVec.ofInt 64 (1 : Int)).toNat = 1 := rfl
  show IntKind.i64.wrap ((BitVec.ofInt 64 (v : Int) &&& BitVec.ofInt 64 (1 : Int)).toNat : Int) = _
  rw [BitVec.toNat_and, h1, h2, Nat.and_one_is_mod]
  exact IntWalk.i64_in _ (by omega)
theorem stM_in {st : List Int × Int} {bs : List Int} (h : st.2 < 0 ∨ sdB bs < st.2) : stM st bs = (bs, sdB bs) := by unfold stM; rw [if_pos h]
theorem stM_out {st : List Int × Int} {bs : List Int} (h : ¬ (st.2 < 0 ∨ sdB bs < st.2)) : stM st bs = st := by unfold stM; rw [if_neg h]

set_option maxRecDepth 100000 in
set_option maxHeartbeats 4000000 in
theorem sbc_any (w : World) (n : Int) :
    Calls Try.prog 34 #[.int .i64 n] w fun e w' => ∃ (a' : Option Addr) (c' : Nat), e = .returned (.tuple #[.slice a' (bcL n).length c', .int .i64 (bcC n)]) ∧ OwnA w' w.heap.size w'.heap.size a' c' (bcL n) ∧ Below w.heap.size w w' := by
  obtain ⟨i0, hi, hz0, hz1, hz2⟩ := info_parts info_i64
  have eN := hasB_inB n 1 10
  cases hN : inB n 1 10
  case false =>
    rw [hN] at eN
    have H1 : Hid (bcC n = 2) := Lib.hid (by unfold bcC; rw [eN]; rfl)
    have H2 : Hid (bcL n = []) := Lib.hid (by unfold bcL; rw [eN]; rfl)
    clear eN
    go_enter Try.func34, Try.ntmps34
    go_wp2_with fail
    refine (lin_any _ _ _ _).mono ?_
    rw [hN]
    rintro e w' ⟨rfl, rfl⟩
    go_wp2
    go_ret2
    exact ⟨none, 0, by rw [H1.out, H2.out]; rfl, by rw [H2.out]; exact ownA_nil _ _ (Nat.le_refl _), Below.refl _ _⟩
  case true =>
    rw [hN] at eN
    obtain ⟨n1, n10⟩ := inB_t hN
    obtain ⟨k, rfl⟩ : ∃ k : Nat, n = (k : Int) := ⟨n.toNat, by omega⟩
    have hsame := best_same (n := k) (by omega)
    have H1 : Hid (bcC (k : Int) = 0) := Lib.hid (by unfold bcC; rw [eN]; rfl)
    have H2 : Hid (bcL (k : Int) = (mdl k (2 ^ k)).1) := Lib.hid (by unfold bcL; rw [eN, Int.toNat_natCast, ← hsame]; rfl)
    obtain ⟨p1, p2⟩ := pow_10 (n := k) (by omega)
    obtain ⟨P, hP⟩ : ∃ P : Nat, 2 ^ k = P := ⟨_, rfl⟩
    have hPi : (2 : Int) ^ k = (P : Int) := by rw [← hP]; simp
    rw [hP] at p1 p2 H2
    clear hP hsame eN
    go_enter Try.func34, Try.ntmps34
    go_wp2_with fail
    refine (lin_any _ _ _ _).mono ?_
    rw [hN]
    rintro e w' ⟨rfl, rfl⟩
    go_wp2_with fail
    go_loopw [4, 5, 6] (fun x y z wr => ∃ (c : Nat) (a : Option Addr) (ca : Nat), c ≤ P ∧ z = .int .i64 (c : Int) ∧ y = .int .i64 (mdl k c).2 ∧ x = .slice a (mdl k c).1.length ca ∧ OwnA wr w.heap.size wr.heap.size a ca (mdl k c).1 ∧ Below w.heap.size w wr) (fun _ _ z _ => P - (intOf z).toNat)
    case atStart => exact ⟨0, some ⟨w.heap.size, 0, none⟩, 0, by omega, rfl, rfl, rfl, ⟨World.ownsRow_lit (base := w.heap.size) (e := 2) (size := 1) w #[] 0 (Nat.le_refl _) (by decide) (by decide), fun g e => by simp [Value.ownBlock] at e; simp; omega, Nat.le_refl _⟩, (by repeat (first | exact Below.refl _ _ | (refine Below.alloc ?_ (by simp <;> omega) _) | (refine Below.setCell ?_ (by simp <;> omega) _) | (refine Below.drew ?_) | (refine bel_drewN ?_ _)))⟩
    case round =>
      obtain ⟨c, a, ca, hc, rfl, rfl, rfl, hO, hb⟩ := hrel
      have HO := Lib.hid hO
      have HB := Lib.hid hb
      clear hO hb
      by_cases hlt : c < P
      · have HSid : Hid (sdB (cbK k c k) < 10 ∧ 0 ≤ sdB (cbK k c k)) := Lib.hid ⟨sdB_lt (by rw [cbK_len]; omega), sdB_nn _⟩
        go_upto_region 9 with fail
        have HR0 := Lib.hid (RowG.lit (w1 := wr) (t := 2) (m := 1) (W := wr.alloc (.cells #[] 2)) (Bk.new' rfl) (Nat.le_refl _) ((Below.refl _ _).alloc (Nat.le_refl _) _))
        obtain ⟨W1, hW1⟩ : ∃ X, X = wr := ⟨_, rfl⟩
        rw [← hW1] at HR0 HO HB ⊢
        clear hW1
        go_loopw [7, 8] (fun x y wr => ∃ (j ge ce : Nat), j ≤ k ∧ y = .int .i64 ((k : Int) - 1 - (j : Int)) ∧ x = .slice (some ⟨ge, 0, none⟩) j ce ∧ RowG W1 2 1 ge ce j ((cbK k c j).map iv4) wr) (fun _ y _ => (intOf y + 1).toNat)
        case atStart => exact ⟨0, W1.heap.size, 0, by omega, by simp, rfl, HR0.out⟩
        case round =>
          obtain ⟨j, ge, ce, hj, rfl, rfl, hR⟩ := hrel
          have HR := Lib.hid hR
          clear hR HR0
          by_cases hjk : j < k
          · obtain ⟨q, hq⟩ : ∃ q : Nat, k - 1 - j = q := ⟨_, rfl⟩
            have hqi : (k : Int) - 1 - (j : Int) = (q : Int) := by omega
            have hqn : (k : Int) - 1 - ((j + 1 : Nat) : Int) = (q : Int) - 1 := by omega
            have hqw : IntKind.wrap .i64 ((q : Int) - 1) = (q : Int) - 1 := IntWalk.i64_in _ (by omega)
            have q10 : q ≤ 10 := by omega
            obtain ⟨V, hVe⟩ : ∃ V : Nat, c / 2 ^ q = V := ⟨_, rfl⟩
            have hV : (c : Int) / (2 : Int) ^ q = (V : Int) := by rw [← hVe]; simp
            have hV4 : V ≤ 1000000 := by rw [← hVe]; exact Nat.le_trans (Nat.div_le_self _ _) (by omega)
            have hbt := bits_one V hV4
            have hsn := cbK_succ k c j
            rw [hq, hVe] at hsn
            obtain ⟨b, hbe⟩ : ∃ b : Nat, V % 2 = b := ⟨_, rfl⟩
            rw [hbe] at hbt hsn
            have HSN : Hid ((cbK k c j).map iv4 ++ [.int .i64 (b : Int)] = (cbK k c (j + 1)).map iv4) := Lib.hid (by rw [hsn, List.map_append]; rfl)
            have HQN := Lib.hid hqn
            rw [hqi]
            clear hq hqi hqn hsn hVe hbe
            go_wp2_with (at_builtin; refine wpList_append_lies _ rfl _ _ 24 rfl W1.heap.size 2 i0 (.int .i64 0) 1 8 Try.underlying24 hi hz0 hz1 hz2 rfl (by decide) (.slice (some ⟨ge, 0, none⟩) j ce) j ((cbK k c j).map iv4) rfl (HR.out.own.alloc _) ⟨wr.heap.size, 0, none⟩ 1 1 [.int .i64 (b : Int)] rfl rfl (World.news_of_block (cs := #[.int .i64 (b : Int)]) (t := 2) (fr := (0, 0)) (heap_alloc_new wr _)) (by simp [Value.oneCell']) (by decide) (by unfold maxLen; omega) (by omega) (by simp; exact Nat.le_succ_of_le HR.out.bel.size) (wr.heap.size + 1) (by simp) ?_; intro g2 cp2 w9 hown hgrow hat hlt9; have HR9 := Lib.hid ((HR.out.on ((Below.refl _ _).alloc (Nat.le_refl _) _)).snoc hown hgrow); clear hown hgrow hat hlt9)
            rw [HSN.out] at HR9
            go_wp2_with fail
            go_roundw
            case rel => exact ⟨j + 1, g2, cp2, by omega, by rw [HQN.out], rfl, HR9.out⟩
            case measure => (simp [intOf] <;> omega)
          · obtain rfl : j = k := by omega
            have hneg : (j : Int) - 1 - (j : Int) = -1 := by omega
            rw [hneg]
            clear hneg
            have HA := Lib.hid (ownA_row HR.out (cbK_len ..) HB.out.size)
            have HBX := Lib.hid (bel_end HB.out HR.out.bel)
            have HOX : Hid (OwnA wr w.heap.size wr.heap.size a ca (mdl j c).1) := Lib.hid (by have h3 := HO.out.on HR.out.bel; exact ⟨h3.own, fun g e => Nat.lt_of_lt_of_le (h3.lt g e) h3.up, Nat.le_refl _⟩)
            have K1 : Calls Try.prog 56 #[.slice (some ⟨ge, 0, none⟩) j ce, .int .i64 1, .int .i64 1] wr fun e w' => ∃ (g c' : Nat), e = .returned (.slice (some ⟨g, 0, none⟩) j c') ∧ OwnA w' wr.heap.size w'.heap.size (some ⟨g, 0, none⟩) c' (pulK (cbK j c j) 1 1 (cbK j c j).length) ∧ Below wr.heap.size wr w' := by
              have := l9p_any wr (some ⟨ge, 0, none⟩) ce (cbK j c j) 1 1 (by rw [cbK_len]; omega) (by rw [cbK_len]; omega) (by omega) (by omega) (by omega) (cbK_bit j c j) HA.out.ints
              rw [cbK_len, Nat.mul_one] at this
              rw [cbK_len]
              exact this
            have HK1 := Lib.hid K1
            clear HR HB HO K1
            go_wp2_with fail
            refine HK1.out.mono ?_
            rintro e w2 ⟨g, c', rfl, ho, hb⟩
            replace HA : Hid (OwnA w2 w.heap.size w2.heap.size (some ⟨ge, 0, none⟩) ce (cbK j c j)) := Lib.hid (by have h3 := HA.out.on hb; exact ⟨h3.own, fun g e => Nat.lt_of_lt_of_le (h3.lt g e) h3.up, Nat.le_refl _⟩)
            replace HOX : Hid (OwnA w2 w.heap.size w2.heap.size a ca (mdl j c).1) := Lib.hid (by have h3 := HOX.out.on hb; exact ⟨h3.own, fun g e => Nat.lt_of_lt_of_le (h3.lt g e) h3.up, Nat.le_refl _⟩)
            have HB := Lib.hid (bel_end HBX.out hb)
            have HL : Hid ((cbK j c j).length = j) := Lib.hid (cbK_len ..)
            have HPL : Hid ((pulK (cbK j c j) 1 1 (cbK j c j).length).length = j) := Lib.hid (sdB_pul j HL.out)
            have K2 : Calls Try.prog 46 #[.slice (some ⟨g, 0, none⟩) j c'] w2 fun e w' => e = .returned (.int .i64 (sdB (cbK j c j))) ∧ ∃ n, w' = w2.drewN n := by
              have := l9s_any w2 _ (some ⟨g, 0, none⟩) c' (pulK (cbK j c j) 1 1 (cbK j c j).length) (by rw [HPL.out]; omega) (fun i => by have := pul1_sml (cbK j c j) i; omega) ho.ints
              rwa [HPL.out] at this
            have HK2 := Lib.hid K2
            clear K2 ho hb HBX HK1
            go_wp2_with fail
            refine HK2.out.mono ?_
            rintro e w3 ⟨rfl, nd, hw3⟩
            have hb : Below w2.heap.size w2 w3 := by rw [hw3]; exact below_drewN (Below.refl _ _) _
            replace HA : Hid (OwnA w3 w.heap.size w3.heap.size (some ⟨ge, 0, none⟩) ce (cbK j c j)) := Lib.hid (by have h3 := HA.out.on hb; exact ⟨h3.own, fun g e => Nat.lt_of_lt_of_le (h3.lt g e) h3.up, Nat.le_refl _⟩)
            replace HOX : Hid (OwnA w3 w.heap.size w3.heap.size a ca (mdl j c).1) := Lib.hid (by have h3 := HOX.out.on hb; exact ⟨h3.own, fun g e => Nat.lt_of_lt_of_le (h3.lt g e) h3.up, Nat.le_refl _⟩)
            replace HB := Lib.hid (bel_end HB.out hb)
            clear hw3 hb HK2
            have HSM := Lib.hid (mdl_succ j c)
            by_cases hd : (mdl j c).2 < 0 ∨ sdB (cbK j c j) < (mdl j c).2
            case pos =>
              have HS : Hid (stM (mdl j c) (cbK j c j) = (cbK j c j, sdB (cbK j c j))) := Lib.hid (stM_in hd)
              obtain ⟨S, hS⟩ : ∃ S, sdB (cbK j c j) = S := ⟨_, rfl⟩
              obtain ⟨t, ht⟩ : ∃ t, (mdl j c).2 = t := ⟨_, rfl⟩
              rw [hS] at HS hd HSid ⊢
              rw [ht] at hd ⊢
              clear hS ht
              obtain ⟨s1, s2⟩ := HSid.out
              have hdd : t < 0 ∨ ¬ t < 0 ∧ S < t := by omega
              clear hd
              rcases hdd with h0 | ⟨h0, h1⟩
              all_goals
                go_wp2_with fail
                go_roundw
                (case rel => exact ⟨c + 1, some ⟨ge, 0, none⟩, ce, by omega, by go_num, by rw [HSM.out, HS.out], by rw [HSM.out, HS.out]; exact congrArg (fun n => Value.slice (some ⟨ge, 0, none⟩) n ce) HL.out.symm, by rw [HSM.out, HS.out]; exact HA.out, HB.out⟩)
                (case measure => simp [intOf]; omega)
            case neg =>
              have HS : Hid (stM (mdl j c) (cbK j c j) = mdl j c) := Lib.hid (stM_out hd)
              obtain ⟨S, hS⟩ : ∃ S, sdB (cbK j c j) = S := ⟨_, rfl⟩
              obtain ⟨t, ht⟩ : ∃ t, (mdl j c).2 = t := ⟨_, rfl⟩
              have HT := Lib.hid ht
              rw [hS] at hd HSid ⊢
              rw [ht] at hd ⊢
              clear hS ht
              obtain ⟨s1, s2⟩ := HSid.out
              have h0 : ¬ t < 0 := by omega
              have h1 : ¬ S < t := by omega
              clear hd
              go_wp2_with fail
              go_roundw
              (case rel => exact ⟨c + 1, a, ca, by omega, by go_num, by rw [HSM.out, HS.out, HT.out], by rw [HSM.out, HS.out], by rw [HSM.out, HS.out]; exact HOX.out, HB.out⟩)
              (case measure => simp [intOf]; omega)
      · obtain rfl : c = P := by omega
        go_wp2
        go_ret2
        exact ⟨a, ca, by rw [H1.out, H2.out]; rfl, by rw [H2.out]; exact HO.out, HB.out⟩

set_option maxRecDepth 100000 in
set_option maxHeartbeats 4000000 in
theorem lbcd (n : Int) (v0 : (Lit.int .i64 n).wf = true) (w : World) :
    Calls Try.prog 13 #[.int .i64 n] w fun e w' => e = .returned (.bool true) ∧ Below w.heap.size w w' := by
  have l12 := bcL_len n
  obtain ⟨LL, hL⟩ : ∃ x, bcL n = x := ⟨_, rfl⟩
  obtain ⟨qq, hqq⟩ : ∃ x, bcC n = x := ⟨_, rfl⟩
  rw [hL] at l12
  have S1 : Hid (∀ (W : World), Calls Try.prog 34 #[.int .i64 n] W fun e w' => ∃ (a' : Option Addr) (c' : Nat), e = .returned (.tuple #[.slice a' LL.length c', .int .i64 qq]) ∧ OwnA w' W.heap.size w'.heap.size a' c' LL ∧ Below W.heap.size W w') := Lib.hid (fun W => by have := sbc_any W n; rwa [hL, hqq] at this)
  have S2 : Hid (∀ (W : World), Calls Try.prog 33 #[.int .i64 n] W fun e w' => ∃ (a' : Option Addr) (c' : Nat), e = .returned (.tuple #[.slice a' LL.length c', .int .i64 qq]) ∧ OwnA w' W.heap.size w'.heap.size a' c' LL ∧ Below W.heap.size W w') := Lib.hid (fun W => by have := ibc_any W n; rwa [hL, hqq] at this)
  clear hL hqq v0
  have HB := Lib.hid (Below.refl w.heap.size w)
  go_enter Try.func13, Try.ntmps13
  go_wp2_with fail
  refine (S1.out _).mono ?_
  rintro e w1 ⟨sa, sc, rfl, ho, hb⟩
  replace HB := Lib.hid (bel_end HB.out hb)
  have q1 := hb.size
  have HS := Lib.hid ho
  clear ho hb
  go_wp2_with fail
  refine (S2.out _).mono ?_
  rintro e w2 ⟨ga, gc, rfl, ho, hb⟩
  replace HS := Lib.hid (HS.out.on hb)
  replace HB := Lib.hid (bel_end HB.out hb)
  have q2 := hb.size
  have HG := Lib.hid ho
  clear ho hb
  go_wp2_with fail
  refine (eql_any _ _ _ _ _ LL (by omega) HG.out.ints HS.out.ints).mono ?_
  rintro e w3 ⟨rfl, hb⟩
  replace HS := Lib.hid (HS.out.on hb)
  replace HG := Lib.hid (HG.out.on hb)
  replace HB := Lib.hid (bel_end HB.out hb)
  have q3 := hb.size
  clear hb
  go_wp2_with fail
  refine (mka_any _ _ _ _ _ LL 1 HG.out (by omega) (by omega) (by omega)).mono ?_
  rintro e w4 ⟨rfl, ho, hk⟩
  replace HS := Lib.hid (HS.out.kept hk (by omega))
  replace HB := Lib.hid (HB.out.trans ((hk.below (by omega)).mono (by omega)))
  replace HG := Lib.hid ho
  have q4 := hk.size
  clear ho hk
  go_wp2_with fail
  refine (hdi_any _ _ _ _ LL.length 1 HG.out.ints (by omega) (by omega) (by omega)).mono ?_
  rintro e w_ ⟨rfl, rfl⟩
  go_wp2_with fail
  refine (S2.out _).mono ?_
  rintro e w5 ⟨ha, hc, rfl, ho, hb⟩
  replace HS := Lib.hid (HS.out.on hb)
  replace HG := Lib.hid (HG.out.on hb)
  replace HB := Lib.hid (bel_end HB.out hb)
  have q5 := hb.size
  have HH := Lib.hid ho
  clear ho hb
  go_wp2_with fail
  refine (eql_any _ _ _ _ _ LL (by omega) HH.out.ints HS.out.ints).mono ?_
  rintro e w6 ⟨rfl, hb⟩
  replace HS := Lib.hid (HS.out.on hb)
  replace HG := Lib.hid (HG.out.on hb)
  replace HH := Lib.hid (HH.out.on hb)
  replace HB := Lib.hid (bel_end HB.out hb)
  have q6 := hb.size
  clear hb
  clear HH
  go_wp2_with fail
  refine (hdi_any _ _ _ _ LL.length 1 HG.out.ints (by omega) (by omega) (by omega)).mono ?_
  rintro e w_ ⟨rfl, rfl⟩
  go_wp2
  go_ret
  exact ⟨rfl, HB.out⟩
end Go.Proofs.Ytpnebnjpeiieaaa
