/- Contract of FindEchoes, the model's. -/
import Derived.Test.YthfaejhiabdkbabMfF
import Derived.Deep.QuietTactic
import Derived.BigQuiet
import Derived.StillTailTactics
namespace Go.Proofs.Ythfaejhiabdkbab
open Go.ChangeShapes Go.WideShapes Go.ChangeAt Go.RowKit Go.Shelf Num
set_option linter.unusedVariables false
set_option linter.unusedSimpArgs false
set_option maxHeartbeats 1000000 in
theorem lno_any (w : World) (ad : Addr) (c n : Nat) (zs : List Int) (hn : zs.length = n) (hl : n ≤ 1048576) (hz : Ints .i64 w w.heap.size (some ad) zs) :
    Calls Try.prog 41 #[.slice (some ad) n c] w fun e w' => ∃ (g c' : Nat), e = .returned (.slice (some ⟨g, 0, none⟩) n c') ∧ w'.ownsRow w.heap.size 2 1 (.slice (some ⟨g, 0, none⟩) n c') n (zs.map iv4) ∧ Below w.heap.size w w' := by
  obtain ⟨i0, hi, hz0, hz1, hz2⟩ := info_parts info_i64
  have hnews : ∀ j u, (zs.map iv4)[j]? = some u → w.cell? (ad.add j) = some u := by
    rcases Nat.eq_zero_or_pos zs.length with h | h
    · intro j u hu
      rw [List.getElem?_eq_none (by simp; omega)] at hu
      cases hu
    · obtain ⟨b, off, e, -, hc⟩ := hz h
      cases e
      exact ints_cells (B := 0) hc
  have HN := Lib.hid hnews
  have HL := Lib.hid hn
  have how : Hid ((w.alloc (.cells #[] 2)).ownsRow w.heap.size 2 1 (.slice (some ⟨w.heap.size, 0, none⟩) 0 0) 0 []) := Lib.hid (World.ownsRow_lit w #[] 0 (Nat.le_refl w.heap.size) (by decide) (by decide))
  clear hnews hz hn
  go_enter Try.func41, Try.ntmps41
  go_wp2_with (at_builtin; refine wpList_append_own _ rfl _ _ 30 rfl w.heap.size 2 i0 (.int .i64 0) 1 8 Try.underlying30 hi hz0 hz1 hz2 rfl (by decide) _ _ _ rfl how.out ad n c (zs.map iv4) rfl ?qc1 ?qc2 ?qc3 ?qc4 ?qc5 ?qc6 ?_)
  case qc1 => rw [List.length_map, HL.out, Nat.mul_one]
  case qc2 =>
    intro j u hj
    exact Lib.cell?_alloc_some _ (HN.out j u hj)
  case qc3 => exact one_iv4
  case qc4 => unfold maxLen; omega
  case qc5 => omega
  case qc6 => simp
  intro v' w1 hown hgrow hnil
  have HB : Hid (Below w.heap.size w w1) := Lib.hid (((Below.refl _ w).alloc (Nat.le_refl _) _).grown hgrow (by simp) (by intro k hk; simp [Value.ownBlock] at hk; omega))
  obtain ⟨g, c', rfl⟩ : ∃ g c', v' = .slice (some ⟨g, 0, none⟩) n c' := by
    rcases hown.2 with ⟨h', -⟩ | ⟨g, cap', cur, hv, -⟩
    · exact absurd h' hnil
    · exact ⟨g, cap', hv⟩
  have HO := Lib.hid hown
  clear hown hgrow hnil
  go_wp2
  go_ret
  exact ⟨g, c', rfl, HO.out, HB.out⟩
theorem sumT_zero {f : Nat → Int} : ∀ {m : Nat}, (∀ i, i < m → 0 ≤ f i) → sumT f m = 0 → ∀ i, i < m → f i = 0
  | 0, _, _, i, hi => absurd hi (Nat.not_lt_zero _)
  | m + 1, h, hs, i, hi => by
    rw [sumT_succ] at hs
    have h1 := sumT_nonneg (f := f) (m := m) (fun i hi => h i (by omega))
    have h2 := h m (by omega)
    by_cases e : i = m
    · subst e; omega
    · exact sumT_zero (m := m) (fun i hi => h i (by omega)) (by omega) i (by omega)
theorem cor0_zero {ps : List Int} (h : cor ps 0 = 0) : ∀ i, i < ps.length → ps.getD i 0 = 0 := fun i hi => by
  unfold cor dotT at h
  rw [List.drop_zero, Nat.sub_zero] at h
  have := sumT_zero (fun i _ => sq_nonneg (ps.getD i 0)) h i hi
  rcases Int.mul_eq_zero.1 this with e | e <;> exact e
theorem fVl_zero {ps rest : List Int} (h : cor ps 0 = 0) : fVl ps rest = 0 := by
  have h1 := cor0_zero h
  have h2 : ∀ k, mtA rest ps k = 0 := fun k => by
    unfold mtA dotT
    have : sumT (fun i => ps.getD i 0 * (rest.drop k).getD i 0) ps.length = sumT (fun _ => 0) ps.length := sumT_congr (fun i hi => by rw [h1 i hi, Int.zero_mul])
    rw [this]
    generalize ps.length = m
    induction m with
    | zero => rfl
    | succ m ih => rw [sumT_succ, ih]; rfl
  unfold fVl mtL
  by_cases hk : fAt ps rest < mtN rest ps
  · rw [mtK_at _ _ hk]; exact h2 _
  · exact getD_outP (by rw [mtK_len]; exact hk)
theorem cor0_ne {ps rest : List Int} {th : Int} (t1 : 1 ≤ th) (h : ¬ ((fVl ps rest).natAbs : Int) < th) : ¬ cor ps 0 = 0 := fun e => by
  have := fVl_zero (rest := rest) e
  rw [this] at h
  exact h (by omega)
theorem fGn_near {ps rest : List Int} {th : Int} (hm : mtC rest ps = 0) (t1 : 1 ≤ th) (h : ¬ ((fVl ps rest).natAbs : Int) < th) : fGn ps th rest = near (fVl ps rest) (cor ps 0) := by
  obtain ⟨v1, v2⟩ := fVl_bd hm
  obtain ⟨h1, h2, -, -⟩ := mtC_0 hm
  obtain ⟨c1, c2⟩ := cor_bd (sigB_t h2).2 (sigB_t h2).1 0
  have h0 := cor0_ne t1 h
  rw [fGn_hi h]
  unfold nqv
  rw [if_pos]
  unfold dcode valB
  rw [decide_eq_true (by omega), decide_eq_true (by omega), show (cor ps 0 == 0) = false by simpa using h0]
  rfl

set_option maxRecDepth 100000 in
set_option maxHeartbeats 8000000 in
theorem sfe_any (w : World) (a b : Option Addr) (c d : Nat) (ss ps : List Int) (th mo : Int) (l1 : ss.length ≤ 1048576) (l2 : ps.length ≤ 1048576) (hz : Ints .i64 w w.heap.size a ss) (hy : Ints .i64 w w.heap.size b ps) :
    Calls Try.prog 13 #[.slice a ss.length c, .slice b ps.length d, .int .i64 th, .int .i64 mo] w fun e w' => ∃ (a' : Option Addr) (c' : Nat) (b' : Option Addr) (d' : Nat), e = .returned (.tuple #[.slice a' (feD ss ps th mo).length c', .slice b' (feG ss ps th mo).length d', .int .i64 (feC ss ps th mo)]) ∧ OwnQ w' w.heap.size w'.heap.size a' c' b' d' (feD ss ps th mo) (feG ss ps th mo) ∧ Below w.heap.size w w' := by
  obtain ⟨i0, hi, hz0, hz1, hz2⟩ := info_parts info_i64
  have HZ := Lib.hid hz
  have HY := Lib.hid hy
  clear hz hy
  by_cases h : mtC ss ps = 0
  case neg =>
    have H0 : Hid (feC ss ps th mo = mtC ss ps) := Lib.hid (feC_err h)
    have H1 : Hid (feD ss ps th mo = [] ∧ feG ss ps th mo = []) := Lib.hid (feD_no (by rw [feC_err h]; exact h))
    have hC : (mtC ss ps != 0) = true := by simpa using h
    have hC2 : (mtC ss ps == 0) = false := by simpa using h
    go_enter Try.func13, Try.ntmps13
    go_wp2_with fail
    refine (smc_any w _ _ a b c d ss ps l1 l2 HZ.out HY.out).mono ?_
    rintro e w1 ⟨rfl, rfl⟩
    go_wp2
    go_ret3
    exact ⟨none, 0, none, 0, by rw [H1.out.1, H1.out.2, H0.out]; rfl, by rw [H1.out.1, H1.out.2]; exact OwnQ.nil _ _ _ (Nat.le_refl _), Below.refl _ _⟩
  case pos =>
    have HC := Lib.hid h
    have et := hasB_inB th 1 1000000000000
    have em := hasB_inB mo 0 10
    cases ht : inB th 1 1000000000000
    case false =>
      rw [ht] at et
      have H0 : Hid (feC ss ps th mo = 2) := Lib.hid (feC_rng h (by rw [et]; rfl))
      have H1 : Hid (feD ss ps th mo = [] ∧ feG ss ps th mo = []) := Lib.hid (feD_no (by rw [H0.out]; decide))
      clear et em
      go_enter Try.func13, Try.ntmps13
      go_wp2_with fail
      refine (smc_any w _ _ a b c d ss ps l1 l2 HZ.out HY.out).mono ?_
      rintro e w1 ⟨rfl, rfl⟩
      rw [HC.out]
      go_wp2_with (go_at_call 40; refine (lin_any _ _ _ _).mono ?_; rw [ht]; rintro e w' ⟨rfl, rfl⟩)
      go_ret3
      exact ⟨none, 0, none, 0, by rw [H1.out.1, H1.out.2, H0.out]; rfl, by rw [H1.out.1, H1.out.2]; exact OwnQ.nil _ _ _ (Nat.le_refl _), Below.refl _ _⟩
    case true =>
      rw [ht] at et
      cases hm : inB mo 0 10
      case false =>
        rw [hm] at em
        have H0 : Hid (feC ss ps th mo = 2) := Lib.hid (feC_rng h (by rw [et, em]; rfl))
        have H1 : Hid (feD ss ps th mo = [] ∧ feG ss ps th mo = []) := Lib.hid (feD_no (by rw [H0.out]; decide))
        clear et em
        go_enter Try.func13, Try.ntmps13
        go_wp2_with fail
        refine (smc_any w _ _ a b c d ss ps l1 l2 HZ.out HY.out).mono ?_
        rintro e w1 ⟨rfl, rfl⟩
        rw [HC.out]
        go_wp2_with (first | (go_at_call 40; with_reducible refine Calls.mono (lin_any th _ _ _) ?_; rw [ht]; rintro e w' ⟨rfl, rfl⟩) | (go_at_call 40; with_reducible refine Calls.mono (lin_any mo _ _ _) ?_; rw [hm]; rintro e w' ⟨rfl, rfl⟩))
        go_ret3
        exact ⟨none, 0, none, 0, by rw [H1.out.1, H1.out.2, H0.out]; rfl, by rw [H1.out.1, H1.out.2]; exact OwnQ.nil _ _ _ (Nat.le_refl _), Below.refl _ _⟩
      case true =>
        rw [hm] at em
        have HTM : Hid ((hasB 1 1000000000000 th && hasB 0 10 mo) = true) := Lib.hid (by rw [et, em]; rfl)
        clear et em
        obtain ⟨t1, t2⟩ := inB_t ht
        obtain ⟨m0, m1⟩ := inB_t hm
        obtain ⟨M, rfl⟩ : ∃ M : Nat, mo = (M : Int) := ⟨mo.toNat, by omega⟩
        obtain ⟨s1, s2, p0, pl⟩ := mtC_0 h
        have h4 := (sigB_t s1).1
        have HP := Lib.hid (sigB_t s2).2
        have hp4 := (sigB_t s2).1
        obtain ⟨n, hn⟩ : ∃ n, ss.length = n := ⟨_, rfl⟩
        have HN := Lib.hid hn
        have KM : Hid (Calls Try.prog 39 #[.slice a n c, .slice b ps.length d] w fun e w' => e = .returned (.int .i64 0) ∧ w = w') := Lib.hid (by have := smc_any w _ _ a b c d ss ps l1 l2 HZ.out HY.out; rwa [HC.out, hn] at this)
        obtain ⟨ad, ha⟩ : ∃ ad, a = some ad := by
          obtain ⟨b1, o1, e, -⟩ := HZ.out (by omega)
          exact ⟨_, e⟩
        subst ha
        have KC := Lib.hid (lno_any w ad c n ss hn (by omega) HZ.out)
        rw [hn] at h4 pl ⊢
        clear hn s1 s2 h l1
        go_enter Try.func13, Try.ntmps13
        go_wp2_with fail
        refine KM.out.mono ?_
        rintro e w1 ⟨rfl, rfl⟩
        go_wp2_with (first | (go_at_call 40; with_reducible refine Calls.mono (lin_any th _ _ _) ?_; rw [ht]; rintro e w' ⟨rfl, rfl⟩) | (go_at_call 40; with_reducible refine Calls.mono (lin_any (M : Int) _ _ _) ?_; rw [hm]; rintro e w' ⟨rfl, rfl⟩))
        refine KC.out.mono ?_
        rintro e w3 ⟨G, cG, rfl, hrow, hb⟩
        go_upto_region 8 with fail
        obtain ⟨W, hW⟩ : ∃ X, X = (w3.alloc (.cells #[] 2)).alloc (.cells #[] 2) := ⟨_, rfl⟩
        have HF0 : Hid (F3 w G cG n ss (some ⟨w3.heap.size, 0, none⟩) 0 [] (some ⟨w3.heap.size + 1, 0, none⟩) 0 [] W) := Lib.hid (by
          rw [hW]
          have hG := (hrow.lt G rfl).2
          have hsz := hb.size
          refine ⟨own_bel hrow (by repeat (first | exact Below.refl _ _ | (refine Below.alloc ?_ (by simp <;> omega) _) | (refine Below.setCell ?_ (by simp <;> omega) _) | (refine Below.drew ?_) | (refine bel_drewN ?_ _))), own_bel (World.ownsRow_lit (base := w.heap.size) (e := 2) (size := 1) w3 #[] 0 hsz (by decide) (by decide)) (by repeat (first | exact Below.refl _ _ | (refine Below.alloc ?_ (by simp <;> omega) _) | (refine Below.setCell ?_ (by simp <;> omega) _) | (refine Below.drew ?_) | (refine bel_drewN ?_ _))), ?_, ?_, ?_, ?_, bel_end hb (by repeat (first | exact Below.refl _ _ | (refine Below.alloc ?_ (by simp <;> omega) _) | (refine Below.setCell ?_ (by simp <;> omega) _) | (refine Below.drew ?_) | (refine bel_drewN ?_ _))), HN.out⟩
          · have := World.ownsRow_lit (base := w.heap.size) (e := 2) (size := 1) (w3.alloc (.cells #[] 2)) #[] 0 (by simp; omega) (by decide) (by decide)
            rwa [World.size_alloc] at this
          · intro e; simp only [Value.ownBlock, Option.some.injEq] at e; omega
          · intro e; simp only [Value.ownBlock, Option.some.injEq] at e; omega
          · intro g e e'; simp only [Value.ownBlock, Option.some.injEq] at e e'; omega)
        rw [← hW]
        obtain ⟨g1, hg1⟩ : ∃ g, w3.heap.size = g := ⟨_, rfl⟩
        rw [hg1] at HF0 ⊢
        obtain ⟨g2, hg2⟩ : ∃ g, g1 + 1 = g := ⟨_, rfl⟩
        rw [hg2] at HF0 ⊢
        clear hrow hb KM KC hW hg1 hg2
        obtain ⟨RES, hR⟩ : ∃ RES, fGo ps th M ss [] [] = RES := ⟨_, rfl⟩
        have HFIN : Hid (∀ ds gs, RES = (ds, gs, 0) → feC ss ps th (M : Int) = 0 ∧ feD ss ps th (M : Int) = ds ∧ feG ss ps th (M : Int) = gs) := Lib.hid (fun ds gs e => fe_fin HC.out HTM.out (by rw [Int.toNat_natCast, hR, e]))
        have HBAD : Hid (RES = ([], [], 3) → feC ss ps th (M : Int) = 3 ∧ feD ss ps th (M : Int) = [] ∧ feG ss ps th (M : Int) = []) := Lib.hid (fun e => fe_bad HC.out HTM.out (by rw [Int.toNat_natCast, hR, e]))
        have HR0 : Hid (fGo ps th (M - 0) ss [] [] = RES) := Lib.hid hR
        clear hR
        go_wp2_with fail
        go_loopw [13, 14, 15] (fun x y i wr => ∃ (k : Nat) (a' : Option Addr) (c' : Nat) (ds : List Int) (b' : Option Addr) (d' : Nat) (gs R : List Int), k ≤ M ∧ i = .int .i64 (k : Int) ∧ x = .slice a' ds.length c' ∧ y = .slice b' gs.length d' ∧ F3 w G cG n R a' c' ds b' d' gs wr ∧ mtC R ps = 0 ∧ (ds.length ≤ k ∧ gs.length ≤ k) ∧ fGo ps th (M - k) R ds gs = RES) (fun _ _ i _ => M - (intOf i).toNat)
        case atStart => exact ⟨0, some ⟨g1, 0, none⟩, 0, [], some ⟨g2, 0, none⟩, 0, [], ss, Nat.zero_le _, rfl, rfl, rfl, HF0.out, HC.out, ⟨Nat.le_refl _, Nat.le_refl _⟩, HR0.out⟩
        case round =>
          obtain ⟨k, a', c', ds, b', d', gs, R, hk, rfl, rfl, rfl, hF, hmt, ⟨hd1, hg1⟩, hgo⟩ := hrel
          rename_i wr
          have HF := Lib.hid hF
          have HMT := Lib.hid hmt
          have HGO := Lib.hid hgo
          clear hF hmt hgo HF0 HR0
          by_cases hlt : k < M
          case neg =>
            obtain rfl : k = M := by omega
            have HF2 := Lib.hid (HFIN.out ds gs (by rw [← HGO.out, Nat.sub_self]; exact (fGo_0 ps th R ds gs).symm))
            have HO := Lib.hid (HF.out.two (Nat.le_refl _))
            have HB2 := Lib.hid HF.out.bel
            clear HF
            go_wp2
            go_ret3
            exact ⟨a', c', b', d', by rw [HF2.out.1, HF2.out.2.1, HF2.out.2.2]; rfl, by rw [HF2.out.2.1, HF2.out.2.2]; exact HO.out, HB2.out⟩
          case pos =>
            have hRn := HF.out.len
            have KE := ltm_any wr (some ⟨G, 0, none⟩) b cG d R ps HMT.out HF.out.restI ((HY.out.below HF.out.bel).more (Below.size HF.out.bel))
            rw [hRn] at KE
            have HKE := Lib.hid KE
            have HRN := Lib.hid hRn
            have HLn : Hid ((mtL R ps).length = n - ps.length + 1) := Lib.hid (by rw [mtL_len, hRn])
            have HSM : Hid (smlL 1000000000000 (mtL R ps)) := Lib.hid (fun i => by have := mtK_sml (sigB_t (mtC_0 HMT.out).1).2 (sigB_t (mtC_0 HMT.out).2.1).2 (sigB_t (mtC_0 HMT.out).2.1).1 (mtN R ps) i; unfold mtL; omega)
            have HAI := Lib.hid (fAt_in HMT.out)
            have HATE : Hid (fAt ps R = pkV (mtL R ps)) := Lib.hid rfl
            have hve := fVl_eq ps R
            have hvb := fVl_bd HMT.out
            have HLO := Lib.hid (fun h => fGn_lo (ps := ps) (rest := R) (th := th) h)
            have HHI := Lib.hid (fun h => fGn_near (ps := ps) (rest := R) (th := th) HMT.out t1 h)
            have HE0 := Lib.hid (fun h => cor0_ne (ps := ps) (rest := R) (th := th) t1 h)
            have HCB := Lib.hid (cor_bd HP.out hp4 0)
            clear KE hRn
            go_wp2_with fail
            refine HKE.out.mono ?_
            rintro e w4 ⟨tg, tc, rfl, ho, hb⟩
            have HO := Lib.hid ho
            replace HF := Lib.hid (HF.out.on hb)
            clear ho hb HKE
            obtain ⟨L, hL⟩ : ∃ L, mtL R ps = L := ⟨_, rfl⟩
            rw [hL] at HO HSM HLn HATE hve ⊢
            clear hL
            have hL0 : 0 < L.length := by rw [HLn.out]; omega
            have hL4 : L.length ≤ 1048576 := by rw [HLn.out]; omega
            go_wp2_with fail
            refine (lpk_any w4 _ _ L hL0 hL4 HSM.out HO.out.ints).mono ?_
            rintro e w5 ⟨rfl, hb⟩
            replace HO := Lib.hid (HO.out.on hb)
            replace HF := Lib.hid (HF.out.on hb)
            clear hb
            have hpl := pkV_lt hL0
            obtain ⟨bq, oq, heq, -, hcL⟩ := HO.out.ints.at_ (j := pkV L) hpl
            simp only [Option.some.injEq, Addr.mk.injEq, and_true] at heq
            obtain ⟨e1, e2⟩ := heq
            subst e1 e2
            rw [← hve] at hcL
            rw [← HATE.out] at hcL hpl ⊢
            clear hve HATE HO HSM hL4 hL0
            rw [Nat.zero_add] at hcL
            obtain ⟨v1, v2⟩ := hvb
            obtain ⟨e1, e2⟩ := HCB.out
            have hat := HAI.out
            rw [HRN.out] at hat
            have HGB := Lib.hid (fGn_bd th HMT.out)
            have KA := Lib.hid (fun (W : World) (hy : Ints .i64 W w.heap.size b ps) => l9a_any W _ b d 0 ps (Nat.zero_le _) hp4 HP.out hy)
            have HGO1 := Lib.hid (fun (h : fGn ps th R = 0) => HFIN.out ds gs (by rw [← HGO.out]; exact (fGo_stop h _ ds gs)))
            obtain ⟨E, hE⟩ : ∃ E, cor ps 0 = E := ⟨_, rfl⟩
            obtain ⟨v, hv⟩ : ∃ v, fVl ps R = v := ⟨_, rfl⟩
            rw [hE] at KA HHI HE0 e1 e2
            rw [hv] at v1 v2 HLO HHI HE0 hcL
            clear hE hv HCB
            by_cases hth : (v.natAbs : Int) < th
            case pos =>
              have HF2 := Lib.hid (HGO1.out (HLO.out hth))
              have HO2 := Lib.hid (HF.out.two (Nat.le_refl _))
              have HB2 := Lib.hid HF.out.bel
              clear HF
              go_wp2_with (go_at_call 44; refine (lab_any _ (by omega) (by omega) _).mono ?_; rintro e w' ⟨rfl, rfl⟩)
              go_ret3
              exact ⟨a', c', b', d', by rw [HF2.out.1, HF2.out.2.1, HF2.out.2.2]; rfl, by rw [HF2.out.2.1, HF2.out.2.2]; exact HO2.out, HB2.out⟩
            case neg =>
              have hE0 := HE0.out (by omega)
              have HGE : Hid (near v E = fGn ps th R) := Lib.hid (HHI.out (by omega)).symm
              have KN := Lib.hid (fun (W : World) => lnr_any v E (by omega) (by omega) hE0 (by omega) (by omega) W)
              have K1 := Lib.hid (fun (n : Nat) => KA.out (w5.drewN n) ((HY.out.below HF.out.bel).drewN n))
              replace hE0 := Lib.hid hE0
              go_wp2_with (go_at_call 44; refine (lab_any _ (by omega) (by omega) _).mono ?_; rintro e w' ⟨rfl, rfl⟩)
              go_quiet ((first | (go_at_call 45; exact Calls.quiet_of (K1.out _)) | (go_at_call 29; exact Calls.quiet_of_same ((KN.out _).mono fun _ _ h => ⟨h.1, h.2.symm⟩))))
              rw [HGE.out]
              obtain ⟨W6, hW6⟩ : ∃ X, X = w5.drewN nq := ⟨_, rfl⟩
              replace HF : Hid (F3 w G cG n R a' c' ds b' d' gs W6) := Lib.hid (by rw [hW6]; exact HF.out.on (below_drewN (Below.refl _ _) _))
              rw [← hW6]
              clear hW6 K1 KA KN hcL hpl HLO HHI HE0 hE0
              by_cases hg0 : fGn ps th R = 0
              case pos =>
                have HF2 := Lib.hid (HGO1.out hg0)
                have HO2 := Lib.hid (HF.out.two (Nat.le_refl _))
                have HB2 := Lib.hid HF.out.bel
                rw [hg0]
                clear HF hg0
                go_wp2
                go_ret3
                exact ⟨a', c', b', d', by rw [HF2.out.1, HF2.out.2.1, HF2.out.2.2]; rfl, by rw [HF2.out.2.1, HF2.out.2.2]; exact HO2.out, HB2.out⟩
              case neg =>
                obtain ⟨r, hr⟩ : ∃ r, M - k = r + 1 := ⟨M - k - 1, by omega⟩
                have hgo2 := HGO.out
                rw [hr] at hgo2
                have HBD : Hid (sigB (fNx ps th R) = false → RES = ([], [], 3)) := Lib.hid (fun e => by rw [← hgo2, fGo_bad hg0 e])
                have HNX : Hid (sigB (fNx ps th R) = true → fGo ps th (M - (k + 1)) (fNx ps th R) (ds ++ [((fAt ps R : Nat) : Int)]) (gs ++ [fGn ps th R]) = RES) := Lib.hid (fun e => by rw [show M - (k + 1) = r by omega, ← hgo2, fGo_next hg0 e])
                have hg0b : (fGn ps th R == 0) = false := by simpa using hg0
                obtain ⟨b1, b2⟩ := HGB.out
                have HNE : Hid (fNx ps th R = addE R (fAt ps R) (-(fGn ps th R)) ps ps.length) := Lib.hid rfl
                have HNL : Hid ((fNx ps th R).length = n) := Lib.hid (by rw [fNx_len]; exact HRN.out)
                clear hgo2 hr HGO HGB HGO1
                obtain ⟨at_, hA⟩ : ∃ at_, fAt ps R = at_ := ⟨_, rfl⟩
                obtain ⟨gn, hG⟩ : ∃ gn, fGn ps th R = gn := ⟨_, rfl⟩
                obtain ⟨NX, hN⟩ : ∃ NX, fNx ps th R = NX := ⟨_, rfl⟩
                rw [hA, hG, hN] at HNX HNE
                rw [hN] at HBD HNL
                rw [hG] at b1 b2 hg0b ⊢
                rw [hA] at hat ⊢
                clear hA hG hN hg0
                have HS := Lib.hid (sigB_t (mtC_0 HMT.out).1).2
                have HAT : Hid (∀ j, j ≤ ps.length → (addE R at_ (-gn) ps j).getD (at_ + j) 0 = R.getD (at_ + j) 0) := Lib.hid (fun j hj => by rw [addE_at R at_ (-gn) ps j _ (by rw [HRN.out]; omega), if_neg (by omega)])
                have HLA := Lib.hid (fun j => (addE_len R at_ (-gn) ps j).trans HRN.out)
                go_wp2_with fail
                go_loopw [19] (fun x wi => ∃ j : Nat, j ≤ ps.length ∧ x = .int .i64 (j : Int) ∧ F3 w G cG n (addE R at_ (-gn) ps j) a' c' ds b' d' gs wi) (fun x _ => ps.length - (intOf x).toNat)
                case atStart => exact ⟨0, Nat.zero_le _, rfl, HF.out⟩
                case round =>
                  obtain ⟨j, hj, rfl, hFi⟩ := hrel
                  replace HF := Lib.hid hFi
                  clear hFi
                  by_cases hlj : j < ps.length
                  case pos =>
                    obtain ⟨bp, op, rb, hB1, hc1⟩ := (HY.out.below HF.out.bel).at_ hlj
                    subst rb
                    have hs := addE_succ R at_ (-gn) ps j
                    have hv := HS.out (at_ + j)
                    have hatj := HAT.out j hj
                    have hx2 := HP.out j
                    have cR : wr.cell? ⟨G, at_ + j, none⟩ = some (.int .i64 ((addE R at_ (-gn) ps j).getD (at_ + j) 0)) := by
                      rw [HF.out.rest.cellAt (at_ + j) (by omega), List.getElem?_map, List.getElem?_eq_getElem (by rw [HLA.out]; omega), List.getD_eq_getElem?_getD, List.getElem?_eq_getElem (by rw [HLA.out]; omega)]; rfl
                    have fR := HF.out.rest.frozenAt (at_ + j)
                    obtain ⟨x, hx⟩ : ∃ x, ps.getD j 0 = x := ⟨_, rfl⟩
                    obtain ⟨u, hu⟩ : ∃ u, (addE R at_ (-gn) ps j).getD (at_ + j) 0 = u := ⟨_, rfl⟩
                    rw [hx] at hc1 hs hx2
                    rw [hu] at cR hs hatj
                    rw [← hatj] at hv
                    have hpr := prod_bdG (x := gn) (y := x) ⟨by omega, by omega⟩ hx2
                    obtain ⟨p1, p2⟩ := hpr
                    obtain ⟨q1, q2⟩ := hv
                    have HSS : Hid (addE R at_ (-gn) ps (j + 1) = (addE R at_ (-gn) ps j).set (at_ + j) (u - gn * x)) := Lib.hid (by rw [hs, Int.neg_mul, Int.sub_eq_add_neg])
                    have ej : IntKind.wrap .i64 ((at_ : Int) + (j : Int)) = (at_ : Int) + (j : Int) := IntWalk.i64_in _ (by omega)
                    have ejn : ((at_ : Int) + (j : Int)).toNat = at_ + j := by omega
                    have ejp : 0 ≤ (at_ : Int) + (j : Int) := by omega
                    have ejl : (at_ : Int) + (j : Int) < (n : Int) := by omega
                    have exy : IntKind.wrap .i64 (gn * x) = gn * x := IntWalk.i64_in _ (by omega)
                    have exs : IntKind.wrap .i64 (u - gn * x) = u - gn * x := IntWalk.i64_in _ (by omega)
                    clear hx hu hs hatj hx2
                    go_wp2_with fail
                    go_still_tail 18, (by kernel_rfl)
                    go_wp2_with fail
                    go_roundw
                    case rel => exact ⟨j + 1, by omega, by go_num, by rw [HSS.out]; exact (HF.out.on (Below.refl _ _).drew).turn (own_set (HF.out.on (Below.refl _ _).drew).rest _ _) (by rw [List.length_set]; exact HLA.out j) (grown_cell (grown_id _ _) _ _)⟩
                    case measure => simp [intOf]; omega
                  case neg =>
                    obtain rfl : j = ps.length := by omega
                    rw [← HNE.out] at HF
                    have KS := ssg_any wr wr.heap.size (some ⟨G, 0, none⟩) cG NX (by rw [HNL.out]; omega) HF.out.restI
                    rw [HNL.out] at KS
                    have HKS := Lib.hid KS
                    clear KS
                    cases hsg : sigB NX
                    case false =>
                      rw [hsg] at HKS
                      have HF2 := Lib.hid (HBAD.out (HBD.out hsg))
                      have HB2 := Lib.hid HF.out.bel
                      clear HF
                      go_wp2_with (go_at_call 46; refine HKS.out.mono ?_; rintro e w' ⟨rfl, rfl⟩)
                      go_ret3
                      exact ⟨none, 0, none, 0, by rw [HF2.out.1, HF2.out.2.1, HF2.out.2.2]; rfl, by rw [HF2.out.2.1, HF2.out.2.2]; exact OwnQ.nil _ _ _ (Nat.le_refl _), HB2.out⟩
                    case true =>
                      rw [hsg] at HKS
                      have HGO2 := Lib.hid (HNX.out hsg)
                      have HMT2 := Lib.hid (mtC_keep HC.out hsg (by rw [HNL.out, HN.out]))
                      clear HBD HNX
                      go_wp2_with fail
                      refine HKS.out.mono ?_
                      rintro e w' ⟨rfl, rfl⟩
                      go_wp2_with (first | (at_builtin; refine wpList_append_lies _ rfl _ _ 30 rfl w.heap.size 2 i0 (.int .i64 0) 1 8 Try.underlying30 hi hz0 hz1 hz2 rfl (by decide) (.slice a' ds.length c') (ds.length) ((ds).map iv4) rfl (HF.out.fst.alloc _) ⟨wr.heap.size, 0, none⟩ 1 1 [.int .i64 ((at_ : Int))] rfl rfl (World.news_of_block (cs := #[.int .i64 ((at_ : Int))]) (t := 2) (fr := (0, 0)) (heap_alloc_new wr _)) (by simp [Value.oneCell']) (by decide) (by unfold maxLen; omega) (by omega) (by simp; exact Nat.le_succ_of_le HF.out.bel.size) (wr.heap.size + 1) (by simp) ?_; intro g2 cp2 w9 hown hgrow hat hlt9; replace HF := Lib.hid (HF.out.put hown hgrow hat); clear hown hgrow hat hlt9) | (at_builtin; refine wpList_append_lies _ rfl _ _ 30 rfl w.heap.size 2 i0 (.int .i64 0) 1 8 Try.underlying30 hi hz0 hz1 hz2 rfl (by decide) (.slice b' gs.length d') (gs.length) ((gs).map iv4) rfl (HF.out.snd.alloc _) ⟨w9.heap.size, 0, none⟩ 1 1 [.int .i64 (gn)] rfl rfl (World.news_of_block (cs := #[.int .i64 (gn)]) (t := 2) (fr := (0, 0)) (heap_alloc_new w9 _)) (by simp [Value.oneCell']) (by decide) (by unfold maxLen; omega) (by omega) (by simp; exact Nat.le_succ_of_le HF.out.bel.size) (w9.heap.size + 1) (by simp) ?_; intro g3 cp3 w10 hown hgrow hat hlt9; replace HF := Lib.hid (HF.out.swap.put hown hgrow hat); clear hown hgrow hat hlt9))
                      go_roundw
                      case rel => exact ⟨k + 1, some ⟨g2, 0, none⟩, cp2, ds ++ [(at_ : Int)], some ⟨g3, 0, none⟩, cp3, gs ++ [gn], NX, by omega, by go_num, by rw [List.length_append]; rfl, by rw [List.length_append]; rfl, HF.out.swap, HMT2.out, ⟨by rw [List.length_append]; simp; omega, by rw [List.length_append]; simp; omega⟩, HGO2.out⟩
                      case measure => simp [intOf]; omega
end Go.Proofs.Ythfaejhiabdkbab
