/- Contract of FindEchoes, the program's. -/
import Derived.Test.YthfaejhiabdkbabMfE
import Derived.Test.YthfaejhiabdkbabPuT
namespace Go.Proofs.Ythfaejhiabdkbab
open Go.ChangeShapes Go.WideShapes Go.ChangeAt Go.RowKit Go.Shelf Num
set_option linter.unusedVariables false
set_option linter.unusedSimpArgs false
theorem mtC_keep {ss ps R : List Int} (h : mtC ss ps = 0) (hs : sigB R = true) (hl : R.length = ss.length) : mtC R ps = 0 := by
  obtain ⟨h1, h2, h3, h4⟩ := mtC_0 h
  unfold mtC
  rw [hs, h2, decide_eq_false (by omega), decide_eq_false (by omega)]
  rfl
theorem feC_err {ss ps : List Int} {th mo : Int} (h : ¬ mtC ss ps = 0) : feC ss ps th mo = mtC ss ps := by unfold feC; rw [if_neg h]
theorem feC_rng {ss ps : List Int} {th mo : Int} (h : mtC ss ps = 0) (h2 : (hasB 1 1000000000000 th && hasB 0 10 mo) = false) : feC ss ps th mo = 2 := by unfold feC; rw [if_pos h, h2]; rfl
theorem feC_ok {ss ps : List Int} {th mo : Int} (h : mtC ss ps = 0) (h2 : (hasB 1 1000000000000 th && hasB 0 10 mo) = true) : feC ss ps th mo = (fGo ps th mo.toNat ss [] []).2.2 := by unfold feC; rw [if_pos h, h2]; rfl
theorem feD_no {ss ps : List Int} {th mo : Int} (h : ¬ feC ss ps th mo = 0) : feD ss ps th mo = [] ∧ feG ss ps th mo = [] := by unfold feD feG; rw [if_neg h, if_neg h]; exact ⟨rfl, rfl⟩
theorem feD_ok {ss ps : List Int} {th mo : Int} (h : feC ss ps th mo = 0) : feD ss ps th mo = (fGo ps th mo.toNat ss [] []).1 ∧ feG ss ps th mo = (fGo ps th mo.toNat ss [] []).2.1 := by unfold feD feG; rw [if_pos h, if_pos h]; exact ⟨rfl, rfl⟩
theorem fe_fin {ss ps ds gs : List Int} {th mo : Int} (h : mtC ss ps = 0) (h2 : (hasB 1 1000000000000 th && hasB 0 10 mo) = true) (hr : fGo ps th mo.toNat ss [] [] = (ds, gs, 0)) : feC ss ps th mo = 0 ∧ feD ss ps th mo = ds ∧ feG ss ps th mo = gs := by
  have e1 : feC ss ps th mo = 0 := by rw [feC_ok h h2, hr]
  obtain ⟨e2, e3⟩ := feD_ok e1
  rw [hr] at e2 e3
  exact ⟨e1, e2, e3⟩
theorem fe_bad {ss ps : List Int} {th mo : Int} (h : mtC ss ps = 0) (h2 : (hasB 1 1000000000000 th && hasB 0 10 mo) = true) (hr : fGo ps th mo.toNat ss [] [] = ([], [], 3)) : feC ss ps th mo = 3 ∧ feD ss ps th mo = [] ∧ feG ss ps th mo = [] := by
  have e1 : feC ss ps th mo = 3 := by rw [feC_ok h h2, hr]
  obtain ⟨e2, e3⟩ := feD_no (ss := ss) (ps := ps) (th := th) (mo := mo) (by rw [e1]; decide)
  exact ⟨e1, e2, e3⟩
theorem near_bd (a b : Int) (h0 : b ≠ 0) : -((a.natAbs : Int) + 2) ≤ near a b ∧ near a b ≤ (a.natAbs : Int) + 2 := by
  have := fdiv_bd a b
  unfold near
  split <;> omega
theorem nqv_bd (a b : Int) : -((a.natAbs : Int) + 2) ≤ nqv a b ∧ nqv a b ≤ (a.natAbs : Int) + 2 := by
  unfold nqv
  split
  · rename_i h
    exact near_bd a b (dcode_0 h).2.2
  · omega
theorem fGn_bd {ps rest : List Int} (th : Int) (h : mtC rest ps = 0) : -400000002 ≤ fGn ps th rest ∧ fGn ps th rest ≤ 400000002 := by
  have h1 := fVl_bd h
  have h2 := nqv_bd (fVl ps rest) (cor ps 0)
  unfold fGn
  split <;> omega
theorem fAt_in {ps rest : List Int} (h : mtC rest ps = 0) : fAt ps rest + ps.length ≤ rest.length := by
  obtain ⟨h1, h2, h3, h4⟩ := mtC_0 h
  have h5 := mtL_len rest ps
  have := pkV_lt (zs := mtL rest ps) (by omega)
  unfold fAt
  omega
theorem own_some {W : World} {lo hi n : Nat} {a : Option Addr} {c : Nat} {zs : List Int} (h : OwnA W lo hi a c zs) (hn : zs.length = n) (h0 : 0 < n) : ∃ g, a = some ⟨g, 0, none⟩ ∧ W.ownsRow lo 2 1 (.slice (some ⟨g, 0, none⟩) n c) n (zs.map iv4) := by
  subst hn
  rcases h.own.2 with ⟨hv, h1⟩ | ⟨g, cap, cur, hv, rest⟩
  · omega
  · simp only [Value.slice.injEq] at hv
    obtain ⟨rfl, -, -⟩ := hv
    exact ⟨g, rfl, h.own⟩

set_option maxRecDepth 100000 in
set_option maxHeartbeats 8000000 in
theorem ife_any (w : World) (a b : Option Addr) (c d : Nat) (ss ps : List Int) (th mo : Int) (l1 : ss.length ≤ 1048576) (l2 : ps.length ≤ 1048576) (hc : ss.length ≤ c) (hd : ps.length ≤ d) (hz : Ints .i64 w w.heap.size a ss) (hy : Ints .i64 w w.heap.size b ps) :
    Calls Try.prog 15 #[.slice a ss.length c, .slice b ps.length d, .int .i64 th, .int .i64 mo] w fun e w' => ∃ (a' : Option Addr) (c' : Nat) (b' : Option Addr) (d' : Nat), e = .returned (.tuple #[.slice a' (feD ss ps th mo).length c', .slice b' (feG ss ps th mo).length d', .int .i64 (feC ss ps th mo)]) ∧ OwnQ w' w.heap.size w'.heap.size a' c' b' d' (feD ss ps th mo) (feG ss ps th mo) ∧ Below w.heap.size w w' := by
  obtain ⟨i0, hi, hz0, hz1, hz2⟩ := info_parts info_i64
  have HZ := Lib.hid hz
  have HY := Lib.hid hy
  clear hz hy
  by_cases h : mtC ss ps = 0
  case neg =>
    have H0 : Hid (feC ss ps th mo = mtC ss ps) := Lib.hid (feC_err h)
    have H1 : Hid (feD ss ps th mo = [] ∧ feG ss ps th mo = []) := Lib.hid (feD_no (by rw [feC_err h]; exact h))
    have hC : (mtC ss ps != 0) = true := by simpa using h
    go_enter Try.func15, Try.ntmps15
    go_wp2_with fail
    refine (imq_any w a b c d ss ps l1 l2 HZ.out HY.out).mono ?_
    rintro e w1 ⟨rfl, hb⟩
    have HB := Lib.hid hb
    clear hb
    go_wp2
    go_ret3
    exact ⟨none, 0, none, 0, by rw [H1.out.1, H1.out.2, H0.out]; rfl, by rw [H1.out.1, H1.out.2]; exact OwnQ.nil _ _ _ (Nat.le_refl _), HB.out⟩
  case pos =>
    have HC := Lib.hid h
    cases ht : hasB 1 1000000000000 th
    case false =>
      have H0 : Hid (feC ss ps th mo = 2) := Lib.hid (feC_rng h (by rw [ht]; rfl))
      have H1 : Hid (feD ss ps th mo = [] ∧ feG ss ps th mo = []) := Lib.hid (feD_no (by rw [H0.out]; decide))
      go_enter Try.func15, Try.ntmps15
      go_wp2_with fail
      refine (imq_any w a b c d ss ps l1 l2 HZ.out HY.out).mono ?_
      rintro e w1 ⟨rfl, hb⟩
      have HB := Lib.hid hb
      clear hb
      rw [HC.out]
      go_wp2_with (go_at_call 48; refine (ith_any _ _).mono ?_; rw [ht]; rintro e w' ⟨rfl, rfl⟩)
      go_ret3
      exact ⟨none, 0, none, 0, by rw [H1.out.1, H1.out.2, H0.out]; rfl, by rw [H1.out.1, H1.out.2]; exact OwnQ.nil _ _ _ (Nat.le_refl _), bel_end HB.out (by repeat (first | exact Below.refl _ _ | (refine Below.alloc ?_ (by simp <;> omega) _) | (refine Below.setCell ?_ (by simp <;> omega) _) | (refine Below.drew ?_) | (refine bel_drewN ?_ _)))⟩
    case true =>
      cases hm : hasB 0 10 mo
      case false =>
        have H0 : Hid (feC ss ps th mo = 2) := Lib.hid (feC_rng h (by rw [ht, hm]; rfl))
        have H1 : Hid (feD ss ps th mo = [] ∧ feG ss ps th mo = []) := Lib.hid (feD_no (by rw [H0.out]; decide))
        go_enter Try.func15, Try.ntmps15
        go_wp2_with fail
        refine (imq_any w a b c d ss ps l1 l2 HZ.out HY.out).mono ?_
        rintro e w1 ⟨rfl, hb⟩
        have HB := Lib.hid hb
        clear hb
        rw [HC.out]
        go_wp2_with (first | (go_at_call 48; refine (ith_any _ _).mono ?_; rw [ht]; rintro e w' ⟨rfl, rfl⟩) | (go_at_call 49; refine (lacks_any _ _ _ _).mono ?_; rw [hm]; rintro e w' ⟨rfl, rfl⟩))
        go_ret3
        exact ⟨none, 0, none, 0, by rw [H1.out.1, H1.out.2, H0.out]; rfl, by rw [H1.out.1, H1.out.2]; exact OwnQ.nil _ _ _ (Nat.le_refl _), bel_end HB.out (by repeat (first | exact Below.refl _ _ | (refine Below.alloc ?_ (by simp <;> omega) _) | (refine Below.setCell ?_ (by simp <;> omega) _) | (refine Below.drew ?_) | (refine bel_drewN ?_ _)))⟩
      case true =>
        have HTM : Hid ((hasB 1 1000000000000 th && hasB 0 10 mo) = true) := Lib.hid (by rw [ht, hm]; rfl)
        have ht2 := ht
        have hm2 := hm
        unfold hasB at ht2 hm2
        simp only [Bool.and_eq_true, decide_eq_true_eq] at ht2 hm2
        obtain ⟨t1, t2⟩ := ht2
        obtain ⟨m0, m1⟩ := hm2
        obtain ⟨M, rfl⟩ : ∃ M : Nat, mo = (M : Int) := ⟨mo.toNat, by omega⟩
        obtain ⟨s1, s2, p0, pl⟩ := mtC_0 h
        have h4 := (sigB_t s1).1
        have HP := Lib.hid (sigB_t s2).2
        obtain ⟨n, hn⟩ : ∃ n, ss.length = n := ⟨_, rfl⟩
        have HN := Lib.hid hn
        have KM : Hid (Calls Try.prog 47 #[.slice a n c, .slice b ps.length d] w fun e w' => e = .returned (.int .i64 0) ∧ Below w.heap.size w w') := Lib.hid (by have := imq_any w a b c d ss ps l1 l2 HZ.out HY.out; rwa [HC.out, hn] at this)
        have KC := Lib.hid (fun (W : World) (hz : Ints .i64 W W.heap.size a ss) => cln_any W a c n ss hn (by omega) hz)
        rw [hn] at h4 pl hc ⊢
        clear hn s1 s2 h l1
        go_enter Try.func15, Try.ntmps15
        go_wp2_with fail
        refine KM.out.mono ?_
        rintro e w1 ⟨rfl, hb⟩
        have HB := Lib.hid hb
        clear hb
        go_wp2_with (first | (go_at_call 48; refine (ith_any _ _).mono ?_; rw [ht]; rintro e w' ⟨rfl, rfl⟩) | (go_at_call 49; refine (lacks_any _ _ _ _).mono ?_; rw [hm]; rintro e w' ⟨rfl, rfl⟩))
        generalize hW : World.alloc _ _ = W2
        have hb : Below w1.heap.size w1 W2 := by rw [← hW]; exact (by repeat (first | exact Below.refl _ _ | (refine Below.alloc ?_ (by simp <;> omega) _) | (refine Below.setCell ?_ (by simp <;> omega) _) | (refine Below.drew ?_) | (refine bel_drewN ?_ _)))
        replace HB := Lib.hid (bel_end HB.out hb)
        have HZ2 := Lib.hid ((HZ.out.below HB.out).more (Below.size HB.out))
        clear hW hb
        refine (KC.out W2 HZ2.out).mono ?_
        rintro e w3 ⟨a', cG, rfl, -, ho, hb⟩
        obtain ⟨G, rfl, hrow⟩ := own_some ho HN.out (by omega)
        have HF0 : Hid (F3 W2 G cG n ss none 0 [] none 0 [] w3) := Lib.hid ⟨hrow, World.ownsRow_nil _ _ _ _, World.ownsRow_nil _ _ _ _, (fun e => by simp [Value.ownBlock] at e), (fun e => by simp [Value.ownBlock] at e), (fun g e => by simp [Value.ownBlock] at e), hb, HN.out⟩
        have HW2 := Lib.hid HB.out.size
        clear ho hrow hb KM KC HZ2
        obtain ⟨RES, hR⟩ : ∃ RES, fGo ps th M ss [] [] = RES := ⟨_, rfl⟩
        have HFIN : Hid (∀ ds gs, RES = (ds, gs, 0) → feC ss ps th (M : Int) = 0 ∧ feD ss ps th (M : Int) = ds ∧ feG ss ps th (M : Int) = gs) := Lib.hid (fun ds gs e => fe_fin HC.out HTM.out (by rw [Int.toNat_natCast, hR, e]))
        have HBAD : Hid (RES = ([], [], 3) → feC ss ps th (M : Int) = 3 ∧ feD ss ps th (M : Int) = [] ∧ feG ss ps th (M : Int) = []) := Lib.hid (fun e => fe_bad HC.out HTM.out (by rw [Int.toNat_natCast, hR, e]))
        have HR0 : Hid (fGo ps th (M - 0) ss [] [] = RES) := Lib.hid hR
        clear hR
        go_wp2_with fail
        go_loopw [14, 15, 36] (fun x y i wr => ∃ (k : Nat) (a' : Option Addr) (c' : Nat) (ds : List Int) (b' : Option Addr) (d' : Nat) (gs R : List Int), k ≤ M ∧ i = .int .i64 (k : Int) ∧ x = .slice a' ds.length c' ∧ y = .slice b' gs.length d' ∧ F3 W2 G cG n R a' c' ds b' d' gs wr ∧ mtC R ps = 0 ∧ (ds.length ≤ k ∧ gs.length ≤ k) ∧ fGo ps th (M - k) R ds gs = RES) (fun _ _ i _ => M - (intOf i).toNat)
        case atStart => exact ⟨0, none, 0, [], none, 0, [], ss, Nat.zero_le _, rfl, rfl, rfl, HF0.out, HC.out, ⟨Nat.le_refl _, Nat.le_refl _⟩, HR0.out⟩
        case round =>
          obtain ⟨k, a', c', ds, b', d', gs, R, hk, rfl, rfl, rfl, hF, hmt, ⟨hd1, hg1⟩, hgo⟩ := hrel
          rename_i wr
          have HF := Lib.hid hF
          have HMT := Lib.hid hmt
          have HGO := Lib.hid hgo
          clear hF hmt hgo HF0 HR0
          by_cases hlt : k < M
          case neg =>
            obtain rfl : k = M := by omega
            have HF2 := Lib.hid (HFIN.out ds gs (by rw [← HGO.out, Nat.sub_self]; exact (fGo_0 ps th R ds gs).symm))
            have HO := Lib.hid (HF.out.two HW2.out)
            have HB2 := Lib.hid (bel_end HB.out HF.out.bel)
            clear HF
            go_wp2
            go_ret3
            exact ⟨a', c', b', d', by rw [HF2.out.1, HF2.out.2.1, HF2.out.2.2]; rfl, by rw [HF2.out.2.1, HF2.out.2.2]; exact HO.out, HB2.out⟩
          case pos =>
            have hRn := HF.out.len
            have hcap := HF.out.cap
            have hY := Lib.hid ((HY.out.below (bel_end HB.out HF.out.bel)).more (Below.size (bel_end HB.out HF.out.bel)))
            have KE := ise_any wr (some ⟨G, 0, none⟩) b cG d R ps th HMT.out (by omega) hd t1 t2 HF.out.restI hY.out
            rw [hRn] at KE
            have HKE := Lib.hid KE
            have HGB := Lib.hid (fGn_bd th HMT.out)
            have HAI := Lib.hid (fAt_in HMT.out)
            have HRN := Lib.hid hRn
            clear KE hRn hY
            go_wp2_with fail
            refine HKE.out.mono ?_
            rintro e w4 ⟨D, rfl, hD, hb⟩
            have HD := Lib.hid hD
            replace HF := Lib.hid (HF.out.on hb)
            clear hD hb HKE
            by_cases hg0 : fGn ps th R = 0
            case pos =>
              have HF2 := Lib.hid (HFIN.out ds gs (by rw [← HGO.out]; exact (fGo_stop hg0 _ ds gs)))
              have HO := Lib.hid (HF.out.two HW2.out)
              have HB2 := Lib.hid (bel_end HB.out HF.out.bel)
              rw [hg0]
              clear HF hg0
              go_wp2
              go_ret3
              exact ⟨a', c', b', d', by rw [HF2.out.1, HF2.out.2.1, HF2.out.2.2]; rfl, by rw [HF2.out.2.1, HF2.out.2.2]; exact HO.out, HB2.out⟩
            case neg =>
              have hDe := HD.out hg0
              subst hDe
              obtain ⟨r, hr⟩ : ∃ r, M - k = r + 1 := ⟨M - k - 1, by omega⟩
              have hgo2 := HGO.out
              rw [hr] at hgo2
              have HBD : Hid (sigB (fNx ps th R) = false → RES = ([], [], 3)) := Lib.hid (fun e => by rw [← hgo2, fGo_bad hg0 e])
              have HNX : Hid (sigB (fNx ps th R) = true → fGo ps th (M - (k + 1)) (fNx ps th R) (ds ++ [((fAt ps R : Nat) : Int)]) (gs ++ [fGn ps th R]) = RES) := Lib.hid (fun e => by rw [show M - (k + 1) = r by omega, ← hgo2, fGo_next hg0 e])
              have hg0b : (fGn ps th R == 0) = false := by simpa using hg0
              obtain ⟨b1, b2⟩ := HGB.out
              have hat := HAI.out
              have HNE : Hid (fNx ps th R = addE R (fAt ps R) (-(fGn ps th R)) ps ps.length) := Lib.hid rfl
              have HNL : Hid ((fNx ps th R).length = n) := Lib.hid (by rw [fNx_len]; exact HRN.out)
              rw [HRN.out] at hat
              clear hgo2 hr HD HGO HGB
              obtain ⟨at_, hA⟩ : ∃ at_, fAt ps R = at_ := ⟨_, rfl⟩
              obtain ⟨gn, hG⟩ : ∃ gn, fGn ps th R = gn := ⟨_, rfl⟩
              obtain ⟨NX, hN⟩ : ∃ NX, fNx ps th R = NX := ⟨_, rfl⟩
              rw [hA, hG, hN] at HNX HNE
              rw [hN] at HBD HNL
              rw [hG] at b1 b2 hg0b ⊢
              rw [hA] at hat ⊢
              clear hA hG hN hg0
              have hne : IntKind.wrap .i64 (-gn) = -gn := IntWalk.i64_in _ (by omega)
              have hcA : ¬ cG = at_ := by omega
              have hcN : ¬ n = at_ := by omega
              have hS := (sigB_t (mtC_0 HMT.out).1).2
              have KA := Lib.hid (fun (h9 : n - at_ = n - at_) => aeg_any w4 W2.heap.size G cG n at_ (n - at_) (some ⟨G, at_, none⟩) b (cG - at_) d R ps (-gn) HF.out.rest HF.out.len (fun _ => rfl) rfl hat h4 (by omega) HP.out hS HF.out.bel.size ((HY.out.below (bel_end HB.out HF.out.bel)).more (Nat.le_trans HW2.out (Nat.le_refl _)) |>.more (Nat.le_refl _)))
              clear hS
              go_wp2_with fail
              refine (KA.out (by trivial)).mono ?_
              rintro e w5 ⟨rfl, hr5, hg5⟩
              rw [← HNE.out] at hr5
              replace HF := Lib.hid (HF.out.turn hr5 HNL.out hg5)
              clear hr5 hg5 KA
              have KS := isg_any w5 (some ⟨G, 0, none⟩) cG NX (by rw [HNL.out]; omega) HF.out.restI
              rw [HNL.out] at KS
              have HKS := Lib.hid KS
              clear KS
              go_wp2_with fail
              refine HKS.out.mono ?_
              rintro e w6 ⟨rfl, hb⟩
              replace HF := Lib.hid (HF.out.on hb)
              clear hb HKS
              cases hsg : sigB NX
              case false =>
                have HF2 := Lib.hid (HBAD.out (HBD.out hsg))
                have HB2 := Lib.hid (bel_end HB.out HF.out.bel)
                clear HF
                go_wp2
                go_ret3
                exact ⟨none, 0, none, 0, by rw [HF2.out.1, HF2.out.2.1, HF2.out.2.2]; rfl, by rw [HF2.out.2.1, HF2.out.2.2]; exact OwnQ.nil _ _ _ (Nat.le_refl _), HB2.out⟩
              case true =>
                have HGO2 := Lib.hid (HNX.out hsg)
                have HMT2 := Lib.hid (mtC_keep HC.out hsg (by rw [HNL.out, HN.out]))
                clear HBD HNX hcA hcN hne
                go_wp2_with (first | (at_builtin; refine wpList_append_lies _ rfl _ _ 30 rfl W2.heap.size 2 i0 (.int .i64 0) 1 8 Try.underlying30 hi hz0 hz1 hz2 rfl (by decide) (.slice a' ds.length c') (ds.length) ((ds).map iv4) rfl (HF.out.fst.alloc _) ⟨w6.heap.size, 0, none⟩ 1 1 [.int .i64 ((at_ : Int))] rfl rfl (World.news_of_block (cs := #[.int .i64 ((at_ : Int))]) (t := 2) (fr := (0, 0)) (heap_alloc_new w6 _)) (by simp [Value.oneCell']) (by decide) (by unfold maxLen; omega) (by omega) (by simp; exact Nat.le_succ_of_le HF.out.bel.size) (w6.heap.size + 1) (by simp) ?_; intro g2 cp2 w9 hown hgrow hat hlt9; replace HF := Lib.hid (HF.out.put hown hgrow hat); clear hown hgrow hat hlt9) | (at_builtin; refine wpList_append_lies _ rfl _ _ 30 rfl W2.heap.size 2 i0 (.int .i64 0) 1 8 Try.underlying30 hi hz0 hz1 hz2 rfl (by decide) (.slice b' gs.length d') (gs.length) ((gs).map iv4) rfl (HF.out.snd.alloc _) ⟨w9.heap.size, 0, none⟩ 1 1 [.int .i64 (gn)] rfl rfl (World.news_of_block (cs := #[.int .i64 (gn)]) (t := 2) (fr := (0, 0)) (heap_alloc_new w9 _)) (by simp [Value.oneCell']) (by decide) (by unfold maxLen; omega) (by omega) (by simp; exact Nat.le_succ_of_le HF.out.bel.size) (w9.heap.size + 1) (by simp) ?_; intro g3 cp3 w10 hown hgrow hat hlt9; replace HF := Lib.hid (HF.out.swap.put hown hgrow hat); clear hown hgrow hat hlt9))
                go_roundw
                case rel => exact ⟨k + 1, some ⟨g2, 0, none⟩, cp2, ds ++ [(at_ : Int)], some ⟨g3, 0, none⟩, cp3, gs ++ [gn], NX, by omega, by go_num, by rw [List.length_append]; rfl, by rw [List.length_append]; rfl, HF.out.swap, HMT2.out, ⟨by rw [List.length_append]; simp; omega, by rw [List.length_append]; simp; omega⟩, HGO2.out⟩
                case measure => simp [intOf]; omega
end Go.Proofs.Ythfaejhiabdkbab
