/- The contract of the model's PlaneWave. -/
import Derived.Test.YthfaejhiabdkbaaBmH
namespace Go.Proofs.Ythfaejhiabdkbaa
open Go.ChangeShapes Go.WideShapes Go.ChangeAt Go.RowKit Go.Shelf Num
set_option linter.unusedVariables false
set_option linter.unusedSimpArgs false

/-- the slices of rows -/
def vsl (f : Nat → List Int) (qs : Nat → Option Addr × Nat) (k : Nat) : List Value := (List.range k).map (fun j => .slice (qs j).1 (f j).length (qs j).2)
theorem vsl_succ (f : Nat → List Int) (qs : Nat → Option Addr × Nat) (k g d : Nat) {N : Nat} (hN : (f k).length = N) : vsl f (fun j => if j = k then (some ⟨g, 0, none⟩, d) else qs j) (k + 1) = vsl f qs k ++ [.slice (some ⟨g, 0, none⟩) N d] := by
  unfold vsl
  rw [List.range_succ, List.map_append]
  congr 1
  · apply List.map_congr_left
    intro j hj
    have := List.mem_range.1 hj
    simp only [if_neg (show ¬ j = k by omega)]
  · simp [hN]
theorem pwC_1 {ps zs : List Int} {c s h r v st le : Int} (e : sigB ps = false) : pwC ps zs c s h r v st le = 1 := by unfold pwC; rw [e]; rfl
theorem pwC_2 {ps zs : List Int} {c s h r v st le : Int} (e : sigB ps = true) (e2 : ¬ arC zs c s h r v = 0) : pwC ps zs c s h r v st le = arC zs c s h r v := by unfold pwC; rw [if_pos e, if_neg e2]
theorem pwC_3 {ps zs : List Int} {c s h r v st le : Int} (e : sigB ps = true) (e2 : arC zs c s h r v = 0) (e3 : (hasB 0 400 le && hasB 0 400 st) = false) : pwC ps zs c s h r v st le = 2 := by unfold pwC; rw [if_pos e, if_pos e2, e3]; rfl
theorem pwC_4 {ps zs : List Int} {c s h r v st le : Int} (e : sigB ps = true) (e2 : arC zs c s h r v = 0) (e3 : (hasB 0 400 le && hasB 0 400 st) = true) (e4 : ¬ pwI ps zs s h r v st le) : pwC ps zs c s h r v st le = 2 := by unfold pwC; rw [if_pos e, if_pos e2, if_pos e3, if_neg e4]
theorem pwC_5 {ps zs : List Int} {c s h r v st le : Int} (e : sigB ps = true) (e2 : arC zs c s h r v = 0) (e3 : (hasB 0 400 le && hasB 0 400 st) = true) (e4 : pwI ps zs s h r v st le) : pwC ps zs c s h r v st le = 0 := by unfold pwC; rw [if_pos e, if_pos e2, if_pos e3, if_pos e4]
theorem pwR_n {ps zs : List Int} {c s h r v st le : Int} (e : ¬ pwC ps zs c s h r v st le = 0) : pwR ps zs c s h r v st le = [] := by unfold pwR; rw [if_neg e]
set_option maxRecDepth 100000 in
set_option maxHeartbeats 8000000 in
theorem spw_any (w : World) (a b : Option Addr) (ca cb : Nat) (ps zs : List Int) (c s h r v st le : Int) (lp : ps.length ≤ 1048576) (lz : zs.length ≤ 1048576) (hp : Ints .i64 w w.heap.size a ps) (hz : Ints .i64 w w.heap.size b zs) :
    Calls Try.prog 20 #[.slice a ps.length ca, .slice b zs.length cb, .agg #[.int .i64 c, .int .i64 s, .int .i64 h], .int .i64 r, .int .i64 v, .int .i64 st, .int .i64 le] w fun e w' => ∃ (q : Option Addr) (d : Nat) (qs : Nat → Option Addr × Nat), e = .returned (.tuple #[.slice q (pwR ps zs c s h r v st le).length d, .int .i64 (pwC ps zs c s h r v st le)]) ∧ OwnR w' w.heap.size w'.heap.size q d qs (pwR ps zs c s h r v st le) ∧ Below w.heap.size w w' := by
  obtain ⟨i0, hi, hz0, hz1, hz2⟩ := info_parts info_sl
  have HPp := Lib.hid hp
  have HZ := Lib.hid hz
  clear hp hz
  go_enter Try.func20, Try.ntmps20
  go_wp2_with fail
  generalize hW : World.alloc _ _ = W
  have bD : Bk W w.heap.size #[.int .i64 c, .int .i64 s, .int .i64 h] 30 := by rw [← hW]; exact Bk.new' rfl
  have hb : Below w.heap.size w W := by rw [← hW]; exact (by repeat (first | exact Below.refl _ _ | (refine Below.alloc ?_ (by simp <;> omega) _) | (refine Below.setCell ?_ (by simp <;> omega) _) | (refine Below.drew ?_) | (refine bel_drewN ?_ _)))
  clear hW
  have HB := Lib.hid hb
  replace HPp := Lib.hid (HPp.out.below hb)
  replace HZ := Lib.hid ((HZ.out.below hb).more hb.size)
  clear hb
  refine (ssg_any W _ _ _ ps (by omega) HPp.out).mono ?_
  cases hs : sigB ps
  · have HC0 : Hid (pwC ps zs c s h r v st le = 1) := Lib.hid (pwC_1 hs)
    have HR0 : Hid (pwR ps zs c s h r v st le = []) := Lib.hid (pwR_n (by rw [HC0.out]; decide))
    rintro e w' ⟨rfl, rfl⟩
    go_wp2
    go_ret2
    exact ⟨none, 0, fun _ => (none, 0), by rw [HR0.out, HC0.out]; rfl, by rw [HR0.out]; exact ownR_nil _ _ (HB.out).size, HB.out⟩
  rintro e w' ⟨rfl, rfl⟩
  have x0 := bD.cell 0 rfl
  have x1 := bD.cell 1 rfl
  have x2 := bD.cell 2 rfl
  go_wp2_with fail
  clear x0 x1 x2
  refine (sco_any W _ _ zs c s h r v (by omega) HZ.out).mono ?_
  rintro e w2 ⟨rfl, hb⟩
  replace HB := Lib.hid (bel_end HB.out hb)
  replace HPp := Lib.hid (HPp.out.below (hb.mono (Nat.le_of_lt bD.lt)))
  replace HZ := Lib.hid ((HZ.out.below hb).more hb.size)
  replace bD := bD.on hb
  clear hb
  by_cases e0 : arC zs c s h r v = 0
  case neg =>
    have HC0 : Hid (pwC ps zs c s h r v st le = arC zs c s h r v) := Lib.hid (pwC_2 hs e0)
    have HR0 : Hid (pwR ps zs c s h r v st le = []) := Lib.hid (pwR_n (by rw [HC0.out]; exact e0))
    have k1 : (arC zs c s h r v == 0) = false := by simpa using e0
    have k2 : (arC zs c s h r v != 0) = true := by simpa using e0
    go_wp2
    go_ret2
    exact ⟨none, 0, fun _ => (none, 0), by rw [HR0.out, HC0.out]; rfl, by rw [HR0.out]; exact ownR_nil _ _ (HB.out).size, HB.out⟩
  case pos =>
    have K := Lib.hid (AOk.of e0)
    have HS := Lib.hid hs
    have HE := Lib.hid e0
    rw [e0]
    clear e0 hs
    have L1 : Hid (∀ w : World, _) := Lib.hid (fun w => lin_any le 0 400 w)
    have L2 : Hid (∀ w : World, _) := Lib.hid (fun w => lin_any st 0 400 w)
    have EL : Hid (hasB 0 400 le = inB le 0 400) := Lib.hid (hasB_inB _ _ _)
    have ES : Hid (hasB 0 400 st = inB st 0 400) := Lib.hid (hasB_inB _ _ _)
    cases h1 : inB le 0 400
    · rw [h1] at L1 EL
      have HC0 : Hid (pwC ps zs c s h r v st le = 2) := Lib.hid (pwC_3 HS.out HE.out (by rw [EL.out]; rfl))
      have HR0 : Hid (pwR ps zs c s h r v st le = []) := Lib.hid (pwR_n (by rw [HC0.out]; decide))
      go_wp2_with (go_at_call 43; (with_reducible refine Calls.mono (L1.out _) ?_); rintro e w' ⟨rfl, rfl⟩)
      go_ret2
      exact ⟨none, 0, fun _ => (none, 0), by rw [HR0.out, HC0.out]; rfl, by rw [HR0.out]; exact ownR_nil _ _ (HB.out).size, HB.out⟩
    rw [h1] at L1 EL
    cases h2 : inB st 0 400
    · rw [h2] at L2 ES
      have HC0 : Hid (pwC ps zs c s h r v st le = 2) := Lib.hid (pwC_3 HS.out HE.out (by rw [EL.out, ES.out]; rfl))
      have HR0 : Hid (pwR ps zs c s h r v st le = []) := Lib.hid (pwR_n (by rw [HC0.out]; decide))
      go_wp2_with (first | (go_at_call 43; (with_reducible refine Calls.mono (L1.out _) ?_); rintro e w' ⟨rfl, rfl⟩) | (go_at_call 43; (with_reducible refine Calls.mono (L2.out _) ?_); rintro e w' ⟨rfl, rfl⟩))
      go_ret2
      exact ⟨none, 0, fun _ => (none, 0), by rw [HR0.out, HC0.out]; rfl, by rw [HR0.out]; exact ownR_nil _ _ (HB.out).size, HB.out⟩
    rw [h2] at L2 ES
    have HQ : Hid ((hasB 0 400 le && hasB 0 400 st) = true) := Lib.hid (by rw [EL.out, ES.out]; rfl)
    have bl := inB_t h1
    have bs := inB_t h2
    clear h1 h2 EL ES
    obtain ⟨N, rfl⟩ : ∃ N : Nat, le = (N : Int) := Int.eq_ofNat_of_zero_le bl.1
    have hN : N ≤ 400 := by omega
    obtain ⟨s1, s2⟩ := bs
    clear bl
    have x0 := bD.cell 0 rfl
    have x1 := bD.cell 1 rfl
    have x2 := bD.cell 2 rfl
    go_wp2_with (first | (go_at_call 43; (with_reducible refine Calls.mono (L1.out _) ?_); rintro e w' ⟨rfl, rfl⟩) | (go_at_call 43; (with_reducible refine Calls.mono (L2.out _) ?_); rintro e w' ⟨rfl, rfl⟩))
    clear x0 x1 x2 L1 L2
    have HD : Hid (∀ i, _) := Lib.hid K.out.num
    obtain ⟨d1, d2⟩ := K.out.den
    have hzl := (arrB_t K.out.ar).2.1
    have hpl := (sigB_t HS.out).1
    refine (ldl_any w2 _ _ zs c s h r v K.out HZ.out).mono ?_
    rintro e w3 ⟨q0, c0, rfl, ho, hb⟩
    have HO := Lib.hid ho
    replace HB := Lib.hid (bel_end HB.out hb)
    replace HPp := Lib.hid ((HPp.out.below (hb.mono (Nat.le_of_lt bD.lt))).more (Nat.le_trans (Nat.le_of_lt bD.lt) hb.size))
    clear ho hb bD HZ
    obtain ⟨n, hn⟩ : ∃ n, zs.length = n := ⟨_, rfl⟩
    have HL : Hid ((dlL zs s h r v zs.length).length = n) := Lib.hid (by rw [dlL_len, hn])
    have HAT : Hid (∀ k, k < n → (dlL zs s h r v zs.length).getD k 0 = dly s h r v (zs.getD k 0)) := Lib.hid (fun k hk => dlL_at _ _ _ _ _ (by omega))
    obtain ⟨DL, hDL⟩ : ∃ L, dlL zs s h r v zs.length = L := ⟨_, rfl⟩
    rw [hDL] at HO HL HAT ⊢
    rw [hn] at hzl
    have HNn := Lib.hid hn
    rw [HL.out]
    clear hDL hn
    obtain ⟨m, hm⟩ : ∃ m, ps.length = m := ⟨_, rfl⟩
    rw [hm] at hpl ⊢
    have HM := Lib.hid hm
    clear hm
    obtain ⟨f, hf⟩ : ∃ f : Nat → List Int, f = fun i => wav ps (pwA zs s h r v st i).toNat N := ⟨_, rfl⟩
    have HFF := Lib.hid hf
    have HFL : Hid (∀ i, (f i).length = N) := Lib.hid (fun i => by rw [hf]; exact wav_len _ _ _)
    clear hf
    go_wp2_with fail
    have HP0 : Hid (PwS w3 w3.heap.size 0 0 (vsl f (fun _ => (none, 0)) 0) 0 (fun _ => (none, 0)) f (w3.alloc (.cells #[] 22))) := Lib.hid ⟨RowG.lit (w1 := w3) (t := 22) (m := 1) (W := w3.alloc (.cells #[] 22)) (Bk.new' rfl) (Nat.le_refl _) ((Below.refl _ _).alloc (Nat.le_refl _) _), fun j hj => by omega, fun i j _ hj => by omega⟩
    go_loopw [18, 19] (fun u i wr => ∃ (k ge ce : Nat) (qs : Nat → Option Addr × Nat), k ≤ n ∧ u = .slice (some ⟨ge, 0, none⟩) k ce ∧ i = .int .i64 k ∧ PwS w3 ge ce k (vsl f qs k) k qs f wr ∧ ∀ j, j < k → 0 ≤ pwA zs s h r v st j ∧ pwA zs s h r v st j ≤ (N : Int) - (m : Int)) (fun _ i _ => n - (intOf i).toNat)
    case atStart => exact ⟨0, w3.heap.size, 0, fun _ => (none, 0), by omega, rfl, rfl, HP0.out, fun j hj => by omega⟩
    case round =>
      obtain ⟨k, ge, ce, qs, hk, rfl, rfl, hP, hA⟩ := hrel
      rename World => wo
      have HP := Lib.hid hP
      have HA := Lib.hid hA
      have HW := Lib.hid hP.row.bel
      clear hP hA HP0
      by_cases hlt : k < n
      case neg =>
        obtain rfl : k = n := by omega
        have HI : Hid (pwI ps zs s h r v st (N : Int)) := Lib.hid (fun i hi => by rw [HM.out]; exact HA.out i (by rw [HNn.out] at hi; exact hi))
        have HC0 : Hid (pwC ps zs c s h r v st (N : Int) = 0) := Lib.hid (pwC_5 HS.out HE.out HQ.out HI.out)
        have HR0 : Hid (pwR ps zs c s h r v st (N : Int) = pwL ps zs s h r v st (N : Int) zs.length) := Lib.hid (by unfold pwR; rw [if_pos HC0.out])
        go_wp2
        go_ret2
        exact ⟨some ⟨ge, 0, none⟩, ce, qs, by rw [HR0.out, HC0.out, pwL_len, HNn.out]; rfl, by
          rw [HR0.out]
          exact HP.out.all rfl (by rw [pwL_len, HNn.out]) (fun j hj => by rw [pwL_at _ _ _ _ _ _ _ _ (by rw [HNn.out]; exact hj), HFF.out]; rfl) rfl HB.out.size, bel_end HB.out HW.out⟩
      case pos =>
      obtain ⟨b2, o2, rfl, -, hq⟩ := (HO.out.on HW.out).ints.at_ (j := k) (by rw [HL.out]; exact hlt)
      rw [HAT.out k hlt] at hq
      have hn6 := HD.out k
      have HNB : Hid (-10000000000001 ≤ dly s h r v (zs.getD k 0) ∧ dly s h r v (zs.getD k 0) ≤ 10000000000001) := Lib.hid (near_bd _ (by omega) hn6.2.2.2.2.1 hn6.2.2.2.2.2)
      have HPA : Hid (pwA zs s h r v st k = st + dly s h r v (zs.getD k 0)) := Lib.hid rfl
      obtain ⟨D, hD⟩ : ∃ D, dly s h r v (zs.getD k 0) = D := ⟨_, rfl⟩
      rw [hD] at hq HNB HPA
      obtain ⟨D1, D2⟩ := HNB.out
      clear hD hn6 HNB
      have e2 : IntKind.wrap .i64 ((N : Int) - (m : Int)) = (N : Int) - (m : Int) := IntWalk.i64_in _ (by omega)
      have kl : k < DL.length := by rw [HL.out]; exact hlt
      by_cases hin : 0 ≤ st + D ∧ st + D ≤ (N : Int) - (m : Int)
      case neg =>
        have e1 : IntKind.wrap .i64 (st + D) = st + D := IntWalk.i64_in _ (by omega)
        have L3 : Hid (∀ w : World, Calls Try.prog 43 #[.int .i64 (st + D), .int .i64 0, .int .i64 ((N : Int) - (m : Int))] w fun e w' => e = .returned (.bool false) ∧ w = w') := Lib.hid (fun w => by
          have := lin_any (st + D) 0 ((N : Int) - (m : Int)) w
          rwa [show inB (st + D) 0 ((N : Int) - (m : Int)) = false by rw [← hasB_inB]; exact hasB_ff hin] at this)
        have HI : Hid (¬ pwI ps zs s h r v st (N : Int)) := Lib.hid (fun hI => hin (by have := hI k (by rw [HNn.out]; exact hlt); rwa [HPA.out, HM.out] at this))
        have HC0 : Hid (pwC ps zs c s h r v st (N : Int) = 2) := Lib.hid (pwC_4 HS.out HE.out HQ.out HI.out)
        have HR0 : Hid (pwR ps zs c s h r v st (N : Int) = []) := Lib.hid (pwR_n (by rw [HC0.out]; decide))
        clear hin
        go_wp2_with (go_at_call 43; (with_reducible refine Calls.mono (L3.out _) ?_); rintro e w' ⟨rfl, rfl⟩)
        go_ret2
        exact ⟨none, 0, fun _ => (none, 0), by rw [HR0.out, HC0.out]; rfl, by rw [HR0.out]; exact ownR_nil _ _ (bel_end HB.out HW.out).size, bel_end HB.out HW.out⟩
      case pos =>
      obtain ⟨oo, hoo⟩ : ∃ oo : Nat, st + D = (oo : Int) := Int.eq_ofNat_of_zero_le hin.1
      have e1 : IntKind.wrap .i64 (st + D) = (oo : Int) := by rw [hoo]; exact IntWalk.i64_in _ (by omega)
      have ofit : oo + m ≤ N := by omega
      have HPO : Hid (pwA zs s h r v st k = (oo : Int)) := Lib.hid (by rw [HPA.out, hoo])
      have HFK : Hid (f k = wavP ps oo N ps.length) := Lib.hid (by rw [HFF.out]; show wav ps (pwA zs s h r v st k).toNat N = _; rw [HPO.out]; rfl)
      have L3 : Hid (∀ w : World, Calls Try.prog 43 #[.int .i64 (oo : Int), .int .i64 0, .int .i64 ((N : Int) - (m : Int))] w fun e w' => e = .returned (.bool true) ∧ w = w') := Lib.hid (fun w => by
        have := lin_any (oo : Int) 0 ((N : Int) - (m : Int)) w
        rwa [show inB (oo : Int) 0 ((N : Int) - (m : Int)) = true by rw [← hasB_inB]; exact hasB_mk (by omega) (by omega)] at this)
      have hmk : ∀ w, (Instr.makeSlice 22 (.int .i64 N) (.int .i64 N)).run Try.prog w = .ok (.slice (some ⟨w.heap.size, 0, none⟩) N N) (w.alloc (.cells (madeCells #[.int .i64 0] N) 2)) := fun w => run_make_row' (P := Try.prog) 22 2 (.int .i64 0) 8 Try.underlying22 info_i64 rfl .i64 .i64 N (by omega) (by omega) w
      clear hin hoo
      go_wp2_with (go_at_call 43; (with_reducible refine Calls.mono (L3.out _) ?_); rintro e w' ⟨rfl, rfl⟩)
      clear hmk hq e1 e2 kl
      have HS0 := Lib.hid (rowG_zeros wo N (by unfold maxLen; omega))
      obtain ⟨g, hg⟩ : ∃ g, wo.heap.size = g := ⟨_, rfl⟩
      rw [hg] at HS0 ⊢
      have HGg := Lib.hid hg
      clear hg
      go_loopw [22] (fun i w2 => ∃ j : Nat, j ≤ m ∧ i = .int .i64 j ∧ RowG wo 2 1 g N N ((wavP ps oo N j).map iv4) w2) (fun i _ => m - (intOf i).toNat)
      case atStart => exact ⟨0, by omega, rfl, by rw [wavP_0]; exact HS0.out⟩
      case round =>
        obtain ⟨j, hj, rfl, hR⟩ := hrel
        have HR := Lib.hid hR
        clear hR HS0
        by_cases hjm : j < m
        · obtain ⟨b3, o3, rfl, -, hc⟩ := ((HPp.out.below HW.out).below (HR.out.bel.mono HW.out.size)).at_ (j := j) (by rw [HM.out]; exact hjm)
          have hset := wavP_set ps oo N j
          obtain ⟨x, hx⟩ : ∃ x, ps.getD j 0 = x := ⟨_, rfl⟩
          rw [hx] at hc hset
          have HSET := Lib.hid hset
          have ho := HR.out.at1 (j := oo + j) (by omega) (wavP_len _ _ _ _)
          have hfz := HR.out.own.frozenAt (oo + j)
          obtain ⟨u, hu⟩ : ∃ u, (wavP ps oo N j).getD (oo + j) 0 = u := ⟨_, rfl⟩
          rw [hu] at ho
          have ej : IntKind.wrap .i64 ((oo : Int) + (j : Int)) = (oo : Int) + (j : Int) := IntWalk.i64_in _ (by omega)
          have ejn : ((oo : Int) + (j : Int)).toNat = oo + j := by omega
          have ejp : 0 ≤ (oo : Int) + (j : Int) := by omega
          have ejl : (oo : Int) + (j : Int) < (N : Int) := by omega
          clear hu hx hset
          go_wp2
          go_roundw
          case rel => exact ⟨j + 1, by omega, by go_num, by rw [← HSET.out]; exact HR.out.set (oo + j) x⟩
          case measure => simp [intOf]; omega
        · obtain rfl : j = m := by omega
          have HNE : Hid (∀ i, i < k → ∀ x : Addr, (qs i).1 = some x → x.block ≠ g) := Lib.hid (fun i hi x ex => by have := HP.out.lt hi ex; have := HGg.out; omega)
          have HOA : Hid (OwnA wr w3.heap.size wr.heap.size (some ⟨g, 0, none⟩) N (f k)) := Lib.hid (by rw [HFK.out, HM.out]; exact ownA_row HR.out (wavP_len _ _ _ _) HW.out.size)
          have HP2 := Lib.hid ((HP.out.on HR.out.bel).add HOA.out HNE.out)
          have HVS := Lib.hid (vsl_succ f qs k g N (HFL.out k))
          clear HP HR
          have HP := HP2
          clear HP2
          go_wp2_with (at_builtin; refine wpList_append_lies _ rfl _ _ 34 rfl w3.heap.size 22 i0 (.slice none 0 0) 1 24 Try.underlying34 hi hz0 hz1 hz2 rfl (by decide) (.slice (some ⟨ge, 0, none⟩) k ce) k (vsl f qs k) rfl (HP.out.row.own.alloc _) ⟨wr.heap.size, 0, none⟩ 1 1 [.slice (some ⟨g, 0, none⟩) N N] rfl rfl (World.news_of_block (cs := #[.slice (some ⟨g, 0, none⟩) N N]) (t := 22) (fr := (0, 0)) (heap_alloc_new wr _)) (by simp [Value.oneCell']) (by decide) (by unfold maxLen; omega) (by omega) (by simp; exact Nat.le_succ_of_le HP.out.row.bel.size) (wr.heap.size + 1) (by simp) ?_; intro g2 cp2 w9 hown hgrow hat hlt9; have HP9 := Lib.hid ((HP.out.on ((Below.refl _ _).alloc (Nat.le_refl _) _)).snoc hown hgrow); clear hown hgrow hat hlt9)
          rw [← HVS.out] at HP9
          go_wp2_with fail
          go_roundw
          case rel =>
            refine ⟨k + 1, g2, cp2, _, by omega, rfl, by go_num, HP9.out, fun j hj => ?_⟩
            by_cases e : j < k
            · exact HA.out j e
            · obtain rfl : j = k := by omega
              rw [HPO.out]; omega
          case measure => simp [intOf]; omega
end Go.Proofs.Ythfaejhiabdkbaa
