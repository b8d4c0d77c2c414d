/- Contracts of EchoesOf, the program's and the model's. -/
import Derived.Test.YthfaejhiabdkbabPuP
import Derived.StillTailTactics
import Derived.Deep.RegionWith
namespace Go.Proofs.Ythfaejhiabdkbab
open Go.ChangeShapes Go.WideShapes Go.ChangeAt Go.RowKit Go.Shelf Num
set_option linter.unusedVariables false
set_option linter.unusedSimpArgs false
theorem RowG.drew {w1 W : World} {t : TypeId} {m g c n : Nat} {L : List Value} (h : RowG w1 t m g c n L W) : RowG w1 t m g c n L W.drew := ⟨h.own, h.bel.drew⟩
theorem run_from (G n d : Nat) (hd : d ≤ n) (hnd : ¬ n = d) (w : World) : (Instr.sliceAt 30 (.slice (some ⟨G, 0, none⟩) n n) (some (.int .i64 (d : Int))) none none).run Try.prog w = .ok (.slice (some ⟨G, d, none⟩) (n - d) (n - d)) w := by
  rw [run_sliceAt_slice (w := w) _ _ _ _ _ Try.underlying30, run_slice_l (w := w) _ _ _ _ Try.underlying30 .i64 (d : Int) (by omega) (by omega)]
  have hs : (sizeOf (Try.prog.elem 30)).run Try.prog w = .ok 1 w := by kernel_rfl
  rw [hs]
  simp [Result.andThen, sliced, hnd, Addr.add]
  exact fun h => h.symm
set_option maxRecDepth 100000 in
set_option maxHeartbeats 2000000 in
theorem aec_any (w1 w : World) (G n d m : Nat) (sa pa : Option Addr) (c2 c3 : Nat) (S ps : List Int) (A g : Int)
    (hR : RowG w1 2 1 G n n (S.map iv4) w) (hSl : S.length = n) (hsa : 0 < ps.length → sa = some ⟨G, d, none⟩) (hm : n - d = m) (hd : d + ps.length ≤ n) (hn : n ≤ 400) (hg : -1000 ≤ g ∧ g ≤ 1000) (hp : smlL 1000 ps) (hS : smlL A S) (hA : A ≤ 1000000000) (hz : Ints .i64 w1 w1.heap.size pa ps) :
    Calls Try.prog 52 #[.slice sa m c2, .slice pa ps.length c3, .int .i64 g] w fun e w' => e = .returned (.tuple #[]) ∧ RowG w1 2 1 G n n ((addE S d g ps ps.length).map iv4) w' := by
  have HR0 := Lib.hid hR
  have HSA := Lib.hid hsa
  have HBD := Lib.hid (fun k => addE_bd d hg hp hS k)
  have HP := Lib.hid hp
  have HL := Lib.hid (fun k => (addE_len S d g ps k).trans hSl)
  obtain ⟨g1, g2⟩ := hg
  clear hR hsa hp hS hSl
  go_enter Try.func52, Try.ntmps52
  go_wp2
  go_loopw [10] (fun x wr => ∃ k : Nat, k ≤ ps.length ∧ x = .int .i64 (k : Int) ∧ RowG w1 2 1 G n n ((addE S d g ps k).map iv4) wr) (fun x _ => ps.length - (intOf x).toNat)
  case atStart => exact ⟨0, by omega, rfl, HR0.out⟩
  case round =>
    obtain ⟨k, hk, rfl, hR⟩ := hrel
    have HR := Lib.hid hR
    clear hR HR0
    by_cases hlt : k < ps.length
    · have ra := HSA.out (by omega)
      subst ra
      obtain ⟨b1, o1, rb, hB1, hc1⟩ := (hz.below HR.out.bel).at_ hlt
      subst rb
      have hs := addE_succ S d g ps k
      have hv := (HBD.out k).1 (d + k)
      have hx2 := HP.out k
      have c1 := HR.out.at1 (j := d + k) (by omega) (HL.out k)
      have f1 := HR.out.own.frozenAt (d + k)
      obtain ⟨x, hx⟩ : ∃ x, ps.getD k 0 = x := ⟨_, rfl⟩
      obtain ⟨v, hvv⟩ : ∃ v, (addE S d g ps k).getD (d + k) 0 = v := ⟨_, rfl⟩
      rw [hx] at hc1 hs hx2
      rw [hvv] at c1 hs hv
      have hpr := prod_bd ⟨g1, g2⟩ hx2
      obtain ⟨p1, p2⟩ := hpr
      have q1 : -2000000000 ≤ v := by omega
      have q2 : v ≤ 2000000000 := by omega
      have HS := Lib.hid hs
      clear hx hvv hs hv hx2 hz
      go_wp2_with fail
      go_roundw
      case rel => exact ⟨k + 1, by omega, by go_num, by rw [HS.out]; exact HR.out.set _ _⟩
      case measure => simp [intOf]; omega
    · obtain rfl : k = ps.length := by omega
      go_wp2
      go_end0
      exact ⟨rfl, HR.out⟩
/-- the arguments of a sum of echoes -/
def ecOK (ps ds gs : List Int) (len : Int) : Bool := hasB 0 400 len && decide (ds.length ≤ 200) && decide (gs.length = ds.length) && !anyLack (-1000) 1000 gs && !anyLack 0 (len - (ps.length : Int)) ds
def ecC (ps ds gs : List Int) (len : Int) : Int := if sigB ps then (if ecOK ps ds gs len then (if sigB (ecT len.toNat ps ds gs ds.length) then 0 else 3) else 2) else 1
def ecL (ps ds gs : List Int) (len : Int) : List Int := if ecC ps ds gs len = 0 then ecT len.toNat ps ds gs ds.length else []
theorem ecC_0 {ps ds gs : List Int} {len : Int} (h : ecC ps ds gs len = 0) : sigB ps = true ∧ ecOK ps ds gs len = true ∧ sigB (ecT len.toNat ps ds gs ds.length) = true := by
  unfold ecC at h
  split at h
  · split at h
    · split at h
      · exact ⟨by assumption, by assumption, by assumption⟩
      · omega
    · omega
  · omega
theorem ecOK_t {ps ds gs : List Int} {len : Int} (h : ecOK ps ds gs len = true) : (0 ≤ len ∧ len ≤ 400) ∧ ds.length ≤ 200 ∧ gs.length = ds.length ∧ anyLack (-1000) 1000 gs = false ∧ anyLack 0 (len - (ps.length : Int)) ds = false := by
  unfold ecOK hasB at h
  simp only [Bool.and_eq_true, decide_eq_true_eq, Bool.not_eq_true'] at h
  exact ⟨h.1.1.1.1, h.1.1.1.2, h.1.1.2, h.1.2, h.2⟩
theorem ecL_len (ps ds gs : List Int) (len : Int) : (ecL ps ds gs len).length ≤ 400 := by
  unfold ecL
  split
  · rename_i h
    have := (ecOK_t (ecC_0 h).2.1).1
    rw [ecT_len]; omega
  · simp

set_option maxRecDepth 100000 in
set_option maxHeartbeats 8000000 in
theorem iec_any (w : World) (a0 a1 a2 : Option Addr) (c0 c1 c2 : Nat) (ps ds gs : List Int) (len : Int) (hl0 : ps.length ≤ 1048576) (hl1 : ds.length ≤ 1048576) (hl2 : gs.length ≤ 1048576) (hz0 : Ints .i64 w w.heap.size a0 ps) (hz1 : Ints .i64 w w.heap.size a1 ds) (hz2 : Ints .i64 w w.heap.size a2 gs) :
    Calls Try.prog 27 #[.slice a0 ps.length c0, .slice a1 ds.length c1, .slice a2 gs.length c2, .int .i64 len] w fun e w' => ∃ (a' : Option Addr) (c' : Nat), e = .returned (.tuple #[.slice a' (ecL ps ds gs len).length c', .int .i64 (ecC ps ds gs len)]) ∧ OwnA w' w.heap.size w'.heap.size a' c' (ecL ps ds gs len) ∧ Below w.heap.size w w' := by
  have HP := Lib.hid hz0
  have HD := Lib.hid hz1
  have HG := Lib.hid hz2
  clear hz0 hz1 hz2
  have KD := Lib.hid (fun (W : World) (hb : Below w.heap.size w W) => (HD.out.below hb).more hb.size)
  have KG := Lib.hid (fun (W : World) (hb : Below w.heap.size w W) => (HG.out.below hb).more hb.size)
  have KP := Lib.hid (fun (W : World) (hb : Below w.heap.size w W) => (HP.out.below hb).more hb.size)
  have K0 := Lib.hid (fun (W : World) (hz : Ints .i64 W W.heap.size a0 ps) => isg_any W a0 c0 ps (by omega) hz)
  have K1 := Lib.hid (fun (W : World) => are1_any W len 0 400)
  obtain ⟨m, hm⟩ : ∃ m, ds.length = m := ⟨_, rfl⟩
  obtain ⟨q, hq⟩ : ∃ q, gs.length = q := ⟨_, rfl⟩
  have K2 := Lib.hid (fun (W : World) (hz : Ints .i64 W W.heap.size a2 gs) => are_any W a2 c2 q gs (-1000) 1000 hq (by omega) hz)
  have K3 := Lib.hid (fun (hi : Int) (W : World) (hz : Ints .i64 W W.heap.size a1 ds) => are_any W a1 c1 m ds 0 hi hm (by omega) hz)
  rw [hm] at hl1
  rw [hq] at hl2
  rw [hm, hq]
  have HM := Lib.hid hm
  have HQ := Lib.hid hq
  clear hm hq
  cases hs : sigB ps
  case false =>
    have H1 : Hid (ecC ps ds gs len = 1) := Lib.hid (by unfold ecC; rw [hs]; rfl)
    have H2 : Hid (ecL ps ds gs len = []) := Lib.hid (by unfold ecL; rw [H1.out]; rfl)
    go_enter Try.func27, Try.ntmps27
    go_wp2_with fail
    refine (K0.out _ HP.out).mono ?_
    rw [hs]
    rintro e w1 ⟨rfl, hb⟩
    have HB := Lib.hid hb
    clear hb
    go_wp2
    go_ret2
    exact ⟨none, 0, by rw [H1.out, H2.out]; rfl, by rw [H2.out]; exact ownA_nil _ _ (Below.size HB.out), HB.out⟩
  case true =>
    cases hc1 : hasB 0 400 len
    case false =>
      have H1 : Hid (ecC ps ds gs len = 2) := Lib.hid (by unfold ecC ecOK; rw [hs, hc1]; simp)
      have H2 : Hid (ecL ps ds gs len = []) := Lib.hid (by unfold ecL; rw [H1.out]; rfl)
      go_enter Try.func27, Try.ntmps27
      go_wp2_with fail
      refine (K0.out _ HP.out).mono ?_
      rw [hs]
      rintro e w1 ⟨rfl, hb⟩
      have HB := Lib.hid hb
      clear hb
      go_upto_region 4 with fail
      generalize hW : World.alloc _ _ = W2
      have bX : Bk W2 w1.heap.size #[.int .i64 0, .int .i64 400] 62 := by rw [← hW]; repeat (first | (refine Bk.new' ?_; (simp; done)) | refine Bk.alloc ?_ _)
      have bY : Bk W2 (w1.heap.size + 1) #[.int .i64 (-1000), .int .i64 1000] 62 := by rw [← hW]; repeat (first | (refine Bk.new' ?_; (simp; done)) | refine Bk.alloc ?_ _)
      have hb : Below w1.heap.size w1 W2 := by rw [← hW]; exact (by repeat (first | exact Below.refl _ _ | (refine Below.alloc ?_ (by simp <;> omega) _) | (refine Below.setCell ?_ (by simp <;> omega) _) | (refine Below.drew ?_) | (refine bel_drewN ?_ _)))
      replace HB := Lib.hid (bel_end HB.out hb)
      clear hW hb
      have bX_0 := bX.cell 0 rfl
      have bX_1 := bX.cell 1 rfl
      go_wp2_with fail
      refine (K1.out _).mono ?_
      rw [hc1]
      rintro e w3 ⟨rfl, hb⟩
      clear bX_0 bX_1
      replace bY := bY.on hb
      replace HB := Lib.hid (bel_end HB.out hb)
      clear hb bX
      go_wp2
      go_ret2
      exact ⟨none, 0, by rw [H1.out, H2.out]; rfl, by rw [H2.out]; exact ownA_nil _ _ (Below.size HB.out), HB.out⟩
    case true =>
      have hcc := hc1
      unfold hasB at hcc
      simp only [Bool.and_eq_true, decide_eq_true_eq] at hcc
      obtain ⟨l0, l4⟩ := hcc
      obtain ⟨n, rfl⟩ : ∃ n : Nat, len = (n : Int) := ⟨len.toNat, by omega⟩
      by_cases hc2 : m ≤ 200
      case neg =>
        have H1 : Hid (ecC ps ds gs (n : Int) = 2) := Lib.hid (by unfold ecC ecOK; rw [hs, HM.out, decide_eq_false hc2]; simp)
        have H2 : Hid (ecL ps ds gs (n : Int) = []) := Lib.hid (by unfold ecL; rw [H1.out]; rfl)
        go_enter Try.func27, Try.ntmps27
        go_wp2_with fail
        refine (K0.out _ HP.out).mono ?_
        rw [hs]
        rintro e w1 ⟨rfl, hb⟩
        have HB := Lib.hid hb
        clear hb
        go_upto_region 4 with fail
        generalize hW : World.alloc _ _ = W2
        have bX : Bk W2 w1.heap.size #[.int .i64 0, .int .i64 400] 62 := by rw [← hW]; repeat (first | (refine Bk.new' ?_; (simp; done)) | refine Bk.alloc ?_ _)
        have bY : Bk W2 (w1.heap.size + 1) #[.int .i64 (-1000), .int .i64 1000] 62 := by rw [← hW]; repeat (first | (refine Bk.new' ?_; (simp; done)) | refine Bk.alloc ?_ _)
        have hb : Below w1.heap.size w1 W2 := by rw [← hW]; exact (by repeat (first | exact Below.refl _ _ | (refine Below.alloc ?_ (by simp <;> omega) _) | (refine Below.setCell ?_ (by simp <;> omega) _) | (refine Below.drew ?_) | (refine bel_drewN ?_ _)))
        replace HB := Lib.hid (bel_end HB.out hb)
        clear hW hb
        have bX_0 := bX.cell 0 rfl
        have bX_1 := bX.cell 1 rfl
        go_wp2_with fail
        refine (K1.out _).mono ?_
        rw [hc1]
        rintro e w3 ⟨rfl, hb⟩
        clear bX_0 bX_1
        replace bY := bY.on hb
        replace HB := Lib.hid (bel_end HB.out hb)
        clear hb bX
        go_wp2
        go_ret2
        exact ⟨none, 0, by rw [H1.out, H2.out]; rfl, by rw [H2.out]; exact ownA_nil _ _ (Below.size HB.out), HB.out⟩
      case pos =>
        by_cases hc3 : q = m
        case neg =>
          have hne : ((q : Int) != (m : Int)) = true := by simp; omega
          have H1 : Hid (ecC ps ds gs (n : Int) = 2) := Lib.hid (by unfold ecC ecOK; rw [hs, HM.out, HQ.out, decide_eq_false hc3]; simp)
          have H2 : Hid (ecL ps ds gs (n : Int) = []) := Lib.hid (by unfold ecL; rw [H1.out]; rfl)
          replace hc3 := Lib.hid hc3
          go_enter Try.func27, Try.ntmps27
          go_wp2_with fail
          refine (K0.out _ HP.out).mono ?_
          rw [hs]
          rintro e w1 ⟨rfl, hb⟩
          have HB := Lib.hid hb
          clear hb
          go_upto_region 4 with fail
          generalize hW : World.alloc _ _ = W2
          have bX : Bk W2 w1.heap.size #[.int .i64 0, .int .i64 400] 62 := by rw [← hW]; repeat (first | (refine Bk.new' ?_; (simp; done)) | refine Bk.alloc ?_ _)
          have bY : Bk W2 (w1.heap.size + 1) #[.int .i64 (-1000), .int .i64 1000] 62 := by rw [← hW]; repeat (first | (refine Bk.new' ?_; (simp; done)) | refine Bk.alloc ?_ _)
          have hb : Below w1.heap.size w1 W2 := by rw [← hW]; exact (by repeat (first | exact Below.refl _ _ | (refine Below.alloc ?_ (by simp <;> omega) _) | (refine Below.setCell ?_ (by simp <;> omega) _) | (refine Below.drew ?_) | (refine bel_drewN ?_ _)))
          replace HB := Lib.hid (bel_end HB.out hb)
          clear hW hb
          have bX_0 := bX.cell 0 rfl
          have bX_1 := bX.cell 1 rfl
          go_wp2_with fail
          refine (K1.out _).mono ?_
          rw [hc1]
          rintro e w3 ⟨rfl, hb⟩
          clear bX_0 bX_1
          replace bY := bY.on hb
          replace HB := Lib.hid (bel_end HB.out hb)
          clear hb bX
          go_wp2
          go_ret2
          exact ⟨none, 0, by rw [H1.out, H2.out]; rfl, by rw [H2.out]; exact ownA_nil _ _ (Below.size HB.out), HB.out⟩
        case pos =>
          subst hc3
          cases hc4 : anyLack (-1000) 1000 gs
          case true =>
            have H1 : Hid (ecC ps ds gs (n : Int) = 2) := Lib.hid (by unfold ecC ecOK; rw [hs, hc4]; simp)
            have H2 : Hid (ecL ps ds gs (n : Int) = []) := Lib.hid (by unfold ecL; rw [H1.out]; rfl)
            go_enter Try.func27, Try.ntmps27
            go_wp2_with fail
            refine (K0.out _ HP.out).mono ?_
            rw [hs]
            rintro e w1 ⟨rfl, hb⟩
            have HB := Lib.hid hb
            clear hb
            go_upto_region 4 with fail
            generalize hW : World.alloc _ _ = W2
            have bX : Bk W2 w1.heap.size #[.int .i64 0, .int .i64 400] 62 := by rw [← hW]; repeat (first | (refine Bk.new' ?_; (simp; done)) | refine Bk.alloc ?_ _)
            have bY : Bk W2 (w1.heap.size + 1) #[.int .i64 (-1000), .int .i64 1000] 62 := by rw [← hW]; repeat (first | (refine Bk.new' ?_; (simp; done)) | refine Bk.alloc ?_ _)
            have hb : Below w1.heap.size w1 W2 := by rw [← hW]; exact (by repeat (first | exact Below.refl _ _ | (refine Below.alloc ?_ (by simp <;> omega) _) | (refine Below.setCell ?_ (by simp <;> omega) _) | (refine Below.drew ?_) | (refine bel_drewN ?_ _)))
            replace HB := Lib.hid (bel_end HB.out hb)
            clear hW hb
            have bX_0 := bX.cell 0 rfl
            have bX_1 := bX.cell 1 rfl
            go_wp2_with fail
            refine (K1.out _).mono ?_
            rw [hc1]
            rintro e w3 ⟨rfl, hb⟩
            clear bX_0 bX_1
            replace bY := bY.on hb
            replace HB := Lib.hid (bel_end HB.out hb)
            clear hb bX
            have bY_0 := bY.cell 0 rfl
            have bY_1 := bY.cell 1 rfl
            go_wp2_with fail
            refine (K2.out _ (KG.out _ HB.out)).mono ?_
            rw [hc4]
            rintro e w4 ⟨rfl, hb⟩
            clear bY_0 bY_1
            replace HB := Lib.hid (bel_end HB.out hb)
            clear hb bY
            go_wp2
            go_ret2
            exact ⟨none, 0, by rw [H1.out, H2.out]; rfl, by rw [H2.out]; exact ownA_nil _ _ (Below.size HB.out), HB.out⟩
          case false =>
            have gP := (sigB_t hs).1
            cases hc5 : anyLack 0 ((n : Int) - (ps.length : Int)) ds
            case true =>
              have H1 : Hid (ecC ps ds gs (n : Int) = 2) := Lib.hid (by unfold ecC ecOK; rw [hs, hc5]; simp)
              have H2 : Hid (ecL ps ds gs (n : Int) = []) := Lib.hid (by unfold ecL; rw [H1.out]; rfl)
              go_enter Try.func27, Try.ntmps27
              go_wp2_with fail
              refine (K0.out _ HP.out).mono ?_
              rw [hs]
              rintro e w1 ⟨rfl, hb⟩
              have HB := Lib.hid hb
              clear hb
              go_upto_region 4 with fail
              generalize hW : World.alloc _ _ = W2
              have bX : Bk W2 w1.heap.size #[.int .i64 0, .int .i64 400] 62 := by rw [← hW]; repeat (first | (refine Bk.new' ?_; (simp; done)) | refine Bk.alloc ?_ _)
              have bY : Bk W2 (w1.heap.size + 1) #[.int .i64 (-1000), .int .i64 1000] 62 := by rw [← hW]; repeat (first | (refine Bk.new' ?_; (simp; done)) | refine Bk.alloc ?_ _)
              have hb : Below w1.heap.size w1 W2 := by rw [← hW]; exact (by repeat (first | exact Below.refl _ _ | (refine Below.alloc ?_ (by simp <;> omega) _) | (refine Below.setCell ?_ (by simp <;> omega) _) | (refine Below.drew ?_) | (refine bel_drewN ?_ _)))
              replace HB := Lib.hid (bel_end HB.out hb)
              clear hW hb
              have bX_0 := bX.cell 0 rfl
              have bX_1 := bX.cell 1 rfl
              go_wp2_with fail
              refine (K1.out _).mono ?_
              rw [hc1]
              rintro e w3 ⟨rfl, hb⟩
              clear bX_0 bX_1
              replace bY := bY.on hb
              replace HB := Lib.hid (bel_end HB.out hb)
              clear hb bX
              have bY_0 := bY.cell 0 rfl
              have bY_1 := bY.cell 1 rfl
              go_wp2_with fail
              refine (K2.out _ (KG.out _ HB.out)).mono ?_
              rw [hc4]
              rintro e w4 ⟨rfl, hb⟩
              clear bY_0 bY_1
              replace HB := Lib.hid (bel_end HB.out hb)
              clear hb bY
              go_upto_region 7 with fail
              generalize hW : World.alloc _ _ = W5
              have bZ : Bk W5 w4.heap.size #[.int .i64 0, .int .i64 ((n : Int) - (ps.length : Int))] 62 := by rw [← hW]; repeat (first | (refine Bk.new' ?_; (simp; done)) | refine Bk.alloc ?_ _)
              have hb : Below w4.heap.size w4 W5 := by rw [← hW]; exact (by repeat (first | exact Below.refl _ _ | (refine Below.alloc ?_ (by simp <;> omega) _) | (refine Below.setCell ?_ (by simp <;> omega) _) | (refine Below.drew ?_) | (refine bel_drewN ?_ _)))
              replace HB := Lib.hid (bel_end HB.out hb)
              clear hW hb
              have bZ_0 := bZ.cell 0 rfl
              have bZ_1 := bZ.cell 1 rfl
              go_wp2_with fail
              refine (K3.out _ _ (KD.out _ HB.out)).mono ?_
              rw [hc5]
              rintro e w6 ⟨rfl, hb⟩
              clear bZ_0 bZ_1
              replace HB := Lib.hid (bel_end HB.out hb)
              clear hb bZ
              go_wp2
              go_ret2
              exact ⟨none, 0, by rw [H1.out, H2.out]; rfl, by rw [H2.out]; exact ownA_nil _ _ (Below.size HB.out), HB.out⟩
            case false =>
              have HC : ecC ps ds gs (n : Int) = if sigB (ecT n ps ds gs q) then 0 else 3 := by unfold ecC ecOK; rw [hs, hc1, HM.out, HQ.out, decide_eq_true hc2, decide_eq_true rfl, hc4, hc5, Int.toNat_natCast]; rfl
              have gS := anyLack_sml (by decide) hc4
              have pS := (sigB_t hs).2
              have HLB := Lib.hid (fun i => ecT_bd n ds gS pS i)
              have HGS := Lib.hid gS
              have HPS := Lib.hid pS
              have HDS : Hid (∀ i, i < q → ∃ d : Nat, ds.getD i 0 = (d : Int) ∧ d + ps.length ≤ n) := Lib.hid (fun i hi => by have := anyLack_all hc5 (k := i) (by rw [HM.out]; exact hi); exact ⟨(ds.getD i 0).toNat, by omega, by omega⟩)
              clear gS pS
              go_enter Try.func27, Try.ntmps27
              go_wp2_with fail
              refine (K0.out _ HP.out).mono ?_
              rw [hs]
              rintro e w1 ⟨rfl, hb⟩
              have HB := Lib.hid hb
              clear hb
              go_upto_region 4 with fail
              generalize hW : World.alloc _ _ = W2
              have bX : Bk W2 w1.heap.size #[.int .i64 0, .int .i64 400] 62 := by rw [← hW]; repeat (first | (refine Bk.new' ?_; (simp; done)) | refine Bk.alloc ?_ _)
              have bY : Bk W2 (w1.heap.size + 1) #[.int .i64 (-1000), .int .i64 1000] 62 := by rw [← hW]; repeat (first | (refine Bk.new' ?_; (simp; done)) | refine Bk.alloc ?_ _)
              have hb : Below w1.heap.size w1 W2 := by rw [← hW]; exact (by repeat (first | exact Below.refl _ _ | (refine Below.alloc ?_ (by simp <;> omega) _) | (refine Below.setCell ?_ (by simp <;> omega) _) | (refine Below.drew ?_) | (refine bel_drewN ?_ _)))
              replace HB := Lib.hid (bel_end HB.out hb)
              clear hW hb
              have bX_0 := bX.cell 0 rfl
              have bX_1 := bX.cell 1 rfl
              go_wp2_with fail
              refine (K1.out _).mono ?_
              rw [hc1]
              rintro e w3 ⟨rfl, hb⟩
              clear bX_0 bX_1
              replace bY := bY.on hb
              replace HB := Lib.hid (bel_end HB.out hb)
              clear hb bX
              have bY_0 := bY.cell 0 rfl
              have bY_1 := bY.cell 1 rfl
              go_wp2_with fail
              refine (K2.out _ (KG.out _ HB.out)).mono ?_
              rw [hc4]
              rintro e w4 ⟨rfl, hb⟩
              clear bY_0 bY_1
              replace HB := Lib.hid (bel_end HB.out hb)
              clear hb bY
              go_upto_region 7 with fail
              generalize hW : World.alloc _ _ = W5
              have bZ : Bk W5 w4.heap.size #[.int .i64 0, .int .i64 ((n : Int) - (ps.length : Int))] 62 := by rw [← hW]; repeat (first | (refine Bk.new' ?_; (simp; done)) | refine Bk.alloc ?_ _)
              have hb : Below w4.heap.size w4 W5 := by rw [← hW]; exact (by repeat (first | exact Below.refl _ _ | (refine Below.alloc ?_ (by simp <;> omega) _) | (refine Below.setCell ?_ (by simp <;> omega) _) | (refine Below.drew ?_) | (refine bel_drewN ?_ _)))
              replace HB := Lib.hid (bel_end HB.out hb)
              clear hW hb
              have bZ_0 := bZ.cell 0 rfl
              have bZ_1 := bZ.cell 1 rfl
              go_wp2_with fail
              refine (K3.out _ _ (KD.out _ HB.out)).mono ?_
              rw [hc5]
              rintro e w6 ⟨rfl, hb⟩
              clear bZ_0 bZ_1
              replace HB := Lib.hid (bel_end HB.out hb)
              clear hb bZ
              have hmk : ∀ w, (Instr.makeSlice 30 (.int .i64 (n : Int)) (.int .i64 (n : Int))).run Try.prog w = .ok (.slice (some ⟨w.heap.size, 0, none⟩) n n) (w.alloc (.cells (madeCells #[.int .i64 0] n) 2)) := fun w => run_make_row' (P := Try.prog) 30 2 (.int .i64 0) 8 Try.underlying30 info_i64 rfl .i64 .i64 n (by omega) (by omega) w
              go_upto_region 10 with fail
              clear hmk
              obtain ⟨G, hG⟩ : ∃ G, w6.heap.size = G := ⟨_, rfl⟩
              have HR0 := Lib.hid (rowG_zeros w6 n (by unfold maxLen; omega))
              rw [hG] at HR0 ⊢
              have HGs := Lib.hid hG
              clear hG
              go_wp2_with fail
              go_loopw [57] (fun x wr => ∃ i : Nat, i ≤ q ∧ x = .int .i64 (i : Int) ∧ RowG w6 2 1 G n n ((ecT n ps ds gs i).map iv4) wr) (fun x _ => q - (intOf x).toNat)
              case atStart => exact ⟨0, by omega, rfl, HR0.out⟩
              case round =>
                obtain ⟨i, hi2, rfl, hR⟩ := hrel
                have HR := Lib.hid hR
                clear hR HR0
                by_cases hlt : i < q
                case neg =>
                  obtain rfl : i = q := by omega
                  have HA := Lib.hid (ownA_row HR.out (ecT_len n ps ds gs i) HB.out.size)
                  have HBX := Lib.hid (bel_end HB.out HR.out.bel)
                  have KS : Calls Try.prog 53 #[.slice (some ⟨G, 0, none⟩) n n] wr fun e w' => e = .returned (.bool (sigB (ecT n ps ds gs i))) ∧ Below wr.heap.size wr w' := by
                    have := isg_any wr (some ⟨G, 0, none⟩) n (ecT n ps ds gs i) (by rw [ecT_len]; omega) HA.out.ints
                    rwa [ecT_len] at this
                  have HKS := Lib.hid KS
                  clear HR KS
                  cases hsg : sigB (ecT n ps ds gs i)
                  case false =>
                    rw [hsg] at HKS HC
                    have H1 : Hid (ecC ps ds gs (n : Int) = 3) := Lib.hid HC
                    have H2 : Hid (ecL ps ds gs (n : Int) = []) := Lib.hid (by unfold ecL; rw [H1.out]; rfl)
                    clear HC
                    go_wp2_with fail
                    refine HKS.out.mono ?_
                    rintro e w8 ⟨rfl, hb⟩
                    have HB8 := Lib.hid (bel_end HBX.out hb)
                    clear hb
                    go_wp2
                    go_ret2
                    exact ⟨none, 0, by rw [H1.out, H2.out]; rfl, by rw [H2.out]; exact ownA_nil _ _ (Below.size HB8.out), HB8.out⟩
                  case true =>
                    rw [hsg] at HKS HC
                    have H1 : Hid (ecC ps ds gs (n : Int) = 0) := Lib.hid HC
                    have H2 : Hid (ecL ps ds gs (n : Int) = ecT n ps ds gs i) := Lib.hid (by unfold ecL; rw [H1.out, Int.toNat_natCast, HM.out]; rfl)
                    clear HC
                    go_wp2_with fail
                    refine HKS.out.mono ?_
                    rintro e w8 ⟨rfl, hb⟩
                    have HO8 : Hid (OwnA w8 w.heap.size w8.heap.size (some ⟨G, 0, none⟩) n (ecT n ps ds gs i)) := Lib.hid (by have h := HA.out.on hb; exact ⟨h.own, fun g e => Nat.lt_of_lt_of_le (h.lt g e) h.up, Nat.le_refl _⟩)
                    have HB8 := Lib.hid (bel_end HBX.out hb)
                    clear hb
                    go_wp2
                    go_ret2
                    exact ⟨some ⟨G, 0, none⟩, n, by rw [H1.out, H2.out, ecT_len]; rfl, by rw [H2.out]; exact HO8.out, HB8.out⟩
                case pos =>
                  obtain ⟨d, hd, hdn⟩ := HDS.out i hlt
                  obtain ⟨b1, o1, ra, hB1, hcd⟩ := ((KD.out _ HB.out).below HR.out.bel).at_ (j := i) (by rw [HM.out]; exact hlt)
                  obtain ⟨b2, o2, rb, hB2, hcg⟩ := ((KG.out _ HB.out).below HR.out.bel).at_ (j := i) (by rw [HQ.out]; exact hlt)
                  subst ra rb
                  have hgb := HGS.out i
                  have hts := ecT_succ n ps ds gs i
                  obtain ⟨x, hx⟩ : ∃ x, gs.getD i 0 = x := ⟨_, rfl⟩
                  rw [hd] at hcd hts
                  rw [hx] at hcg hgb hts
                  rw [Int.toNat_natCast] at hts
                  have HTS := Lib.hid hts
                  have KA := Lib.hid (fun (sa : Option Addr) (k : Nat) (hsa : 0 < ps.length → sa = some ⟨G, d, none⟩) (hk : n - d = k) => aec_any w6 wr.drew G n d k sa a0 k c0 (ecT n ps ds gs i) ps (1000000 * (i : Int)) x HR.out.drew (ecT_len n ps ds gs i) hsa hk hdn (by omega) hgb HPS.out (HLB.out i) (by omega) (KP.out _ HB.out))
                  clear hd hx hts hgb
                  by_cases hnd : n = d
                  case pos =>
                    subst hnd
                    replace KA := Lib.hid (KA.out (some ⟨G, 0, none⟩) 0 (fun h => by omega) (by omega))
                    go_wp2_with fail
                    go_still_tail 8, (by kernel_rfl)
                    go_wp2_with fail
                    refine KA.out.mono ?_
                    rintro e w9 ⟨rfl, hR9⟩
                    have HR9 := Lib.hid hR9
                    clear hR9 KA HR
                    rw [← HTS.out] at HR9
                    go_wp2_with fail
                    go_roundw
                    case rel => exact ⟨i + 1, by omega, by go_num, HR9.out⟩
                    case measure => simp [intOf]; omega
                  case neg =>
                    replace KA := Lib.hid (KA.out (some ⟨G, d, none⟩) (n - d) (fun h => rfl) rfl)
                    have hsl := run_from G n d (by omega) hnd
                    go_wp2_with fail
                    go_still_tail 8, (by kernel_rfl)
                    go_wp2_with fail
                    refine KA.out.mono ?_
                    rintro e w9 ⟨rfl, hR9⟩
                    have HR9 := Lib.hid hR9
                    clear hR9 KA HR
                    rw [← HTS.out] at HR9
                    go_wp2_with fail
                    go_roundw
                    case rel => exact ⟨i + 1, by omega, by go_num, HR9.out⟩
                    case measure => simp [intOf]; omega
end Go.Proofs.Ythfaejhiabdkbab
