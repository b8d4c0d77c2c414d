/- The contract of the program's PlaneWave. -/
import Derived.Test.YthfaejhiabdkbaaBmI
namespace Go.Proofs.Ythfaejhiabdkbaa
open Go.ChangeShapes Go.WideShapes Go.ChangeAt Go.RowKit Go.Shelf Num
set_option linter.unusedVariables false
set_option linter.unusedSimpArgs false

theorem any2 (st le : Int) : (!anyLack 0 400 [st, le]) = (hasB 0 400 le && hasB 0 400 st) := by
  unfold anyLack
  cases h1 : hasB 0 400 st <;> cases h2 : hasB 0 400 le <;> simp [h1, h2]
theorem ints2 {W : World} {g : Nat} {x y : Int} (h : Bk W g #[.int .i64 x, .int .i64 y] 2) : Ints .i64 W W.heap.size (some ⟨g, 0, none⟩) [x, y] := fun _ => ⟨g, 0, rfl, h.lt, fun j hj => by
  rw [Nat.zero_add]
  match j, hj with
  | 0, _ => exact h.cell 0 rfl
  | 1, _ => exact h.cell 1 rfl⟩
theorem pwI_any {ps zs : List Int} {s h r v st le : Int} {n : Nat} (hn : zs.length = n) : (!anyLack (-st) (le - (ps.length : Int) - st) (dlL zs s h r v n)) = decide (pwI ps zs s h r v st le) := by
  by_cases hI : pwI ps zs s h r v st le
  · rw [decide_eq_true hI, anyLack_f]
    · rfl
    · intro k hk
      rw [dlL_len] at hk
      rw [dlL_at _ _ _ _ _ hk]
      have := hI k (by omega)
      unfold pwA at this
      exact hasB_mk (by omega) (by omega)
  · rw [decide_eq_false hI]
    cases e : anyLack (-st) (le - (ps.length : Int) - st) (dlL zs s h r v n)
    · refine absurd (fun i hi => ?_) hI
      have := anyLack_all e (k := i) (by rw [dlL_len]; omega)
      rw [dlL_at _ _ _ _ _ (by omega)] at this
      unfold pwA
      omega
    · rfl
theorem preS_upd (f : Nat → List Int) (qs : Nat → Option Addr × Nat) {n k g N : Nat} (hN : (f k).length = N) :
    (preS (fun j => .slice (qs j).1 (f j).length (qs j).2) n k).set k (.slice (some ⟨g, 0, none⟩) N N) = preS (fun j => .slice ((fun j => if j = k then (some ⟨g, 0, none⟩, N) else qs j) j).1 (f j).length ((fun j => if j = k then ((some ⟨g, 0, none⟩ : Option Addr), N) else qs j) j).2) n (k + 1) := by
  rw [← preS_set (n := n) (fun j => .slice ((fun j => if j = k then (some ⟨g, 0, none⟩, N) else qs j) j).1 (f j).length ((fun j => if j = k then ((some ⟨g, 0, none⟩ : Option Addr), N) else qs j) j).2) (k := k) (.slice (some ⟨g, 0, none⟩) N N) (by simp [hN])]
  congr 1
  refine preS_congr fun j hj => ?_
  simp only [if_neg (show ¬ j = k by omega)]
theorem run_fromB (G n d : Nat) (hd : d ≤ n) (w : World) : (Instr.sliceAt 22 (.slice (some ⟨G, 0, none⟩) n n) (some (.int .i64 (d : Int))) none none).run Try.prog w = .ok (.slice (if n = d then some ⟨G, 0, none⟩ else some ⟨G, d, none⟩) (n - d) (n - d)) w := by
  have h1 : (d : Int) ≤ (n : Int) := by omega
  by_cases e : n = d
  · subst e
    simp [go_sem, Instr.sliceAt, Addr.add, Try.underlying22]
  · simp [go_sem, Instr.sliceAt, e, Addr.add, h1, hd, Try.underlying22]
    exact fun h => h.symm

set_option maxRecDepth 100000 in
set_option maxHeartbeats 8000000 in
theorem iplw (w : World) (a b : Option Addr) (ca cb : Nat) (ps zs : List Int) (c s h r v st le : Int) (lp : ps.length ≤ 1048576) (lz : zs.length ≤ 1048576) (hp : Ints .i64 w w.heap.size a ps) (hz : Ints .i64 w w.heap.size b zs) :
    Calls Try.prog 21 #[.slice a ps.length ca, .slice b zs.length cb, .agg #[.int .i64 c, .int .i64 s, .int .i64 h], .int .i64 r, .int .i64 v, .int .i64 st, .int .i64 le] w fun e w' => ∃ (q : Option Addr) (d : Nat) (qs : Nat → Option Addr × Nat), e = .returned (.tuple #[.slice q (pwR ps zs c s h r v st le).length d, .int .i64 (pwC ps zs c s h r v st le)]) ∧ OwnR w' w.heap.size w'.heap.size q d qs (pwR ps zs c s h r v st le) ∧ Below w.heap.size w w' := by
  have HPp := Lib.hid hp
  have HZ := Lib.hid hz
  clear hp hz
  go_enter Try.func21, Try.ntmps21
  go_wp2_with fail
  generalize hW : World.alloc _ _ = W
  have bD : Bk W (w.heap.size) #[.int .i64 c, .int .i64 s, .int .i64 h] 30 := by rw [← hW]; repeat (first | (refine Bk.new' ?_; (simp; done)) | refine Bk.alloc ?_ _)
  have hb : Below w.heap.size w W := by rw [← hW]; exact (by repeat (first | exact Below.refl _ _ | (refine Below.alloc ?_ (by simp <;> omega) _) | (refine Below.setCell ?_ (by simp <;> omega) _) | (refine Below.drew ?_) | (refine bel_drewN ?_ _)))
  clear hW
  replace HPp := Lib.hid ((HPp.out.below hb).more hb.size)
  replace HZ := Lib.hid ((HZ.out.below hb).more hb.size)
  have HB := Lib.hid hb
  clear hb
  refine (isg_any W _ _ ps (by omega) HPp.out).mono ?_
  cases hs : sigB ps
  · rintro e w1 ⟨rfl, hb⟩
    have HC0 : Hid (pwC ps zs c s h r v st le = 1) := Lib.hid (pwC_1 hs)
    have HR0 : Hid (pwR ps zs c s h r v st le = []) := Lib.hid (pwR_n (by rw [HC0.out]; decide))
    replace HPp := Lib.hid ((HPp.out.below hb).more hb.size)
    replace HZ := Lib.hid ((HZ.out.below hb).more hb.size)
    replace HB := Lib.hid (bel_end HB.out hb)
    clear hb
    go_wp2
    go_ret2
    exact ⟨none, 0, fun _ => (none, 0), by rw [HR0.out, HC0.out]; rfl, by rw [HR0.out]; exact ownR_nil _ _ (HB.out).size, HB.out⟩
  rintro e w1 ⟨rfl, hb⟩
  have HS := Lib.hid hs
  clear hs
  replace HPp := Lib.hid ((HPp.out.below hb).more hb.size)
  replace HZ := Lib.hid ((HZ.out.below hb).more hb.size)
  replace bD := bD.on hb
  replace HB := Lib.hid (bel_end HB.out hb)
  clear hb
  have bD_0 := bD.cell 0 rfl
  have bD_1 := bD.cell 1 rfl
  have bD_2 := bD.cell 2 rfl
  have bD_l := bD.lt
  go_wp2_with fail
  clear bD_0 bD_1 bD_2 bD_l
  generalize hW : World.alloc _ _ = W
  have bA : Bk W (w1.heap.size) #[.slice b zs.length cb, .int .i64 r, .int .i64 v] 50 := by rw [← hW]; repeat (first | (refine Bk.new' ?_; (simp; done)) | refine Bk.alloc ?_ _)
  have bS : Bk W (w1.heap.size + 1) #[.int .i64 c, .int .i64 s, .int .i64 h] 30 := by rw [← hW]; repeat (first | (refine Bk.new' ?_; (simp; done)) | refine Bk.alloc ?_ _)
  have hb : Below w1.heap.size w1 W := by rw [← hW]; exact (by repeat (first | exact Below.refl _ _ | (refine Below.alloc ?_ (by simp <;> omega) _) | (refine Below.setCell ?_ (by simp <;> omega) _) | (refine Below.drew ?_) | (refine bel_drewN ?_ _)))
  clear hW
  replace HPp := Lib.hid ((HPp.out.below hb).more hb.size)
  replace HZ := Lib.hid ((HZ.out.below hb).more hb.size)
  replace bD := bD.on hb
  replace HB := Lib.hid (bel_end HB.out hb)
  clear hb
  refine (erf_any W _ _ _ 1 zs [(c, s, h)] r v (by omega) (by simp) HZ.out (Dirs.one bS)).mono ?_
  rw [erC_one]
  rintro e w3 ⟨rfl, hb⟩
  clear bS
  replace HPp := Lib.hid ((HPp.out.below hb).more hb.size)
  replace HZ := Lib.hid ((HZ.out.below hb).more hb.size)
  replace bD := bD.on hb
  replace bA := bA.on hb
  replace HB := Lib.hid (bel_end HB.out hb)
  clear hb
  by_cases e0 : arC zs c s h r v = 0
  case neg =>
    have HC0 : Hid (pwC ps zs c s h r v st le = arC zs c s h r v) := Lib.hid (pwC_2 HS.out e0)
    have HR0 : Hid (pwR ps zs c s h r v st le = []) := Lib.hid (pwR_n (by rw [HC0.out]; exact e0))
    have k2 : (arC zs c s h r v != 0) = true := by simpa using e0
    go_wp2
    go_ret2
    exact ⟨none, 0, fun _ => (none, 0), by rw [HR0.out, HC0.out]; rfl, by rw [HR0.out]; exact ownR_nil _ _ (HB.out).size, HB.out⟩
  case pos =>
    have K := Lib.hid (AOk.of e0)
    have HE := Lib.hid e0
    rw [e0]
    clear e0
    go_wp2_with fail
    generalize hW : World.alloc _ _ = W
    have bV : Bk W (w3.heap.size + 1) #[.int .i64 st, .int .i64 le] 2 := by rw [← hW]; repeat (first | (refine Bk.new' ?_; (simp; done)) | refine Bk.alloc ?_ _)
    have hb : Below w3.heap.size w3 W := by rw [← hW]; exact (by repeat (first | exact Below.refl _ _ | (refine Below.alloc ?_ (by simp <;> omega) _) | (refine Below.setCell ?_ (by simp <;> omega) _) | (refine Below.drew ?_) | (refine bel_drewN ?_ _)))
    clear hW
    replace HPp := Lib.hid ((HPp.out.below hb).more hb.size)
    replace HZ := Lib.hid ((HZ.out.below hb).more hb.size)
    replace bD := bD.on hb
    replace bA := bA.on hb
    replace HB := Lib.hid (bel_end HB.out hb)
    clear hb
    refine (are_any W _ _ 2 [st, le] 0 400 rfl (by omega) (ints2 bV)).mono ?_
    rw [any2]
    clear bV
    cases hq : (hasB 0 400 le && hasB 0 400 st)
    · rintro e w4 ⟨rfl, hb⟩
      have HC0 : Hid (pwC ps zs c s h r v st le = 2) := Lib.hid (pwC_3 HS.out HE.out hq)
      have HR0 : Hid (pwR ps zs c s h r v st le = []) := Lib.hid (pwR_n (by rw [HC0.out]; decide))
      replace HPp := Lib.hid ((HPp.out.below hb).more hb.size)
      replace HZ := Lib.hid ((HZ.out.below hb).more hb.size)
      replace HB := Lib.hid (bel_end HB.out hb)
      clear hb
      go_wp2
      go_ret2
      exact ⟨none, 0, fun _ => (none, 0), by rw [HR0.out, HC0.out]; rfl, by rw [HR0.out]; exact ownR_nil _ _ (HB.out).size, HB.out⟩
    rintro e w4 ⟨rfl, hb⟩
    replace HPp := Lib.hid ((HPp.out.below hb).more hb.size)
    replace HZ := Lib.hid ((HZ.out.below hb).more hb.size)
    replace bD := bD.on hb
    replace bA := bA.on hb
    replace HB := Lib.hid (bel_end HB.out hb)
    clear hb
    have HQ := Lib.hid hq
    simp only [Bool.and_eq_true] at hq
    have bl := hasB_in hq.1
    obtain ⟨s1, s2⟩ := hasB_in hq.2
    clear hq
    obtain ⟨N, rfl⟩ : ∃ N : Nat, le = (N : Int) := Int.eq_ofNat_of_zero_le bl.1
    have hN : N ≤ 400 := by omega
    clear bl
    have bA_0 := bA.cell 0 rfl
    have bA_1 := bA.cell 1 rfl
    have bA_2 := bA.cell 2 rfl
    have bA_l := bA.lt
    have bD_0 := bD.cell 0 rfl
    have bD_1 := bD.cell 1 rfl
    have bD_2 := bD.cell 2 rfl
    have bD_l := bD.lt
    go_wp2_with fail
    clear bA_0 bA_1 bA_2 bA_l
    clear bD_0 bD_1 bD_2 bD_l
    have HD : Hid (∀ i, _) := Lib.hid K.out.num
    obtain ⟨d1, d2⟩ := K.out.den
    have hzl := (arrB_t K.out.ar).2.1
    have hpl := (sigB_t HS.out).1
    refine (idf_any w4 _ _ zs c s h r v K.out HZ.out).mono ?_
    rintro e w5 ⟨q0, c0, rfl, ho, hb⟩
    have HO := Lib.hid ho
    clear ho bD bA
    replace HPp := Lib.hid ((HPp.out.below hb).more hb.size)
    replace HZ := Lib.hid ((HZ.out.below hb).more hb.size)
    replace HB := Lib.hid (bel_end HB.out hb)
    clear hb
    obtain ⟨n, hn⟩ : ∃ n, zs.length = n := ⟨_, rfl⟩
    rw [hn] at hzl HO ⊢
    have HNn := Lib.hid hn
    have HL : Hid ((dlL zs s h r v n).length = n) := Lib.hid (dlL_len _ _ _ _ _ _)
    rw [HL.out]
    clear hn HZ
    obtain ⟨m, hm⟩ : ∃ m, ps.length = m := ⟨_, rfl⟩
    rw [hm] at hpl ⊢
    have HM := Lib.hid hm
    clear hm
    have e1 : IntKind.wrap .i64 (-st) = -st := IntWalk.i64_in _ (by omega)
    have e2 : IntKind.wrap .i64 ((N : Int) - (m : Int)) = (N : Int) - (m : Int) := IntWalk.i64_in _ (by omega)
    have e3 : IntKind.wrap .i64 ((N : Int) - (m : Int) - st) = (N : Int) - (m : Int) - st := IntWalk.i64_in _ (by omega)
    go_wp2_with fail
    clear e1 e2 e3
    generalize hW : World.alloc _ _ = W
    have hb : Below w5.heap.size w5 W := by rw [← hW]; exact (by repeat (first | exact Below.refl _ _ | (refine Below.alloc ?_ (by simp <;> omega) _) | (refine Below.setCell ?_ (by simp <;> omega) _) | (refine Below.drew ?_) | (refine bel_drewN ?_ _)))
    clear hW
    replace HPp := Lib.hid ((HPp.out.below hb).more hb.size)
    replace HO := Lib.hid (HO.out.on hb)
    replace HB := Lib.hid (bel_end HB.out hb)
    clear hb
    have KA := are_any W q0 c0 n (dlL zs s h r v n) (-st) ((N : Int) - (m : Int) - st) HL.out (by omega) HO.out.ints
    have EQ := pwI_any (ps := ps) (s := s) (h := h) (r := r) (v := v) (st := st) (le := (N : Int)) HNn.out
    rw [HM.out] at EQ
    rw [EQ] at KA
    clear EQ
    refine KA.mono ?_
    clear KA
    by_cases hI : pwI ps zs s h r v st (N : Int)
    case neg =>
      rw [decide_eq_false hI]
      rintro e w6 ⟨rfl, hb⟩
      have HC0 : Hid (pwC ps zs c s h r v st (N : Int) = 2) := Lib.hid (pwC_4 HS.out HE.out HQ.out hI)
      have HR0 : Hid (pwR ps zs c s h r v st (N : Int) = []) := Lib.hid (pwR_n (by rw [HC0.out]; decide))
      replace HB := Lib.hid (bel_end HB.out hb)
      clear hb hI
      go_wp2
      go_ret2
      exact ⟨none, 0, fun _ => (none, 0), by rw [HR0.out, HC0.out]; rfl, by rw [HR0.out]; exact ownR_nil _ _ (HB.out).size, HB.out⟩
    case pos =>
      rw [decide_eq_true hI]
      rintro e w6 ⟨rfl, hb⟩
      have HC0 : Hid (pwC ps zs c s h r v st (N : Int) = 0) := Lib.hid (pwC_5 HS.out HE.out HQ.out hI)
      have HR0 : Hid (pwR ps zs c s h r v st (N : Int) = pwL ps zs s h r v st (N : Int) zs.length) := Lib.hid (by unfold pwR; rw [if_pos HC0.out])
      have HI := Lib.hid hI
      replace HPp := Lib.hid ((HPp.out.below hb).more hb.size)
      replace HO := Lib.hid (HO.out.on hb)
      replace HB := Lib.hid (bel_end HB.out hb)
      clear hb hI
      have hmo : ∀ w, (Instr.makeSlice 34 (.int .i64 n) (.int .i64 n)).run Try.prog w = .ok (.slice (some ⟨w.heap.size, 0, none⟩) n n) (w.alloc (.cells (madeCells #[.slice none 0 0] n) 22)) := fun w => run_make_row' (P := Try.prog) 34 22 (.slice none 0 0) 24 Try.underlying34 info_sl rfl .i64 .i64 n (by omega) (by omega) w
      go_wp2_with fail
      clear hmo
      obtain ⟨f, hf⟩ : ∃ f : Nat → List Int, f = fun i => wav ps (pwA zs s h r v st i).toNat N := ⟨_, rfl⟩
      have HFF := Lib.hid hf
      have HFL : Hid (∀ i, (f i).length = N) := Lib.hid (fun i => by rw [hf]; exact wav_len _ _ _)
      clear hf
      have HP0 : Hid (PwS w6 w6.heap.size n n (preS (fun j => .slice ((fun _ => ((none : Option Addr), 0)) j).1 (f j).length ((fun _ => ((none : Option Addr), 0)) j).2) n 0) 0 (fun _ => (none, 0)) f (w6.alloc (.cells (madeCells #[.slice none 0 0] n) 22))) := Lib.hid ⟨by rw [preS_0]; exact rowS_zeros w6 n (by unfold maxLen; omega), fun j hj => by omega, fun i j _ hj => by omega⟩
      obtain ⟨G, hG⟩ : ∃ G, w6.heap.size = G := ⟨_, rfl⟩
      rw [hG] at HP0 ⊢
      have HGe := Lib.hid hG
      clear hG
      go_loopw [66] (fun i wr => ∃ (k : Nat) (qs : Nat → Option Addr × Nat), k ≤ n ∧ i = .int .i64 k ∧ PwS w6 G n n (preS (fun j => .slice (qs j).1 (f j).length (qs j).2) n k) k qs f wr) (fun i _ => n - (intOf i).toNat)
      case atStart => exact ⟨0, _, by omega, rfl, HP0.out⟩
      case round =>
        obtain ⟨k, qs, hk, rfl, hP⟩ := hrel
        have HP := Lib.hid hP
        have HW := Lib.hid hP.row.bel
        clear hP HP0
        by_cases hlt : k < n
        case neg =>
          obtain rfl : k = n := by omega
          go_wp2
          go_ret2
          exact ⟨some ⟨G, 0, none⟩, k, qs, by rw [HR0.out, HC0.out, pwL_len, HNn.out]; rfl, by
            rw [HR0.out]
            exact HP.out.all rfl (by rw [pwL_len, HNn.out]) (fun j hj => by rw [pwL_at _ _ _ _ _ _ _ _ (by rw [HNn.out]; exact hj), HFF.out]; rfl) (preS_end _ _) HB.out.size, bel_end HB.out HW.out⟩
        case pos =>
        obtain ⟨b2, o2, rfl, -, hq⟩ := (HO.out.on HW.out).ints.at_ (j := k) (by rw [HL.out]; exact hlt)
        rw [dlL_at _ _ _ _ _ hlt] at hq
        have hin := HI.out k (by rw [HNn.out]; exact hlt)
        have HPA : Hid (pwA zs s h r v st k = st + dly s h r v (zs.getD k 0)) := Lib.hid rfl
        rw [HPA.out, HM.out] at hin
        obtain ⟨D, hD⟩ : ∃ D, dly s h r v (zs.getD k 0) = D := ⟨_, rfl⟩
        rw [hD] at hq hin HPA
        clear hD
        obtain ⟨oo, hoo⟩ : ∃ oo : Nat, st + D = (oo : Int) := Int.eq_ofNat_of_zero_le hin.1
        have e1 : IntKind.wrap .i64 (st + D) = (oo : Int) := by rw [hoo]; exact IntWalk.i64_in _ (by omega)
        have ofit : oo + m ≤ N := by omega
        have HPO : Hid (pwA zs s h r v st k = (oo : Int)) := Lib.hid (by rw [HPA.out, hoo])
        have HFK : Hid (f k = wav ps oo N) := Lib.hid (by rw [HFF.out]; show wav ps (pwA zs s h r v st k).toNat N = _; rw [HPO.out]; rfl)
        clear hin hoo
        have hmk : ∀ w, (Instr.makeSlice 22 (.int .i64 N) (.int .i64 N)).run Try.prog w = .ok (.slice (some ⟨w.heap.size, 0, none⟩) N N) (w.alloc (.cells (madeCells #[.int .i64 0] N) 2)) := fun w => run_make_row' (P := Try.prog) 22 2 (.int .i64 0) 8 Try.underlying22 info_i64 rfl .i64 .i64 N (by omega) (by omega) w
        have ho : wr.cell? ⟨G, k, none⟩ = some (.slice none 0 0) := by
          rw [HP.out.row.own.cellAt k (by omega)]
          unfold preS
          rw [List.getElem?_map, List.getElem?_range hlt]
          simp
        have hfz := HP.out.row.own.frozenAt k
        have hGl := HP.out.row.up
        go_upto_region 19 with fail
        clear hmk ho hfz hq
        generalize hW : World.alloc _ _ = W2
        obtain ⟨g, hg⟩ : ∃ g, wr.heap.size = g := ⟨_, rfl⟩
        rw [hg] at hW ⊢
        have hGg : g ≠ G := by omega
        have bG : Bk W2 g (madeCells #[.int .i64 0] N) 2 := by rw [← hW]; exact Bk.new' (by simp [hg])
        have HP2 : Hid (PwS w6 G n n (preS (fun j => .slice ((fun j => if j = k then (some ⟨g, 0, none⟩, N) else qs j) j).1 (f j).length ((fun j => if j = k then ((some ⟨g, 0, none⟩ : Option Addr), N) else qs j) j).2) n (k + 1)) k qs f W2) := Lib.hid (by rw [← preS_upd f qs (HFL.out k), ← hW]; exact (HP.out.setV k _).on ((Below.refl _ _).alloc (Nat.le_refl _) _))
        have HLT : Hid (∀ j, j < k → ∀ x : Addr, (qs j).1 = some x → x.block ≠ g) := Lib.hid (fun j hj x ex => by have := HP.out.lt hj ex; omega)
        have HWg : Hid (w6.heap.size ≤ g) := Lib.hid (by rw [← hg]; exact HW.out.size)
        have hc2 : W2.cell? ⟨G, k, none⟩ = some (.slice (some ⟨g, 0, none⟩) N N) := by
          rw [HP2.out.row.own.cellAt k (by omega)]
          unfold preS
          rw [List.getElem?_map, List.getElem?_range hlt]
          simp [HFL.out k]
        clear hW HP
        have hsl := fun w => run_fromB g N oo (by omega) w
        obtain ⟨w9, hrun, hbk, hoth, hsz, hbel⟩ := cpw_run (w := W2) (B := w6.heap.size) (cp := ca) (b := a) (ps := ps) (o := oo) 3 (if N = oo then some ⟨g, 0, none⟩ else some ⟨g, oo, none⟩) (by rw [HM.out]; exact ofit) (fun h => by rw [HM.out] at h; rw [if_neg (by omega)]) bG (HPp.out.below HP2.out.row.bel)
        rw [HM.out] at hrun
        obtain ⟨dd, hdd⟩ : ∃ d : Option Addr, (if N = oo then some ⟨g, 0, none⟩ else some ⟨g, oo, none⟩ : Option Addr) = d := ⟨_, rfl⟩
        rw [hdd] at hrun
        simp only [hdd] at hsl
        have HOA := Lib.hid (ownA_bk (lo := w6.heap.size) hbk HWg.out (by rw [wav_len]; omega))
        rw [wav_len] at HOA
        have HPN : Hid (PwS w6 G n n _ (k + 1) _ f w9) := Lib.hid ((HP2.out.frame (g := g) (B := 0) (by rw [hsz]; exact Nat.le_refl _) hoth (Ne.symm hGg) HLT.out (HP2.out.row.bel.trans (hbel _ HWg.out))).add (by rw [HFK.out]; exact HOA.out) HLT.out)
        clear hbk hoth hsz hbel HP2 HLT hdd
        go_wp2_with fail
        go_roundw
        (case rel => exact ⟨k + 1, _, by omega, by go_num, HPN.out⟩)
        (case measure => simp [intOf]; omega)
end Go.Proofs.Ythfaejhiabdkbaa
