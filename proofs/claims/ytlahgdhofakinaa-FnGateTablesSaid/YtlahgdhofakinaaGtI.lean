/- Contracts of the tables of costs, on both sides. -/
import Derived.Test.YtlahgdhofakinaaGtH
namespace Go.Proofs.Ytlahgdhofakinaa
open Go.ChangeShapes Go.WideShapes Go.ChangeAt Go.RowKit Go.Shelf Num
set_option linter.unusedVariables false
set_option linter.unusedSimpArgs false

/-- the costs of the first k contacts, zeros behind -/
def pzL (x y s : Int) (ps : List (Int × Int)) (k : Nat) : List Int := (List.range ps.length).map (fun j => if j < k then cK x y s ps j else 0)
theorem pzL_len (x y s : Int) (ps : List (Int × Int)) (k : Nat) : (pzL x y s ps k).length = ps.length := by simp [pzL]
theorem pzL_0 (x y s : Int) (ps : List (Int × Int)) : pzL x y s ps 0 = List.replicate ps.length 0 := by
  unfold pzL
  apply List.ext_getElem (by simp)
  intro i h1 h2
  simp
theorem pzL_end (x y s : Int) (ps : List (Int × Int)) : pzL x y s ps ps.length = cstL x y s ps ps.length := by
  unfold pzL cstL
  apply List.map_congr_left
  intro j hj
  rw [if_pos (List.mem_range.1 hj)]
theorem pzL_set {x y s : Int} {ps : List (Int × Int)} {k : Nat} {c : Int} (h : cK x y s ps k = c) : (pzL x y s ps k).set k c = pzL x y s ps (k + 1) := by
  unfold pzL
  apply List.ext_getElem (by simp)
  intro i h1 h2
  rw [List.getElem_set]
  simp only [List.getElem_map, List.getElem_range]
  by_cases e : k = i
  · subst e; rw [if_pos rfl, if_pos (by omega), h]
  · rw [if_neg e]
    by_cases h' : i < k
    · rw [if_pos h', if_pos (by omega)]
    · rw [if_neg h', if_neg (by omega)]
/-- the table of costs -/
def rwM (ps : List (Int × Int)) (m : Mo) : List Int := cstL m.1 m.2.1 m.2.2.2.2 ps ps.length
def tbL (ms : List Mo) (ps : List (Int × Int)) (n : Nat) : List (List Int) := (List.range n).map (fun j => rwM ps (ms.getD j mo0))
def tbR (ms : List Mo) (ps : List (Int × Int)) : List (List Int) := if ewC ms ps = 0 then tbL ms ps ms.length else []
theorem tbL_len (ms : List Mo) (ps : List (Int × Int)) (n : Nat) : (tbL ms ps n).length = n := by simp [tbL]
theorem tbL_at (ms : List Mo) (ps : List (Int × Int)) {n j : Nat} (h : j < n) : gR (tbL ms ps n) j = rwM ps (ms.getD j mo0) := gR_map _ h
theorem rwM_len (ps : List (Int × Int)) (m : Mo) : (rwM ps m).length = ps.length := cstL_len _ _ _ _ _
theorem ewC_0 {ms : List Mo} {ps : List (Int × Int)} (h : ewC ms ps = 0) : allM ms = true ∧ allC ps = true ∧ ms.length ≤ 6 ∧ ps.length ≤ 6 := by
  unfold ewC at h
  split at h
  · rename_i e
    rw [Bool.and_eq_true] at e
    split at h
    · omega
    · exact ⟨e.1, e.2, by omega, by omega⟩
  · omega
theorem tbR_len (ms : List Mo) (ps : List (Int × Int)) : (tbR ms ps).length ≤ 6 ∧ ∀ j, j < (tbR ms ps).length → (gR (tbR ms ps) j).length ≤ 6 := by
  unfold tbR
  split
  · rename_i h
    obtain ⟨-, -, h1, h2⟩ := ewC_0 h
    rw [tbL_len]
    exact ⟨h1, fun j hj => by rw [tbL_at _ _ hj, rwM_len]; exact h2⟩
  · exact ⟨by simp, fun j hj => by simp at hj⟩
theorem ewC_split (ms : List Mo) (ps : List (Int × Int)) (h : allM ms = true) : ewC ms ps = if csC ps = 0 ∧ 6 < ms.length then 3 else csC ps := by
  unfold ewC csC
  rw [h]
  cases allC ps
  · simp
  · by_cases h1 : 6 < ms.length <;> by_cases h2 : 6 < ps.length <;> simp [h1, h2]

set_option maxRecDepth 100000 in
set_option maxHeartbeats 8000000 in
theorem icf_any (w : World) (x y u v s : Int) (a : Option Addr) (cap : Nat) (ps : List (Int × Int)) (h6 : ps.length ≤ 6) (hz : Cts w w.heap.size a ps) (hxy : ctB x y = true) (ha : allC ps = true) (s0 : 0 ≤ s) (s1 : s ≤ 10000) :
    Calls Try.prog 63 #[.slice a ps.length cap, .agg #[.int .i64 x, .int .i64 y, .int .i64 u, .int .i64 v, .int .i64 s]] w fun e w' => ∃ g : Nat, e = .returned (.slice (some ⟨g, 0, none⟩) ps.length ps.length) ∧ w.heap.size ≤ g ∧ OwnA w' w.heap.size w'.heap.size (some ⟨g, 0, none⟩) ps.length (cstL x y s ps ps.length) ∧ Below w.heap.size w w' := by
  have HZ := Lib.hid hz
  have HA := Lib.hid ha
  have HXY := Lib.hid hxy
  have HSP := Lib.hid (And.intro s0 s1)
  clear hz ha hxy s0 s1
  have hmk : ∀ w, (Instr.makeSlice 38 (.int .i64 (ps.length : Int)) (.int .i64 (ps.length : Int))).run Try.prog w = .ok (.slice (some ⟨w.heap.size, 0, none⟩) ps.length ps.length) (w.alloc (.cells (madeCells #[.int .i64 0] ps.length) 2)) := fun w => run_make_row' (P := Try.prog) 38 2 (.int .i64 0) 8 Try.underlying38 info_i64 rfl .i64 .i64 ps.length (by omega) (by omega) w
  go_enter Try.func63, Try.ntmps63
  go_upto_region 1 with fail
  generalize hW : World.alloc _ _ = W
  have bM : Bk W (w.heap.size) #[.int .i64 x, .int .i64 y, .int .i64 u, .int .i64 v, .int .i64 s] 32 := by rw [← hW]; repeat (first | (refine Bk.new' ?_; (simp; done)) | refine Bk.alloc ?_ _)
  have HB : Hid (Below w.heap.size w W) := Lib.hid (by rw [← hW]; exact (by repeat (first | exact Below.refl _ _ | (refine Below.alloc ?_ (by simp <;> omega) _) | (refine Below.setCell ?_ (by simp <;> omega) _) | (refine Below.drew ?_) | (refine bel_drewN ?_ _))))
  clear hW
  have HM := Lib.hid bM
  clear bM
  go_wp2_with fail
  clear hmk
  have HS0 := Lib.hid (rowG_zeros W ps.length (by unfold maxLen; omega))
  obtain ⟨gR, hg⟩ : ∃ g, W.heap.size = g := ⟨_, rfl⟩
  rw [hg] at HS0 ⊢
  have HGR := Lib.hid hg
  clear hg
  go_loopw [13] (fun i wr => ∃ k : Nat, k ≤ ps.length ∧ i = .int .i64 k ∧ RowG W 2 1 gR ps.length ps.length ((pzL x y s ps k).map iv4) wr) (fun i _ => ps.length - (intOf i).toNat)
  case atStart => exact ⟨0, by omega, rfl, by rw [pzL_0]; exact HS0.out⟩
  case round =>
    obtain ⟨k, hk, rfl, hR⟩ := hrel
    have HR := Lib.hid hR
    clear hR HS0
    by_cases hlt : k < ps.length
    case pos =>
      obtain ⟨b, off, p, q, rfl, hBk, hpq, hc0, hc1⟩ := (HZ.out.below (bel_end HB.out HR.out.bel)).at_ hlt
      have hcq := allC_at HA.out hlt
      rw [hpq] at hcq
      have HV : Hid (cK x y s ps k = if gin x y s p q then gc x y p q else -1) := Lib.hid (by unfold cK iK gK pX pY; rw [hpq])
      have K1 : Hid (∀ W : World, Calls Try.prog 103 #[.agg #[.int .i64 x, .int .i64 y, .int .i64 u, .int .i64 v, .int .i64 s], .agg #[.int .i64 p, .int .i64 q]] W fun e w' => e = .returned (.bool (gin x y s p q)) ∧ Below W.heap.size W w') := Lib.hid (fun W => iho_any W x y u v s p q HXY.out hcq HSP.out.1 HSP.out.2)
      have K2 : Hid (∀ W : World, Calls Try.prog 104 #[.agg #[.int .i64 x, .int .i64 y, .int .i64 u, .int .i64 v, .int .i64 s], .agg #[.int .i64 p, .int .i64 q]] W fun e w' => e = .returned (.int .i64 (gc x y p q)) ∧ Below W.heap.size W w') := Lib.hid (fun W => ico14_any W x y u v s p q HXY.out hcq)
      obtain ⟨V, hV⟩ : ∃ qq, gin x y s p q = qq := ⟨_, rfl⟩
      obtain ⟨G, hG⟩ : ∃ qq, gc x y p q = qq := ⟨_, rfl⟩
      rw [hV] at K1 HV
      rw [hG] at K2 HV
      clear hV hG hpq hcq
      have hkl : (k : Int) < (ps.length : Int) := by omega
      go_upto_region 5 with fail
      generalize hW : World.alloc _ _ = WC
      obtain ⟨gC, hg⟩ : ∃ g, g = wr.heap.size := ⟨_, rfl⟩
      have bC : Bk WC gC #[.int .i64 p, .int .i64 q] 79 := by rw [← hW]; exact Bk.new' hg
      have hb0 : Below wr.heap.size wr WC := by rw [← hW]; exact (Below.refl _ _).alloc (Nat.le_refl _) _
      try rw [← hg]
      have hCR : gC ≠ gR := by have := HR.out.up; omega
      replace HR := Lib.hid (HR.out.on hb0)
      clear hW hg hb0 hc0 hc1
      have ho := HR.out.at1 (j := k) hlt (by exact pzL_len _ _ _ _ _)
      have hfz := HR.out.own.frozenAt k
      have hgl := HR.out.up
      go_upto_region 6 with fail
      clear ho hfz hgl
      generalize hW : World.setCell _ _ _ = WS
      replace HR : Hid (RowG W 2 1 gR ps.length ps.length (((pzL x y s ps k).set k (-1)).map iv4) WS) := Lib.hid (by rw [← hW]; exact HR.out.set k (-1))
      replace bC : Bk WS gC #[.int .i64 p, .int .i64 q] 79 := by rw [← hW]; exact bC.other hCR _ _
      clear hW
      have bM := HM.out.on HR.out.bel
      have m0 := bM.cell 0 rfl
      have m1 := bM.cell 1 rfl
      have m2 := bM.cell 2 rfl
      have m3 := bM.cell 3 rfl
      have m4 := bM.cell 4 rfl
      have ml := bM.lt
      have c0 := bC.cell 0 rfl
      have c1 := bC.cell 1 rfl
      have cl := bC.lt
      go_wp2_with fail
      clear m0 m1 m2 m3 m4 ml
      clear c0 c1 cl
      (with_reducible refine Calls.mono (K1.out _) ?_)
      rintro e w2 ⟨rfl, hb⟩
      replace HR := Lib.hid (HR.out.on hb)
      replace bC := bC.on hb
      replace bM := bM.on hb
      clear hb
      cases V
      case false =>
        rw [if_neg (by simp)] at HV
        clear bM bC
        go_wp2_with fail
        go_roundw
        case rel => exact ⟨k + 1, by omega, by go_num, by rw [← pzL_set HV.out]; exact HR.out⟩
        case measure => simp [intOf]; omega
      case true =>
        rw [if_pos rfl] at HV
        have m0 := bM.cell 0 rfl
        have m1 := bM.cell 1 rfl
        have m2 := bM.cell 2 rfl
        have m3 := bM.cell 3 rfl
        have m4 := bM.cell 4 rfl
        have ml := bM.lt
        have c0 := bC.cell 0 rfl
        have c1 := bC.cell 1 rfl
        have cl := bC.lt
        go_wp2_with fail
        clear m0 m1 m2 m3 m4 ml
        clear c0 c1 cl
        (with_reducible refine Calls.mono (K2.out _) ?_)
        rintro e w3 ⟨rfl, hb⟩
        replace HR := Lib.hid (HR.out.on hb)
        clear hb bM bC
        have ho := HR.out.at1 (j := k) hlt (by rw [List.length_set]; exact pzL_len _ _ _ _ _)
        have hfz := HR.out.own.frozenAt k
        have hgl := HR.out.up
        have HR9 : Hid (RowG W 2 1 gR ps.length ps.length ((pzL x y s ps (k + 1)).map iv4) (w3.setCell ⟨gR, k, none⟩ (.int .i64 G))) := Lib.hid (by have := HR.out.set k G; rwa [List.set_set, pzL_set HV.out] at this)
        go_wp2_with fail
        go_roundw
        case rel => exact ⟨k + 1, by omega, by go_num, HR9.out⟩
        case measure => simp [intOf]; omega
    case neg =>
      obtain rfl : k = ps.length := by omega
      rw [pzL_end] at HR
      go_wp2
      go_ret
      exact ⟨gR, rfl, by rw [← HGR.out]; exact HB.out.size, ownA_row HR.out (cstL_len _ _ _ _ _) HB.out.size, bel_end HB.out HR.out.bel⟩

set_option maxRecDepth 100000 in
set_option maxHeartbeats 8000000 in
theorem igcs_any (w : World) (b a : Option Addr) (d cap : Nat) (ms : List Mo) (ps : List (Int × Int)) (hl : ps.length ≤ 9223372036854775807) (hl2 : ms.length ≤ 9223372036854775807) (hy : Mts w w.heap.size b ms) (hz : Cts w w.heap.size a ps) :
    Calls Try.prog 18 #[.slice b ms.length d, .slice a ps.length cap] w fun e w' => ∃ (q : Option Addr) (c : Nat) (qs : Nat → Option Addr × Nat), e = .returned (.tuple #[.slice q (tbR ms ps).length c, .int .i64 (ewC ms ps)]) ∧ OwnR w' w.heap.size w'.heap.size q c qs (tbR ms ps) ∧ Below w.heap.size w w' := by
  have HZ := Lib.hid hz
  have HY := Lib.hid hy
  clear hz hy
  obtain ⟨C, hC⟩ : ∃ qq, ewC ms ps = qq := ⟨_, rfl⟩
  have KE : Hid (∀ W : World, Below w.heap.size w W → Calls Try.prog 62 #[.slice a ps.length cap, .slice b ms.length d] W fun e w' => e = .returned (.int .i64 C) ∧ Below W.heap.size W w') := Lib.hid (fun W hb => by have := iew_any W a b cap d _ _ ps ms rfl rfl hl hl2 (HZ.out.on hb) (HY.out.on hb); rwa [hC] at this)
  by_cases hc : C = 0
  case neg =>
    have H1 : Hid (tbR ms ps = []) := Lib.hid (by unfold tbR; rw [hC, if_neg hc])
    have HC := Lib.hid hC
    have hc2 : (C != 0) = true := by simpa using hc
    clear hC hc
    go_enter Try.func18, Try.ntmps18
    go_wp2_with fail
    (with_reducible refine Calls.mono (KE.out _ (Below.refl _ _)) ?_)
    rintro e w1 ⟨rfl, hb⟩
    have HB := Lib.hid hb
    clear hb KE
    go_wp2
    go_ret2
    exact ⟨none, 0, fun _ => (none, 0), ret_li (by rw [H1.out]; rfl) HC.out, by rw [H1.out]; exact ownR_nil _ _ HB.out.size, HB.out⟩
  case pos =>
    subst hc
    obtain ⟨hm, ha, n6, h6⟩ := ewC_0 hC
    have H1 : Hid (tbR ms ps = tbL ms ps ms.length) := Lib.hid (by unfold tbR; rw [if_pos hC])
    have HC := Lib.hid hC
    have HA := Lib.hid ha
    have HMM := Lib.hid hm
    clear hC hm ha
    obtain ⟨f, hf⟩ : ∃ f : Nat → List Int, f = fun j => rwM ps (ms.getD j mo0) := ⟨_, rfl⟩
    have HFF : Hid (∀ j, f j = rwM ps (ms.getD j mo0)) := Lib.hid (fun j => by rw [hf])
    have HFL : Hid (∀ j, (f j).length = ps.length) := Lib.hid (fun j => by rw [HFF.out]; exact rwM_len _ _)
    clear hf
    have hmk : ∀ w, (Instr.makeSlice 28 (.int .i64 (ms.length : Int)) (.int .i64 (ms.length : Int))).run Try.prog w = .ok (.slice (some ⟨w.heap.size, 0, none⟩) ms.length ms.length) (w.alloc (.cells (madeCells #[.slice none 0 0] ms.length) 38)) := fun w => run_make_row' (P := Try.prog) 28 38 (.slice none 0 0) 24 Try.underlying28 info_sl rfl .i64 .i64 ms.length (by omega) (by omega) w
    go_enter Try.func18, Try.ntmps18
    go_wp2_with fail
    (with_reducible refine Calls.mono (KE.out _ (Below.refl _ _)) ?_)
    rintro e w1 ⟨rfl, hb⟩
    have HB := Lib.hid hb
    clear hb KE
    go_wp2_with fail
    clear hmk
    have HP0 : Hid (PwS w1 w1.heap.size ms.length ms.length (preS (fun j => .slice ((fun _ => ((none : Option Addr), 0)) j : Option Addr × Nat).1 (f j).length ((fun _ => ((none : Option Addr), 0)) j : Option Addr × Nat).2) ms.length 0) 0 (fun _ => (none, 0)) f (w1.alloc (.cells (madeCells #[.slice none 0 0] ms.length) 38))) := Lib.hid ⟨by rw [preS_0]; exact rowS_zeros w1 ms.length (by unfold maxLen; omega), fun j hj => by omega, fun i j hi hj => by omega⟩
    go_loopw [21] (fun i wr => ∃ (k : Nat) (qs : Nat → Option Addr × Nat), k ≤ ms.length ∧ i = .int .i64 k ∧ PwS w1 w1.heap.size ms.length ms.length (preS (fun j => .slice (qs j).1 (f j).length (qs j).2) ms.length k) k qs f wr) (fun i _ => ms.length - (intOf i).toNat)
    case atStart => exact ⟨0, fun _ => (none, 0), by omega, rfl, HP0.out⟩
    case round =>
      obtain ⟨k, qs, hk, rfl, hP⟩ := hrel
      have HP := Lib.hid hP
      have HW := Lib.hid hP.row.bel
      clear hP HP0
      by_cases hlt : k < ms.length
      case pos =>
        obtain ⟨b, off, x, y, u, v, s, rfl, hBk, hpq, hc0, hc1, hc2, hc3, hc4⟩ := (HY.out.below (bel_end HB.out HW.out)).at_ hlt
        have hv := allM_at HMM.out hlt
        rw [hpq] at hv
        obtain ⟨hxy, -, -, s0, s1⟩ := mtB_t (show mtB x y u v s = true from hv)
        have HFK : Hid (f k = cstL x y s ps ps.length) := Lib.hid (by rw [HFF.out, hpq]; rfl)
        have KI : Hid (∀ W : World, Below w.heap.size w W → Calls Try.prog 63 #[.slice a ps.length cap, .agg #[.int .i64 x, .int .i64 y, .int .i64 u, .int .i64 v, .int .i64 s]] W fun e w' => ∃ g : Nat, e = .returned (.slice (some ⟨g, 0, none⟩) ps.length ps.length) ∧ W.heap.size ≤ g ∧ OwnA w' W.heap.size w'.heap.size (some ⟨g, 0, none⟩) ps.length (cstL x y s ps ps.length) ∧ Below W.heap.size W w') := Lib.hid (fun W hb => icf_any W x y u v s a cap ps h6 (HZ.out.on hb) hxy HA.out s0 s1)
        have hkl : (k : Int) < (ms.length : Int) := by omega
        clear hv hpq hxy s0 s1 hBk
        go_upto_region 8 with fail
        generalize hW : World.alloc _ _ = WC
        have bC : Bk WC wr.heap.size #[.int .i64 x, .int .i64 y, .int .i64 u, .int .i64 v, .int .i64 s] 32 := by rw [← hW]; exact Bk.new' rfl
        have hb0 : Below wr.heap.size wr WC := by rw [← hW]; exact (Below.refl _ _).alloc (Nat.le_refl _) _
        clear hW hc0 hc1 hc2 hc3 hc4
        have m0 := bC.cell 0 rfl
        have m1 := bC.cell 1 rfl
        have m2 := bC.cell 2 rfl
        have m3 := bC.cell 3 rfl
        have m4 := bC.cell 4 rfl
        have ml := bC.lt
        clear bC
        go_wp2_with fail
        clear m0 m1 m2 m3 m4 ml
        (with_reducible refine Calls.mono (KI.out _ (bel_end (bel_end HB.out HW.out) hb0)) ?_)
        rintro e w2 ⟨g, rfl, hgl, ho, hb⟩
        have HP1 := Lib.hid ((HP.out.on hb0).on hb)
        have HNE : Hid (∀ i, i < k → ∀ x : Addr, (qs i).1 = some x → x.block ≠ g) := Lib.hid (fun i hi x ex => by have := HP.out.lt hi ex; have := hb0.size; omega)
        have hw1 : w1.heap.size ≤ WC.heap.size := Nat.le_trans HW.out.size hb0.size
        have HOA : Hid (OwnA w2 w1.heap.size w2.heap.size (some ⟨g, 0, none⟩) ps.length (f k)) := Lib.hid (by rw [HFK.out]; exact ho.less hw1)
        have HP2 := Lib.hid ((HP1.out.add HOA.out HNE.out).setV k (.slice (some ⟨g, 0, none⟩) ps.length ps.length))
        rw [preS_upd f qs (HFL.out k)] at HP2
        have hsc : w2.cell? ⟨w1.heap.size, k, none⟩ = some (.slice none 0 0) := by
          rw [HP1.out.row.own.cellAt k (by omega)]
          unfold preS
          rw [List.getElem?_map, List.getElem?_range hlt]
          simp
        have hfz := HP1.out.row.own.frozenAt k
        have hGl := HP1.out.row.up
        clear hgl ho hb hb0 hw1 HP HP1
        go_wp2_with fail
        go_roundw
        case rel => exact ⟨k + 1, _, by omega, by go_num, HP2.out⟩
        case measure => simp [intOf]; omega
      case neg =>
        obtain rfl : k = ms.length := by omega
        go_wp2
        go_ret2
        exact ⟨some ⟨w1.heap.size, 0, none⟩, ms.length, qs, ret_li (by rw [H1.out, tbL_len]) HC.out, by
          rw [H1.out]
          exact HP.out.all rfl (tbL_len _ _ _) (fun j hj => by rw [tbL_at _ _ hj, HFF.out]) (preS_end _ _) HB.out.size, bel_end HB.out HW.out⟩
end Go.Proofs.Ytlahgdhofakinaa
