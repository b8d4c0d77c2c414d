/- Contracts of the model's ContactsIn and NearestIn. -/
import Derived.Test.YtdkiikmmlfdlcaaGtD
import Derived.Test.YtdkiikmmlfdlcaaPuT
namespace Go.Proofs.Ytdkiikmmlfdlcaa
open Go.ChangeShapes Go.WideShapes Go.ChangeAt Go.RowKit Go.Shelf Num
set_option linter.unusedVariables false
set_option linter.unusedSimpArgs false

theorem kcG {w w' : World} {p : Addr} {v : Value} (h : w.cell? p = some v) (hb : Below w.heap.size w w') : w'.cell? p = some v := (hb.cell (p := p) (World.block_lt_of_cell? _ _ h)).trans h
theorem ret_li {a : Option Addr} {n c n' : Nat} {q q' : Int} (h : n' = n) (g : q' = q) : Ending.returned (.tuple #[.slice a n c, .int .i64 q]) = .returned (.tuple #[.slice a n' c, .int .i64 q']) := by rw [h, g]

set_option maxRecDepth 100000 in
set_option maxHeartbeats 8000000 in
theorem sci_any (w : World) (x y u v s : Int) (a : Option Addr) (cap : Nat) (ps : List (Int × Int)) (hl : ps.length ≤ 9223372036854775807) (hz : Cts w w.heap.size a ps) :
    Calls Try.prog 27 #[.agg #[.int .i64 x, .int .i64 y, .int .i64 u, .int .i64 v, .int .i64 s], .slice a ps.length cap] w fun e w' => ∃ (a' : Option Addr) (c' : Nat), e = .returned (.tuple #[.slice a' (ciT x y u v s ps).length c', .int .i64 (mcC x y u v s ps)]) ∧ OwnA w' w.heap.size w'.heap.size a' c' (ciT x y u v s ps) ∧ Below w.heap.size w w' := by
  obtain ⟨i0, hi, hz0, hz1, hz2⟩ := info_parts info_i64
  have HZ := Lib.hid hz
  clear hz
  obtain ⟨C, hC⟩ : ∃ qq, mcC x y u v s ps = qq := ⟨_, rfl⟩
  have KC : Hid (∀ W : World, Below w.heap.size w W → Calls Try.prog 71 #[.agg #[.int .i64 x, .int .i64 y, .int .i64 u, .int .i64 v, .int .i64 s], .slice a ps.length cap] W fun e w' => e = .returned (.int .i64 C) ∧ Below W.heap.size W w') := Lib.hid (fun W hb => by have := lcd14_any W x y u v s a cap ps hl (HZ.out.on hb); rwa [hC] at this)
  by_cases hc : C = 0
  case neg =>
    have H1 : Hid (ciT x y u v s ps = []) := Lib.hid (by unfold ciT; rw [hC, if_neg hc])
    have hc2 : (C != 0) = true := by simpa using hc
    have HC := Lib.hid hC
    clear hC hc
    go_enter Try.func27, Try.ntmps27
    go_wp2_with fail
    generalize hW : World.alloc _ _ = W
    have bM : Bk W (w.heap.size) #[.int .i64 x, .int .i64 y, .int .i64 u, .int .i64 v, .int .i64 s] 25 := by rw [← hW]; repeat (first | (refine Bk.new' ?_; (simp; done)) | refine Bk.alloc ?_ _)
    have HB : Hid (Below w.heap.size w W) := Lib.hid (by rw [← hW]; exact (by repeat (first | exact Below.refl _ _ | (refine Below.alloc ?_ (by simp <;> omega) _) | (refine Below.setCell ?_ (by simp <;> omega) _) | (refine Below.drew ?_) | (refine bel_drewN ?_ _))))
    clear hW
    refine (KC.out _ HB.out).mono ?_
    rintro e w1 ⟨rfl, hb⟩
    replace bM := bM.on hb
    replace HB := Lib.hid (bel_end HB.out hb)
    clear hb
    have bM_0 := bM.cell 0 rfl
    have bM_1 := bM.cell 1 rfl
    have bM_2 := bM.cell 2 rfl
    have bM_3 := bM.cell 3 rfl
    have bM_4 := bM.cell 4 rfl
    have bM_l := bM.lt
    go_wp2
    go_ret2
    exact ⟨none, 0, ret_li (by rw [H1.out]; rfl) HC.out, by rw [H1.out]; exact ownA_nil _ _ HB.out.size, HB.out⟩
  case pos =>
    subst hc
    obtain ⟨hm, ha, h6⟩ := mcC_0 hC
    obtain ⟨hxy, -, -, s0, s1⟩ := mtB_t hm
    have H1 : Hid (ciT x y u v s ps = cinL x y s ps ps.length) := Lib.hid (by unfold ciT; rw [if_pos hC])
    have HC := Lib.hid hC
    have HA := Lib.hid ha
    have HXY := Lib.hid hxy
    have HSP := Lib.hid (And.intro s0 s1)
    clear hC hm ha hxy s0 s1
    go_enter Try.func27, Try.ntmps27
    go_wp2_with fail
    generalize hW : World.alloc _ _ = W
    have bM : Bk W (w.heap.size) #[.int .i64 x, .int .i64 y, .int .i64 u, .int .i64 v, .int .i64 s] 25 := by rw [← hW]; repeat (first | (refine Bk.new' ?_; (simp; done)) | refine Bk.alloc ?_ _)
    have HB : Hid (Below w.heap.size w W) := Lib.hid (by rw [← hW]; exact (by repeat (first | exact Below.refl _ _ | (refine Below.alloc ?_ (by simp <;> omega) _) | (refine Below.setCell ?_ (by simp <;> omega) _) | (refine Below.drew ?_) | (refine bel_drewN ?_ _))))
    clear hW
    refine (KC.out _ HB.out).mono ?_
    rintro e w1 ⟨rfl, hb⟩
    replace bM := bM.on hb
    replace HB := Lib.hid (bel_end HB.out hb)
    clear hb
    clear KC
    have bM_0 := bM.cell 0 rfl
    have bM_1 := bM.cell 1 rfl
    have bM_2 := bM.cell 2 rfl
    have bM_3 := bM.cell 3 rfl
    have bM_4 := bM.cell 4 rfl
    have bM_l := bM.lt
    go_wp2_with fail
    clear bM_0 bM_1 bM_2 bM_3 bM_4 bM_l
    have HR0 := Lib.hid (RowG.lit (w1 := w1) (t := 2) (m := 1) (W := w1.alloc (.cells #[] 2)) (Bk.new' rfl) (Nat.le_refl _) ((Below.refl _ _).alloc (Nat.le_refl _) _))
    have HM := Lib.hid bM
    clear bM
    go_loopw [7, 8] (fun v i wr => ∃ (k n ge ce : Nat), k ≤ ps.length ∧ n = (cinL x y s ps k).length ∧ v = .slice (some ⟨ge, 0, none⟩) n ce ∧ i = .int .i64 k ∧ RowG w1 2 1 ge ce n ((cinL x y s ps k).map iv4) wr) (fun _ i _ => ps.length - (intOf i).toNat)
    case atStart => exact ⟨0, 0, w1.heap.size, 0, by omega, rfl, rfl, rfl, HR0.out⟩
    case round =>
      obtain ⟨k, n, ge, ce, hk, hn, rfl, rfl, hR⟩ := hrel
      have HR := Lib.hid hR
      have HN := Lib.hid hn
      have hn6 : n ≤ 6 := by have := cinL_len x y s ps k; omega
      clear hR HR0 hn
      by_cases hlt : k < ps.length
      case pos =>
        obtain ⟨b, off, p, q, rfl, hBk, hpq, hc0, hc1⟩ := (HZ.out.below (bel_end HB.out HR.out.bel)).at_ hlt
        have hcq := allC_at HA.out hlt
        rw [hpq] at hcq
        have HV : Hid (iK x y s ps k = gin x y s p q) := Lib.hid (by unfold iK pX pY; rw [hpq])
        have HS : Hid (cinL x y s ps (k + 1) = if iK x y s ps k then cinL x y s ps k ++ [(k : Int)] else cinL x y s ps k) := Lib.hid rfl
        have K1 : Hid (∀ W : World, Calls Try.prog 72 #[.agg #[.int .i64 x, .int .i64 y, .int .i64 u, .int .i64 v, .int .i64 s], .agg #[.int .i64 p, .int .i64 q]] W fun e w' => e = .returned (.bool (gin x y s p q)) ∧ Below W.heap.size W w') := Lib.hid (fun W => lgi_any W x y u v s p q HXY.out hcq HSP.out.1 HSP.out.2)
        obtain ⟨V, hV⟩ : ∃ qq, gin x y s p q = qq := ⟨_, rfl⟩
        rw [hV] at K1 HV
        rw [HV.out] at HS
        clear hV hpq hcq HV
        have bM := HM.out.on HR.out.bel
        have m0 := bM.cell 0 rfl
        have m1 := bM.cell 1 rfl
        have m2 := bM.cell 2 rfl
        have m3 := bM.cell 3 rfl
        have m4 := bM.cell 4 rfl
        have ml := bM.lt
        clear bM
        go_wp2_with fail
        go_still_tail 5, (by kernel_rfl)
        go_wp2_with fail
        (with_reducible refine Calls.mono (K1.out _) ?_)
        rintro e w2 ⟨rfl, hb⟩
        clear m0 m1 m2 m3 m4 ml
        replace HR := Lib.hid (HR.out.on ((Below.refl _ _).drew.trans hb))
        clear hb hc0 hc1
        cases V
        case false =>
          rw [if_neg (by simp)] at HS
          go_wp2_with fail
          go_roundw
          case rel => exact ⟨k + 1, n, ge, ce, by omega, by rw [HS.out]; exact HN.out, rfl, by go_num, by rw [HS.out]; exact HR.out⟩
          case measure => simp [intOf]; omega
        case true =>
          rw [if_pos rfl] at HS
          have HSN : Hid ((cinL x y s ps k).map iv4 ++ [.int .i64 (k : Int)] = (cinL x y s ps (k + 1)).map iv4) := Lib.hid (by rw [HS.out, List.map_append]; rfl)
          go_wp2_with (at_builtin; refine wpList_append_lies _ rfl _ _ 39 rfl w1.heap.size 2 i0 (.int .i64 0) 1 8 Try.underlying39 hi hz0 hz1 hz2 rfl (by decide) (.slice (some ⟨ge, 0, none⟩) n ce) n ((cinL x y s ps k).map iv4) rfl (HR.out.own.alloc _) ⟨w2.heap.size, 0, none⟩ 1 1 [.int .i64 (k : Int)] rfl rfl (World.news_of_block (cs := #[.int .i64 (k : Int)]) (t := 2) (fr := (0, 0)) (heap_alloc_new w2 _)) (by simp [Value.oneCell']) (by decide) (by unfold maxLen; omega) (by omega) (by simp; exact Nat.le_succ_of_le HR.out.bel.size) (w2.heap.size + 1) (by simp) ?_; intro g2 cp2 w9 hown hgrow hat hlt9; have HR9 := Lib.hid ((HR.out.on ((Below.refl _ _).alloc (Nat.le_refl _) _)).snoc hown hgrow); clear hown hgrow hat hlt9)
          rw [HSN.out] at HR9
          go_wp2_with fail
          go_roundw
          case rel => exact ⟨k + 1, n + 1, g2, cp2, by omega, by rw [HS.out, List.length_append, ← HN.out]; rfl, rfl, by go_num, HR9.out⟩
          case measure => simp [intOf]; omega
      case neg =>
        obtain rfl : k = ps.length := by omega
        go_wp2
        go_ret2
        exact ⟨some ⟨ge, 0, none⟩, ce, ret_li (by rw [H1.out]; exact HN.out.symm) HC.out, by rw [H1.out]; exact (ownA_row HR.out HN.out.symm HB.out.size), bel_end HB.out HR.out.bel⟩

set_option maxRecDepth 100000 in
set_option maxHeartbeats 16000000 in
theorem snr_any (w : World) (x y u v s : Int) (a : Option Addr) (cap : Nat) (ps : List (Int × Int)) (hl : ps.length ≤ 9223372036854775807) (hz : Cts w w.heap.size a ps) :
    Calls Try.prog 29 #[.agg #[.int .i64 x, .int .i64 y, .int .i64 u, .int .i64 v, .int .i64 s], .slice a ps.length cap] w fun e w' => e = .returned (.tuple #[.int .i64 (nrV x y u v s ps), .int .i64 (nrC x y u v s ps)]) ∧ Below w.heap.size w w' := by
  have HZ := Lib.hid hz
  clear hz
  obtain ⟨C, hC⟩ : ∃ qq, mcC x y u v s ps = qq := ⟨_, rfl⟩
  have KC : Hid (∀ W : World, Below w.heap.size w W → Calls Try.prog 71 #[.agg #[.int .i64 x, .int .i64 y, .int .i64 u, .int .i64 v, .int .i64 s], .slice a ps.length cap] W fun e w' => e = .returned (.int .i64 C) ∧ Below W.heap.size W w') := Lib.hid (fun W hb => by have := lcd14_any W x y u v s a cap ps hl (HZ.out.on hb); rwa [hC] at this)
  by_cases hc : C = 0
  case neg =>
    have HT : Hid (nrV x y u v s ps = 0 ∧ nrC x y u v s ps = C) := Lib.hid (by unfold nrV nrC; rw [hC, if_neg hc, if_neg hc]; exact ⟨rfl, rfl⟩)
    have hc2 : (C != 0) = true := by simpa using hc
    clear hC hc
    go_enter Try.func29, Try.ntmps29
    go_wp2_with fail
    generalize hW : World.alloc _ _ = W
    have bM : Bk W (w.heap.size) #[.int .i64 x, .int .i64 y, .int .i64 u, .int .i64 v, .int .i64 s] 25 := by rw [← hW]; repeat (first | (refine Bk.new' ?_; (simp; done)) | refine Bk.alloc ?_ _)
    have HB : Hid (Below w.heap.size w W) := Lib.hid (by rw [← hW]; exact (by repeat (first | exact Below.refl _ _ | (refine Below.alloc ?_ (by simp <;> omega) _) | (refine Below.setCell ?_ (by simp <;> omega) _) | (refine Below.drew ?_) | (refine bel_drewN ?_ _))))
    clear hW
    refine (KC.out _ HB.out).mono ?_
    rintro e w1 ⟨rfl, hb⟩
    replace bM := bM.on hb
    replace HB := Lib.hid (bel_end HB.out hb)
    clear hb
    have bM_0 := bM.cell 0 rfl
    have bM_1 := bM.cell 1 rfl
    have bM_2 := bM.cell 2 rfl
    have bM_3 := bM.cell 3 rfl
    have bM_4 := bM.cell 4 rfl
    have bM_l := bM.lt
    go_wp2
    go_ret2
    exact ⟨ret_ii HT.out.1 HT.out.2, HB.out⟩
  case pos =>
    subst hc
    obtain ⟨hm, ha, h6⟩ := mcC_0 hC
    obtain ⟨hxy, -, -, s0, s1⟩ := mtB_t hm
    have HT : Hid (nrV x y u v s ps = (if nrB x y s ps ps.length < 0 then 0 else nrB x y s ps ps.length) ∧ nrC x y u v s ps = (if nrB x y s ps ps.length < 0 then 4 else 0)) := Lib.hid (by unfold nrV nrC; rw [if_pos hC, if_pos hC]; exact ⟨rfl, rfl⟩)
    have HA := Lib.hid ha
    have HXY := Lib.hid hxy
    have HSP := Lib.hid (And.intro s0 s1)
    clear hC hm ha hxy s0 s1
    go_enter Try.func29, Try.ntmps29
    go_wp2_with fail
    generalize hW : World.alloc _ _ = W
    have bM : Bk W (w.heap.size) #[.int .i64 x, .int .i64 y, .int .i64 u, .int .i64 v, .int .i64 s] 25 := by rw [← hW]; repeat (first | (refine Bk.new' ?_; (simp; done)) | refine Bk.alloc ?_ _)
    have HB : Hid (Below w.heap.size w W) := Lib.hid (by rw [← hW]; exact (by repeat (first | exact Below.refl _ _ | (refine Below.alloc ?_ (by simp <;> omega) _) | (refine Below.setCell ?_ (by simp <;> omega) _) | (refine Below.drew ?_) | (refine bel_drewN ?_ _))))
    clear hW
    refine (KC.out _ HB.out).mono ?_
    rintro e w1 ⟨rfl, hb⟩
    replace bM := bM.on hb
    replace HB := Lib.hid (bel_end HB.out hb)
    clear hb
    clear KC
    have bM_0 := bM.cell 0 rfl
    have bM_1 := bM.cell 1 rfl
    have bM_2 := bM.cell 2 rfl
    have bM_3 := bM.cell 3 rfl
    have bM_4 := bM.cell 4 rfl
    have bM_l := bM.lt
    go_wp2_with fail
    clear bM_0 bM_1 bM_2 bM_3 bM_4 bM_l
    have HM := Lib.hid bM
    clear bM
    go_loopw [7, 8] (fun v i wr => ∃ k : Nat, k ≤ ps.length ∧ v = .int .i64 (nrB x y s ps k) ∧ i = .int .i64 k ∧ Below w1.heap.size w1 wr) (fun _ i _ => ps.length - (intOf i).toNat)
    case atStart => exact ⟨0, by omega, rfl, rfl, Below.refl _ _⟩
    case round =>
      obtain ⟨k, hk, rfl, rfl, hbr⟩ := hrel
      have HBR := Lib.hid hbr
      clear hbr
      have hnb := nr_facts (x := x) (y := y) (s := s) (ps := ps) (k := k)
      by_cases hlt : k < ps.length
      case pos =>
        obtain ⟨b, off, p, q, rfl, hBk, hpq, hc0, hc1⟩ := (HZ.out.below (bel_end HB.out HBR.out)).at_ hlt
        have hcq := allC_at HA.out hlt
        rw [hpq] at hcq
        have HV : Hid (iK x y s ps k = gin x y s p q) := Lib.hid (by unfold iK pX pY; rw [hpq])
        have HG : Hid (gK x y ps k = gc x y p q) := Lib.hid (by unfold gK pX pY; rw [hpq])
        have HS : Hid (nrB x y s ps (k + 1) = if iK x y s ps k = true ∧ (nrB x y s ps k < 0 ∨ gK x y ps k < gK x y ps (nrB x y s ps k).toNat) then (k : Int) else nrB x y s ps k) := Lib.hid rfl
        have K1 : Hid (∀ W : World, Calls Try.prog 72 #[.agg #[.int .i64 x, .int .i64 y, .int .i64 u, .int .i64 v, .int .i64 s], .agg #[.int .i64 p, .int .i64 q]] W fun e w' => e = .returned (.bool (gin x y s p q)) ∧ Below W.heap.size W w') := Lib.hid (fun W => lgi_any W x y u v s p q HXY.out hcq HSP.out.1 HSP.out.2)
        have K2 : Hid (∀ W : World, Calls Try.prog 77 #[.agg #[.int .i64 x, .int .i64 y, .int .i64 u, .int .i64 v, .int .i64 s], .agg #[.int .i64 p, .int .i64 q]] W fun e w' => e = .returned (.int .i64 (gc x y p q)) ∧ Below W.heap.size W w') := Lib.hid (fun W => lco_any W x y u v s p q HXY.out hcq)
        obtain ⟨V, hV⟩ : ∃ qq, gin x y s p q = qq := ⟨_, rfl⟩
        obtain ⟨G, hG⟩ : ∃ qq, gc x y p q = qq := ⟨_, rfl⟩
        rw [hV] at K1 HV
        rw [hG] at K2 HG
        rw [HV.out, HG.out] at HS
        clear hV hG hpq hcq HV HG
        have bM := HM.out.on HBR.out
        have hkl : (k : Int) < (ps.length : Int) := by omega
        cases V
        case false =>
          rw [if_neg (by simp)] at HS
          have bM_0 := bM.cell 0 rfl
          have bM_1 := bM.cell 1 rfl
          have bM_2 := bM.cell 2 rfl
          have bM_3 := bM.cell 3 rfl
          have bM_4 := bM.cell 4 rfl
          have bM_l := bM.lt
          go_upto_region 8 with fail
          clear bM_0 bM_1 bM_2 bM_3 bM_4 bM_l
          go_cut [45] from 21 to 44 (fun s45 wx => s45 = .bool false ∧ Below wr.heap.size wr wx)
          case first =>
            have HW : Hid (Below wr.heap.size wr wr) := Lib.hid (Below.refl _ _)
            obtain ⟨S, hSd⟩ : ∃ S : World → Prop, ∀ w', S w' ↔ (w'.cell? ⟨w.heap.size, 0, none⟩ = some (.int .i64 x) ∧ w'.cell? ⟨w.heap.size, 1, none⟩ = some (.int .i64 y) ∧ w'.cell? ⟨w.heap.size, 2, none⟩ = some (.int .i64 u) ∧ w'.cell? ⟨w.heap.size, 3, none⟩ = some (.int .i64 v) ∧ w'.cell? ⟨w.heap.size, 4, none⟩ = some (.int .i64 s) ∧ w'.cell? ⟨b, off + k * 2, none⟩ = some (.int .i64 p) ∧ w'.cell? ⟨b, off + k * 2 + 1, none⟩ = some (.int .i64 q)) := ⟨_, fun _ => Iff.rfl⟩
            have HSp : Hid (∀ w' : World, Bk w' (w.heap.size) #[.int .i64 x, .int .i64 y, .int .i64 u, .int .i64 v, .int .i64 s] 25 → w'.cell? ⟨b, off + k * 2, none⟩ = some (.int .i64 p) → w'.cell? ⟨b, off + k * 2 + 1, none⟩ = some (.int .i64 q) → S w') := Lib.hid (fun w' bM y0 y1 => (hSd w').2 ⟨bM.cell 0 rfl, bM.cell 1 rfl, bM.cell 2 rfl, bM.cell 3 rfl, bM.cell 4 rfl, y0, y1⟩)
            have HSd := Lib.hid hSd
            clear hSd
            refine wp_region_held_drew (S := S) (by kernel_rfl) ?_ (fun hH => ?_)
            · exact (HSp.out _ bM hc0 hc1 : S (World.drew wr))
            clear hH
            generalize hX : World.drew wr = V0
            replace bM : Bk V0 (w.heap.size) #[.int .i64 x, .int .i64 y, .int .i64 u, .int .i64 v, .int .i64 s] 25 := by rw [← hX]; exact bM
            have hb : Below wr.heap.size wr V0 := by rw [← hX]; exact (Below.refl _ _).drew
            clear hX
            replace hc0 := kcG hc0 hb
            replace hc1 := kcG hc1 hb
            replace HW := Lib.hid (bel_end HW.out hb)
            clear hb
            have hS := HSp.out _ bM hc0 hc1
            refine wpAnyH_take (i := 0) (oi := { dst := some 21, op := Go.Op.load 25 (Go.Operand.tmp 2), type := 25, pos := "l14_gating.go:99", after := #[], guard := none }) (v := ?_) rfl (by kernel_rfl) (by kernel_rfl) (by kernel_rfl) (fun _ _ _ h => h) (Or.inl ⟨by rfl, ?_⟩) hS ?_
            rotate_left
            · (intro w hSw; have hSw := (HSd.out w).1 hSw; go_split_ands; go_simp) <;> with_reducible rfl
            clear hS
            try simp only [Act.put, List.setIfInBounds_toArray, List.set_cons_zero, List.set_cons_succ]
            have hS := HSp.out _ bM hc0 hc1
            refine wpAnyH_take (i := 1) (oi := { dst := some 22, op := Go.Op.move (Go.Operand.tmp 1), type := 29, pos := "l14_gating.go:99", after := #[], guard := none }) (v := ?_) rfl (by kernel_rfl) (by kernel_rfl) (by kernel_rfl) (fun _ _ _ h => h) (Or.inl ⟨by rfl, ?_⟩) hS ?_
            rotate_left
            · (intro w hSw; have hSw := (HSd.out w).1 hSw; go_split_ands; go_simp) <;> with_reducible rfl
            clear hS
            try simp only [Act.put, List.setIfInBounds_toArray, List.set_cons_zero, List.set_cons_succ]
            have hS := HSp.out _ bM hc0 hc1
            refine wpAnyH_take (i := 2) (oi := { dst := some 23, op := Go.Op.move (Go.Operand.tmp 8), type := 2, pos := "l14_gating.go:99", after := #[], guard := none }) (v := ?_) rfl (by kernel_rfl) (by kernel_rfl) (by kernel_rfl) (fun _ _ _ h => h) (Or.inl ⟨by rfl, ?_⟩) hS ?_
            rotate_left
            · (intro w hSw; have hSw := (HSd.out w).1 hSw; go_split_ands; go_simp) <;> with_reducible rfl
            clear hS
            try simp only [Act.put, List.setIfInBounds_toArray, List.set_cons_zero, List.set_cons_succ]
            have hS := HSp.out _ bM hc0 hc1
            refine wpAnyH_take (i := 3) (oi := { dst := some 24, op := Go.Op.indexAddr 29 (Go.Operand.tmp 22) (Go.Operand.tmp 23), type := 0, pos := "l14_gating.go:99", after := #[{ on := 1, ground := Go.Ground.data }, { on := 2, ground := Go.Ground.data }], guard := none }) (v := ?_) rfl (by kernel_rfl) (by kernel_rfl) (by kernel_rfl) (fun _ _ _ h => h) (Or.inl ⟨by rfl, ?_⟩) hS ?_
            rotate_left
            · (intro w hSw; have hSw := (HSd.out w).1 hSw; go_split_ands; go_simp) <;> with_reducible rfl
            clear hS
            try simp only [Act.put, List.setIfInBounds_toArray, List.set_cons_zero, List.set_cons_succ]
            have hS := HSp.out _ bM hc0 hc1
            refine wpAnyH_take (i := 4) (oi := { dst := some 25, op := Go.Op.load 45 (Go.Operand.tmp 24), type := 45, pos := "l14_gating.go:99", after := #[{ on := 3, ground := Go.Ground.data }], guard := none }) (v := ?_) rfl (by kernel_rfl) (by kernel_rfl) (by kernel_rfl) (fun _ _ _ h => h) (Or.inl ⟨by rfl, ?_⟩) hS ?_
            rotate_left
            · (intro w hSw; have hSw := (HSd.out w).1 hSw; go_split_ands; go_simp) <;> with_reducible rfl
            clear hS
            try simp only [Act.put, List.setIfInBounds_toArray, List.set_cons_zero, List.set_cons_succ]
            refine wpAnyH_ready (rs := [5]) (by kernel_rfl) (by simp) ?_
            refine AllReadyH.cons (o := { dst := some 26, op := Go.Op.call { callee := Go.Callee.value (Go.Operand.func 72), args := #[Go.Operand.tmp 21, Go.Operand.tmp 25], argTypes := #[25, 45] }, type := 4, pos := "l14_gating.go:99", after := #[{ on := 0, ground := Go.Ground.data }, { on := 4, ground := Go.Ground.data }], guard := none }) rfl (fun Kn hK => ?_) AllReadyH.nil
            first | go_at_call 72 | (go_simp; go_at_call 72)
            (with_reducible refine Calls.mono (K1.out  _) ?_)
            rintro e V1 ⟨rfl, hb⟩
            try dsimp only
            try simp only [Act.put, List.setIfInBounds_toArray, List.set_cons_zero, List.set_cons_succ]
            replace bM := bM.on hb
            replace hc0 := kcG hc0 hb
            replace hc1 := kcG hc1 hb
            replace HW := Lib.hid (bel_end HW.out hb)
            clear hb
            refine hK.out _ _ (HSp.out _ bM hc0 hc1) (fun _ => ?_)
            clear hK Kn
            have hS := HSp.out _ bM hc0 hc1
            refine wpAnyH_take (i := 6) (oi := { dst := some 27, op := Go.Op.move (Go.Operand.tmp 26), type := 4, pos := "l14_gating.go:99", after := #[{ on := 5, ground := Go.Ground.data }, { on := 5, ground := Go.Ground.chain }], guard := none }) (v := ?_) rfl (by kernel_rfl) (by kernel_rfl) (by kernel_rfl) (fun _ _ _ h => h) (Or.inl ⟨by rfl, ?_⟩) hS ?_
            rotate_left
            · (intro w hSw; have hSw := (HSd.out w).1 hSw; go_split_ands; go_simp) <;> with_reducible rfl
            clear hS
            try simp only [Act.put, List.setIfInBounds_toArray, List.set_cons_zero, List.set_cons_succ]
            have hS := HSp.out _ bM hc0 hc1
            refine wpAnyH_take (i := 7) (oi := { dst := some 28, op := Go.Op.move (Go.Operand.tmp 7), type := 2, pos := "l14_gating.go:99", after := #[{ on := 6, ground := Go.Ground.guard }], guard := some (6, true) }) (v := undef) rfl (by kernel_rfl) (by kernel_rfl) (by kernel_rfl) (fun _ _ _ h => h) (Or.inr ⟨by rfl, rfl⟩) hS ?_
            clear hS
            try simp only [Act.put, List.setIfInBounds_toArray, List.set_cons_zero, List.set_cons_succ]
            have hS := HSp.out _ bM hc0 hc1
            refine wpAnyH_take (i := 8) (oi := { dst := some 29, op := Go.Op.binOp Go.BinOp.lss 2 (Go.Operand.tmp 28) (Go.Operand.const (Go.Value.int Go.IntKind.i64 0)) 2, type := 4, pos := "l14_gating.go:99", after := #[{ on := 7, ground := Go.Ground.data }, { on := 6, ground := Go.Ground.guard }], guard := some (6, true) }) (v := undef) rfl (by kernel_rfl) (by kernel_rfl) (by kernel_rfl) (fun _ _ _ h => h) (Or.inr ⟨by rfl, rfl⟩) hS ?_
            clear hS
            try simp only [Act.put, List.setIfInBounds_toArray, List.set_cons_zero, List.set_cons_succ]
            have hS := HSp.out _ bM hc0 hc1
            refine wpAnyH_take (i := 9) (oi := { dst := some 30, op := Go.Op.move (Go.Operand.tmp 29), type := 4, pos := "l14_gating.go:99", after := #[{ on := 8, ground := Go.Ground.data }, { on := 6, ground := Go.Ground.chain }, { on := 6, ground := Go.Ground.guard }], guard := some (6, true) }) (v := undef) rfl (by kernel_rfl) (by kernel_rfl) (by kernel_rfl) (fun _ _ _ h => h) (Or.inr ⟨by rfl, rfl⟩) hS ?_
            clear hS
            try simp only [Act.put, List.setIfInBounds_toArray, List.set_cons_zero, List.set_cons_succ]
            have hS := HSp.out _ bM hc0 hc1
            refine wpAnyH_take (i := 10) (oi := { dst := some 31, op := Go.Op.load 25 (Go.Operand.tmp 2), type := 25, pos := "l14_gating.go:99", after := #[{ on := 9, ground := Go.Ground.guard }], guard := some (9, false) }) (v := undef) rfl (by kernel_rfl) (by kernel_rfl) (by kernel_rfl) (fun _ _ _ h => h) (Or.inr ⟨by rfl, rfl⟩) hS ?_
            clear hS
            try simp only [Act.put, List.setIfInBounds_toArray, List.set_cons_zero, List.set_cons_succ]
            have hS := HSp.out _ bM hc0 hc1
            refine wpAnyH_take (i := 11) (oi := { dst := some 32, op := Go.Op.move (Go.Operand.tmp 1), type := 29, pos := "l14_gating.go:99", after := #[{ on := 9, ground := Go.Ground.guard }], guard := some (9, false) }) (v := undef) rfl (by kernel_rfl) (by kernel_rfl) (by kernel_rfl) (fun _ _ _ h => h) (Or.inr ⟨by rfl, rfl⟩) hS ?_
            clear hS
            try simp only [Act.put, List.setIfInBounds_toArray, List.set_cons_zero, List.set_cons_succ]
            have hS := HSp.out _ bM hc0 hc1
            refine wpAnyH_take (i := 12) (oi := { dst := some 33, op := Go.Op.move (Go.Operand.tmp 8), type := 2, pos := "l14_gating.go:99", after := #[{ on := 9, ground := Go.Ground.guard }], guard := some (9, false) }) (v := undef) rfl (by kernel_rfl) (by kernel_rfl) (by kernel_rfl) (fun _ _ _ h => h) (Or.inr ⟨by rfl, rfl⟩) hS ?_
            clear hS
            try simp only [Act.put, List.setIfInBounds_toArray, List.set_cons_zero, List.set_cons_succ]
            have hS := HSp.out _ bM hc0 hc1
            refine wpAnyH_take (i := 13) (oi := { dst := some 34, op := Go.Op.indexAddr 29 (Go.Operand.tmp 32) (Go.Operand.tmp 33), type := 0, pos := "l14_gating.go:99", after := #[{ on := 11, ground := Go.Ground.data }, { on := 12, ground := Go.Ground.data }, { on := 9, ground := Go.Ground.guard }], guard := some (9, false) }) (v := undef) rfl (by kernel_rfl) (by kernel_rfl) (by kernel_rfl) (fun _ _ _ h => h) (Or.inr ⟨by rfl, rfl⟩) hS ?_
            clear hS
            try simp only [Act.put, List.setIfInBounds_toArray, List.set_cons_zero, List.set_cons_succ]
            have hS := HSp.out _ bM hc0 hc1
            refine wpAnyH_take (i := 14) (oi := { dst := some 35, op := Go.Op.load 45 (Go.Operand.tmp 34), type := 45, pos := "l14_gating.go:99", after := #[{ on := 13, ground := Go.Ground.data }, { on := 9, ground := Go.Ground.guard }], guard := some (9, false) }) (v := undef) rfl (by kernel_rfl) (by kernel_rfl) (by kernel_rfl) (fun _ _ _ h => h) (Or.inr ⟨by rfl, rfl⟩) hS ?_
            clear hS
            try simp only [Act.put, List.setIfInBounds_toArray, List.set_cons_zero, List.set_cons_succ]
            have hS := HSp.out _ bM hc0 hc1
            refine wpAnyH_take (i := 15) (oi := { dst := some 36, op := Go.Op.call { callee := Go.Callee.value (Go.Operand.func 77), args := #[Go.Operand.tmp 31, Go.Operand.tmp 35], argTypes := #[25, 45] }, type := 2, pos := "l14_gating.go:99", after := #[{ on := 10, ground := Go.Ground.data }, { on := 14, ground := Go.Ground.data }, { on := 9, ground := Go.Ground.chain }, { on := 9, ground := Go.Ground.guard }], guard := some (9, false) }) (v := undef) rfl (by kernel_rfl) (by kernel_rfl) (by kernel_rfl) (fun _ _ _ h => h) (Or.inr ⟨by rfl, rfl⟩) hS ?_
            clear hS
            try simp only [Act.put, List.setIfInBounds_toArray, List.set_cons_zero, List.set_cons_succ]
            have hS := HSp.out _ bM hc0 hc1
            refine wpAnyH_take (i := 16) (oi := { dst := some 37, op := Go.Op.load 25 (Go.Operand.tmp 2), type := 25, pos := "l14_gating.go:99", after := #[{ on := 9, ground := Go.Ground.guard }], guard := some (9, false) }) (v := undef) rfl (by kernel_rfl) (by kernel_rfl) (by kernel_rfl) (fun _ _ _ h => h) (Or.inr ⟨by rfl, rfl⟩) hS ?_
            clear hS
            try simp only [Act.put, List.setIfInBounds_toArray, List.set_cons_zero, List.set_cons_succ]
            have hS := HSp.out _ bM hc0 hc1
            refine wpAnyH_take (i := 17) (oi := { dst := some 38, op := Go.Op.move (Go.Operand.tmp 1), type := 29, pos := "l14_gating.go:99", after := #[{ on := 9, ground := Go.Ground.guard }], guard := some (9, false) }) (v := undef) rfl (by kernel_rfl) (by kernel_rfl) (by kernel_rfl) (fun _ _ _ h => h) (Or.inr ⟨by rfl, rfl⟩) hS ?_
            clear hS
            try simp only [Act.put, List.setIfInBounds_toArray, List.set_cons_zero, List.set_cons_succ]
            have hS := HSp.out _ bM hc0 hc1
            refine wpAnyH_take (i := 18) (oi := { dst := some 39, op := Go.Op.move (Go.Operand.tmp 7), type := 2, pos := "l14_gating.go:99", after := #[{ on := 9, ground := Go.Ground.guard }], guard := some (9, false) }) (v := undef) rfl (by kernel_rfl) (by kernel_rfl) (by kernel_rfl) (fun _ _ _ h => h) (Or.inr ⟨by rfl, rfl⟩) hS ?_
            clear hS
            try simp only [Act.put, List.setIfInBounds_toArray, List.set_cons_zero, List.set_cons_succ]
            have hS := HSp.out _ bM hc0 hc1
            refine wpAnyH_take (i := 19) (oi := { dst := some 40, op := Go.Op.indexAddr 29 (Go.Operand.tmp 38) (Go.Operand.tmp 39), type := 0, pos := "l14_gating.go:99", after := #[{ on := 17, ground := Go.Ground.data }, { on := 18, ground := Go.Ground.data }, { on := 9, ground := Go.Ground.guard }], guard := some (9, false) }) (v := undef) rfl (by kernel_rfl) (by kernel_rfl) (by kernel_rfl) (fun _ _ _ h => h) (Or.inr ⟨by rfl, rfl⟩) hS ?_
            clear hS
            try simp only [Act.put, List.setIfInBounds_toArray, List.set_cons_zero, List.set_cons_succ]
            have hS := HSp.out _ bM hc0 hc1
            refine wpAnyH_take (i := 20) (oi := { dst := some 41, op := Go.Op.load 45 (Go.Operand.tmp 40), type := 45, pos := "l14_gating.go:99", after := #[{ on := 19, ground := Go.Ground.data }, { on := 9, ground := Go.Ground.guard }], guard := some (9, false) }) (v := undef) rfl (by kernel_rfl) (by kernel_rfl) (by kernel_rfl) (fun _ _ _ h => h) (Or.inr ⟨by rfl, rfl⟩) hS ?_
            clear hS
            try simp only [Act.put, List.setIfInBounds_toArray, List.set_cons_zero, List.set_cons_succ]
            have hS := HSp.out _ bM hc0 hc1
            refine wpAnyH_take (i := 21) (oi := { dst := some 42, op := Go.Op.call { callee := Go.Callee.value (Go.Operand.func 77), args := #[Go.Operand.tmp 37, Go.Operand.tmp 41], argTypes := #[25, 45] }, type := 2, pos := "l14_gating.go:99", after := #[{ on := 16, ground := Go.Ground.data }, { on := 20, ground := Go.Ground.data }, { on := 15, ground := Go.Ground.chain }, { on := 9, ground := Go.Ground.guard }], guard := some (9, false) }) (v := undef) rfl (by kernel_rfl) (by kernel_rfl) (by kernel_rfl) (fun _ _ _ h => h) (Or.inr ⟨by rfl, rfl⟩) hS ?_
            clear hS
            try simp only [Act.put, List.setIfInBounds_toArray, List.set_cons_zero, List.set_cons_succ]
            have hS := HSp.out _ bM hc0 hc1
            refine wpAnyH_take (i := 22) (oi := { dst := some 43, op := Go.Op.binOp Go.BinOp.lss 2 (Go.Operand.tmp 36) (Go.Operand.tmp 42) 2, type := 4, pos := "l14_gating.go:99", after := #[{ on := 15, ground := Go.Ground.data }, { on := 21, ground := Go.Ground.data }, { on := 9, ground := Go.Ground.guard }], guard := some (9, false) }) (v := undef) rfl (by kernel_rfl) (by kernel_rfl) (by kernel_rfl) (fun _ _ _ h => h) (Or.inr ⟨by rfl, rfl⟩) hS ?_
            clear hS
            try simp only [Act.put, List.setIfInBounds_toArray, List.set_cons_zero, List.set_cons_succ]
            have hS := HSp.out _ bM hc0 hc1
            refine wpAnyH_take (i := 23) (oi := { dst := some 44, op := Go.Op.pick (Go.Operand.tmp 30) (Go.Operand.const (Go.Value.bool true)) (Go.Operand.tmp 43), type := 4, pos := "l14_gating.go:99", after := #[{ on := 9, ground := Go.Ground.data }, { on := 22, ground := Go.Ground.data }, { on := 6, ground := Go.Ground.guard }], guard := some (6, true) }) (v := undef) rfl (by kernel_rfl) (by kernel_rfl) (by kernel_rfl) (fun _ _ _ h => h) (Or.inr ⟨by rfl, rfl⟩) hS ?_
            clear hS
            try simp only [Act.put, List.setIfInBounds_toArray, List.set_cons_zero, List.set_cons_succ]
            have hS := HSp.out _ bM hc0 hc1
            refine wpAnyH_take (i := 24) (oi := { dst := some 45, op := Go.Op.pick (Go.Operand.tmp 27) (Go.Operand.tmp 44) (Go.Operand.const (Go.Value.bool false)), type := 4, pos := "l14_gating.go:99", after := #[{ on := 6, ground := Go.Ground.data }, { on := 23, ground := Go.Ground.data }], guard := none }) (v := ?_) rfl (by kernel_rfl) (by kernel_rfl) (by kernel_rfl) (fun _ _ _ h => h) (Or.inl ⟨by rfl, ?_⟩) hS ?_
            rotate_left
            · (intro w hSw; have hSw := (HSd.out w).1 hSw; go_split_ands; go_simp) <;> with_reducible rfl
            clear hS
            try simp only [Act.put, List.setIfInBounds_toArray, List.set_cons_zero, List.set_cons_succ]
            refine wpAnyH_done (by kernel_rfl) ?_ _
            go_wp2_with fail
            go_meet
            exact ⟨rfl, HW.out⟩
          case rest =>
            obtain ⟨rfl, hb⟩ := hcut
            replace bM := bM.on hb
            replace HBR := Lib.hid (bel_end HBR.out hb)
            clear hb
            clear bM hc0 hc1
            go_wp2_with fail
            go_roundw
            case rel => exact ⟨k + 1, by omega, by rw [HS.out], by go_num, HBR.out⟩
            case measure => simp [intOf]; omega
        case true =>
          rcases hnb with ⟨hn1, -⟩ | ⟨m, hm, hn1, -, -⟩
          · rw [hn1] at HS ⊢
            rw [if_pos ⟨rfl, Or.inl (by decide)⟩] at HS
            have bM_0 := bM.cell 0 rfl
            have bM_1 := bM.cell 1 rfl
            have bM_2 := bM.cell 2 rfl
            have bM_3 := bM.cell 3 rfl
            have bM_4 := bM.cell 4 rfl
            have bM_l := bM.lt
            go_upto_region 8 with fail
            clear bM_0 bM_1 bM_2 bM_3 bM_4 bM_l
            go_cut [45] from 21 to 44 (fun s45 wx => s45 = .bool true ∧ Below wr.heap.size wr wx)
            case first =>
              have HW : Hid (Below wr.heap.size wr wr) := Lib.hid (Below.refl _ _)
              obtain ⟨S, hSd⟩ : ∃ S : World → Prop, ∀ w', S w' ↔ (w'.cell? ⟨w.heap.size, 0, none⟩ = some (.int .i64 x) ∧ w'.cell? ⟨w.heap.size, 1, none⟩ = some (.int .i64 y) ∧ w'.cell? ⟨w.heap.size, 2, none⟩ = some (.int .i64 u) ∧ w'.cell? ⟨w.heap.size, 3, none⟩ = some (.int .i64 v) ∧ w'.cell? ⟨w.heap.size, 4, none⟩ = some (.int .i64 s) ∧ w'.cell? ⟨b, off + k * 2, none⟩ = some (.int .i64 p) ∧ w'.cell? ⟨b, off + k * 2 + 1, none⟩ = some (.int .i64 q)) := ⟨_, fun _ => Iff.rfl⟩
              have HSp : Hid (∀ w' : World, Bk w' (w.heap.size) #[.int .i64 x, .int .i64 y, .int .i64 u, .int .i64 v, .int .i64 s] 25 → w'.cell? ⟨b, off + k * 2, none⟩ = some (.int .i64 p) → w'.cell? ⟨b, off + k * 2 + 1, none⟩ = some (.int .i64 q) → S w') := Lib.hid (fun w' bM y0 y1 => (hSd w').2 ⟨bM.cell 0 rfl, bM.cell 1 rfl, bM.cell 2 rfl, bM.cell 3 rfl, bM.cell 4 rfl, y0, y1⟩)
              have HSd := Lib.hid hSd
              clear hSd
              refine wp_region_held_drew (S := S) (by kernel_rfl) ?_ (fun hH => ?_)
              · exact (HSp.out _ bM hc0 hc1 : S (World.drew wr))
              clear hH
              generalize hX : World.drew wr = V0
              replace bM : Bk V0 (w.heap.size) #[.int .i64 x, .int .i64 y, .int .i64 u, .int .i64 v, .int .i64 s] 25 := by rw [← hX]; exact bM
              have hb : Below wr.heap.size wr V0 := by rw [← hX]; exact (Below.refl _ _).drew
              clear hX
              replace hc0 := kcG hc0 hb
              replace hc1 := kcG hc1 hb
              replace HW := Lib.hid (bel_end HW.out hb)
              clear hb
              have hS := HSp.out _ bM hc0 hc1
              refine wpAnyH_take (i := 0) (oi := { dst := some 21, op := Go.Op.load 25 (Go.Operand.tmp 2), type := 25, pos := "l14_gating.go:99", after := #[], guard := none }) (v := ?_) rfl (by kernel_rfl) (by kernel_rfl) (by kernel_rfl) (fun _ _ _ h => h) (Or.inl ⟨by rfl, ?_⟩) hS ?_
              rotate_left
              · (intro w hSw; have hSw := (HSd.out w).1 hSw; go_split_ands; go_simp) <;> with_reducible rfl
              clear hS
              try simp only [Act.put, List.setIfInBounds_toArray, List.set_cons_zero, List.set_cons_succ]
              have hS := HSp.out _ bM hc0 hc1
              refine wpAnyH_take (i := 1) (oi := { dst := some 22, op := Go.Op.move (Go.Operand.tmp 1), type := 29, pos := "l14_gating.go:99", after := #[], guard := none }) (v := ?_) rfl (by kernel_rfl) (by kernel_rfl) (by kernel_rfl) (fun _ _ _ h => h) (Or.inl ⟨by rfl, ?_⟩) hS ?_
              rotate_left
              · (intro w hSw; have hSw := (HSd.out w).1 hSw; go_split_ands; go_simp) <;> with_reducible rfl
              clear hS
              try simp only [Act.put, List.setIfInBounds_toArray, List.set_cons_zero, List.set_cons_succ]
              have hS := HSp.out _ bM hc0 hc1
              refine wpAnyH_take (i := 2) (oi := { dst := some 23, op := Go.Op.move (Go.Operand.tmp 8), type := 2, pos := "l14_gating.go:99", after := #[], guard := none }) (v := ?_) rfl (by kernel_rfl) (by kernel_rfl) (by kernel_rfl) (fun _ _ _ h => h) (Or.inl ⟨by rfl, ?_⟩) hS ?_
              rotate_left
              · (intro w hSw; have hSw := (HSd.out w).1 hSw; go_split_ands; go_simp) <;> with_reducible rfl
              clear hS
              try simp only [Act.put, List.setIfInBounds_toArray, List.set_cons_zero, List.set_cons_succ]
              have hS := HSp.out _ bM hc0 hc1
              refine wpAnyH_take (i := 3) (oi := { dst := some 24, op := Go.Op.indexAddr 29 (Go.Operand.tmp 22) (Go.Operand.tmp 23), type := 0, pos := "l14_gating.go:99", after := #[{ on := 1, ground := Go.Ground.data }, { on := 2, ground := Go.Ground.data }], guard := none }) (v := ?_) rfl (by kernel_rfl) (by kernel_rfl) (by kernel_rfl) (fun _ _ _ h => h) (Or.inl ⟨by rfl, ?_⟩) hS ?_
              rotate_left
              · (intro w hSw; have hSw := (HSd.out w).1 hSw; go_split_ands; go_simp) <;> with_reducible rfl
              clear hS
              try simp only [Act.put, List.setIfInBounds_toArray, List.set_cons_zero, List.set_cons_succ]
              have hS := HSp.out _ bM hc0 hc1
              refine wpAnyH_take (i := 4) (oi := { dst := some 25, op := Go.Op.load 45 (Go.Operand.tmp 24), type := 45, pos := "l14_gating.go:99", after := #[{ on := 3, ground := Go.Ground.data }], guard := none }) (v := ?_) rfl (by kernel_rfl) (by kernel_rfl) (by kernel_rfl) (fun _ _ _ h => h) (Or.inl ⟨by rfl, ?_⟩) hS ?_
              rotate_left
              · (intro w hSw; have hSw := (HSd.out w).1 hSw; go_split_ands; go_simp) <;> with_reducible rfl
              clear hS
              try simp only [Act.put, List.setIfInBounds_toArray, List.set_cons_zero, List.set_cons_succ]
              refine wpAnyH_ready (rs := [5]) (by kernel_rfl) (by simp) ?_
              refine AllReadyH.cons (o := { dst := some 26, op := Go.Op.call { callee := Go.Callee.value (Go.Operand.func 72), args := #[Go.Operand.tmp 21, Go.Operand.tmp 25], argTypes := #[25, 45] }, type := 4, pos := "l14_gating.go:99", after := #[{ on := 0, ground := Go.Ground.data }, { on := 4, ground := Go.Ground.data }], guard := none }) rfl (fun Kn hK => ?_) AllReadyH.nil
              first | go_at_call 72 | (go_simp; go_at_call 72)
              (with_reducible refine Calls.mono (K1.out  _) ?_)
              rintro e V1 ⟨rfl, hb⟩
              try dsimp only
              try simp only [Act.put, List.setIfInBounds_toArray, List.set_cons_zero, List.set_cons_succ]
              replace bM := bM.on hb
              replace hc0 := kcG hc0 hb
              replace hc1 := kcG hc1 hb
              replace HW := Lib.hid (bel_end HW.out hb)
              clear hb
              refine hK.out _ _ (HSp.out _ bM hc0 hc1) (fun _ => ?_)
              clear hK Kn
              have hS := HSp.out _ bM hc0 hc1
              refine wpAnyH_take (i := 6) (oi := { dst := some 27, op := Go.Op.move (Go.Operand.tmp 26), type := 4, pos := "l14_gating.go:99", after := #[{ on := 5, ground := Go.Ground.data }, { on := 5, ground := Go.Ground.chain }], guard := none }) (v := ?_) rfl (by kernel_rfl) (by kernel_rfl) (by kernel_rfl) (fun _ _ _ h => h) (Or.inl ⟨by rfl, ?_⟩) hS ?_
              rotate_left
              · (intro w hSw; have hSw := (HSd.out w).1 hSw; go_split_ands; go_simp) <;> with_reducible rfl
              clear hS
              try simp only [Act.put, List.setIfInBounds_toArray, List.set_cons_zero, List.set_cons_succ]
              have hS := HSp.out _ bM hc0 hc1
              refine wpAnyH_take (i := 7) (oi := { dst := some 28, op := Go.Op.move (Go.Operand.tmp 7), type := 2, pos := "l14_gating.go:99", after := #[{ on := 6, ground := Go.Ground.guard }], guard := some (6, true) }) (v := ?_) rfl (by kernel_rfl) (by kernel_rfl) (by kernel_rfl) (fun _ _ _ h => h) (Or.inl ⟨by rfl, ?_⟩) hS ?_
              rotate_left
              · (intro w hSw; have hSw := (HSd.out w).1 hSw; go_split_ands; go_simp) <;> with_reducible rfl
              clear hS
              try simp only [Act.put, List.setIfInBounds_toArray, List.set_cons_zero, List.set_cons_succ]
              have hS := HSp.out _ bM hc0 hc1
              refine wpAnyH_take (i := 8) (oi := { dst := some 29, op := Go.Op.binOp Go.BinOp.lss 2 (Go.Operand.tmp 28) (Go.Operand.const (Go.Value.int Go.IntKind.i64 0)) 2, type := 4, pos := "l14_gating.go:99", after := #[{ on := 7, ground := Go.Ground.data }, { on := 6, ground := Go.Ground.guard }], guard := some (6, true) }) (v := ?_) rfl (by kernel_rfl) (by kernel_rfl) (by kernel_rfl) (fun _ _ _ h => h) (Or.inl ⟨by rfl, ?_⟩) hS ?_
              rotate_left
              · (intro w hSw; have hSw := (HSd.out w).1 hSw; go_split_ands; go_simp) <;> with_reducible rfl
              clear hS
              try simp only [Act.put, List.setIfInBounds_toArray, List.set_cons_zero, List.set_cons_succ]
              have hS := HSp.out _ bM hc0 hc1
              refine wpAnyH_take (i := 9) (oi := { dst := some 30, op := Go.Op.move (Go.Operand.tmp 29), type := 4, pos := "l14_gating.go:99", after := #[{ on := 8, ground := Go.Ground.data }, { on := 6, ground := Go.Ground.chain }, { on := 6, ground := Go.Ground.guard }], guard := some (6, true) }) (v := ?_) rfl (by kernel_rfl) (by kernel_rfl) (by kernel_rfl) (fun _ _ _ h => h) (Or.inl ⟨by rfl, ?_⟩) hS ?_
              rotate_left
              · (intro w hSw; have hSw := (HSd.out w).1 hSw; go_split_ands; go_simp) <;> with_reducible rfl
              clear hS
              try simp only [Act.put, List.setIfInBounds_toArray, List.set_cons_zero, List.set_cons_succ]
              have hS := HSp.out _ bM hc0 hc1
              refine wpAnyH_take (i := 10) (oi := { dst := some 31, op := Go.Op.load 25 (Go.Operand.tmp 2), type := 25, pos := "l14_gating.go:99", after := #[{ on := 9, ground := Go.Ground.guard }], guard := some (9, false) }) (v := undef) rfl (by kernel_rfl) (by kernel_rfl) (by kernel_rfl) (fun _ _ _ h => h) (Or.inr ⟨by rfl, rfl⟩) hS ?_
              clear hS
              try simp only [Act.put, List.setIfInBounds_toArray, List.set_cons_zero, List.set_cons_succ]
              have hS := HSp.out _ bM hc0 hc1
              refine wpAnyH_take (i := 11) (oi := { dst := some 32, op := Go.Op.move (Go.Operand.tmp 1), type := 29, pos := "l14_gating.go:99", after := #[{ on := 9, ground := Go.Ground.guard }], guard := some (9, false) }) (v := undef) rfl (by kernel_rfl) (by kernel_rfl) (by kernel_rfl) (fun _ _ _ h => h) (Or.inr ⟨by rfl, rfl⟩) hS ?_
              clear hS
              try simp only [Act.put, List.setIfInBounds_toArray, List.set_cons_zero, List.set_cons_succ]
              have hS := HSp.out _ bM hc0 hc1
              refine wpAnyH_take (i := 12) (oi := { dst := some 33, op := Go.Op.move (Go.Operand.tmp 8), type := 2, pos := "l14_gating.go:99", after := #[{ on := 9, ground := Go.Ground.guard }], guard := some (9, false) }) (v := undef) rfl (by kernel_rfl) (by kernel_rfl) (by kernel_rfl) (fun _ _ _ h => h) (Or.inr ⟨by rfl, rfl⟩) hS ?_
              clear hS
              try simp only [Act.put, List.setIfInBounds_toArray, List.set_cons_zero, List.set_cons_succ]
              have hS := HSp.out _ bM hc0 hc1
              refine wpAnyH_take (i := 13) (oi := { dst := some 34, op := Go.Op.indexAddr 29 (Go.Operand.tmp 32) (Go.Operand.tmp 33), type := 0, pos := "l14_gating.go:99", after := #[{ on := 11, ground := Go.Ground.data }, { on := 12, ground := Go.Ground.data }, { on := 9, ground := Go.Ground.guard }], guard := some (9, false) }) (v := undef) rfl (by kernel_rfl) (by kernel_rfl) (by kernel_rfl) (fun _ _ _ h => h) (Or.inr ⟨by rfl, rfl⟩) hS ?_
              clear hS
              try simp only [Act.put, List.setIfInBounds_toArray, List.set_cons_zero, List.set_cons_succ]
              have hS := HSp.out _ bM hc0 hc1
              refine wpAnyH_take (i := 14) (oi := { dst := some 35, op := Go.Op.load 45 (Go.Operand.tmp 34), type := 45, pos := "l14_gating.go:99", after := #[{ on := 13, ground := Go.Ground.data }, { on := 9, ground := Go.Ground.guard }], guard := some (9, false) }) (v := undef) rfl (by kernel_rfl) (by kernel_rfl) (by kernel_rfl) (fun _ _ _ h => h) (Or.inr ⟨by rfl, rfl⟩) hS ?_
              clear hS
              try simp only [Act.put, List.setIfInBounds_toArray, List.set_cons_zero, List.set_cons_succ]
              have hS := HSp.out _ bM hc0 hc1
              refine wpAnyH_take (i := 15) (oi := { dst := some 36, op := Go.Op.call { callee := Go.Callee.value (Go.Operand.func 77), args := #[Go.Operand.tmp 31, Go.Operand.tmp 35], argTypes := #[25, 45] }, type := 2, pos := "l14_gating.go:99", after := #[{ on := 10, ground := Go.Ground.data }, { on := 14, ground := Go.Ground.data }, { on := 9, ground := Go.Ground.chain }, { on := 9, ground := Go.Ground.guard }], guard := some (9, false) }) (v := undef) rfl (by kernel_rfl) (by kernel_rfl) (by kernel_rfl) (fun _ _ _ h => h) (Or.inr ⟨by rfl, rfl⟩) hS ?_
              clear hS
              try simp only [Act.put, List.setIfInBounds_toArray, List.set_cons_zero, List.set_cons_succ]
              have hS := HSp.out _ bM hc0 hc1
              refine wpAnyH_take (i := 16) (oi := { dst := some 37, op := Go.Op.load 25 (Go.Operand.tmp 2), type := 25, pos := "l14_gating.go:99", after := #[{ on := 9, ground := Go.Ground.guard }], guard := some (9, false) }) (v := undef) rfl (by kernel_rfl) (by kernel_rfl) (by kernel_rfl) (fun _ _ _ h => h) (Or.inr ⟨by rfl, rfl⟩) hS ?_
              clear hS
              try simp only [Act.put, List.setIfInBounds_toArray, List.set_cons_zero, List.set_cons_succ]
              have hS := HSp.out _ bM hc0 hc1
              refine wpAnyH_take (i := 17) (oi := { dst := some 38, op := Go.Op.move (Go.Operand.tmp 1), type := 29, pos := "l14_gating.go:99", after := #[{ on := 9, ground := Go.Ground.guard }], guard := some (9, false) }) (v := undef) rfl (by kernel_rfl) (by kernel_rfl) (by kernel_rfl) (fun _ _ _ h => h) (Or.inr ⟨by rfl, rfl⟩) hS ?_
              clear hS
              try simp only [Act.put, List.setIfInBounds_toArray, List.set_cons_zero, List.set_cons_succ]
              have hS := HSp.out _ bM hc0 hc1
              refine wpAnyH_take (i := 18) (oi := { dst := some 39, op := Go.Op.move (Go.Operand.tmp 7), type := 2, pos := "l14_gating.go:99", after := #[{ on := 9, ground := Go.Ground.guard }], guard := some (9, false) }) (v := undef) rfl (by kernel_rfl) (by kernel_rfl) (by kernel_rfl) (fun _ _ _ h => h) (Or.inr ⟨by rfl, rfl⟩) hS ?_
              clear hS
              try simp only [Act.put, List.setIfInBounds_toArray, List.set_cons_zero, List.set_cons_succ]
              have hS := HSp.out _ bM hc0 hc1
              refine wpAnyH_take (i := 19) (oi := { dst := some 40, op := Go.Op.indexAddr 29 (Go.Operand.tmp 38) (Go.Operand.tmp 39), type := 0, pos := "l14_gating.go:99", after := #[{ on := 17, ground := Go.Ground.data }, { on := 18, ground := Go.Ground.data }, { on := 9, ground := Go.Ground.guard }], guard := some (9, false) }) (v := undef) rfl (by kernel_rfl) (by kernel_rfl) (by kernel_rfl) (fun _ _ _ h => h) (Or.inr ⟨by rfl, rfl⟩) hS ?_
              clear hS
              try simp only [Act.put, List.setIfInBounds_toArray, List.set_cons_zero, List.set_cons_succ]
              have hS := HSp.out _ bM hc0 hc1
              refine wpAnyH_take (i := 20) (oi := { dst := some 41, op := Go.Op.load 45 (Go.Operand.tmp 40), type := 45, pos := "l14_gating.go:99", after := #[{ on := 19, ground := Go.Ground.data }, { on := 9, ground := Go.Ground.guard }], guard := some (9, false) }) (v := undef) rfl (by kernel_rfl) (by kernel_rfl) (by kernel_rfl) (fun _ _ _ h => h) (Or.inr ⟨by rfl, rfl⟩) hS ?_
              clear hS
              try simp only [Act.put, List.setIfInBounds_toArray, List.set_cons_zero, List.set_cons_succ]
              have hS := HSp.out _ bM hc0 hc1
              refine wpAnyH_take (i := 21) (oi := { dst := some 42, op := Go.Op.call { callee := Go.Callee.value (Go.Operand.func 77), args := #[Go.Operand.tmp 37, Go.Operand.tmp 41], argTypes := #[25, 45] }, type := 2, pos := "l14_gating.go:99", after := #[{ on := 16, ground := Go.Ground.data }, { on := 20, ground := Go.Ground.data }, { on := 15, ground := Go.Ground.chain }, { on := 9, ground := Go.Ground.guard }], guard := some (9, false) }) (v := undef) rfl (by kernel_rfl) (by kernel_rfl) (by kernel_rfl) (fun _ _ _ h => h) (Or.inr ⟨by rfl, rfl⟩) hS ?_
              clear hS
              try simp only [Act.put, List.setIfInBounds_toArray, List.set_cons_zero, List.set_cons_succ]
              have hS := HSp.out _ bM hc0 hc1
              refine wpAnyH_take (i := 22) (oi := { dst := some 43, op := Go.Op.binOp Go.BinOp.lss 2 (Go.Operand.tmp 36) (Go.Operand.tmp 42) 2, type := 4, pos := "l14_gating.go:99", after := #[{ on := 15, ground := Go.Ground.data }, { on := 21, ground := Go.Ground.data }, { on := 9, ground := Go.Ground.guard }], guard := some (9, false) }) (v := undef) rfl (by kernel_rfl) (by kernel_rfl) (by kernel_rfl) (fun _ _ _ h => h) (Or.inr ⟨by rfl, rfl⟩) hS ?_
              clear hS
              try simp only [Act.put, List.setIfInBounds_toArray, List.set_cons_zero, List.set_cons_succ]
              have hS := HSp.out _ bM hc0 hc1
              refine wpAnyH_take (i := 23) (oi := { dst := some 44, op := Go.Op.pick (Go.Operand.tmp 30) (Go.Operand.const (Go.Value.bool true)) (Go.Operand.tmp 43), type := 4, pos := "l14_gating.go:99", after := #[{ on := 9, ground := Go.Ground.data }, { on := 22, ground := Go.Ground.data }, { on := 6, ground := Go.Ground.guard }], guard := some (6, true) }) (v := ?_) rfl (by kernel_rfl) (by kernel_rfl) (by kernel_rfl) (fun _ _ _ h => h) (Or.inl ⟨by rfl, ?_⟩) hS ?_
              rotate_left
              · (intro w hSw; have hSw := (HSd.out w).1 hSw; go_split_ands; go_simp) <;> with_reducible rfl
              clear hS
              try simp only [Act.put, List.setIfInBounds_toArray, List.set_cons_zero, List.set_cons_succ]
              have hS := HSp.out _ bM hc0 hc1
              refine wpAnyH_take (i := 24) (oi := { dst := some 45, op := Go.Op.pick (Go.Operand.tmp 27) (Go.Operand.tmp 44) (Go.Operand.const (Go.Value.bool false)), type := 4, pos := "l14_gating.go:99", after := #[{ on := 6, ground := Go.Ground.data }, { on := 23, ground := Go.Ground.data }], guard := none }) (v := ?_) rfl (by kernel_rfl) (by kernel_rfl) (by kernel_rfl) (fun _ _ _ h => h) (Or.inl ⟨by rfl, ?_⟩) hS ?_
              rotate_left
              · (intro w hSw; have hSw := (HSd.out w).1 hSw; go_split_ands; go_simp) <;> with_reducible rfl
              clear hS
              try simp only [Act.put, List.setIfInBounds_toArray, List.set_cons_zero, List.set_cons_succ]
              refine wpAnyH_done (by kernel_rfl) ?_ _
              go_wp2_with fail
              go_meet
              exact ⟨rfl, HW.out⟩
            case rest =>
              obtain ⟨rfl, hb⟩ := hcut
              replace bM := bM.on hb
              replace HBR := Lib.hid (bel_end HBR.out hb)
              clear hb
              clear bM hc0 hc1
              go_wp2_with fail
              go_roundw
              case rel => exact ⟨k + 1, by omega, by rw [HS.out], by go_num, HBR.out⟩
              case measure => simp [intOf]; omega
          · have hml : m < ps.length := by omega
            obtain ⟨b2, off2, p2, q2, rb, hBk2, hpq2, hd0, hd1⟩ := (HZ.out.below (bel_end HB.out HBR.out)).at_ hml
            simp only [Option.some.injEq, Addr.mk.injEq, and_true] at rb
            obtain ⟨rb1, rb2⟩ := rb
            subst rb1 rb2
            have hcq2 := allC_at HA.out hml
            rw [hpq2] at hcq2
            have K3 : Hid (∀ W : World, Calls Try.prog 77 #[.agg #[.int .i64 x, .int .i64 y, .int .i64 u, .int .i64 v, .int .i64 s], .agg #[.int .i64 p2, .int .i64 q2]] W fun e w' => e = .returned (.int .i64 (gc x y p2 q2)) ∧ Below W.heap.size W w') := Lib.hid (fun W => lco_any W x y u v s p2 q2 HXY.out hcq2)
            have HG2 : Hid (gK x y ps m = gc x y p2 q2) := Lib.hid (by unfold gK pX pY; rw [hpq2])
            obtain ⟨G2, hG2⟩ : ∃ qq, gc x y p2 q2 = qq := ⟨_, rfl⟩
            rw [hG2] at K3 HG2
            rw [hn1] at HS ⊢
            rw [Int.toNat_natCast, HG2.out] at HS
            have hm0 : ¬ (m : Int) < 0 := by omega
            have hm1 : (m : Int) < (ps.length : Int) := by omega
            clear hG2 HG2 hpq2 hcq2
            by_cases hgl : G < G2
            case pos =>
              rw [if_pos ⟨rfl, Or.inr hgl⟩] at HS
              have bM_0 := bM.cell 0 rfl
              have bM_1 := bM.cell 1 rfl
              have bM_2 := bM.cell 2 rfl
              have bM_3 := bM.cell 3 rfl
              have bM_4 := bM.cell 4 rfl
              have bM_l := bM.lt
              go_upto_region 8 with fail
              clear bM_0 bM_1 bM_2 bM_3 bM_4 bM_l
              go_cut [45] from 21 to 44 (fun s45 wx => s45 = .bool true ∧ Below wr.heap.size wr wx)
              case first =>
                have HW : Hid (Below wr.heap.size wr wr) := Lib.hid (Below.refl _ _)
                obtain ⟨S, hSd⟩ : ∃ S : World → Prop, ∀ w', S w' ↔ (w'.cell? ⟨w.heap.size, 0, none⟩ = some (.int .i64 x) ∧ w'.cell? ⟨w.heap.size, 1, none⟩ = some (.int .i64 y) ∧ w'.cell? ⟨w.heap.size, 2, none⟩ = some (.int .i64 u) ∧ w'.cell? ⟨w.heap.size, 3, none⟩ = some (.int .i64 v) ∧ w'.cell? ⟨w.heap.size, 4, none⟩ = some (.int .i64 s) ∧ w'.cell? ⟨b, off + k * 2, none⟩ = some (.int .i64 p) ∧ w'.cell? ⟨b, off + k * 2 + 1, none⟩ = some (.int .i64 q) ∧ w'.cell? ⟨b, off + m * 2, none⟩ = some (.int .i64 p2) ∧ w'.cell? ⟨b, off + m * 2 + 1, none⟩ = some (.int .i64 q2)) := ⟨_, fun _ => Iff.rfl⟩
                have HSp : Hid (∀ w' : World, Bk w' (w.heap.size) #[.int .i64 x, .int .i64 y, .int .i64 u, .int .i64 v, .int .i64 s] 25 → w'.cell? ⟨b, off + k * 2, none⟩ = some (.int .i64 p) → w'.cell? ⟨b, off + k * 2 + 1, none⟩ = some (.int .i64 q) → w'.cell? ⟨b, off + m * 2, none⟩ = some (.int .i64 p2) → w'.cell? ⟨b, off + m * 2 + 1, none⟩ = some (.int .i64 q2) → S w') := Lib.hid (fun w' bM y0 y1 y2 y3 => (hSd w').2 ⟨bM.cell 0 rfl, bM.cell 1 rfl, bM.cell 2 rfl, bM.cell 3 rfl, bM.cell 4 rfl, y0, y1, y2, y3⟩)
                have HSd := Lib.hid hSd
                clear hSd
                refine wp_region_held_drew (S := S) (by kernel_rfl) ?_ (fun hH => ?_)
                · exact (HSp.out _ bM hc0 hc1 hd0 hd1 : S (World.drew wr))
                clear hH
                generalize hX : World.drew wr = V0
                replace bM : Bk V0 (w.heap.size) #[.int .i64 x, .int .i64 y, .int .i64 u, .int .i64 v, .int .i64 s] 25 := by rw [← hX]; exact bM
                have hb : Below wr.heap.size wr V0 := by rw [← hX]; exact (Below.refl _ _).drew
                clear hX
                replace hc0 := kcG hc0 hb
                replace hc1 := kcG hc1 hb
                replace hd0 := kcG hd0 hb
                replace hd1 := kcG hd1 hb
                replace HW := Lib.hid (bel_end HW.out hb)
                clear hb
                have hS := HSp.out _ bM hc0 hc1 hd0 hd1
                refine wpAnyH_take (i := 0) (oi := { dst := some 21, op := Go.Op.load 25 (Go.Operand.tmp 2), type := 25, pos := "l14_gating.go:99", after := #[], guard := none }) (v := ?_) rfl (by kernel_rfl) (by kernel_rfl) (by kernel_rfl) (fun _ _ _ h => h) (Or.inl ⟨by rfl, ?_⟩) hS ?_
                rotate_left
                · (intro w hSw; have hSw := (HSd.out w).1 hSw; go_split_ands; go_simp) <;> with_reducible rfl
                clear hS
                try simp only [Act.put, List.setIfInBounds_toArray, List.set_cons_zero, List.set_cons_succ]
                have hS := HSp.out _ bM hc0 hc1 hd0 hd1
                refine wpAnyH_take (i := 1) (oi := { dst := some 22, op := Go.Op.move (Go.Operand.tmp 1), type := 29, pos := "l14_gating.go:99", after := #[], guard := none }) (v := ?_) rfl (by kernel_rfl) (by kernel_rfl) (by kernel_rfl) (fun _ _ _ h => h) (Or.inl ⟨by rfl, ?_⟩) hS ?_
                rotate_left
                · (intro w hSw; have hSw := (HSd.out w).1 hSw; go_split_ands; go_simp) <;> with_reducible rfl
                clear hS
                try simp only [Act.put, List.setIfInBounds_toArray, List.set_cons_zero, List.set_cons_succ]
                have hS := HSp.out _ bM hc0 hc1 hd0 hd1
                refine wpAnyH_take (i := 2) (oi := { dst := some 23, op := Go.Op.move (Go.Operand.tmp 8), type := 2, pos := "l14_gating.go:99", after := #[], guard := none }) (v := ?_) rfl (by kernel_rfl) (by kernel_rfl) (by kernel_rfl) (fun _ _ _ h => h) (Or.inl ⟨by rfl, ?_⟩) hS ?_
                rotate_left
                · (intro w hSw; have hSw := (HSd.out w).1 hSw; go_split_ands; go_simp) <;> with_reducible rfl
                clear hS
                try simp only [Act.put, List.setIfInBounds_toArray, List.set_cons_zero, List.set_cons_succ]
                have hS := HSp.out _ bM hc0 hc1 hd0 hd1
                refine wpAnyH_take (i := 3) (oi := { dst := some 24, op := Go.Op.indexAddr 29 (Go.Operand.tmp 22) (Go.Operand.tmp 23), type := 0, pos := "l14_gating.go:99", after := #[{ on := 1, ground := Go.Ground.data }, { on := 2, ground := Go.Ground.data }], guard := none }) (v := ?_) rfl (by kernel_rfl) (by kernel_rfl) (by kernel_rfl) (fun _ _ _ h => h) (Or.inl ⟨by rfl, ?_⟩) hS ?_
                rotate_left
                · (intro w hSw; have hSw := (HSd.out w).1 hSw; go_split_ands; go_simp) <;> with_reducible rfl
                clear hS
                try simp only [Act.put, List.setIfInBounds_toArray, List.set_cons_zero, List.set_cons_succ]
                have hS := HSp.out _ bM hc0 hc1 hd0 hd1
                refine wpAnyH_take (i := 4) (oi := { dst := some 25, op := Go.Op.load 45 (Go.Operand.tmp 24), type := 45, pos := "l14_gating.go:99", after := #[{ on := 3, ground := Go.Ground.data }], guard := none }) (v := ?_) rfl (by kernel_rfl) (by kernel_rfl) (by kernel_rfl) (fun _ _ _ h => h) (Or.inl ⟨by rfl, ?_⟩) hS ?_
                rotate_left
                · (intro w hSw; have hSw := (HSd.out w).1 hSw; go_split_ands; go_simp) <;> with_reducible rfl
                clear hS
                try simp only [Act.put, List.setIfInBounds_toArray, List.set_cons_zero, List.set_cons_succ]
                refine wpAnyH_ready (rs := [5]) (by kernel_rfl) (by simp) ?_
                refine AllReadyH.cons (o := { dst := some 26, op := Go.Op.call { callee := Go.Callee.value (Go.Operand.func 72), args := #[Go.Operand.tmp 21, Go.Operand.tmp 25], argTypes := #[25, 45] }, type := 4, pos := "l14_gating.go:99", after := #[{ on := 0, ground := Go.Ground.data }, { on := 4, ground := Go.Ground.data }], guard := none }) rfl (fun Kn hK => ?_) AllReadyH.nil
                first | go_at_call 72 | (go_simp; go_at_call 72)
                (with_reducible refine Calls.mono (K1.out  _) ?_)
                rintro e V1 ⟨rfl, hb⟩
                try dsimp only
                try simp only [Act.put, List.setIfInBounds_toArray, List.set_cons_zero, List.set_cons_succ]
                replace bM := bM.on hb
                replace hc0 := kcG hc0 hb
                replace hc1 := kcG hc1 hb
                replace hd0 := kcG hd0 hb
                replace hd1 := kcG hd1 hb
                replace HW := Lib.hid (bel_end HW.out hb)
                clear hb
                refine hK.out _ _ (HSp.out _ bM hc0 hc1 hd0 hd1) (fun _ => ?_)
                clear hK Kn
                have hS := HSp.out _ bM hc0 hc1 hd0 hd1
                refine wpAnyH_take (i := 6) (oi := { dst := some 27, op := Go.Op.move (Go.Operand.tmp 26), type := 4, pos := "l14_gating.go:99", after := #[{ on := 5, ground := Go.Ground.data }, { on := 5, ground := Go.Ground.chain }], guard := none }) (v := ?_) rfl (by kernel_rfl) (by kernel_rfl) (by kernel_rfl) (fun _ _ _ h => h) (Or.inl ⟨by rfl, ?_⟩) hS ?_
                rotate_left
                · (intro w hSw; have hSw := (HSd.out w).1 hSw; go_split_ands; go_simp) <;> with_reducible rfl
                clear hS
                try simp only [Act.put, List.setIfInBounds_toArray, List.set_cons_zero, List.set_cons_succ]
                have hS := HSp.out _ bM hc0 hc1 hd0 hd1
                refine wpAnyH_take (i := 7) (oi := { dst := some 28, op := Go.Op.move (Go.Operand.tmp 7), type := 2, pos := "l14_gating.go:99", after := #[{ on := 6, ground := Go.Ground.guard }], guard := some (6, true) }) (v := ?_) rfl (by kernel_rfl) (by kernel_rfl) (by kernel_rfl) (fun _ _ _ h => h) (Or.inl ⟨by rfl, ?_⟩) hS ?_
                rotate_left
                · (intro w hSw; have hSw := (HSd.out w).1 hSw; go_split_ands; go_simp) <;> with_reducible rfl
                clear hS
                try simp only [Act.put, List.setIfInBounds_toArray, List.set_cons_zero, List.set_cons_succ]
                have hS := HSp.out _ bM hc0 hc1 hd0 hd1
                refine wpAnyH_take (i := 8) (oi := { dst := some 29, op := Go.Op.binOp Go.BinOp.lss 2 (Go.Operand.tmp 28) (Go.Operand.const (Go.Value.int Go.IntKind.i64 0)) 2, type := 4, pos := "l14_gating.go:99", after := #[{ on := 7, ground := Go.Ground.data }, { on := 6, ground := Go.Ground.guard }], guard := some (6, true) }) (v := ?_) rfl (by kernel_rfl) (by kernel_rfl) (by kernel_rfl) (fun _ _ _ h => h) (Or.inl ⟨by rfl, ?_⟩) hS ?_
                rotate_left
                · (intro w hSw; have hSw := (HSd.out w).1 hSw; go_split_ands; go_simp) <;> with_reducible rfl
                clear hS
                try simp only [Act.put, List.setIfInBounds_toArray, List.set_cons_zero, List.set_cons_succ]
                have hS := HSp.out _ bM hc0 hc1 hd0 hd1
                refine wpAnyH_take (i := 9) (oi := { dst := some 30, op := Go.Op.move (Go.Operand.tmp 29), type := 4, pos := "l14_gating.go:99", after := #[{ on := 8, ground := Go.Ground.data }, { on := 6, ground := Go.Ground.chain }, { on := 6, ground := Go.Ground.guard }], guard := some (6, true) }) (v := ?_) rfl (by kernel_rfl) (by kernel_rfl) (by kernel_rfl) (fun _ _ _ h => h) (Or.inl ⟨by rfl, ?_⟩) hS ?_
                rotate_left
                · (intro w hSw; have hSw := (HSd.out w).1 hSw; go_split_ands; go_simp) <;> with_reducible rfl
                clear hS
                try simp only [Act.put, List.setIfInBounds_toArray, List.set_cons_zero, List.set_cons_succ]
                have hS := HSp.out _ bM hc0 hc1 hd0 hd1
                refine wpAnyH_take (i := 10) (oi := { dst := some 31, op := Go.Op.load 25 (Go.Operand.tmp 2), type := 25, pos := "l14_gating.go:99", after := #[{ on := 9, ground := Go.Ground.guard }], guard := some (9, false) }) (v := ?_) rfl (by kernel_rfl) (by kernel_rfl) (by kernel_rfl) (fun _ _ _ h => h) (Or.inl ⟨by rfl, ?_⟩) hS ?_
                rotate_left
                · (intro w hSw; have hSw := (HSd.out w).1 hSw; go_split_ands; go_simp) <;> with_reducible rfl
                clear hS
                try simp only [Act.put, List.setIfInBounds_toArray, List.set_cons_zero, List.set_cons_succ]
                have hS := HSp.out _ bM hc0 hc1 hd0 hd1
                refine wpAnyH_take (i := 11) (oi := { dst := some 32, op := Go.Op.move (Go.Operand.tmp 1), type := 29, pos := "l14_gating.go:99", after := #[{ on := 9, ground := Go.Ground.guard }], guard := some (9, false) }) (v := ?_) rfl (by kernel_rfl) (by kernel_rfl) (by kernel_rfl) (fun _ _ _ h => h) (Or.inl ⟨by rfl, ?_⟩) hS ?_
                rotate_left
                · (intro w hSw; have hSw := (HSd.out w).1 hSw; go_split_ands; go_simp) <;> with_reducible rfl
                clear hS
                try simp only [Act.put, List.setIfInBounds_toArray, List.set_cons_zero, List.set_cons_succ]
                have hS := HSp.out _ bM hc0 hc1 hd0 hd1
                refine wpAnyH_take (i := 12) (oi := { dst := some 33, op := Go.Op.move (Go.Operand.tmp 8), type := 2, pos := "l14_gating.go:99", after := #[{ on := 9, ground := Go.Ground.guard }], guard := some (9, false) }) (v := ?_) rfl (by kernel_rfl) (by kernel_rfl) (by kernel_rfl) (fun _ _ _ h => h) (Or.inl ⟨by rfl, ?_⟩) hS ?_
                rotate_left
                · (intro w hSw; have hSw := (HSd.out w).1 hSw; go_split_ands; go_simp) <;> with_reducible rfl
                clear hS
                try simp only [Act.put, List.setIfInBounds_toArray, List.set_cons_zero, List.set_cons_succ]
                have hS := HSp.out _ bM hc0 hc1 hd0 hd1
                refine wpAnyH_take (i := 13) (oi := { dst := some 34, op := Go.Op.indexAddr 29 (Go.Operand.tmp 32) (Go.Operand.tmp 33), type := 0, pos := "l14_gating.go:99", after := #[{ on := 11, ground := Go.Ground.data }, { on := 12, ground := Go.Ground.data }, { on := 9, ground := Go.Ground.guard }], guard := some (9, false) }) (v := ?_) rfl (by kernel_rfl) (by kernel_rfl) (by kernel_rfl) (fun _ _ _ h => h) (Or.inl ⟨by rfl, ?_⟩) hS ?_
                rotate_left
                · (intro w hSw; have hSw := (HSd.out w).1 hSw; go_split_ands; go_simp) <;> with_reducible rfl
                clear hS
                try simp only [Act.put, List.setIfInBounds_toArray, List.set_cons_zero, List.set_cons_succ]
                have hS := HSp.out _ bM hc0 hc1 hd0 hd1
                refine wpAnyH_take (i := 14) (oi := { dst := some 35, op := Go.Op.load 45 (Go.Operand.tmp 34), type := 45, pos := "l14_gating.go:99", after := #[{ on := 13, ground := Go.Ground.data }, { on := 9, ground := Go.Ground.guard }], guard := some (9, false) }) (v := ?_) rfl (by kernel_rfl) (by kernel_rfl) (by kernel_rfl) (fun _ _ _ h => h) (Or.inl ⟨by rfl, ?_⟩) hS ?_
                rotate_left
                · (intro w hSw; have hSw := (HSd.out w).1 hSw; go_split_ands; go_simp) <;> with_reducible rfl
                clear hS
                try simp only [Act.put, List.setIfInBounds_toArray, List.set_cons_zero, List.set_cons_succ]
                have hS := HSp.out _ bM hc0 hc1 hd0 hd1
                refine wpAnyH_take (i := 16) (oi := { dst := some 37, op := Go.Op.load 25 (Go.Operand.tmp 2), type := 25, pos := "l14_gating.go:99", after := #[{ on := 9, ground := Go.Ground.guard }], guard := some (9, false) }) (v := ?_) rfl (by kernel_rfl) (by kernel_rfl) (by kernel_rfl) (fun _ _ _ h => h) (Or.inl ⟨by rfl, ?_⟩) hS ?_
                rotate_left
                · (intro w hSw; have hSw := (HSd.out w).1 hSw; go_split_ands; go_simp) <;> with_reducible rfl
                clear hS
                try simp only [Act.put, List.setIfInBounds_toArray, List.set_cons_zero, List.set_cons_succ]
                have hS := HSp.out _ bM hc0 hc1 hd0 hd1
                refine wpAnyH_take (i := 17) (oi := { dst := some 38, op := Go.Op.move (Go.Operand.tmp 1), type := 29, pos := "l14_gating.go:99", after := #[{ on := 9, ground := Go.Ground.guard }], guard := some (9, false) }) (v := ?_) rfl (by kernel_rfl) (by kernel_rfl) (by kernel_rfl) (fun _ _ _ h => h) (Or.inl ⟨by rfl, ?_⟩) hS ?_
                rotate_left
                · (intro w hSw; have hSw := (HSd.out w).1 hSw; go_split_ands; go_simp) <;> with_reducible rfl
                clear hS
                try simp only [Act.put, List.setIfInBounds_toArray, List.set_cons_zero, List.set_cons_succ]
                have hS := HSp.out _ bM hc0 hc1 hd0 hd1
                refine wpAnyH_take (i := 18) (oi := { dst := some 39, op := Go.Op.move (Go.Operand.tmp 7), type := 2, pos := "l14_gating.go:99", after := #[{ on := 9, ground := Go.Ground.guard }], guard := some (9, false) }) (v := ?_) rfl (by kernel_rfl) (by kernel_rfl) (by kernel_rfl) (fun _ _ _ h => h) (Or.inl ⟨by rfl, ?_⟩) hS ?_
                rotate_left
                · (intro w hSw; have hSw := (HSd.out w).1 hSw; go_split_ands; go_simp) <;> with_reducible rfl
                clear hS
                try simp only [Act.put, List.setIfInBounds_toArray, List.set_cons_zero, List.set_cons_succ]
                have hS := HSp.out _ bM hc0 hc1 hd0 hd1
                refine wpAnyH_take (i := 19) (oi := { dst := some 40, op := Go.Op.indexAddr 29 (Go.Operand.tmp 38) (Go.Operand.tmp 39), type := 0, pos := "l14_gating.go:99", after := #[{ on := 17, ground := Go.Ground.data }, { on := 18, ground := Go.Ground.data }, { on := 9, ground := Go.Ground.guard }], guard := some (9, false) }) (v := ?_) rfl (by kernel_rfl) (by kernel_rfl) (by kernel_rfl) (fun _ _ _ h => h) (Or.inl ⟨by rfl, ?_⟩) hS ?_
                rotate_left
                · (intro w hSw; have hSw := (HSd.out w).1 hSw; go_split_ands; go_simp) <;> with_reducible rfl
                clear hS
                try simp only [Act.put, List.setIfInBounds_toArray, List.set_cons_zero, List.set_cons_succ]
                have hS := HSp.out _ bM hc0 hc1 hd0 hd1
                refine wpAnyH_take (i := 20) (oi := { dst := some 41, op := Go.Op.load 45 (Go.Operand.tmp 40), type := 45, pos := "l14_gating.go:99", after := #[{ on := 19, ground := Go.Ground.data }, { on := 9, ground := Go.Ground.guard }], guard := some (9, false) }) (v := ?_) rfl (by kernel_rfl) (by kernel_rfl) (by kernel_rfl) (fun _ _ _ h => h) (Or.inl ⟨by rfl, ?_⟩) hS ?_
                rotate_left
                · (intro w hSw; have hSw := (HSd.out w).1 hSw; go_split_ands; go_simp) <;> with_reducible rfl
                clear hS
                try simp only [Act.put, List.setIfInBounds_toArray, List.set_cons_zero, List.set_cons_succ]
                refine wpAnyH_ready (rs := [15]) (by kernel_rfl) (by simp) ?_
                refine AllReadyH.cons (o := { dst := some 36, op := Go.Op.call { callee := Go.Callee.value (Go.Operand.func 77), args := #[Go.Operand.tmp 31, Go.Operand.tmp 35], argTypes := #[25, 45] }, type := 2, pos := "l14_gating.go:99", after := #[{ on := 10, ground := Go.Ground.data }, { on := 14, ground := Go.Ground.data }, { on := 9, ground := Go.Ground.chain }, { on := 9, ground := Go.Ground.guard }], guard := some (9, false) }) rfl (fun Kn hK => ?_) AllReadyH.nil
                first | go_at_call 77 | (go_simp; go_at_call 77)
                (with_reducible refine Calls.mono (K2.out  _) ?_)
                rintro e V2 ⟨rfl, hb⟩
                try dsimp only
                try simp only [Act.put, List.setIfInBounds_toArray, List.set_cons_zero, List.set_cons_succ]
                replace bM := bM.on hb
                replace hc0 := kcG hc0 hb
                replace hc1 := kcG hc1 hb
                replace hd0 := kcG hd0 hb
                replace hd1 := kcG hd1 hb
                replace HW := Lib.hid (bel_end HW.out hb)
                clear hb
                refine hK.out _ _ (HSp.out _ bM hc0 hc1 hd0 hd1) (fun _ => ?_)
                clear hK Kn
                refine wpAnyH_ready (rs := [21]) (by kernel_rfl) (by simp) ?_
                refine AllReadyH.cons (o := { dst := some 42, op := Go.Op.call { callee := Go.Callee.value (Go.Operand.func 77), args := #[Go.Operand.tmp 37, Go.Operand.tmp 41], argTypes := #[25, 45] }, type := 2, pos := "l14_gating.go:99", after := #[{ on := 16, ground := Go.Ground.data }, { on := 20, ground := Go.Ground.data }, { on := 15, ground := Go.Ground.chain }, { on := 9, ground := Go.Ground.guard }], guard := some (9, false) }) rfl (fun Kn hK => ?_) AllReadyH.nil
                first | go_at_call 77 | (go_simp; go_at_call 77)
                (with_reducible refine Calls.mono (K3.out  _) ?_)
                rintro e V3 ⟨rfl, hb⟩
                try dsimp only
                try simp only [Act.put, List.setIfInBounds_toArray, List.set_cons_zero, List.set_cons_succ]
                replace bM := bM.on hb
                replace hc0 := kcG hc0 hb
                replace hc1 := kcG hc1 hb
                replace hd0 := kcG hd0 hb
                replace hd1 := kcG hd1 hb
                replace HW := Lib.hid (bel_end HW.out hb)
                clear hb
                refine hK.out _ _ (HSp.out _ bM hc0 hc1 hd0 hd1) (fun _ => ?_)
                clear hK Kn
                have hS := HSp.out _ bM hc0 hc1 hd0 hd1
                refine wpAnyH_take (i := 22) (oi := { dst := some 43, op := Go.Op.binOp Go.BinOp.lss 2 (Go.Operand.tmp 36) (Go.Operand.tmp 42) 2, type := 4, pos := "l14_gating.go:99", after := #[{ on := 15, ground := Go.Ground.data }, { on := 21, ground := Go.Ground.data }, { on := 9, ground := Go.Ground.guard }], guard := some (9, false) }) (v := ?_) rfl (by kernel_rfl) (by kernel_rfl) (by kernel_rfl) (fun _ _ _ h => h) (Or.inl ⟨by rfl, ?_⟩) hS ?_
                rotate_left
                · (intro w hSw; have hSw := (HSd.out w).1 hSw; go_split_ands; go_simp) <;> with_reducible rfl
                clear hS
                try simp only [Act.put, List.setIfInBounds_toArray, List.set_cons_zero, List.set_cons_succ]
                have hS := HSp.out _ bM hc0 hc1 hd0 hd1
                refine wpAnyH_take (i := 23) (oi := { dst := some 44, op := Go.Op.pick (Go.Operand.tmp 30) (Go.Operand.const (Go.Value.bool true)) (Go.Operand.tmp 43), type := 4, pos := "l14_gating.go:99", after := #[{ on := 9, ground := Go.Ground.data }, { on := 22, ground := Go.Ground.data }, { on := 6, ground := Go.Ground.guard }], guard := some (6, true) }) (v := ?_) rfl (by kernel_rfl) (by kernel_rfl) (by kernel_rfl) (fun _ _ _ h => h) (Or.inl ⟨by rfl, ?_⟩) hS ?_
                rotate_left
                · (intro w hSw; have hSw := (HSd.out w).1 hSw; go_split_ands; go_simp) <;> with_reducible rfl
                clear hS
                try simp only [Act.put, List.setIfInBounds_toArray, List.set_cons_zero, List.set_cons_succ]
                have hS := HSp.out _ bM hc0 hc1 hd0 hd1
                refine wpAnyH_take (i := 24) (oi := { dst := some 45, op := Go.Op.pick (Go.Operand.tmp 27) (Go.Operand.tmp 44) (Go.Operand.const (Go.Value.bool false)), type := 4, pos := "l14_gating.go:99", after := #[{ on := 6, ground := Go.Ground.data }, { on := 23, ground := Go.Ground.data }], guard := none }) (v := ?_) rfl (by kernel_rfl) (by kernel_rfl) (by kernel_rfl) (fun _ _ _ h => h) (Or.inl ⟨by rfl, ?_⟩) hS ?_
                rotate_left
                · (intro w hSw; have hSw := (HSd.out w).1 hSw; go_split_ands; go_simp) <;> with_reducible rfl
                clear hS
                try simp only [Act.put, List.setIfInBounds_toArray, List.set_cons_zero, List.set_cons_succ]
                refine wpAnyH_done (by kernel_rfl) ?_ _
                go_wp2_with fail
                go_meet
                exact ⟨rfl, HW.out⟩
              case rest =>
                obtain ⟨rfl, hb⟩ := hcut
                replace bM := bM.on hb
                replace HBR := Lib.hid (bel_end HBR.out hb)
                clear hb
                clear bM hc0 hc1
                go_wp2_with fail
                go_roundw
                case rel => exact ⟨k + 1, by omega, by rw [HS.out], by go_num, HBR.out⟩
                case measure => simp [intOf]; omega
            case neg =>
              rw [if_neg (by rintro ⟨-, h | h⟩ <;> omega)] at HS
              have bM_0 := bM.cell 0 rfl
              have bM_1 := bM.cell 1 rfl
              have bM_2 := bM.cell 2 rfl
              have bM_3 := bM.cell 3 rfl
              have bM_4 := bM.cell 4 rfl
              have bM_l := bM.lt
              go_upto_region 8 with fail
              clear bM_0 bM_1 bM_2 bM_3 bM_4 bM_l
              go_cut [45] from 21 to 44 (fun s45 wx => s45 = .bool false ∧ Below wr.heap.size wr wx)
              case first =>
                have HW : Hid (Below wr.heap.size wr wr) := Lib.hid (Below.refl _ _)
                obtain ⟨S, hSd⟩ : ∃ S : World → Prop, ∀ w', S w' ↔ (w'.cell? ⟨w.heap.size, 0, none⟩ = some (.int .i64 x) ∧ w'.cell? ⟨w.heap.size, 1, none⟩ = some (.int .i64 y) ∧ w'.cell? ⟨w.heap.size, 2, none⟩ = some (.int .i64 u) ∧ w'.cell? ⟨w.heap.size, 3, none⟩ = some (.int .i64 v) ∧ w'.cell? ⟨w.heap.size, 4, none⟩ = some (.int .i64 s) ∧ w'.cell? ⟨b, off + k * 2, none⟩ = some (.int .i64 p) ∧ w'.cell? ⟨b, off + k * 2 + 1, none⟩ = some (.int .i64 q) ∧ w'.cell? ⟨b, off + m * 2, none⟩ = some (.int .i64 p2) ∧ w'.cell? ⟨b, off + m * 2 + 1, none⟩ = some (.int .i64 q2)) := ⟨_, fun _ => Iff.rfl⟩
                have HSp : Hid (∀ w' : World, Bk w' (w.heap.size) #[.int .i64 x, .int .i64 y, .int .i64 u, .int .i64 v, .int .i64 s] 25 → w'.cell? ⟨b, off + k * 2, none⟩ = some (.int .i64 p) → w'.cell? ⟨b, off + k * 2 + 1, none⟩ = some (.int .i64 q) → w'.cell? ⟨b, off + m * 2, none⟩ = some (.int .i64 p2) → w'.cell? ⟨b, off + m * 2 + 1, none⟩ = some (.int .i64 q2) → S w') := Lib.hid (fun w' bM y0 y1 y2 y3 => (hSd w').2 ⟨bM.cell 0 rfl, bM.cell 1 rfl, bM.cell 2 rfl, bM.cell 3 rfl, bM.cell 4 rfl, y0, y1, y2, y3⟩)
                have HSd := Lib.hid hSd
                clear hSd
                refine wp_region_held_drew (S := S) (by kernel_rfl) ?_ (fun hH => ?_)
                · exact (HSp.out _ bM hc0 hc1 hd0 hd1 : S (World.drew wr))
                clear hH
                generalize hX : World.drew wr = V0
                replace bM : Bk V0 (w.heap.size) #[.int .i64 x, .int .i64 y, .int .i64 u, .int .i64 v, .int .i64 s] 25 := by rw [← hX]; exact bM
                have hb : Below wr.heap.size wr V0 := by rw [← hX]; exact (Below.refl _ _).drew
                clear hX
                replace hc0 := kcG hc0 hb
                replace hc1 := kcG hc1 hb
                replace hd0 := kcG hd0 hb
                replace hd1 := kcG hd1 hb
                replace HW := Lib.hid (bel_end HW.out hb)
                clear hb
                have hS := HSp.out _ bM hc0 hc1 hd0 hd1
                refine wpAnyH_take (i := 0) (oi := { dst := some 21, op := Go.Op.load 25 (Go.Operand.tmp 2), type := 25, pos := "l14_gating.go:99", after := #[], guard := none }) (v := ?_) rfl (by kernel_rfl) (by kernel_rfl) (by kernel_rfl) (fun _ _ _ h => h) (Or.inl ⟨by rfl, ?_⟩) hS ?_
                rotate_left
                · (intro w hSw; have hSw := (HSd.out w).1 hSw; go_split_ands; go_simp) <;> with_reducible rfl
                clear hS
                try simp only [Act.put, List.setIfInBounds_toArray, List.set_cons_zero, List.set_cons_succ]
                have hS := HSp.out _ bM hc0 hc1 hd0 hd1
                refine wpAnyH_take (i := 1) (oi := { dst := some 22, op := Go.Op.move (Go.Operand.tmp 1), type := 29, pos := "l14_gating.go:99", after := #[], guard := none }) (v := ?_) rfl (by kernel_rfl) (by kernel_rfl) (by kernel_rfl) (fun _ _ _ h => h) (Or.inl ⟨by rfl, ?_⟩) hS ?_
                rotate_left
                · (intro w hSw; have hSw := (HSd.out w).1 hSw; go_split_ands; go_simp) <;> with_reducible rfl
                clear hS
                try simp only [Act.put, List.setIfInBounds_toArray, List.set_cons_zero, List.set_cons_succ]
                have hS := HSp.out _ bM hc0 hc1 hd0 hd1
                refine wpAnyH_take (i := 2) (oi := { dst := some 23, op := Go.Op.move (Go.Operand.tmp 8), type := 2, pos := "l14_gating.go:99", after := #[], guard := none }) (v := ?_) rfl (by kernel_rfl) (by kernel_rfl) (by kernel_rfl) (fun _ _ _ h => h) (Or.inl ⟨by rfl, ?_⟩) hS ?_
                rotate_left
                · (intro w hSw; have hSw := (HSd.out w).1 hSw; go_split_ands; go_simp) <;> with_reducible rfl
                clear hS
                try simp only [Act.put, List.setIfInBounds_toArray, List.set_cons_zero, List.set_cons_succ]
                have hS := HSp.out _ bM hc0 hc1 hd0 hd1
                refine wpAnyH_take (i := 3) (oi := { dst := some 24, op := Go.Op.indexAddr 29 (Go.Operand.tmp 22) (Go.Operand.tmp 23), type := 0, pos := "l14_gating.go:99", after := #[{ on := 1, ground := Go.Ground.data }, { on := 2, ground := Go.Ground.data }], guard := none }) (v := ?_) rfl (by kernel_rfl) (by kernel_rfl) (by kernel_rfl) (fun _ _ _ h => h) (Or.inl ⟨by rfl, ?_⟩) hS ?_
                rotate_left
                · (intro w hSw; have hSw := (HSd.out w).1 hSw; go_split_ands; go_simp) <;> with_reducible rfl
                clear hS
                try simp only [Act.put, List.setIfInBounds_toArray, List.set_cons_zero, List.set_cons_succ]
                have hS := HSp.out _ bM hc0 hc1 hd0 hd1
                refine wpAnyH_take (i := 4) (oi := { dst := some 25, op := Go.Op.load 45 (Go.Operand.tmp 24), type := 45, pos := "l14_gating.go:99", after := #[{ on := 3, ground := Go.Ground.data }], guard := none }) (v := ?_) rfl (by kernel_rfl) (by kernel_rfl) (by kernel_rfl) (fun _ _ _ h => h) (Or.inl ⟨by rfl, ?_⟩) hS ?_
                rotate_left
                · (intro w hSw; have hSw := (HSd.out w).1 hSw; go_split_ands; go_simp) <;> with_reducible rfl
                clear hS
                try simp only [Act.put, List.setIfInBounds_toArray, List.set_cons_zero, List.set_cons_succ]
                refine wpAnyH_ready (rs := [5]) (by kernel_rfl) (by simp) ?_
                refine AllReadyH.cons (o := { dst := some 26, op := Go.Op.call { callee := Go.Callee.value (Go.Operand.func 72), args := #[Go.Operand.tmp 21, Go.Operand.tmp 25], argTypes := #[25, 45] }, type := 4, pos := "l14_gating.go:99", after := #[{ on := 0, ground := Go.Ground.data }, { on := 4, ground := Go.Ground.data }], guard := none }) rfl (fun Kn hK => ?_) AllReadyH.nil
                first | go_at_call 72 | (go_simp; go_at_call 72)
                (with_reducible refine Calls.mono (K1.out  _) ?_)
                rintro e V1 ⟨rfl, hb⟩
                try dsimp only
                try simp only [Act.put, List.setIfInBounds_toArray, List.set_cons_zero, List.set_cons_succ]
                replace bM := bM.on hb
                replace hc0 := kcG hc0 hb
                replace hc1 := kcG hc1 hb
                replace hd0 := kcG hd0 hb
                replace hd1 := kcG hd1 hb
                replace HW := Lib.hid (bel_end HW.out hb)
                clear hb
                refine hK.out _ _ (HSp.out _ bM hc0 hc1 hd0 hd1) (fun _ => ?_)
                clear hK Kn
                have hS := HSp.out _ bM hc0 hc1 hd0 hd1
                refine wpAnyH_take (i := 6) (oi := { dst := some 27, op := Go.Op.move (Go.Operand.tmp 26), type := 4, pos := "l14_gating.go:99", after := #[{ on := 5, ground := Go.Ground.data }, { on := 5, ground := Go.Ground.chain }], guard := none }) (v := ?_) rfl (by kernel_rfl) (by kernel_rfl) (by kernel_rfl) (fun _ _ _ h => h) (Or.inl ⟨by rfl, ?_⟩) hS ?_
                rotate_left
                · (intro w hSw; have hSw := (HSd.out w).1 hSw; go_split_ands; go_simp) <;> with_reducible rfl
                clear hS
                try simp only [Act.put, List.setIfInBounds_toArray, List.set_cons_zero, List.set_cons_succ]
                have hS := HSp.out _ bM hc0 hc1 hd0 hd1
                refine wpAnyH_take (i := 7) (oi := { dst := some 28, op := Go.Op.move (Go.Operand.tmp 7), type := 2, pos := "l14_gating.go:99", after := #[{ on := 6, ground := Go.Ground.guard }], guard := some (6, true) }) (v := ?_) rfl (by kernel_rfl) (by kernel_rfl) (by kernel_rfl) (fun _ _ _ h => h) (Or.inl ⟨by rfl, ?_⟩) hS ?_
                rotate_left
                · (intro w hSw; have hSw := (HSd.out w).1 hSw; go_split_ands; go_simp) <;> with_reducible rfl
                clear hS
                try simp only [Act.put, List.setIfInBounds_toArray, List.set_cons_zero, List.set_cons_succ]
                have hS := HSp.out _ bM hc0 hc1 hd0 hd1
                refine wpAnyH_take (i := 8) (oi := { dst := some 29, op := Go.Op.binOp Go.BinOp.lss 2 (Go.Operand.tmp 28) (Go.Operand.const (Go.Value.int Go.IntKind.i64 0)) 2, type := 4, pos := "l14_gating.go:99", after := #[{ on := 7, ground := Go.Ground.data }, { on := 6, ground := Go.Ground.guard }], guard := some (6, true) }) (v := ?_) rfl (by kernel_rfl) (by kernel_rfl) (by kernel_rfl) (fun _ _ _ h => h) (Or.inl ⟨by rfl, ?_⟩) hS ?_
                rotate_left
                · (intro w hSw; have hSw := (HSd.out w).1 hSw; go_split_ands; go_simp) <;> with_reducible rfl
                clear hS
                try simp only [Act.put, List.setIfInBounds_toArray, List.set_cons_zero, List.set_cons_succ]
                have hS := HSp.out _ bM hc0 hc1 hd0 hd1
                refine wpAnyH_take (i := 9) (oi := { dst := some 30, op := Go.Op.move (Go.Operand.tmp 29), type := 4, pos := "l14_gating.go:99", after := #[{ on := 8, ground := Go.Ground.data }, { on := 6, ground := Go.Ground.chain }, { on := 6, ground := Go.Ground.guard }], guard := some (6, true) }) (v := ?_) rfl (by kernel_rfl) (by kernel_rfl) (by kernel_rfl) (fun _ _ _ h => h) (Or.inl ⟨by rfl, ?_⟩) hS ?_
                rotate_left
                · (intro w hSw; have hSw := (HSd.out w).1 hSw; go_split_ands; go_simp) <;> with_reducible rfl
                clear hS
                try simp only [Act.put, List.setIfInBounds_toArray, List.set_cons_zero, List.set_cons_succ]
                have hS := HSp.out _ bM hc0 hc1 hd0 hd1
                refine wpAnyH_take (i := 10) (oi := { dst := some 31, op := Go.Op.load 25 (Go.Operand.tmp 2), type := 25, pos := "l14_gating.go:99", after := #[{ on := 9, ground := Go.Ground.guard }], guard := some (9, false) }) (v := ?_) rfl (by kernel_rfl) (by kernel_rfl) (by kernel_rfl) (fun _ _ _ h => h) (Or.inl ⟨by rfl, ?_⟩) hS ?_
                rotate_left
                · (intro w hSw; have hSw := (HSd.out w).1 hSw; go_split_ands; go_simp) <;> with_reducible rfl
                clear hS
                try simp only [Act.put, List.setIfInBounds_toArray, List.set_cons_zero, List.set_cons_succ]
                have hS := HSp.out _ bM hc0 hc1 hd0 hd1
                refine wpAnyH_take (i := 11) (oi := { dst := some 32, op := Go.Op.move (Go.Operand.tmp 1), type := 29, pos := "l14_gating.go:99", after := #[{ on := 9, ground := Go.Ground.guard }], guard := some (9, false) }) (v := ?_) rfl (by kernel_rfl) (by kernel_rfl) (by kernel_rfl) (fun _ _ _ h => h) (Or.inl ⟨by rfl, ?_⟩) hS ?_
                rotate_left
                · (intro w hSw; have hSw := (HSd.out w).1 hSw; go_split_ands; go_simp) <;> with_reducible rfl
                clear hS
                try simp only [Act.put, List.setIfInBounds_toArray, List.set_cons_zero, List.set_cons_succ]
                have hS := HSp.out _ bM hc0 hc1 hd0 hd1
                refine wpAnyH_take (i := 12) (oi := { dst := some 33, op := Go.Op.move (Go.Operand.tmp 8), type := 2, pos := "l14_gating.go:99", after := #[{ on := 9, ground := Go.Ground.guard }], guard := some (9, false) }) (v := ?_) rfl (by kernel_rfl) (by kernel_rfl) (by kernel_rfl) (fun _ _ _ h => h) (Or.inl ⟨by rfl, ?_⟩) hS ?_
                rotate_left
                · (intro w hSw; have hSw := (HSd.out w).1 hSw; go_split_ands; go_simp) <;> with_reducible rfl
                clear hS
                try simp only [Act.put, List.setIfInBounds_toArray, List.set_cons_zero, List.set_cons_succ]
                have hS := HSp.out _ bM hc0 hc1 hd0 hd1
                refine wpAnyH_take (i := 13) (oi := { dst := some 34, op := Go.Op.indexAddr 29 (Go.Operand.tmp 32) (Go.Operand.tmp 33), type := 0, pos := "l14_gating.go:99", after := #[{ on := 11, ground := Go.Ground.data }, { on := 12, ground := Go.Ground.data }, { on := 9, ground := Go.Ground.guard }], guard := some (9, false) }) (v := ?_) rfl (by kernel_rfl) (by kernel_rfl) (by kernel_rfl) (fun _ _ _ h => h) (Or.inl ⟨by rfl, ?_⟩) hS ?_
                rotate_left
                · (intro w hSw; have hSw := (HSd.out w).1 hSw; go_split_ands; go_simp) <;> with_reducible rfl
                clear hS
                try simp only [Act.put, List.setIfInBounds_toArray, List.set_cons_zero, List.set_cons_succ]
                have hS := HSp.out _ bM hc0 hc1 hd0 hd1
                refine wpAnyH_take (i := 14) (oi := { dst := some 35, op := Go.Op.load 45 (Go.Operand.tmp 34), type := 45, pos := "l14_gating.go:99", after := #[{ on := 13, ground := Go.Ground.data }, { on := 9, ground := Go.Ground.guard }], guard := some (9, false) }) (v := ?_) rfl (by kernel_rfl) (by kernel_rfl) (by kernel_rfl) (fun _ _ _ h => h) (Or.inl ⟨by rfl, ?_⟩) hS ?_
                rotate_left
                · (intro w hSw; have hSw := (HSd.out w).1 hSw; go_split_ands; go_simp) <;> with_reducible rfl
                clear hS
                try simp only [Act.put, List.setIfInBounds_toArray, List.set_cons_zero, List.set_cons_succ]
                have hS := HSp.out _ bM hc0 hc1 hd0 hd1
                refine wpAnyH_take (i := 16) (oi := { dst := some 37, op := Go.Op.load 25 (Go.Operand.tmp 2), type := 25, pos := "l14_gating.go:99", after := #[{ on := 9, ground := Go.Ground.guard }], guard := some (9, false) }) (v := ?_) rfl (by kernel_rfl) (by kernel_rfl) (by kernel_rfl) (fun _ _ _ h => h) (Or.inl ⟨by rfl, ?_⟩) hS ?_
                rotate_left
                · (intro w hSw; have hSw := (HSd.out w).1 hSw; go_split_ands; go_simp) <;> with_reducible rfl
                clear hS
                try simp only [Act.put, List.setIfInBounds_toArray, List.set_cons_zero, List.set_cons_succ]
                have hS := HSp.out _ bM hc0 hc1 hd0 hd1
                refine wpAnyH_take (i := 17) (oi := { dst := some 38, op := Go.Op.move (Go.Operand.tmp 1), type := 29, pos := "l14_gating.go:99", after := #[{ on := 9, ground := Go.Ground.guard }], guard := some (9, false) }) (v := ?_) rfl (by kernel_rfl) (by kernel_rfl) (by kernel_rfl) (fun _ _ _ h => h) (Or.inl ⟨by rfl, ?_⟩) hS ?_
                rotate_left
                · (intro w hSw; have hSw := (HSd.out w).1 hSw; go_split_ands; go_simp) <;> with_reducible rfl
                clear hS
                try simp only [Act.put, List.setIfInBounds_toArray, List.set_cons_zero, List.set_cons_succ]
                have hS := HSp.out _ bM hc0 hc1 hd0 hd1
                refine wpAnyH_take (i := 18) (oi := { dst := some 39, op := Go.Op.move (Go.Operand.tmp 7), type := 2, pos := "l14_gating.go:99", after := #[{ on := 9, ground := Go.Ground.guard }], guard := some (9, false) }) (v := ?_) rfl (by kernel_rfl) (by kernel_rfl) (by kernel_rfl) (fun _ _ _ h => h) (Or.inl ⟨by rfl, ?_⟩) hS ?_
                rotate_left
                · (intro w hSw; have hSw := (HSd.out w).1 hSw; go_split_ands; go_simp) <;> with_reducible rfl
                clear hS
                try simp only [Act.put, List.setIfInBounds_toArray, List.set_cons_zero, List.set_cons_succ]
                have hS := HSp.out _ bM hc0 hc1 hd0 hd1
                refine wpAnyH_take (i := 19) (oi := { dst := some 40, op := Go.Op.indexAddr 29 (Go.Operand.tmp 38) (Go.Operand.tmp 39), type := 0, pos := "l14_gating.go:99", after := #[{ on := 17, ground := Go.Ground.data }, { on := 18, ground := Go.Ground.data }, { on := 9, ground := Go.Ground.guard }], guard := some (9, false) }) (v := ?_) rfl (by kernel_rfl) (by kernel_rfl) (by kernel_rfl) (fun _ _ _ h => h) (Or.inl ⟨by rfl, ?_⟩) hS ?_
                rotate_left
                · (intro w hSw; have hSw := (HSd.out w).1 hSw; go_split_ands; go_simp) <;> with_reducible rfl
                clear hS
                try simp only [Act.put, List.setIfInBounds_toArray, List.set_cons_zero, List.set_cons_succ]
                have hS := HSp.out _ bM hc0 hc1 hd0 hd1
                refine wpAnyH_take (i := 20) (oi := { dst := some 41, op := Go.Op.load 45 (Go.Operand.tmp 40), type := 45, pos := "l14_gating.go:99", after := #[{ on := 19, ground := Go.Ground.data }, { on := 9, ground := Go.Ground.guard }], guard := some (9, false) }) (v := ?_) rfl (by kernel_rfl) (by kernel_rfl) (by kernel_rfl) (fun _ _ _ h => h) (Or.inl ⟨by rfl, ?_⟩) hS ?_
                rotate_left
                · (intro w hSw; have hSw := (HSd.out w).1 hSw; go_split_ands; go_simp) <;> with_reducible rfl
                clear hS
                try simp only [Act.put, List.setIfInBounds_toArray, List.set_cons_zero, List.set_cons_succ]
                refine wpAnyH_ready (rs := [15]) (by kernel_rfl) (by simp) ?_
                refine AllReadyH.cons (o := { dst := some 36, op := Go.Op.call { callee := Go.Callee.value (Go.Operand.func 77), args := #[Go.Operand.tmp 31, Go.Operand.tmp 35], argTypes := #[25, 45] }, type := 2, pos := "l14_gating.go:99", after := #[{ on := 10, ground := Go.Ground.data }, { on := 14, ground := Go.Ground.data }, { on := 9, ground := Go.Ground.chain }, { on := 9, ground := Go.Ground.guard }], guard := some (9, false) }) rfl (fun Kn hK => ?_) AllReadyH.nil
                first | go_at_call 77 | (go_simp; go_at_call 77)
                (with_reducible refine Calls.mono (K2.out  _) ?_)
                rintro e V2 ⟨rfl, hb⟩
                try dsimp only
                try simp only [Act.put, List.setIfInBounds_toArray, List.set_cons_zero, List.set_cons_succ]
                replace bM := bM.on hb
                replace hc0 := kcG hc0 hb
                replace hc1 := kcG hc1 hb
                replace hd0 := kcG hd0 hb
                replace hd1 := kcG hd1 hb
                replace HW := Lib.hid (bel_end HW.out hb)
                clear hb
                refine hK.out _ _ (HSp.out _ bM hc0 hc1 hd0 hd1) (fun _ => ?_)
                clear hK Kn
                refine wpAnyH_ready (rs := [21]) (by kernel_rfl) (by simp) ?_
                refine AllReadyH.cons (o := { dst := some 42, op := Go.Op.call { callee := Go.Callee.value (Go.Operand.func 77), args := #[Go.Operand.tmp 37, Go.Operand.tmp 41], argTypes := #[25, 45] }, type := 2, pos := "l14_gating.go:99", after := #[{ on := 16, ground := Go.Ground.data }, { on := 20, ground := Go.Ground.data }, { on := 15, ground := Go.Ground.chain }, { on := 9, ground := Go.Ground.guard }], guard := some (9, false) }) rfl (fun Kn hK => ?_) AllReadyH.nil
                first | go_at_call 77 | (go_simp; go_at_call 77)
                (with_reducible refine Calls.mono (K3.out  _) ?_)
                rintro e V3 ⟨rfl, hb⟩
                try dsimp only
                try simp only [Act.put, List.setIfInBounds_toArray, List.set_cons_zero, List.set_cons_succ]
                replace bM := bM.on hb
                replace hc0 := kcG hc0 hb
                replace hc1 := kcG hc1 hb
                replace hd0 := kcG hd0 hb
                replace hd1 := kcG hd1 hb
                replace HW := Lib.hid (bel_end HW.out hb)
                clear hb
                refine hK.out _ _ (HSp.out _ bM hc0 hc1 hd0 hd1) (fun _ => ?_)
                clear hK Kn
                have hS := HSp.out _ bM hc0 hc1 hd0 hd1
                refine wpAnyH_take (i := 22) (oi := { dst := some 43, op := Go.Op.binOp Go.BinOp.lss 2 (Go.Operand.tmp 36) (Go.Operand.tmp 42) 2, type := 4, pos := "l14_gating.go:99", after := #[{ on := 15, ground := Go.Ground.data }, { on := 21, ground := Go.Ground.data }, { on := 9, ground := Go.Ground.guard }], guard := some (9, false) }) (v := ?_) rfl (by kernel_rfl) (by kernel_rfl) (by kernel_rfl) (fun _ _ _ h => h) (Or.inl ⟨by rfl, ?_⟩) hS ?_
                rotate_left
                · (intro w hSw; have hSw := (HSd.out w).1 hSw; go_split_ands; go_simp) <;> with_reducible rfl
                clear hS
                try simp only [Act.put, List.setIfInBounds_toArray, List.set_cons_zero, List.set_cons_succ]
                have hS := HSp.out _ bM hc0 hc1 hd0 hd1
                refine wpAnyH_take (i := 23) (oi := { dst := some 44, op := Go.Op.pick (Go.Operand.tmp 30) (Go.Operand.const (Go.Value.bool true)) (Go.Operand.tmp 43), type := 4, pos := "l14_gating.go:99", after := #[{ on := 9, ground := Go.Ground.data }, { on := 22, ground := Go.Ground.data }, { on := 6, ground := Go.Ground.guard }], guard := some (6, true) }) (v := ?_) rfl (by kernel_rfl) (by kernel_rfl) (by kernel_rfl) (fun _ _ _ h => h) (Or.inl ⟨by rfl, ?_⟩) hS ?_
                rotate_left
                · (intro w hSw; have hSw := (HSd.out w).1 hSw; go_split_ands; go_simp) <;> with_reducible rfl
                clear hS
                try simp only [Act.put, List.setIfInBounds_toArray, List.set_cons_zero, List.set_cons_succ]
                have hS := HSp.out _ bM hc0 hc1 hd0 hd1
                refine wpAnyH_take (i := 24) (oi := { dst := some 45, op := Go.Op.pick (Go.Operand.tmp 27) (Go.Operand.tmp 44) (Go.Operand.const (Go.Value.bool false)), type := 4, pos := "l14_gating.go:99", after := #[{ on := 6, ground := Go.Ground.data }, { on := 23, ground := Go.Ground.data }], guard := none }) (v := ?_) rfl (by kernel_rfl) (by kernel_rfl) (by kernel_rfl) (fun _ _ _ h => h) (Or.inl ⟨by rfl, ?_⟩) hS ?_
                rotate_left
                · (intro w hSw; have hSw := (HSd.out w).1 hSw; go_split_ands; go_simp) <;> with_reducible rfl
                clear hS
                try simp only [Act.put, List.setIfInBounds_toArray, List.set_cons_zero, List.set_cons_succ]
                refine wpAnyH_done (by kernel_rfl) ?_ _
                go_wp2_with fail
                go_meet
                exact ⟨rfl, HW.out⟩
              case rest =>
                obtain ⟨rfl, hb⟩ := hcut
                replace bM := bM.on hb
                replace HBR := Lib.hid (bel_end HBR.out hb)
                clear hb
                clear bM hc0 hc1
                go_wp2_with fail
                go_roundw
                case rel => exact ⟨k + 1, by omega, by rw [HS.out], by go_num, HBR.out⟩
                case measure => simp [intOf]; omega
      case neg =>
        obtain rfl : k = ps.length := by omega
        obtain ⟨Z, hZ⟩ : ∃ qq, nrB x y s ps ps.length = qq := ⟨_, rfl⟩
        rw [hZ] at HT ⊢
        by_cases h0 : Z < 0
        case pos =>
          rw [if_pos h0, if_pos h0] at HT
          clear hnb hZ
          go_wp2
          go_ret2
          exact ⟨ret_ii HT.out.1 HT.out.2, bel_end HB.out HBR.out⟩
        case neg =>
          rw [if_neg h0, if_neg h0] at HT
          clear hnb hZ
          go_wp2
          go_ret2
          exact ⟨ret_ii HT.out.1 HT.out.2, bel_end HB.out HBR.out⟩
end Go.Proofs.Ytdkiikmmlfdlcaa
