/- The model's list of all pairings. -/
import Derived.Test.YtlahgdhofakinaaPrA
import Derived.Test.YtlahgdhofakinaaPuX
import Derived.Test.YtlahgdhofakinaaPwS
namespace Go.Proofs.Ytlahgdhofakinaa
open Go.ChangeShapes Go.WideShapes Go.ChangeAt Go.RowKit Go.Shelf Num
set_option linter.unusedVariables false
set_option linter.unusedSimpArgs false
theorem pow7_le : ∀ r, r < 6 → pow7 r ≤ 16807 := by decide
theorem allP_le6 {zss : List (List Int)} (hw : ∀ j, (gR zss j).length ≤ 6) {r : Nat} (hr : r < 6) (ps : List Int) : (allP zss r ps).length ≤ 16807 := Nat.le_trans (allP_le hw r ps) (pow7_le r hr)
theorem allK_le {zss : List (List Int)} (hw : ∀ j, (gR zss j).length ≤ 6) {r : Nat} (hr : r < 6) (ps : List Int) {j : Nat} (hj : j ≤ 7) : (allK zss r ps j).length ≤ 117649 := by
  have h : (allK zss r ps j).length ≤ j * 16807 := by
    unfold allK
    refine flat_le (fun i hi => ?_)
    split
    · exact allP_le6 hw hr _
    · simp
  omega
section
variable {W1 W : World} {G c : Nat} {vs : List Value} {L : List (List Int)}
theorem RwG.news (h : RwG W1 G c vs L W) : ∀ j u, vs[j]? = some u → W.cell? ((⟨G, 0, none⟩ : Addr).add j) = some u := fun j u e => h.row.own.cells (g := G) rfl _ _ e
theorem RwG.ones (h : RwG W1 G c vs L W) : ∀ u ∈ vs, u.oneCell' = true := fun u hu => by
  obtain ⟨j, hj, e⟩ := List.getElem_of_mem hu
  obtain ⟨g, d, e2, -⟩ := h.2.2 j (by rw [← h.1]; exact hj)
  rw [List.getElem?_eq_getElem hj, e] at e2
  injection e2 with e2
  rw [e2]; rfl
theorem RwG.one {g d n : Nat} {zs : List Int} (hn : zs.length = n) (ho : OwnA W W1.heap.size W.heap.size (some ⟨g, 0, none⟩) d zs) (hb : Below W1.heap.size W1 W) : RwG W1 W.heap.size 1 [.slice (some ⟨g, 0, none⟩) n d] [zs] (W.alloc (.cells #[.slice (some ⟨g, 0, none⟩) n d] 38)) := by
  subst hn
  refine ⟨rfl, ⟨World.ownsRow_lit W #[.slice (some ⟨g, 0, none⟩) zs.length d] 1 hb.size (by unfold maxLen; omega) (by simp), hb.alloc hb.size _⟩, fun j hj => ?_⟩
  obtain rfl : j = 0 := by simp at hj; omega
  exact ⟨g, d, rfl, ownA_top (ho.on ((Below.refl _ _).alloc (Nat.le_refl _) _))⟩
end
theorem own_snoc {w : World} {B m c g : Nat} {ps : List Int} {k : Int} (hm : ps.length = m) (h : w.ownsRow B 2 1 (.slice (some ⟨g, 0, none⟩) (m + 1) c) (m + 1) (ps.map iv4 ++ [.int .i64 k])) : Ints .i64 w w.heap.size (some ⟨g, 0, none⟩) (ps ++ [k]) := by
  have e1 : (ps ++ [k]).length = m + 1 := by simp; exact hm
  exact own_ints (B := B) (c := c) (by rw [e1, List.map_append]; exact h)
theorem kOk_neg {zss : List (List Int)} {ps : List Int} : kOk zss ps (-1) := Or.inl (by decide)
theorem kOk_lt {zss : List (List Int)} {ps : List Int} {i m : Nat} {x : Int} (hm : ps.length = m) (hx : (gR zss m).getD i 0 = x) (h : x < 0) : ¬ kOk zss ps (i : Int) := by
  subst hm
  rintro (h1 | ⟨h1, -⟩)
  · omega
  · unfold eAt at h1; rw [Int.toNat_natCast, hx] at h1; omega
theorem kOk_in {zss : List (List Int)} {ps : List Int} {i : Nat} (h : decide ((i : Int) ∈ ps) = true) : ¬ kOk zss ps (i : Int) := by
  rintro (h1 | ⟨-, h1⟩)
  · omega
  · exact h1 (of_decide_eq_true h)
theorem kOk_yes {zss : List (List Int)} {ps : List Int} {i m : Nat} {x : Int} (hm : ps.length = m) (hx : (gR zss m).getD i 0 = x) (h : 0 ≤ x) (h2 : decide ((i : Int) ∈ ps) = false) : kOk zss ps (i : Int) := by
  subst hm
  exact Or.inr ⟨by unfold eAt; rw [Int.toNat_natCast, hx]; exact h, of_decide_eq_false h2⟩
set_option maxRecDepth 100000 in
set_option maxHeartbeats 8000000 in
theorem lal_any : ∀ (r : Nat) (w : World) (a a2 : Option Addr) (cap c2 n m : Nat) (zss : List (List Int)) (ps : List Int) (hn : zss.length = n) (hm : ps.length = m) (hr : m + r = n) (h6 : n ≤ 6) (hw : ∀ j, (gR zss j).length ≤ 6) (hnil : a2 = none → c2 = 0) (hx : RwL w w.heap.size a zss) (hz : Ints .i64 w w.heap.size a2 ps),
    Calls Try.prog 94 #[.slice a n cap, .slice a2 m c2] w fun e w' => ∃ (G c : Nat) (vs : List Value), e = .returned (.slice (some ⟨G, 0, none⟩) (allP zss r ps).length c) ∧ RwG w G c vs (allP zss r ps) w' := by
  obtain ⟨i0, hi, hz0, hz1, hz2⟩ := info_parts info_i64
  obtain ⟨j0, hj, hy0, hy1, hy2⟩ := info_parts info_sl
  intro r
  induction r with
  | zero =>
    intro w a a2 cap c2 n m zss ps hn hm hr h6 hw hnil hx hz
    obtain rfl : m = n := by omega
    have K := Lib.hid (lnq_any w a2 c2 m ps hm (by omega) hnil hz)
    have N2 := Lib.hid hm
    have hd : ((m : Int) == (m : Int)) = true := by simp
    clear hz hx hn hm hw hnil
    go_enter Try.func94, Try.ntmps94
    go_wp2_with fail
    refine K.out.mono ?_
    rintro e w1 ⟨g, c', rfl, hrow⟩
    have HO := Lib.hid (ownA_row hrow N2.out (Nat.le_refl _))
    have HB := Lib.hid hrow.bel
    clear hrow K
    go_wp2
    go_ret
    exact ⟨w1.heap.size, 1, _, rfl, RwG.one N2.out HO.out HB.out⟩
  | succ r ih =>
    intro w a a2 cap c2 n m zss ps hn hm hr h6 hw hnil hx hz
    have IH := Lib.hid ih
    have N1 := Lib.hid hn
    have N2 := Lib.hid hm
    have HW := Lib.hid hw
    have HNIL := Lib.hid hnil
    have hmn : m < n := by omega
    have hn0 : 0 < n := by omega
    obtain ⟨b, off, p, cr, rfl, hbB, hc, hcc, hp⟩ := hx.at_ (j := m) (by rw [hn]; exact hmn)
    have hL6 := hw m
    have HX0 := Lib.hid hx
    have HZ0 := Lib.hid hz
    have HP0 := Lib.hid hp
    have HALL : Hid (allP zss (r + 1) ps = allK zss r ps ((gR zss m).length + 1)) := Lib.hid (by rw [← hm]; rfl)
    have HGE : Hid (∀ i : Nat, (gR zss m).getD i 0 = (gR zss m).getD i 0) := Lib.hid (fun i => rfl)
    have hd : ((m : Int) == (n : Int)) = false := by rw [beq_eq_false_iff_ne]; omega
    obtain ⟨L, hLe⟩ : ∃ L, (gR zss m).length = L := ⟨_, rfl⟩
    rw [hLe] at hc hcc hL6 HALL
    have HLE := Lib.hid hLe
    clear hx hz hp hn hm hw hnil ih hLe HGE
    go_enter Try.func94, Try.ntmps94
    go_wp2
    go_loopw [6, 7] (fun o i wr => ∃ (j ge ce : Nat) (vs : List Value), j ≤ L + 1 ∧ o = .slice (some ⟨ge, 0, none⟩) (allK zss r ps j).length ce ∧ i = .int .i64 ((j : Int) - 1) ∧ RwG w ge ce vs (allK zss r ps j) wr) (fun _ i _ => L + 1 - (intOf i + 1).toNat)
    case atStart => exact ⟨0, w.heap.size, 0, [], by omega, rfl, rfl, RwG.lit (Bk.new w _ _) (Nat.le_refl _) ((Below.refl _ _).alloc (Nat.le_refl _) _)⟩
    case round =>
      obtain ⟨j, ge, ce, vs, hjL, rfl, rfl, hR⟩ := hrel
      have hb := hR.bel
      have HX := Lib.hid ((HX0.out.below hb).more hb.size)
      have HZ := Lib.hid ((HZ0.out.below hb).more hb.size)
      have HWW := Lib.hid hb.size
      have hP := HP0.out.below hb
      have HR := Lib.hid hR
      have hc' : wr.cell? ⟨b, off + m, none⟩ = some (.slice p L cr) := (hb.cell (p := ⟨b, off + m, none⟩) hbB).trans hc
      have HJ := Lib.hid (allK_le HW.out (show r < 6 by omega) ps (show j ≤ 7 by omega))
      have KH : Hid (∀ (x : Int), Calls Try.prog 90 #[.slice a2 m c2, .int .i64 x] wr fun e w' => e = .returned (.bool (decide (x ∈ ps))) ∧ wr = w') := Lib.hid (fun x => lhs_any wr _ a2 c2 m ps x N2.out (by omega) HZ.out)
      have KO := Lib.hid (lnq_any wr a2 c2 m ps N2.out (by omega) HNIL.out HZ.out)
      have HSU : Hid (∀ k : Int, ((j : Int) - 1) = k → allK zss r ps (j + 1) = allK zss r ps j ++ (if kOk zss ps k then allP zss r (ps ++ [k]) else [])) := Lib.hid (fun k e => by subst e; exact allK_succ _ _ _ _)
      clear hR hb
      by_cases hlt : j < L + 1
      · obtain ⟨LS, hLS⟩ : ∃ u, allK zss r ps j = u := ⟨_, rfl⟩
        rw [hLS] at HR HJ HSU ⊢
        clear hLS
        rcases Nat.eq_zero_or_pos j with rfl | hj0
        · have HEQ : Hid (allK zss r ps (0 + 1) = LS ++ allP zss r (ps ++ [-1])) := Lib.hid (by rw [HSU.out (-1) (by decide), if_pos kOk_neg])
          clear HSU KH
          go_wp2_with fail
          refine KO.out.mono ?_
          rintro e w1 ⟨g1, c1, rfl, hrow1⟩
          have HO1 := Lib.hid hrow1
          have hb1 : Below wr.heap.size wr w1 := hrow1.bel
          have HB1 := Lib.hid hb1
          have HLO : Hid (wr.heap.size ≤ g1) := Lib.hid hrow1.lo
          clear hrow1 hb1 KO
          go_wp2_with (at_builtin; refine wpList_append_lies _ rfl _ _ 38 rfl wr.heap.size 2 i0 (.int .i64 0) 1 8 Try.underlying38 hi hz0 hz1 hz2 rfl (by decide) (.slice (some ⟨g1, 0, none⟩) m c1) m (ps.map iv4) rfl (HO1.out.own.alloc _) ⟨w1.heap.size, 0, none⟩ 1 1 [.int .i64 (-1)] rfl rfl (World.news_of_block (cs := #[.int .i64 (-1)]) (t := 2) (fr := (0, 0)) (heap_alloc_new w1 _)) (by simp [Value.oneCell']) (by decide) (by unfold maxLen; omega) (by omega) (by simp; exact Nat.le_succ_of_le HB1.out.size) (w1.heap.size + 1) (by simp) ?_; intro g2 cp2 w2 hown hgrow hat hlt9; have HI2 := Lib.hid (own_snoc N2.out hown); have HBB : Hid (Below wr.heap.size wr w2) := Lib.hid ((HB1.out.alloc HB1.out.size _).grown hgrow (by simp; exact Nat.le_succ_of_le HB1.out.size) (by intro y hy; simp [Value.ownBlock] at hy; have := HLO.out; omega)); clear hown hgrow hat hlt9)
          replace HR := Lib.hid (HR.out.on HBB.out)
          replace HX := Lib.hid ((HX.out.below HBB.out).more HBB.out.size)
          have HLE2 : Hid (w.heap.size ≤ w2.heap.size) := Lib.hid (Nat.le_trans HWW.out HBB.out.size)
          clear HO1 HB1 HLO HBB
          go_wp2_with fail
          refine (IH.out w2 (some ⟨b, off, none⟩) (some ⟨g2, 0, none⟩) cap cp2 n (m + 1) zss (ps ++ [(-1)]) N1.out (by simp; exact N2.out) (by omega) h6 HW.out (by simp) HX.out HI2.out).mono ?_
          rintro e w3 ⟨G2, d2, vs2, rfl, hR2⟩
          have HQ := Lib.hid hR2
          replace HR := Lib.hid (HR.out.on hR2.bel)
          have HM := Lib.hid (allP_le6 HW.out (show r < 6 by omega) (ps ++ [(-1)]))
          have HPO := Lib.hid (allP_pos zss r (ps ++ [(-1)]))
          clear hR2 HI2 HX
          obtain ⟨MS, hMS⟩ : ∃ u, allP zss r (ps ++ [(-1)]) = u := ⟨_, rfl⟩
          rw [hMS] at HQ HM HPO HEQ ⊢
          clear hMS
          go_wp2_with (at_builtin; refine wpList_append_lies _ rfl _ _ 28 rfl w.heap.size 38 j0 (.slice none 0 0) 1 24 Try.underlying28 hj hy0 hy1 hy2 rfl (by decide) (.slice (some ⟨ge, 0, none⟩) LS.length ce) LS.length vs rfl HR.out.row.own ⟨G2, 0, none⟩ MS.length d2 vs2 rfl (by rw [HQ.out.1, Nat.mul_one]) HQ.out.news HQ.out.ones HPO.out (by have := HJ.out; have := HM.out; unfold maxLen; omega) (by have := HJ.out; have := HM.out; omega) (by exact HR.out.bel.size) w3.heap.size rfl ?_; intro g9 cp9 w9 hown hgrow hat hlt9; have HP9 := Lib.hid (HR.out.app HQ.out HLE2.out hown hgrow); clear hown hgrow hat hlt9)
          go_wp2_with fail
          go_roundw
          case rel => exact ⟨0 + 1, g9, cp9, _, by omega, by rw [HEQ.out, List.length_append], by go_num, by rw [HEQ.out]; exact HP9.out⟩
          case measure => simp [intOf] <;> omega
        · obtain ⟨i, rfl⟩ : ∃ i, j = i + 1 := ⟨j - 1, by omega⟩
          have hji : ((i + 1 : Nat) : Int) - 1 = i := by omega
          rw [hji] at HSU ⊢
          have hiL : i < L := by omega
          obtain ⟨b3, off3, rfl, -, hxc⟩ := hP.at_ (j := i) (by rw [HLE.out]; exact hiL)
          obtain ⟨x, hxe⟩ : ∃ x, (gR zss m).getD i 0 = x := ⟨_, rfl⟩
          rw [hxe] at hxc
          have HXE := Lib.hid hxe
          clear hxe hP
          by_cases hx0 : x < 0
          · have HEQ : Hid (allK zss r ps (i + 1 + 1) = LS) := Lib.hid (by rw [HSU.out i rfl, if_neg (kOk_lt N2.out HXE.out hx0), List.append_nil])
            have hx1 : decide (0 ≤ x) = false := decide_eq_false (by omega)
            clear HSU KH KO
            go_wp2
            go_roundw
            case rel => exact ⟨(i + 1) + 1, ge, ce, vs, by omega, by rw [HEQ.out], by go_num, by rw [HEQ.out]; exact HR.out⟩
            case measure => simp [intOf] <;> omega
          · have hx1 : 0 ≤ x := by omega
            cases hh : decide ((i : Int) ∈ ps)
            · have HEQ : Hid (allK zss r ps (i + 1 + 1) = LS ++ allP zss r (ps ++ [(i : Int)])) := Lib.hid (by rw [HSU.out i rfl, if_pos (kOk_yes N2.out HXE.out hx1 hh)])
              replace KH : Hid (Calls Try.prog 90 #[.slice a2 m c2, .int .i64 i] wr fun e w' => e = .returned (.bool false) ∧ wr = w') := Lib.hid (by have := KH.out (i : Int); rwa [hh] at this)
              clear HSU hh
              go_wp2_with (go_at_call 90; (with_reducible refine Calls.mono KH.out ?_); rintro e w' ⟨rfl, rfl⟩)
              refine KO.out.mono ?_
              rintro e w1 ⟨g1, c1, rfl, hrow1⟩
              have HO1 := Lib.hid hrow1
              have hb1 : Below wr.heap.size wr w1 := hrow1.bel
              have HB1 := Lib.hid hb1
              have HLO : Hid (wr.heap.size ≤ g1) := Lib.hid hrow1.lo
              clear hrow1 hb1 KO
              go_wp2_with (at_builtin; refine wpList_append_lies _ rfl _ _ 38 rfl wr.heap.size 2 i0 (.int .i64 0) 1 8 Try.underlying38 hi hz0 hz1 hz2 rfl (by decide) (.slice (some ⟨g1, 0, none⟩) m c1) m (ps.map iv4) rfl (HO1.out.own.alloc _) ⟨w1.heap.size, 0, none⟩ 1 1 [.int .i64 (i : Int)] rfl rfl (World.news_of_block (cs := #[.int .i64 (i : Int)]) (t := 2) (fr := (0, 0)) (heap_alloc_new w1 _)) (by simp [Value.oneCell']) (by decide) (by unfold maxLen; omega) (by omega) (by simp; exact Nat.le_succ_of_le HB1.out.size) (w1.heap.size + 1) (by simp) ?_; intro g2 cp2 w2 hown hgrow hat hlt9; have HI2 := Lib.hid (own_snoc N2.out hown); have HBB : Hid (Below wr.heap.size wr w2) := Lib.hid ((HB1.out.alloc HB1.out.size _).grown hgrow (by simp; exact Nat.le_succ_of_le HB1.out.size) (by intro y hy; simp [Value.ownBlock] at hy; have := HLO.out; omega)); clear hown hgrow hat hlt9)
              replace HR := Lib.hid (HR.out.on HBB.out)
              replace HX := Lib.hid ((HX.out.below HBB.out).more HBB.out.size)
              have HLE2 : Hid (w.heap.size ≤ w2.heap.size) := Lib.hid (Nat.le_trans HWW.out HBB.out.size)
              clear HO1 HB1 HLO HBB
              go_wp2_with fail
              refine (IH.out w2 (some ⟨b, off, none⟩) (some ⟨g2, 0, none⟩) cap cp2 n (m + 1) zss (ps ++ [(i : Int)]) N1.out (by simp; exact N2.out) (by omega) h6 HW.out (by simp) HX.out HI2.out).mono ?_
              rintro e w3 ⟨G2, d2, vs2, rfl, hR2⟩
              have HQ := Lib.hid hR2
              replace HR := Lib.hid (HR.out.on hR2.bel)
              have HM := Lib.hid (allP_le6 HW.out (show r < 6 by omega) (ps ++ [(i : Int)]))
              have HPO := Lib.hid (allP_pos zss r (ps ++ [(i : Int)]))
              clear hR2 HI2 HX
              obtain ⟨MS, hMS⟩ : ∃ u, allP zss r (ps ++ [(i : Int)]) = u := ⟨_, rfl⟩
              rw [hMS] at HQ HM HPO HEQ ⊢
              clear hMS
              go_wp2_with (at_builtin; refine wpList_append_lies _ rfl _ _ 28 rfl w.heap.size 38 j0 (.slice none 0 0) 1 24 Try.underlying28 hj hy0 hy1 hy2 rfl (by decide) (.slice (some ⟨ge, 0, none⟩) LS.length ce) LS.length vs rfl HR.out.row.own ⟨G2, 0, none⟩ MS.length d2 vs2 rfl (by rw [HQ.out.1, Nat.mul_one]) HQ.out.news HQ.out.ones HPO.out (by have := HJ.out; have := HM.out; unfold maxLen; omega) (by have := HJ.out; have := HM.out; omega) (by exact HR.out.bel.size) w3.heap.size rfl ?_; intro g9 cp9 w9 hown hgrow hat hlt9; have HP9 := Lib.hid (HR.out.app HQ.out HLE2.out hown hgrow); clear hown hgrow hat hlt9)
              go_wp2_with fail
              go_roundw
              case rel => exact ⟨(i + 1) + 1, g9, cp9, _, by omega, by rw [HEQ.out, List.length_append], by go_num, by rw [HEQ.out]; exact HP9.out⟩
              case measure => simp [intOf] <;> omega
            · have HEQ : Hid (allK zss r ps (i + 1 + 1) = LS) := Lib.hid (by rw [HSU.out i rfl, if_neg (kOk_in hh), List.append_nil])
              replace KH : Hid (Calls Try.prog 90 #[.slice a2 m c2, .int .i64 i] wr fun e w' => e = .returned (.bool true) ∧ wr = w') := Lib.hid (by have := KH.out (i : Int); rwa [hh] at this)
              clear HSU hh KO
              go_wp2_with (go_at_call 90; (with_reducible refine Calls.mono KH.out ?_); rintro e w' ⟨rfl, rfl⟩)
              go_roundw
              case rel => exact ⟨(i + 1) + 1, ge, ce, vs, by omega, by rw [HEQ.out], by go_num, by rw [HEQ.out]; exact HR.out⟩
              case measure => simp [intOf] <;> omega
      · obtain rfl : j = L + 1 := by omega
        clear KH KO HSU
        go_wp2
        go_ret
        exact ⟨ge, ce, vs, by rw [HALL.out]; rfl, by rw [HALL.out]; exact HR.out⟩
end Go.Proofs.Ytlahgdhofakinaa
