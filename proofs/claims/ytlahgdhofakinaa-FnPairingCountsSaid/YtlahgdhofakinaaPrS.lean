/- The sums of all pairings as a map: one row more, all rows. -/
import Derived.Test.YtlahgdhofakinaaPrK
import Derived.Test.YtlahgdhofakinaaPrG
namespace Go.Proofs.Ytlahgdhofakinaa
open Go.ChangeShapes Go.WideShapes Go.ChangeAt Go.RowKit Go.Shelf Num
open Go.Maps (Keyed has)
set_option linter.unusedVariables false
set_option linter.unusedSimpArgs false
theorem st_wf {zss : List (List Int)} {r : Nat} {q : List Int} (ha : AcP zss) (h : stB zss r q = true) (hr : r ≤ 6) : wfQ q := fun j hj => by
  obtain ⟨h1, h2, h3⟩ := (stB_iff hr).1 h
  apply wfI
  by_cases hjr : j < r
  · have hl : (q.take r).length = r := by rw [List.length_take]; omega
    obtain ⟨a1, a2, -⟩ := h2 j (by omega)
    have e : pI (q.take r) j = pI q j := by
      unfold pI; rw [List.getD_eq_getElem?_getD, List.getElem?_take, if_pos hjr, List.getD_eq_getElem?_getD]
    rw [e] at a1 a2
    have := acP_rows ha j
    omega
  · rw [h3 j (by omega) hj]; omega
/-- what the map of one row more holds while the one of the rows before is ranged over -/
def fO (zss : List (List Int)) (r : Nat) (left : Lit → Bool) (q : List Int) : Bool := stB zss (r + 1) q && !left (klq (q.set r (-1)))
def fI (zss : List (List Int)) (r : Nat) (left : Lit → Bool) (p : List Int) (k : Nat) (q : List Int) : Bool := stB zss (r + 1) q && (!left (klq (q.set r (-1))) || (decide (q.set r (-1) = p) && decide (pI q r < (k : Int))))
theorem ok_par {zss : List (List Int)} {r : Nat} {p q : List Int} (h : stB zss (r + 1) q = true) (hp : q.set r (-1) = p) : okC zss r p (pI q r) := by
  have := (stB_par h).2
  rwa [hp] at this
theorem self_par {zss : List (List Int)} {r : Nat} {p : List Int} (hp : stB zss r p = true) (hr : r < 6) : stB zss (r + 1) p = true ∧ p.set r (-1) = p ∧ pI p r = -1 := by
  have hl := stB_len hp
  have ht := stB_tail hp r (Nat.le_refl _) hr
  have h2 := set_self ht (by omega)
  refine ⟨?_, h2, ht⟩
  have := stB_child hp hr (c := -1) (Or.inl rfl)
  rwa [h2] at this
theorem fI_0 {zss : List (List Int)} {r : Nat} {left : Lit → Bool} {p : List Int} (hp : stB zss r p = true) (hr : r < 6) (q : List Int) : fI zss r left p 0 q = (fO zss r left q || decide (q = p)) := by
  obtain ⟨h1, h2, h3⟩ := self_par hp hr
  unfold fI fO
  by_cases e : q = p
  · subst e
    rw [h1, h2, h3]; simp
  · rw [decide_eq_false e, Bool.or_false]
    cases hs : stB zss (r + 1) q
    · rfl
    · by_cases hq : q.set r (-1) = p
      · have hc := ok_par hs hq
        have : ¬ pI q r < ((0 : Nat) : Int) := fun h => by
          rcases hc with hc | hc
          · have := par_eq (stB_len hs) hr hq
            rw [hc] at this
            rw [this] at e
            exact e (set_self h3 (by have := stB_len hp; omega))
          · omega
        rw [decide_eq_false this]; simp
      · rw [decide_eq_false hq]; simp
theorem fI_put {zss : List (List Int)} {r : Nat} {left : Lit → Bool} {p : List Int} {k : Nat} (hp : stB zss r p = true) (hr : r < 6) (hc : okC zss r p (k : Int)) (q : List Int) : fI zss r left p (k + 1) q = (fI zss r left p k q || decide (q = p.set r (k : Int))) := by
  have hl := stB_len hp
  have ht := stB_tail hp r (Nat.le_refl _) hr
  unfold fI
  by_cases e : q = p.set r (k : Int)
  · subst e
    rw [stB_child hp hr hc, set_back ht (by omega), pI_set (by omega), if_pos rfl, decide_eq_true (show (k : Int) < ((k + 1 : Nat) : Int) by omega)]; simp
  · rw [decide_eq_false e, Bool.or_false]
    cases hs : stB zss (r + 1) q
    · rfl
    · by_cases hq : q.set r (-1) = p
      · have hne : pI q r ≠ (k : Int) := fun h => e (by
          have := par_eq (stB_len hs) hr hq
          rwa [h] at this)
        have : decide (pI q r < ((k + 1 : Nat) : Int)) = decide (pI q r < (k : Int)) := decide_eq_decide.2 ⟨fun h => by omega, fun h => by omega⟩
        rw [this]
      · rw [decide_eq_false hq]; simp
theorem fI_no {zss : List (List Int)} {r : Nat} {left : Lit → Bool} {p : List Int} {k : Nat} (hr : r < 6) (hc : ¬ okC zss r p (k : Int)) (q : List Int) : fI zss r left p (k + 1) q = fI zss r left p k q := by
  unfold fI
  cases hs : stB zss (r + 1) q
  · rfl
  · by_cases hq : q.set r (-1) = p
    · have hne : pI q r ≠ (k : Int) := fun h => hc (by
        have := ok_par hs hq
        rwa [h] at this)
      have : decide (pI q r < ((k + 1 : Nat) : Int)) = decide (pI q r < (k : Int)) := decide_eq_decide.2 ⟨fun h => by omega, fun h => by omega⟩
      rw [this]
    · rw [decide_eq_false hq]; simp
theorem fO_end {zss : List (List Int)} {r : Nat} {left : Lit → Bool} {p : List Int} (ha : AcP zss) (hp : stB zss r p = true) (hr : r < 6) (q : List Int) : fO zss r (fun z => left z && !z.sameKey (klq p)) q = fI zss r left p (gR zss r).length q := by
  unfold fO fI
  cases hs : stB zss (r + 1) q
  · rfl
  · have hpar := (stB_par hs).1
    show (true && !(left (klq (q.set r (-1))) && !(klq (q.set r (-1))).sameKey (klq p))) = _
    rw [klq_same (stB_len hpar) (stB_len hp) (st_wf ha hpar (by omega)) (st_wf ha hp (by omega))]
    by_cases hq : q.set r (-1) = p
    · have hlt : pI q r < ((gR zss r).length : Int) := by
        rcases ok_par hs hq with h | h
        · omega
        · exact h.2.1
      rw [decide_eq_true hq, decide_eq_true hlt]; simp
    · rw [decide_eq_false hq]; simp
theorem fO_start {zss : List (List Int)} {r : Nat} {D : DataW Nat} {g : List Int → Int} (ha : AcP zss) (hr : r < 6) (h : MapV D (stB zss r) g) (q : List Int) : fO zss r (has D) q = false := by
  unfold fO
  cases hs : stB zss (r + 1) q
  · rfl
  · have hpar := (stB_par hs).1
    rw [(h _ (stB_len hpar) (st_wf ha hpar (by omega))).1, hpar]; rfl
theorem fO_done {zss : List (List Int)} {r : Nat} {left : Lit → Bool} (h : ∀ l, left l = false) (q : List Int) : stB zss (r + 1) q = fO zss r left q := by
  unfold fO; rw [h]; simp
theorem ok_iff {zss : List (List Int)} {r : Nat} {p : List Int} {k : Nat} (hk : k < (gR zss r).length) : okC zss r p (k : Int) ↔ 0 ≤ (gR zss r).getD k 0 ∧ ¬ (k : Int) ∈ p := by
  unfold okC eAt
  rw [Int.toNat_natCast]
  constructor
  · rintro (h | h)
    · omega
    · exact h.2.2
  · exact fun h => Or.inr ⟨by omega, by omega, h⟩
set_option maxRecDepth 100000 in
set_option maxHeartbeats 8000000 in
theorem swr_any (w : World) (b n0 : Nat) (D0 : DataW Nat) (zss : List (List Int)) (r : Nat) (miss : Int) (p : Option Addr) (c L : Nat) (ha : AcP zss) (hr : r < zss.length) (hL : (gR zss r).length = L) (m0 : 0 ≤ miss) (m1 : miss ≤ 1000000000000) (hn : n0 ≤ 117649)
    (ho : w.ownsMap Try.prog 90 (plainElem (H := Nat) Try.prog 2) b n0 D0) (hv : MapV D0 (stB zss r) (fun q => smT zss miss q r)) (hz : Ints .i64 w w.heap.size p (gR zss r)) :
    Calls Try.prog 116 #[.map (some b), .int .i64 r, .slice p L c, .int .i64 miss] w fun e w' => ∃ (b' : Nat) (D' : DataW Nat), e = .returned (.map (some b')) ∧ w.heap.size ≤ b' ∧ w'.ownsMap Try.prog 90 (plainElem (H := Nat) Try.prog 2) b' (7 * n0) D' ∧ MapV D' (stB zss (r + 1)) (fun q => smT zss miss q (r + 1)) ∧ Below w.heap.size w w' := by
  have hmm : ∀ w, (Instr.makeMap 93 none).run Try.prog w = .ok (.map (some w.heap.size)) (w.alloc (.map #[] 0)) := fun w => run_makeMap _ _
  have h6 : r < 6 := by have := ha.1; omega
  have hL6 : L ≤ 6 := by have := acP_rows ha r; omega
  have HA := Lib.hid ha
  have HR := Lib.hid hr
  have HLE := Lib.hid hL
  have HV := Lib.hid hv
  have HZ := Lib.hid hz
  have hbl := ho.lt
  have HO := Lib.hid ho
  have HSZ := Lib.hid ho.size_le
  have HBN : Hid (∀ q, stB zss r q = true → 0 ≤ smT zss miss q r ∧ smT zss miss q r ≤ 5000000000000) := Lib.hid (fun q hq => by
    have := smT_st ha hq (by omega) m0 m1
    omega)
  have HEN : Hid (∀ j, j < L → -1 ≤ (gR zss r).getD j 0 ∧ (gR zss r).getD j 0 ≤ 1000000000000) := Lib.hid (fun j hj => (ha.2 r hr).2.2 j (by rw [hL]; exact hj))
  clear ha hr hL hv hz ho
  go_enter Try.func116, Try.ntmps116
  go_upto_region 2 with fail
  clear hmm
  obtain ⟨W, hW⟩ : ∃ X, X = w.alloc (.map #[] 0) := ⟨_, rfl⟩
  obtain ⟨b1, hb1⟩ : ∃ b1, w.heap.size = b1 := ⟨_, rfl⟩
  have HO1 : Hid (W.ownsMap Try.prog 90 (plainElem (H := Nat) Try.prog 2) b1 0 (.map [])) := Lib.hid (by rw [hW, ← hb1]; exact World.ownsMap_made w Try.prog 90 (plainElem (H := Nat) Try.prog 2))
  have hBW : Below w.heap.size w W := by rw [hW]; exact (by repeat (first | exact Below.refl _ _ | (refine Below.alloc ?_ (by simp <;> omega) _) | (refine Below.setCell ?_ (by simp <;> omega) _) | (refine Below.drew ?_) | (refine bel_drewN ?_ _)))
  replace HO := Lib.hid (HO.out.kept (grown_none hBW) (by simp))
  have hb1W : b1 < W.heap.size := by rw [hW, ← hb1]; simp
  have hbb : b < b1 := by omega
  have HBW := Lib.hid hBW
  have HBs := Lib.hid hb1
  rw [← hW]
  rw [hb1]
  clear hW hb1 hBW hbl
  go_wp2_with (at_range; refine wpList_range_own _ rfl _ 93 rfl 90 2 keyedP Try.underlying93 (plainElem (H := Nat) Try.prog 2) b n0 D0 rfl HO.out ?_; intro w0 hrg0 hg0 hs0; have HRG0 := Lib.hid hrg0; have HG0 := Lib.hid hg0; clear hrg0 hg0 hs0)
  go_frame
  obtain ⟨r0, hr0⟩ : ∃ r0, W.heap.size = r0 := ⟨_, rfl⟩
  have HO2 := Lib.hid (HO1.out.kept HG0.out (by simp))
  have HBW0 : Hid (Below w.heap.size w w0) := Lib.hid (HBW.out.grown HG0.out HBW.out.size (fun j hj => by cases hj))
  rw [hr0] at HRG0 hb1W ⊢
  have hwr : w.heap.size ≤ r0 := by have := HBs.out; omega
  clear hr0 HO1 HG0
  go_loopw [11] (fun _ wr => ∃ (left : Lit → Bool) (cnt nn : Nat) (D' : DataW Nat), wr.ranges Try.prog 90 (plainElem (H := Nat) Try.prog 2) b r0 n0 D0 left cnt ∧ wr.ownsMap Try.prog 90 (plainElem (H := Nat) Try.prog 2) b1 nn D' ∧ nn + 7 * cnt ≤ 7 * n0 ∧ MapV D' (fO zss r left) (fun q => smT zss miss q (r + 1)) ∧ Below w.heap.size w wr) (fun _ wr => wr.rangeLeft b r0)
  case atStart => exact ⟨_, _, 0, _, HRG0.out, HO2.out, by have := HSZ.out; omega, (MapV.empty _).congr (fun q _ _ => fO_start HA.out h6 HV.out q), HBW0.out⟩
  case round =>
    obtain ⟨left, cnt, nn, D', hrg, hout, hnn, hmv, hnx⟩ := hrel
    have HRG := Lib.hid hrg
    have HOUT := Lib.hid hout
    have HMV := Lib.hid hmv
    have HNX := Lib.hid hnx
    clear hrg hout hmv hnx
    go_wp2_with (at_next; refine wpList_next_six rfl _ rfl b r0 n0 D0 left cnt rfl HRG.out ?_ ?_)
    · intro hc0 hl0
      have HL0 := Lib.hid hl0
      clear hl0
      go_wp2_with fail
      go_ret
      subst hc0
      exact ⟨b1, D', rfl, by have := HBs.out; omega, HOUT.out.mono (by omega), HMV.out.congr (fun q _ _ => fO_done HL0.out q), HNX.out⟩
    · intro q s w1 cnt1 hq6 hqw hlq hat hrg1 hlt hg1 hs1 hen
      clear hs1
      have HLQ := Lib.hid hlq
      have hhas : has D0 (klq q) = true := Go.Maps.has_true_of_atKey hat
      have hst : stB zss r q = true := by rw [← (HV.out q hq6 hqw).1]; exact hhas
      obtain rfl : s = smT zss miss q r := by
        have e1 := hat (.lit (.int .i64 0))
        rw [(HV.out q hq6 hqw).2 hst (.lit (.int .i64 0))] at e1
        injection e1 with e1
        injection e1 with _ e1
        exact e1.symm
      have hsb := HBN.out q hst
      have HST := Lib.hid hst
      have HQW := Lib.hid hqw
      have HRG1 := Lib.hid hrg1
      have HOUT1 := Lib.hid (HOUT.out.kept hg1 (by simp; omega))
      have HNX1 : Hid (Below w.heap.size w w1) := Lib.hid (HNX.out.grown hg1 HNX.out.size (fun j hj => by injection hj with hj; omega))
      have HSM : Hid (smT zss miss q (r + 1) = smT zss miss q r + miss) := Lib.hid (by
        obtain ⟨-, e2, -⟩ := self_par hst h6
        have := smT_set (zss := zss) (miss := miss) (p := q) (r := r) (c := -1) (by omega)
        rw [e2, if_pos (by omega)] at this
        exact this)
      have HSK : Hid (∀ k : Nat, smT zss miss (q.set r (k : Int)) (r + 1) = smT zss miss q r + (gR zss r).getD k 0) := Lib.hid (fun k => by
        have := smT_set (zss := zss) (miss := miss) (p := q) (r := r) (c := (k : Int)) (by omega)
        rw [if_neg (by omega), Int.toNat_natCast] at this
        exact this)
      have hqr : pI q r = -1 := (self_par hst h6).2.2
      have HQR := Lib.hid hqr
      clear hlq hat hrg1 hg1 hhas hst hqw hqr
      obtain ⟨s, hs⟩ : ∃ s, smT zss miss q r = s := ⟨_, rfl⟩
      rw [hs] at hsb hen HSM HSK ⊢
      clear hs
      go_upto_region 5 with fail
      generalize hW : World.alloc _ _ = W5
      obtain ⟨g, hg⟩ : ∃ g, w1.heap.size = g := ⟨_, rfl⟩
      have bQ : Bk W5 g #[.int .i64 (pI q 0), .int .i64 (pI q 1), .int .i64 (pI q 2), .int .i64 (pI q 3), .int .i64 (pI q 4), .int .i64 (pI q 5)] 90 := by rw [← hW, ← hg]; exact Bk.new' rfl
      have hb5 : Below w1.heap.size w1 W5 := by rw [← hW]; exact (Below.refl _ _).alloc (Nat.le_refl _) _
      have HOUT5 := Lib.hid (HOUT1.out.kept (grown_none hb5) (by simp))
      have HRG5 := Lib.hid (HRG1.out.kept (grown_none hb5) (by simp) (by simp))
      have HNX5 := Lib.hid (bel_end HNX1.out hb5)
      have hgb : b1 < g := by rw [← hg]; exact HOUT1.out.lt
      rw [hg]
      clear hW hg hb5 hen HRG1 HOUT1 HNX1
      have q_0 := bQ.cell 0 rfl
      have q_1 := bQ.cell 1 rfl
      have q_2 := bQ.cell 2 rfl
      have q_3 := bQ.cell 3 rfl
      have q_4 := bQ.cell 4 rfl
      have q_5 := bQ.cell 5 rfl
      have q_l := bQ.lt
      have HBQ := Lib.hid bQ
      clear bQ
      have hky := key_arV HQW.out
      go_upto_region 6 with ((at_mapUpdate; refine wpList_mapUpdate_own _ rfl _ _ _ 93 rfl 90 2 keyedP Try.underlying93 (plainElem (H := Nat) Try.prog 2) b1 _ _ rfl HOUT5.out (by unfold maxLen; omega) _ _ (klq q) rfl rfl hky (.lit (.int .i64 (s + miss))) [] (plainElem_int Try.underlying2 (wfI (by omega))) ?_; intro w6 hown6 hg6; have HO6 := Lib.hid hown6; have HG6 := Lib.hid hg6; clear hown6 hg6))
      clear q_0 q_1 q_2 q_3 q_4 q_5 q_l hky
      have HMV6 := Lib.hid ((HMV.out.put HOUT5.out.isMap hq6 HQW.out (v := s + miss) HSM.out).congr (fun q' _ _ => fI_0 (left := left) HST.out h6 q'))
      generalize D'.put (klq q) (.lit (.int .i64 (s + miss))) = D6 at HO6 HMV6
      clear HMV
      go_wp2_with fail
      go_loopw [29] (fun i wr => ∃ (k n2 : Nat) (D2 : DataW Nat), k ≤ L ∧ i = .int .i64 k ∧ wr.ownsMap Try.prog 90 (plainElem (H := Nat) Try.prog 2) b1 n2 D2 ∧ n2 ≤ nn + 1 + k ∧ MapV D2 (fI zss r left q k) (fun q => smT zss miss q (r + 1)) ∧ W5.grownBy wr (some b1)) (fun i _ => L - (intOf i).toNat)
      case atStart => exact ⟨0, nn + 1, D6, Nat.zero_le _, rfl, HO6.out, by omega, HMV6.out, HG6.out⟩
      case round =>
        obtain ⟨k, n2, D2, hk, rfl, ho2, hn2, hmv, hgr⟩ := hrel
        have HO2 := Lib.hid ho2
        have HMV := Lib.hid hmv
        have HGR := Lib.hid hgr
        clear ho2 hmv hgr HO6 HG6 HMV6
        have hBr : Below w.heap.size w wr := HNX5.out.grown HGR.out HNX5.out.size (fun j hj => by injection hj with hj; have := HBs.out; omega)
        have HBR := Lib.hid hBr
        by_cases hlt2 : k < L
        · obtain ⟨bz, off, rfl, hbz, hcz⟩ := (HZ.out.below hBr).at_ (j := k) (by rw [HLE.out]; exact hlt2)
          clear hBr
          have hen := HEN.out k hlt2
          have HOK : Hid (okC zss r q (k : Int) ↔ 0 ≤ (gR zss r).getD k 0 ∧ ¬ (k : Int) ∈ q) := Lib.hid (ok_iff (by rw [HLE.out]; exact hlt2))
          have hsk := HSK.out k
          have HSK2 := Lib.hid hsk
          clear hsk
          obtain ⟨y, hy⟩ : ∃ y, (gR zss r).getD k 0 = y := ⟨_, rfl⟩
          rw [hy] at hcz hen HOK HSK2
          clear hy
          by_cases hy1 : y = -1
          · subst hy1
            have HNO : Hid (¬ okC zss r q (k : Int)) := Lib.hid (fun h => by have := (HOK.out.1 h).1; omega)
            clear HOK
            go_wp2_with fail
            go_roundw
            case rel => exact ⟨k + 1, n2, D2, by omega, by go_num, HO2.out, by omega, HMV.out.congr (fun q' _ _ => fI_no h6 HNO.out q'), HGR.out⟩
            case measure => simp [intOf] <;> omega
          · have hne : (y != -1) = true := by simpa using hy1
            have hBQr := HBQ.out.kept HGR.out (by simp; omega)
            have q_0 := hBQr.cell 0 rfl
            have q_1 := hBQr.cell 1 rfl
            have q_2 := hBQr.cell 2 rfl
            have q_3 := hBQr.cell 3 rfl
            have q_4 := hBQr.cell 4 rfl
            have q_5 := hBQr.cell 5 rfl
            have q_l := hBQr.lt
            have HBQR := Lib.hid hBQr
            have KF := Lib.hid (isf_any wr q r (k : Int) hq6 h6)
            have HFR : Hid (frB q r (k : Int) = (decide (pI q r = -1) && !decide ((k : Int) ∈ q))) := Lib.hid rfl
            unfold arV arC at KF
            clear hBQr
            cases hF : frB q r (k : Int)
            · rw [hF] at KF
              have HNO : Hid (¬ okC zss r q (k : Int)) := Lib.hid (fun h => by
                have h2 := (HOK.out.1 h).2
                rw [HFR.out, HQR.out, decide_eq_false h2] at hF
                simp at hF)
              clear HOK HFR hF hne
              have hne : (y != -1) = true := by simpa using hy1
              go_wp2_with (go_at_call 86; (with_reducible refine Calls.mono KF.out ?_); rintro e w7 ⟨rfl, hb7⟩; have HB7 := Lib.hid hb7; clear hb7)
              go_roundw
              case rel => exact ⟨k + 1, n2, D2, by omega, by go_num, HO2.out.kept (grown_none HB7.out) (by simp), by omega, HMV.out.congr (fun q' _ _ => fI_no h6 HNO.out q'), HGR.out.andThen (grown_none HB7.out) (fun j hj => by cases hj)⟩
              case measure => simp [intOf] <;> omega
            · rw [hF] at KF
              have HYES : Hid (okC zss r q (k : Int)) := Lib.hid (HOK.out.2 ⟨by omega, fun h2 => by
                rw [HFR.out, decide_eq_true h2] at hF
                simp at hF⟩)
              clear HOK HFR hF
              go_upto_region 10 with (go_at_call 86; (with_reducible refine Calls.mono KF.out ?_); rintro e w7 ⟨rfl, hb7⟩; have HB7 := Lib.hid hb7; clear hb7)
              clear q_0 q_1 q_2 q_3 q_4 q_5 q_l KF
              have hBQ7 := HBQR.out.on HB7.out
              have q_0 := hBQ7.cell 0 rfl
              have q_1 := hBQ7.cell 1 rfl
              have q_2 := hBQ7.cell 2 rfl
              have q_3 := hBQ7.cell 3 rfl
              have q_4 := hBQ7.cell 4 rfl
              have q_5 := hBQ7.cell 5 rfl
              have q_l := hBQ7.lt
              clear hBQ7 HBQR hcz
              have KW := Lib.hid (wit_any w7 q r (k : Int) hq6 h6)
              unfold arV arC at KW
              have hch := stB_child HST.out h6 HYES.out
              have hwc : wfQ (q.set r (k : Int)) := st_wf HA.out hch (by omega)
              have hky := key_arV hwc
              have hlc : (q.set r (k : Int)).length = 6 := by rw [List.length_set]; exact hq6
              have HWC := Lib.hid hwc
              have HLC := Lib.hid hlc
              have HMV9 := Lib.hid ((HMV.out.put HO2.out.isMap hlc hwc (v := s + y) HSK2.out).congr (fun q' _ _ => fI_put (left := left) HST.out h6 HYES.out q'))
              clear hwc hlc hch
              obtain ⟨t, ht⟩ : ∃ t, q.set r (k : Int) = t := ⟨_, rfl⟩
              rw [ht] at KW hky HMV9
              clear ht
              go_wp2_with (first
                | (go_at_call 87; (with_reducible refine Calls.mono KW.out ?_); rintro e w8 ⟨rfl, hb8⟩; have HB8 := Lib.hid (HB7.out.trans (hb8.mono HB7.out.size)); have HO8 := Lib.hid (HO2.out.kept (grown_none HB8.out) (by simp)); clear hb8)
                | (at_mapUpdate; refine wpList_mapUpdate_own _ rfl _ _ _ 93 rfl 90 2 keyedP Try.underlying93 (plainElem (H := Nat) Try.prog 2) b1 _ _ rfl HO8.out (by unfold maxLen; omega) _ _ (klq t) rfl rfl hky (.lit (.int .i64 (s + y))) [] (plainElem_int Try.underlying2 (wfI (by omega))) ?_; intro w9 hown9 hg9; have HO9 := Lib.hid hown9; have HG9 := Lib.hid hg9; clear hown9 hg9))
              go_roundw
              case rel => exact ⟨k + 1, n2 + 1, _, by omega, by go_num, HO9.out, by omega, HMV9.out, HGR.out.andThen (((grown_none HB8.out).but (some b1)).andThen HG9.out (fun j hj => Or.inr hj)) (fun j hj => Or.inr hj)⟩
              case measure => simp [intOf] <;> omega
        · obtain rfl : k = L := by omega
          clear hBr
          have HRG9 := Lib.hid (HRG5.out.kept HGR.out (by simp; omega) (by simp; omega))
          have HM9 : Hid (MapV D2 (fO zss r (fun z => left z && !z.sameKey (klq q))) (fun q => smT zss miss q (r + 1))) := Lib.hid (HMV.out.congr (fun q' _ _ => by
            have := fO_end (left := left) HA.out HST.out h6 q'
            rw [HLE.out] at this
            exact this))
          go_wp2_with fail
          go_roundw
          case rel => exact ⟨_, cnt1, n2, D2, HRG9.out, HO2.out, by omega, HM9.out, HBR.out⟩
          case measure => rw [HRG9.out.left_eq, HRG.out.left_eq]; exact hlt
theorem stB_un6 (zss : List (List Int)) : ∀ r, r ≤ 6 → stB zss r un6 = true
  | 0, _ => decide_eq_true rfl
  | r + 1, h => (self_par (stB_un6 zss r (by omega)) (by omega)).1
set_option maxRecDepth 100000 in
set_option maxHeartbeats 4000000 in
theorem spt_any (w : World) (a : Option Addr) (cap n : Nat) (zss : List (List Int)) (miss : Int) (hn : zss.length = n) (ha : AcP zss) (m0 : 0 ≤ miss) (m1 : miss ≤ 1000000000000) (hx : RwL w w.heap.size a zss) :
    Calls Try.prog 81 #[.slice a n cap, .int .i64 miss] w fun e w' => ∃ (b' : Nat) (D' : DataW Nat), e = .returned (.map (some b')) ∧ w.heap.size ≤ b' ∧ w'.ownsMap Try.prog 90 (plainElem (H := Nat) Try.prog 2) b' 823543 D' ∧ MapV D' (stB zss n) (fun q => smT zss miss q n) ∧ Below w.heap.size w w' := by
  have hmm : ∀ w, (Instr.makeMap 93 none).run Try.prog w = .ok (.map (some w.heap.size)) (w.alloc (.map #[] 0)) := fun w => run_makeMap _ _
  have h6 : n ≤ 6 := by have := ha.1; omega
  have HA := Lib.hid ha
  have HX := Lib.hid hx
  have N1 := Lib.hid hn
  have KU : Hid (∀ W : World, Calls Try.prog 85 #[] W _) := Lib.hid (fun W => upa_any W)
  have hky := key_arV (q := un6) (st_wf ha (stB_un6 zss 0 (by omega)) (by omega))
  have HM0 : Hid (MapV ((DataW.map [] : DataW Nat).put (klq un6) (.lit (.int .i64 0))) (stB zss 0) (fun q => smT zss miss q 0)) := Lib.hid (((MapV.empty (fun q => smT zss miss q 0)).put ⟨[], rfl⟩ rfl (st_wf ha (stB_un6 zss 0 (by omega)) (by omega)) (v := 0) rfl).congr (fun q _ _ => by
    show decide (q = un6) = _
    simp))
  clear ha hx hn
  unfold arV arC at KU
  obtain ⟨u0, hu0⟩ : ∃ u, pI un6 0 = u := ⟨_, rfl⟩
  obtain ⟨u1, hu1⟩ : ∃ u, pI un6 1 = u := ⟨_, rfl⟩
  obtain ⟨u2, hu2⟩ : ∃ u, pI un6 2 = u := ⟨_, rfl⟩
  obtain ⟨u3, hu3⟩ : ∃ u, pI un6 3 = u := ⟨_, rfl⟩
  obtain ⟨u4, hu4⟩ : ∃ u, pI un6 4 = u := ⟨_, rfl⟩
  obtain ⟨u5, hu5⟩ : ∃ u, pI un6 5 = u := ⟨_, rfl⟩
  rw [hu0, hu1, hu2, hu3, hu4, hu5] at KU hky
  clear hu0 hu1 hu2 hu3 hu4 hu5
  go_enter Try.func81, Try.ntmps81
  go_wp2_with (first
    | (go_at_call 85; (with_reducible refine Calls.mono (KU.out _) ?_); rintro e w1 ⟨rfl, hb1⟩; have HOa := Lib.hid ((World.ownsMap_made w Try.prog 90 (plainElem (H := Nat) Try.prog 2)).kept (grown_none hb1) (by simp)); have HB1 : Hid (Below w.heap.size w w1) := Lib.hid (bel_end ((Below.refl _ _).alloc (Nat.le_refl _) _) hb1); clear hb1)
    | (refine wpList_insert_six rfl _ _ _ 93 rfl Try.underlying93 w.heap.size 0 _ rfl HOa.out (by unfold maxLen; omega) _ _ (klq un6) rfl rfl hky (.lit (.int .i64 0)) [] (plainElem_int Try.underlying2 (wfI (by omega))) ?_; intro w2 hown2 hg2; have HO2 := Lib.hid hown2; have HB2 := Lib.hid (HB1.out.grown hg2 HB1.out.size (fun j hj => by injection hj with hj; omega)); clear hown2 hg2))
  clear KU hky
  generalize ((DataW.map [] : DataW Nat).put (klq un6) (.lit (.int .i64 0))) = D0 at HM0 HO2
  go_loopw [5, 13] (fun m i wr => ∃ (k b nn : Nat) (D : DataW Nat), k ≤ n ∧ i = .int .i64 k ∧ m = .map (some b) ∧ w.heap.size ≤ b ∧ nn ≤ pow7 k ∧ wr.ownsMap Try.prog 90 (plainElem (H := Nat) Try.prog 2) b nn D ∧ MapV D (stB zss k) (fun q => smT zss miss q k) ∧ Below w.heap.size w wr) (fun _ i _ => n - (intOf i).toNat)
  case atStart => exact ⟨0, w.heap.size, 1, D0, Nat.zero_le _, rfl, rfl, Nat.le_refl _, Nat.le_refl _, HO2.out, HM0.out, HB2.out⟩
  case round =>
    obtain ⟨k, b, nn, D, hk, rfl, rfl, hbb, hnn, ho, hmv, hbl⟩ := hrel
    have HO := Lib.hid ho
    have HMV := Lib.hid hmv
    have HB := Lib.hid hbl
    have HNN := Lib.hid hnn
    clear ho hmv hnn HM0 HO2 HB2
    by_cases hlt : k < n
    · obtain ⟨bz, off, p, c, rfl, -, hc, hcc, hp⟩ := (HX.out.below hbl).at_ (j := k) (by rw [N1.out]; exact hlt)
      have hn7 : nn ≤ 117649 := Nat.le_trans HNN.out (Nat.le_trans (pow7_le7 k (by omega)) (by omega))
      have KS := Lib.hid (swr_any wr b nn D zss k miss p c _ HA.out (by rw [N1.out]; exact hlt) rfl m0 m1 hn7 HO.out HMV.out (hp.more hbl.size))
      clear hp hbl hn7
      go_wp2_with (go_at_call 116; (with_reducible refine Calls.mono KS.out ?_); rintro e w9 ⟨b', D', rfl, hbb', ho', hmv', hb'⟩; have HO9 := Lib.hid ho'; have HM9 := Lib.hid hmv'; have HB9 := Lib.hid (bel_end HB.out hb'); have hbb9 : w.heap.size ≤ b' := Nat.le_trans HB.out.size hbb'; clear ho' hmv' hb' hbb')
      go_roundw
      case rel => exact ⟨k + 1, b', 7 * nn, D', by omega, by go_num, rfl, hbb9, Nat.mul_le_mul_left 7 HNN.out, HO9.out, HM9.out, HB9.out⟩
      case measure => simp [intOf] <;> omega
    · obtain rfl : k = n := by omega
      clear hbl
      go_wp2_with fail
      go_ret
      exact ⟨b, D, rfl, hbb, HO.out.mono (Nat.le_trans HNN.out (Nat.le_trans (pow7_le7 k (by omega)) (by omega))), HMV.out, HB.out⟩
end Go.Proofs.Ytlahgdhofakinaa
