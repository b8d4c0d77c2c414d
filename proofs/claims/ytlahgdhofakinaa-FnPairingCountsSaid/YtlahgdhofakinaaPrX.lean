/- The program's greedy pairing. -/
import Derived.Test.YtlahgdhofakinaaPrU
import Derived.Test.YtlahgdhofakinaaPrV
import Derived.Test.YtlahgdhofakinaaPrE
import Derived.Laws.StructEq
namespace Go.Proofs.Ytlahgdhofakinaa
open Go.ChangeShapes Go.WideShapes Go.ChangeAt Go.RowKit Go.Shelf Num
set_option linter.unusedVariables false
set_option linter.unusedSimpArgs false
/-- what a search has found, as the columns that it makes and as the cost to beat -/
def mvG (q : List Int) : Option (Nat × Nat) → List Int
  | none => q
  | some (r, c) => q.set r (c : Int)
def lsG (zss : List (List Int)) (miss : Int) : Option (Nat × Nat) → Int
  | none => miss
  | some (r, c) => eAt zss r c
theorem seen_le {zss : List (List Int)} {miss : Int} {out : List Int} {S : Nat → Nat → Prop} : ∀ {st : Option (Nat × Nat)}, Seen2 zss miss out S st → lsG zss miss st ≤ miss
  | none, _ => Int.le_refl _
  | some (r, c), h => Int.le_of_lt h.2.1.2.2.2
theorem fr_iff {zss : List (List Int)} {out : List Int} {i k : Nat} (ho : out.length ≤ 6) (hp : PrE zss out) (hi : i < out.length) : frB (pd6 out) i (k : Int) = true ↔ pI out i < 0 ∧ ¬ (k : Int) ∈ out := by
  unfold frB
  rw [Bool.and_eq_true, decide_eq_true_eq, Bool.not_eq_true', decide_eq_false_iff_not, pd6_lt hi, mem_pd6 ho (by omega)]
  have := (hp i hi).1
  constructor
  · rintro ⟨h, g⟩; exact ⟨by omega, g⟩
  · rintro ⟨h, g⟩; exact ⟨by omega, g⟩
theorem stG_yes {zss : List (List Int)} {miss : Int} {out : List Int} {i k : Nat} {st : Option (Nat × Nat)} (ho : out.length ≤ 6) (hp : PrE zss out) (hi : i < out.length) (hle : lsG zss miss st ≤ miss) (h0 : 0 ≤ eAt zss i k) (h1 : eAt zss i k < lsG zss miss st) (h2 : frB (pd6 out) i (k : Int) = true) : stG zss miss out st i k = some (i, k) := by
  obtain ⟨h3, h4⟩ := (fr_iff ho hp hi).1 h2
  unfold stG
  rw [if_pos]
  refine ⟨⟨h3, h4, h0, by omega⟩, ?_⟩
  match st, h1 with
  | none, _ => trivial
  | some (r, c), h1 => exact h1
theorem stG_no {zss : List (List Int)} {miss : Int} {out : List Int} {i k : Nat} {st : Option (Nat × Nat)} (ho : out.length ≤ 6) (hp : PrE zss out) (hi : i < out.length) (h : ¬ (0 ≤ eAt zss i k ∧ eAt zss i k < lsG zss miss st ∧ frB (pd6 out) i (k : Int) = true)) : stG zss miss out st i k = st := by
  unfold stG
  rw [if_neg]
  rintro ⟨⟨h3, h4, h5, h6⟩, hb⟩
  refine h ⟨h5, ?_, (fr_iff ho hp hi).2 ⟨h3, h4⟩⟩
  match st, hb with
  | none, _ => exact h6
  | some (r, c), hb => exact hb
theorem pd6_set {out : List Int} {r : Nat} {c : Int} (ho : out.length ≤ 6) (hr : r < out.length) : pd6 (out.set r c) = (pd6 out).set r c := by
  apply pI_ext
  · rw [pd6_len (by simpa using ho), List.length_set, pd6_len ho]
  · intro j hj
    rw [pd6_len (by simpa using ho)] at hj
    rw [pI_set (by rw [pd6_len ho]; omega)]
    by_cases hl : j < out.length
    · rw [pd6_lt (by simpa using hl), pd6_lt hl, pI_set hr]
    · rw [pd6_ge (by simpa using Nat.le_of_not_lt hl) hj, pd6_ge (by omega) hj, if_neg (by omega)]
set_option maxRecDepth 100000 in
set_option maxHeartbeats 8000000 in
theorem wls_any (w : World) (a : Option Addr) (cap n : Nat) (zss : List (List Int)) (miss : Int) (out : List Int) (hn : zss.length = n) (ha : AcP zss) (m0 : 0 ≤ miss) (m1 : miss ≤ 1000000000000) (hol : out.length = n) (hop : PrE zss out) (hx : RwL w w.heap.size a zss) :
    Calls Try.prog 89 #[.agg #[.int .i64 (pI (pd6 out) 0), .int .i64 (pI (pd6 out) 1), .int .i64 (pI (pd6 out) 2), .int .i64 (pI (pd6 out) 3), .int .i64 (pI (pd6 out) 4), .int .i64 (pI (pd6 out) 5)], .slice a n cap, .int .i64 miss] w fun e w' => e = .returned (arV (mvG (pd6 out) (fnI zss miss out n))) ∧ Below w.heap.size w w' := by
  have h6 : n ≤ 6 := by have := ha.1; omega
  have hq6 : (pd6 out).length = 6 := pd6_len (by omega)
  have HQL := Lib.hid hq6
  have HX := Lib.hid hx
  have N1 := Lib.hid hn
  have HA := Lib.hid ha
  have HYES : Hid (∀ (i k : Nat) (st : Option (Nat × Nat)), i < n → lsG zss miss st ≤ miss → 0 ≤ (gR zss i).getD k 0 → (gR zss i).getD k 0 < lsG zss miss st → frB (pd6 out) i (k : Int) = true → stG zss miss out st i k = some (i, k)) := Lib.hid (fun i k st hi h1 h2 h3 h4 => stG_yes (by omega) hop (by omega) h1 h2 h3 h4)
  have HNO : Hid (∀ (i k : Nat) (st : Option (Nat × Nat)), i < n → ¬ (0 ≤ (gR zss i).getD k 0 ∧ (gR zss i).getD k 0 < lsG zss miss st ∧ frB (pd6 out) i (k : Int) = true) → stG zss miss out st i k = st) := Lib.hid (fun i k st hi h => stG_no (by omega) hop (by omega) h)
  have HLE : Hid (∀ i k : Nat, lsG zss miss (fnK zss miss out i (fnI zss miss out i) k) ≤ miss) := Lib.hid (fun i k => seen_le (fnK_seen (fnI_seen zss miss out i) k))
  have KF := Lib.hid (fun (W : World) (i k : Nat) (hi : i < n) => isf_any W (pd6 out) i (k : Int) hq6 (by omega))
  have KW := Lib.hid (fun (W : World) (i k : Nat) (hi : i < n) => wit_any W (pd6 out) i (k : Int) hq6 (by omega))
  unfold arV arC at KF KW
  obtain ⟨q, hq⟩ : ∃ q, pd6 out = q := ⟨_, rfl⟩
  rw [hq] at KF KW HYES HNO HQL ⊢
  clear hx hn ha hq6 hop hol hq
  go_enter Try.func89, Try.ntmps89
  go_upto_region 2 with fail
  generalize hW : World.alloc _ _ = W
  have b0 : Bk W w.heap.size #[.int .i64 (pI q 0), .int .i64 (pI q 1), .int .i64 (pI q 2), .int .i64 (pI q 3), .int .i64 (pI q 4), .int .i64 (pI q 5)] 90 := by rw [← hW]; repeat (first | (refine Bk.new' ?_; (simp; done)) | refine Bk.alloc ?_ _)
  have bR : Bk W (w.heap.size + 1) #[.int .i64 0, .int .i64 0, .int .i64 0, .int .i64 0, .int .i64 0, .int .i64 0] 90 := by rw [← hW]; repeat (first | (refine Bk.new' ?_; (simp; done)) | refine Bk.alloc ?_ _)
  have bM : Bk W (w.heap.size + 1 + 1) (arC (mvG q (fnI zss miss out 0))) 90 := by show Bk W (w.heap.size + 1 + 1) #[.int .i64 (pI q 0), .int .i64 (pI q 1), .int .i64 (pI q 2), .int .i64 (pI q 3), .int .i64 (pI q 4), .int .i64 (pI q 5)] 90; rw [← hW]; repeat (first | (refine Bk.new' ?_; (simp; done)) | refine Bk.alloc ?_ _)
  have HB : Hid (Below w.heap.size w W) := Lib.hid (by rw [← hW]; exact (by repeat (first | exact Below.refl _ _ | (refine Below.alloc ?_ (by simp <;> omega) _) | (refine Below.setCell ?_ (by simp <;> omega) _) | (refine Below.drew ?_) | (refine bel_drewN ?_ _))))
  clear hW
  have B0 := Lib.hid b0
  have BR := Lib.hid bR
  have BM := Lib.hid bM
  clear b0 bR bM
  go_wp2_with fail
  go_loopw [8, 17] (fun l i wr => ∃ r : Nat, r ≤ n ∧ i = .int .i64 r ∧ l = .int .i64 (lsG zss miss (fnI zss miss out r)) ∧ Bk wr (w.heap.size + 1 + 1) (arC (mvG q (fnI zss miss out r))) 90 ∧ W.grownBy wr (some (w.heap.size + 1 + 1))) (fun _ i _ => n - (intOf i).toNat)
  case atStart => exact ⟨0, by omega, rfl, rfl, BM.out, grown_refl _ _⟩
  case round =>
    obtain ⟨r, hr, rfl, rfl, hbm, hgr⟩ := hrel
    have HBM := Lib.hid hbm
    have HG := Lib.hid hgr
    have HBW : Hid (Below w.heap.size w wr) := Lib.hid (HB.out.trans (below_of_grown hgr (by omega) HB.out.size))
    clear hbm hgr BM
    by_cases hlt : r < n
    · obtain ⟨b, off, p, c, rfl, hBb, hc0, hcc, hp⟩ := HX.out.at_ (j := r) (by rw [N1.out]; exact hlt)
      have hc := (HBW.out.cell (p := ⟨b, off + r, none⟩) hBb).trans hc0
      have hrl := acP_rows HA.out r
      have HEN : Hid (∀ j, j < (gR zss r).length → -1 ≤ (gR zss r).getD j 0 ∧ (gR zss r).getD j 0 ≤ 1000000000000) := Lib.hid (fun j hj => (HA.out.2 r (by rw [N1.out]; exact hlt)).2.2 j hj)
      have HFI : Hid (fnI zss miss out (r + 1) = fnK zss miss out r (fnI zss miss out r) (gR zss r).length) := Lib.hid rfl
      have HEA : Hid (∀ k : Nat, eAt zss r k = (gR zss r).getD k 0) := Lib.hid (fun k => rfl)
      obtain ⟨L, hLe⟩ : ∃ L, (gR zss r).length = L := ⟨_, rfl⟩
      rw [hLe] at hc hcc hrl HEN HFI
      have HL := Lib.hid hLe
      have HP := Lib.hid hp
      clear hLe hp hc0
      go_wp2_with fail
      clear hc
      go_loopw [8, 24] (fun l i wx => ∃ k : Nat, k ≤ L ∧ i = .int .i64 k ∧ l = .int .i64 (lsG zss miss (fnK zss miss out r (fnI zss miss out r) k)) ∧ Bk wx (w.heap.size + 1 + 1) (arC (mvG q (fnK zss miss out r (fnI zss miss out r) k))) 90 ∧ W.grownBy wx (some (w.heap.size + 1 + 1))) (fun _ i _ => L - (intOf i).toNat)
      case atStart => exact ⟨0, by omega, rfl, rfl, HBM.out, HG.out⟩
      case round =>
        obtain ⟨k, hk, rfl, rfl, hbm, hgr⟩ := hrel
        obtain ⟨wx, rfl⟩ : ∃ u, u = wr := ⟨wr, rfl⟩
        have HBM2 := Lib.hid hbm
        have HG2 := Lib.hid hgr
        have HBX : Hid (Below w.heap.size w wx) := Lib.hid (HB.out.trans (below_of_grown hgr (by omega) HB.out.size))
        clear hbm hgr
        have hle := HLE.out r k
        have HST : Hid (fnK zss miss out r (fnI zss miss out r) (k + 1) = stG zss miss out (fnK zss miss out r (fnI zss miss out r) k) r k) := Lib.hid rfl
        obtain ⟨st, hst⟩ : ∃ st, fnK zss miss out r (fnI zss miss out r) k = st := ⟨_, rfl⟩
        rw [hst] at hle HST HBM2 ⊢
        have HSE := Lib.hid hst
        clear hst
        by_cases hkl : k < L
        · obtain ⟨b3, off3, rfl, hBb3, hy0⟩ := HP.out.at_ (j := k) (by rw [HL.out]; exact hkl)
          have hy := (HBX.out.cell (p := ⟨b3, off3 + k, none⟩) hBb3).trans hy0
          have hen := HEN.out k hkl
          have HY1 : Hid (0 ≤ (gR zss r).getD k 0 → (gR zss r).getD k 0 < lsG zss miss st → frB q r (k : Int) = true → stG zss miss out st r k = some (r, k)) := Lib.hid (HYES.out r k st hlt hle)
          have HN1 : Hid (¬ (0 ≤ (gR zss r).getD k 0 ∧ (gR zss r).getD k 0 < lsG zss miss st ∧ frB q r (k : Int) = true) → stG zss miss out st r k = st) := Lib.hid (HNO.out r k st hlt)
          have HYK := HEA.out k
          obtain ⟨y, hye⟩ : ∃ y, (gR zss r).getD k 0 = y := ⟨_, rfl⟩
          rw [hye] at hy hen HY1 HN1 HYK
          have HYE := Lib.hid HYK
          clear hye hy0 HYK
          obtain ⟨l, hl⟩ : ∃ l, lsG zss miss st = l := ⟨_, rfl⟩
          rw [hl] at HY1 HN1 hle ⊢
          have HLS := Lib.hid hl
          clear hl
          by_cases hy1 : y = -1
          · have HE : Hid (stG zss miss out st r k = st) := Lib.hid (HN1.out (fun h => by omega))
            subst hy1
            clear HY1 HN1
            go_wp2_with fail
            go_roundw
            case rel => exact ⟨k + 1, by omega, by go_num, by rw [HST.out, HE.out, HLS.out], by rw [HST.out, HE.out]; exact HBM2.out, HG2.out⟩
            case measure => simp [intOf] <;> omega
          · have hdy : (y != -1) = true := by simpa using hy1
            by_cases hyl : y < l
            rotate_left
            · have HE : Hid (stG zss miss out st r k = st) := Lib.hid (HN1.out (fun h => hyl h.2.1))
              clear HY1 HN1
              go_wp2_with fail
              go_roundw
              case rel => exact ⟨k + 1, by omega, by go_num, by rw [HST.out, HE.out, HLS.out], by rw [HST.out, HE.out]; exact HBM2.out, HG2.out⟩
              case measure => simp [intOf] <;> omega
            · have bp := B0.out.kept HG2.out (by simp; omega)
              have bp_0 := bp.cell 0 rfl
              have bp_1 := bp.cell 1 rfl
              have bp_2 := bp.cell 2 rfl
              have bp_3 := bp.cell 3 rfl
              have bp_4 := bp.cell 4 rfl
              have bp_5 := bp.cell 5 rfl
              have bp_l := bp.lt
              have BP := Lib.hid bp
              clear bp
              have KF1 := Lib.hid (KF.out wx r k hlt)
              cases hF : frB q r (k : Int)
              · rw [hF] at KF1 HN1
                have HE : Hid (stG zss miss out st r k = st) := Lib.hid (HN1.out (fun h => by cases h.2.2))
                clear HY1 HN1 hF
                go_wp2_with (go_at_call 86; (with_reducible refine Calls.mono KF1.out ?_); rintro e w7 ⟨rfl, hb7⟩; have HB7 := Lib.hid hb7; clear hb7)
                go_roundw
                case rel => exact ⟨k + 1, by omega, by go_num, by rw [HST.out, HE.out, HLS.out], by rw [HST.out, HE.out]; exact HBM2.out.on HB7.out, grown_bel HG2.out HB7.out⟩
                case measure => simp [intOf] <;> omega
              · rw [hF] at KF1
                have HE : Hid (stG zss miss out st r k = some (r, k)) := Lib.hid (HY1.out (by omega) hyl hF)
                clear HY1 HN1 hF
                go_upto_region 9 with (go_at_call 86; (with_reducible refine Calls.mono KF1.out ?_); rintro e w7 ⟨rfl, hb7⟩; have HB7 := Lib.hid hb7; clear hb7)
                clear bp_0 bp_1 bp_2 bp_3 bp_4 bp_5 bp_l KF1
                have bp := BP.out.on HB7.out
                have bp_0 := bp.cell 0 rfl
                have bp_1 := bp.cell 1 rfl
                have bp_2 := bp.cell 2 rfl
                have bp_3 := bp.cell 3 rfl
                have bp_4 := bp.cell 4 rfl
                have bp_5 := bp.cell 5 rfl
                have bp_l := bp.lt
                clear bp
                have KW1 := Lib.hid (KW.out w7 r k hlt)
                have HG7 := Lib.hid (grown_bel HG2.out HB7.out)
                have HM7 := Lib.hid (HBM2.out.on HB7.out)
                obtain ⟨t, ht⟩ : ∃ t, q.set r (k : Int) = t := ⟨_, rfl⟩
                have HT := Lib.hid ht
                rw [ht] at KW1
                clear ht hy
                go_wp2_with (go_at_call 87; (with_reducible refine Calls.mono KW1.out ?_); rintro e w8 ⟨rfl, hb8⟩; have HG8 := Lib.hid (grown_bel HG7.out hb8); have b8 : Bk w8 (w.heap.size + 1 + 1) (arC (mvG q st)) 90 := HM7.out.on hb8; clear hb8 bp_0 bp_1 bp_2 bp_3 bp_4 bp_5 bp_l; have B8 := Lib.hid b8; unfold arC at b8; have b8_0 := b8.cell 0 rfl; have b8_1 := b8.cell 1 rfl; have b8_2 := b8.cell 2 rfl; have b8_3 := b8.cell 3 rfl; have b8_4 := b8.cell 4 rfl; have b8_5 := b8.cell 5 rfl; have b8_f0 := b8.frozen 0; have b8_f1 := b8.frozen 1; have b8_f2 := b8.frozen 2; have b8_f3 := b8.frozen 3; have b8_f4 := b8.frozen 4; have b8_f5 := b8.frozen 5; have b8_l := b8.lt; clear b8)
                generalize hW9 : World.setCell _ _ _ = W9
                have bB9 : Bk W9 (w.heap.size + 1 + 1) (arC t) 90 := by rw [← hW9]; exact (Bk.set (Bk.set (Bk.set (Bk.set (Bk.set (Bk.set B8.out 0 _ rfl) 1 _ rfl) 2 _ rfl) 3 _ rfl) 4 _ rfl) 5 _ rfl)
                have HG9 : Hid (W.grownBy W9 (some (w.heap.size + 1 + 1))) := Lib.hid (by rw [← hW9]; exact (grown_cell (grown_cell (grown_cell (grown_cell (grown_cell (grown_cell HG8.out 0 _) 1 _) 2 _) 3 _) 4 _) 5 _))
                have BB9 := Lib.hid bB9
                clear hW9 b8_0 b8_1 b8_2 b8_3 b8_4 b8_5 b8_f0 b8_f1 b8_f2 b8_f3 b8_f4 b8_f5 b8_l bB9
                go_roundw
                case rel => exact ⟨k + 1, by omega, by go_num, by rw [HST.out, HE.out]; show Value.int .i64 y = Value.int .i64 (eAt zss r k); rw [HYE.out], by rw [HST.out, HE.out]; show Bk _ _ (arC (q.set r (k : Int))) _; rw [HT.out]; exact BB9.out, HG9.out⟩
                case measure => simp [intOf] <;> omega
        · obtain rfl : k = L := by omega
          go_wp2_with fail
          go_roundw
          case rel => exact ⟨r + 1, by omega, by go_num, by rw [HFI.out, HSE.out], by rw [HFI.out, HSE.out]; exact HBM2.out, HG2.out⟩
          case measure => simp [intOf] <;> omega
    · obtain rfl : r = n := by omega
      obtain ⟨t, ht⟩ : ∃ t, mvG q (fnI zss miss out r) = t := ⟨_, rfl⟩
      rw [ht] at HBM
      have HTE := Lib.hid ht
      clear ht
      have b1 : Bk wr (w.heap.size + 1 + 1) #[.int .i64 (pI t 0), .int .i64 (pI t 1), .int .i64 (pI t 2), .int .i64 (pI t 3), .int .i64 (pI t 4), .int .i64 (pI t 5)] 90 := HBM.out
      have b2 := BR.out.kept HG.out (by simp)
      have b1_0 := b1.cell 0 rfl
      have b1_1 := b1.cell 1 rfl
      have b1_2 := b1.cell 2 rfl
      have b1_3 := b1.cell 3 rfl
      have b1_4 := b1.cell 4 rfl
      have b1_5 := b1.cell 5 rfl
      have b1_l := b1.lt
      have b2_0 := b2.cell 0 rfl
      have b2_1 := b2.cell 1 rfl
      have b2_2 := b2.cell 2 rfl
      have b2_3 := b2.cell 3 rfl
      have b2_4 := b2.cell 4 rfl
      have b2_5 := b2.cell 5 rfl
      have b2_f0 := b2.frozen 0
      have b2_f1 := b2.frozen 1
      have b2_f2 := b2.frozen 2
      have b2_f3 := b2.frozen 3
      have b2_f4 := b2.frozen 4
      have b2_f5 := b2.frozen 5
      have b2_l := b2.lt
      clear b1 b2
      go_wp2_with fail
      (try simp only [Exit.inBlock, Exit.then])
      exact bodyPost_ret (v := .agg (arC t)) (by unfold arC; simp [results, Try.results89, go_sem, b1_0, b1_1, b1_2, b1_3, b1_4, b1_5, b1_l, b2_0, b2_1, b2_2, b2_3, b2_4, b2_5, b2_f0, b2_f1, b2_f2, b2_f3, b2_f4, b2_f5, b2_l]) rfl ⟨by rw [HTE.out]; rfl, (by repeat (first | exact HBW.out | (refine Below.setCell ?_ (by simp <;> omega) _)))⟩

end Go.Proofs.Ytlahgdhofakinaa
