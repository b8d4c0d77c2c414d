/- Contracts of slices.Clone and slices.Reverse at lists of integers, of TurnSignal, the program's and the model's. -/
import Derived.Test.YtpnebnjpeiieaaaPuL
import Derived.Lib.SliceRun
import Derived.Deep.RegionWith
namespace Go.Proofs.Ytpnebnjpeiieaaa
open Go.ChangeShapes Go.WideShapes Go.ChangeAt Go.RowKit Go.Shelf Num
set_option linter.unusedVariables false
set_option linter.unusedSimpArgs false
/-- a copy -/
def Cloned (w : World) (n : Nat) (zs : List Int) (e : Ending) (w' : World) : Prop := ∃ (a' : Option Addr) (c' : Nat), e = .returned (.slice a' n c') ∧ zs.length = n ∧ OwnA w' w.heap.size w'.heap.size a' c' zs ∧ Below w.heap.size w w'
theorem one_iv4 {L : List Int} : ∀ u ∈ L.map iv4, u.oneCell' = true := by
  intro u hu
  obtain ⟨n, _, rfl⟩ := List.mem_map.1 hu
  rfl
theorem ints_cells {w : World} {B b off : Nat} {zs : List Int} (h : ∀ j, j < zs.length → w.cell? ⟨b, off + j, none⟩ = some (.int .i64 (zs.getD j 0))) : ∀ j u, (zs.map iv4)[j]? = some u → w.cell? ((⟨b, off, none⟩ : Addr).add j) = some u := by
  intro j u hu
  rw [Addr.add_lit]
  rw [List.getElem?_map] at hu
  rcases Nat.lt_or_ge j zs.length with hj | hj
  · rw [List.getElem?_eq_getElem hj] at hu
    simp only [Option.map_some, Option.some.injEq] at hu
    subst hu
    rw [h j hj, List.getD_eq_getElem?_getD, List.getElem?_eq_getElem hj]; rfl
  · rw [List.getElem?_eq_none hj] at hu; simp at hu
theorem cln_any (w : World) (a : Option Addr) (cap n : Nat) (zs : List Int) (hn : zs.length = n) (hl : n ≤ 1048576) (hz : Ints .i64 w w.heap.size a zs) :
    Calls Try.prog 47 #[.slice a n cap] w (Cloned w n zs) := by
  have hq := fun (w : World) (a : Option Addr) (n c n' c' : Nat) => Lib.run_eql_slice_nil (P := Try.prog) w 24 2 a n c n' c' Try.underlying24
  obtain ⟨i0, hi, hz0, hz1, hz2⟩ := info_parts info_i64
  cases a with
  | none =>
    have h0 : n = 0 := by
      rcases Nat.eq_zero_or_pos n with h | h
      · exact h
      · obtain ⟨b, off, e, -⟩ := hz (by omega)
        cases e
    have hzn : zs = [] := List.length_eq_zero_iff.1 (by omega)
    subst h0 hzn
    clear hz hn
    go_enter Try.func47, Try.ntmps47
    go_wp2
    go_ret
    exact ⟨none, 0, rfl, rfl, ownA_nil _ _ (Nat.le_refl _), Below.refl _ _⟩
  | some ad =>
    have hnews : ∀ j u, (zs.map iv4)[j]? = some u → w.cell? (ad.add j) = some u := by
      rcases Nat.eq_zero_or_pos zs.length with h | h
      · intro j u hu
        rw [List.getElem?_eq_none (by simp; omega)] at hu
        cases hu
      · obtain ⟨b, off, e, -, hc⟩ := hz h
        cases e
        exact ints_cells (B := 0) hc
    have HN := Lib.hid hnews
    have HL := Lib.hid hn
    clear hnews hz hn
    go_enter Try.func47, Try.ntmps47
    go_wp2_with (at_builtin; refine wpList_append_own _ rfl _ _ 24 rfl w.heap.size 2 i0 (.int .i64 0) 1 8 Try.underlying24 hi hz0 hz1 hz2 rfl (by decide) _ _ _ rfl (World.ownsRow_made w #[] 0 (Nat.le_refl _) (Nat.zero_le _) (by simp)) ad n cap (zs.map iv4) rfl ?qc1 ?qc2 ?qc3 ?qc4 ?qc5 ?qc6 ?_)
    case qc1 => rw [List.length_map, HL.out, Nat.mul_one]
    case qc2 =>
      intro j u hj
      exact Lib.cell?_alloc_some _ (HN.out j u hj)
    case qc3 => exact one_iv4
    case qc4 => unfold maxLen; omega
    case qc5 => omega
    case qc6 => simp
    intro v' w1 hown hgrow hnil
    have HB : Hid (Below w.heap.size w w1) := Lib.hid (((Below.refl _ w).alloc (Nat.le_refl _) _).grown hgrow (by simp) (by intro k hk; simp [Value.ownBlock] at hk; omega))
    obtain ⟨g, c', rfl⟩ : ∃ g c', v' = .slice (some ⟨g, 0, none⟩) n c' := by
      rcases hown.2 with ⟨h', -⟩ | ⟨g, cap', cur, hv, -⟩
      · exact absurd h' hnil
      · exact ⟨g, cap', hv⟩
    have HO := Lib.hid hown
    clear hown hgrow hnil
    go_wp2
    go_ret
    refine ⟨some ⟨g, 0, none⟩, c', rfl, HL.out, ⟨by rw [HL.out]; exact HO.out, fun x e => ?_, Nat.le_refl _⟩, HB.out⟩
    rw [HL.out] at e
    exact (HO.out.lt x e).2
theorem own_at1 {W : World} {lo g c n : Nat} {L : List Int} (h : W.ownsRow lo 2 1 (.slice (some ⟨g, 0, none⟩) n c) n (L.map iv4)) {j : Nat} (hj : j < n) (hl : L.length = n) : W.cell? ⟨g, j, none⟩ = some (.int .i64 (L.getD j 0)) := by
  rw [h.cellAt j (by omega), List.getElem?_map, List.getElem?_eq_getElem (by omega), List.getD_eq_getElem?_getD, List.getElem?_eq_getElem (by omega)]; rfl

set_option maxRecDepth 100000 in
set_option maxHeartbeats 2000000 in
theorem rev_row (w : World) (lo g c : Nat) (zs : List Int) (hr : w.ownsRow lo 2 1 (.slice (some ⟨g, 0, none⟩) zs.length c) zs.length (zs.map iv4)) (hn : zs.length ≤ 1048576) :
    Calls Try.prog 48 #[.slice (some ⟨g, 0, none⟩) zs.length c] w fun e w' => e = .returned (.tuple #[]) ∧ w'.ownsRow lo 2 1 (.slice (some ⟨g, 0, none⟩) zs.length c) zs.length (zs.reverse.map iv4) ∧ w.grownBy w' (some g) := by
  have HR := Lib.hid hr
  clear hr
  by_cases h0 : zs.length = 0
  · obtain rfl : zs = [] := List.length_eq_zero_iff.1 h0
    go_enter Try.func48, Try.ntmps48
    go_wp2
    go_loopw [2, 3] (fun x y wr => x = .int .i64 0 ∧ y = .int .i64 (-1) ∧ wr = w) (fun _ _ _ => 0)
    case atStart => exact ⟨rfl, rfl, rfl⟩
    case round =>
      obtain ⟨rfl, rfl, rfl⟩ := hrel
      go_wp2
      go_end0
      exact ⟨rfl, HR.out, grown_id _ _⟩
  · obtain ⟨n, hn2⟩ : ∃ n, zs.length = n + 1 := ⟨zs.length - 1, by omega⟩
    have HN := Lib.hid hn2
    rw [hn2] at hn HR ⊢
    clear hn2 h0
    go_enter Try.func48, Try.ntmps48
    go_wp2
    go_loopw [2, 3] (fun x y wr => ∃ i j : Nat, i + j = n ∧ i ≤ j + 1 ∧ x = .int .i64 (i : Int) ∧ y = .int .i64 (j : Int) ∧ wr.ownsRow lo 2 1 (.slice (some ⟨g, 0, none⟩) (n + 1) c) (n + 1) ((revP zs i).map iv4) ∧ w.grownBy wr (some g)) (fun _ y _ => (intOf y).toNat)
    case atStart => exact ⟨0, n, by omega, by omega, rfl, by first | rfl | simp, by rw [revP_0]; exact HR.out, grown_id _ _⟩
    case round =>
      obtain ⟨i, j, hij, hle, rfl, rfl, hrow, hg⟩ := hrel
      have HW := Lib.hid hrow
      have HG := Lib.hid hg
      clear hrow hg
      by_cases hlt : i < j
      · have hj : zs.length - 1 - i = j := by rw [HN.out]; omega
        have c1 := own_at1 HW.out (j := i) (by omega) (by rw [revP_len, HN.out])
        have c2 := own_at1 HW.out (j := j) (by omega) (by rw [revP_len, HN.out])
        rw [revP_at (zs := zs) (i := i) (k := i) (by rw [HN.out]; omega) (by omega) (by rw [HN.out]; omega)] at c1
        rw [revP_at (zs := zs) (i := i) (k := j) (by rw [HN.out]; omega) (by omega) (by rw [HN.out]; omega)] at c2
        have f1 := HW.out.frozenAt i
        have f2 := HW.out.frozenAt j
        have hset := revP_set (zs := zs) (i := i) (by rw [hj]; exact hlt)
        rw [hj] at hset
        have HO : Hid (((wr.drew.setCell ⟨g, i, none⟩ (.int .i64 (zs.getD j 0))).setCell ⟨g, j, none⟩ (.int .i64 (zs.getD i 0))).ownsRow lo 2 1 (.slice (some ⟨g, 0, none⟩) (n + 1) c) (n + 1) ((revP zs (i + 1)).map iv4)) := Lib.hid (by rw [← hset]; exact own_set (own_set (show wr.drew.ownsRow _ _ _ _ _ _ from HW.out) _ _) _ _)
        have HGG : Hid (w.grownBy ((wr.drew.setCell ⟨g, i, none⟩ (.int .i64 (zs.getD j 0))).setCell ⟨g, j, none⟩ (.int .i64 (zs.getD i 0))) (some g)) := Lib.hid (grown_cell (grown_cell (show w.grownBy wr.drew (some g) from ⟨HG.out.os, HG.out.tape, HG.out.output, HG.out.size, HG.out.block⟩) _ _) _ _)
        obtain ⟨x, hx⟩ : ∃ x, zs.getD i 0 = x := ⟨_, rfl⟩
        obtain ⟨y, hy⟩ : ∃ y, zs.getD j 0 = y := ⟨_, rfl⟩
        rw [hx, hy] at HO HGG
        rw [hx] at c1
        rw [hy] at c2
        have hne : ¬ i = j := by omega
        have hne2 : ¬ j = i := by omega
        clear hx hy hset hj HW HG
        go_wp2_with fail
        go_region_with (first | fail | fail)
        all_goals
          go_wp2_with fail
          go_roundw
          (case rel => exact ⟨i + 1, j - 1, by omega, by omega, by go_num, by go_num, HO.out, HGG.out⟩)
          (case measure => simp [intOf]; omega)
      · have hend := revP_end (zs := zs) (i := i) (by rw [HN.out]; omega)
        rw [hend] at HW
        go_wp2
        go_end0
        exact ⟨rfl, HW.out, HG.out⟩
theorem rev_nil (w : World) (c : Nat) :
    Calls Try.prog 48 #[.slice none 0 c] w fun e w' => e = .returned (.tuple #[]) ∧ w' = w := by
  go_enter Try.func48, Try.ntmps48
  go_wp2
  go_loopw [2, 3] (fun x y wr => x = .int .i64 0 ∧ y = .int .i64 (-1) ∧ wr = w) (fun _ _ _ => 0)
  case atStart => exact ⟨rfl, rfl, rfl⟩
  case round =>
    obtain ⟨rfl, rfl, rfl⟩ := hrel
    go_wp2
    go_end0
    exact ⟨rfl, rfl⟩
theorem rev_any (w : World) (lo hi : Nat) (a : Option Addr) (c n : Nat) (zs : List Int) (hn : zs.length = n) (h : OwnA w lo hi a c zs) (hl : n ≤ 1048576) :
    Calls Try.prog 48 #[.slice a n c] w fun e w' => e = .returned (.tuple #[]) ∧ OwnA w' lo hi a c zs.reverse ∧ Kept lo hi w w' := by
  subst hn
  rcases h.own.2 with ⟨hv, h0⟩ | ⟨g, cap, cur, hv, hb, hg, rest⟩
  · simp only [Value.slice.injEq] at hv
    obtain ⟨rfl, h1, rfl⟩ := hv
    obtain rfl : zs = [] := List.length_eq_zero_iff.1 h1
    refine (rev_nil w 0).mono ?_
    rintro e w' ⟨rfl, rfl⟩
    exact ⟨rfl, h, Kept.of_below (Below.refl _ _)⟩
  · simp only [Value.slice.injEq] at hv
    obtain ⟨rfl, -, rfl⟩ := hv
    refine (rev_row w lo g c zs h.own hl).mono ?_
    rintro e w' ⟨rfl, hr', hgr⟩
    exact ⟨rfl, ⟨by rw [List.length_reverse]; exact hr', fun x e => h.lt x (by simpa [Value.ownBlock] using e), Nat.le_trans h.up hgr.size⟩, Kept.of_grown hgr (fun x e => ⟨(h.own.lt x (by simpa [Value.ownBlock] using e)).1, h.lt x (by simpa [Value.ownBlock] using e)⟩)⟩
/-- a signal in the opposite order -/
def trL (zs : List Int) : List Int := if sigB zs then zs.reverse else []
theorem trL_len (zs : List Int) : (trL zs).length ≤ 400 := by
  unfold trL
  split
  · rename_i h
    rw [List.length_reverse]; exact (sigB_t h).1
  · simp
set_option maxRecDepth 100000 in
set_option maxHeartbeats 2000000 in
theorem itr_any (w : World) (a : Option Addr) (cap : Nat) (zs : List Int) (hl : zs.length ≤ 9223372036854775807) (hz : Ints .i64 w w.heap.size a zs) :
    Calls Try.prog 22 #[.slice a zs.length cap] w fun e w' => ∃ (a' : Option Addr) (c' : Nat), e = .returned (.tuple #[.slice a' (trL zs).length c', .int .i64 (sgC zs)]) ∧ OwnA w' w.heap.size w'.heap.size a' c' (trL zs) ∧ Below w.heap.size w w' := by
  have HZ := Lib.hid hz
  clear hz
  cases hs : sigB zs
  · have H1 : Hid (trL zs = []) := Lib.hid (by unfold trL; rw [hs]; rfl)
    have H2 : Hid (sgC zs = 1) := Lib.hid (by unfold sgC; rw [hs]; rfl)
    go_enter Try.func22, Try.ntmps22
    go_wp2_with fail
    refine (isg_any _ _ _ zs hl HZ.out).mono ?_
    rw [hs]
    rintro e w1 ⟨rfl, hb⟩
    have HB := Lib.hid hb
    clear hb
    go_wp2
    go_ret2
    exact ⟨none, 0, by rw [H1.out, H2.out]; rfl, by rw [H1.out]; exact ownA_nil _ _ HB.out.size, HB.out⟩
  · have H1 : Hid (trL zs = zs.reverse) := Lib.hid (by unfold trL; rw [hs]; rfl)
    have H2 : Hid (sgC zs = 0) := Lib.hid (by unfold sgC; rw [hs]; rfl)
    obtain ⟨g4, -⟩ := sigB_t hs
    go_enter Try.func22, Try.ntmps22
    go_wp2_with fail
    refine (isg_any _ _ _ zs hl HZ.out).mono ?_
    rw [hs]
    rintro e w1 ⟨rfl, hb⟩
    have HB := Lib.hid hb
    clear hb
    go_wp2_with fail
    refine (cln_any w1 a cap zs.length zs rfl (by omega) ((HZ.out.below HB.out).more HB.out.size)).mono ?_
    rintro e w2 ⟨a', c', rfl, -, ho, hb⟩
    have HO := Lib.hid ho
    have HS1 := Lib.hid HB.out.size
    replace HB := Lib.hid (bel_end HB.out hb)
    have hlo := hb.size
    clear ho hb
    go_wp2_with fail
    refine (rev_any w2 _ _ a' c' zs.length zs rfl HO.out (by omega)).mono ?_
    rintro e w3 ⟨rfl, ho, hk⟩
    have HO3 : Hid (OwnA w3 w.heap.size w3.heap.size a' c' zs.reverse) := Lib.hid ⟨World.ownsRow.mono ho.own HS1.out, fun g e => Nat.lt_of_lt_of_le (ho.lt g e) ho.up, Nat.le_refl _⟩
    replace HB := Lib.hid (HB.out.trans ((hk.below hlo).mono HS1.out))
    clear ho hk
    go_wp2
    go_ret2
    exact ⟨a', c', by rw [H1.out, H2.out, List.length_reverse]; rfl, by rw [H1.out]; exact HO3.out, HB.out⟩

set_option maxRecDepth 100000 in
set_option maxHeartbeats 2000000 in
theorem str_any (w : World) (a : Option Addr) (cap : Nat) (zs : List Int) (hl : zs.length ≤ 9223372036854775807) (hz : Ints .i64 w w.heap.size a zs) :
    Calls Try.prog 23 #[.slice a zs.length cap] w fun e w' => ∃ (a' : Option Addr) (c' : Nat), e = .returned (.tuple #[.slice a' (trL zs).length c', .int .i64 (sgC zs)]) ∧ OwnA w' w.heap.size w'.heap.size a' c' (trL zs) ∧ Below w.heap.size w w' := by
  obtain ⟨i0, hi, hz0, hz1, hz2⟩ := info_parts info_i64
  have HZ := Lib.hid hz
  clear hz
  cases hs : sigB zs
  · have H1 : Hid (trL zs = []) := Lib.hid (by unfold trL; rw [hs]; rfl)
    have H2 : Hid (sgC zs = 1) := Lib.hid (by unfold sgC; rw [hs]; rfl)
    go_enter Try.func23, Try.ntmps23
    go_wp2_with (go_at_call 36; refine (ssg_any _ _ _ _ zs hl HZ.out).mono ?_; rw [hs]; rintro e w' ⟨rfl, rfl⟩)
    go_ret2
    exact ⟨none, 0, by rw [H1.out, H2.out]; rfl, by rw [H1.out]; exact ownA_nil _ _ (Nat.le_refl _), Below.refl _ _⟩
  · have H1 : Hid (trL zs = zs.reverse) := Lib.hid (by unfold trL; rw [hs]; rfl)
    have H2 : Hid (sgC zs = 0) := Lib.hid (by unfold sgC; rw [hs]; rfl)
    obtain ⟨g4, -⟩ := sigB_t hs
    go_enter Try.func23, Try.ntmps23
    go_wp2_with (go_at_call 36; refine (ssg_any _ _ _ _ zs hl HZ.out).mono ?_; rw [hs]; rintro e w' ⟨rfl, rfl⟩)
    have HR0 := Lib.hid (RowG.lit (w1 := w) (t := 2) (m := 1) (W := w.alloc (.cells #[] 2)) (Bk.new' rfl) (Nat.le_refl _) ((Below.refl _ _).alloc (Nat.le_refl _) _))
    go_loopw [4, 5] (fun v i wr => ∃ (k ge ce : Nat), k ≤ zs.length ∧ v = .slice (some ⟨ge, 0, none⟩) k ce ∧ i = .int .i64 ((zs.length : Int) - 1 - (k : Int)) ∧ RowG w 2 1 ge ce k ((dwnP zs k).map iv4) wr) (fun _ i _ => (intOf i + 1).toNat)
    case atStart => exact ⟨0, w.heap.size, 0, by omega, rfl, by simp, HR0.out⟩
    case round =>
      obtain ⟨k, ge, ce, hk, rfl, rfl, hR⟩ := hrel
      have HR := Lib.hid hR
      clear hR HR0
      by_cases hlt : k < zs.length
      · obtain ⟨q, hq⟩ : ∃ q : Nat, zs.length - 1 - k = q := ⟨_, rfl⟩
        have hqi : (zs.length : Int) - 1 - (k : Int) = (q : Int) := by omega
        have hqn : (zs.length : Int) - 1 - ((k + 1 : Nat) : Int) = (q : Int) - 1 := by omega
        have hqw : IntKind.wrap .i64 ((q : Int) - 1) = (q : Int) - 1 := IntWalk.i64_in _ (by omega)
        have hql : q < zs.length := by omega
        have hsn := dwnP_succ zs k
        rw [hq] at hsn
        obtain ⟨b1, o1, ra, hB1, hc1⟩ := (HZ.out.below HR.out.bel).at_ hql
        subst ra
        obtain ⟨x, hx⟩ : ∃ x, zs.getD q 0 = x := ⟨_, rfl⟩
        rw [hx] at hsn hc1
        have HSN : Hid ((dwnP zs k).map iv4 ++ [.int .i64 x] = (dwnP zs (k + 1)).map iv4) := Lib.hid (by rw [hsn, List.map_append]; rfl)
        have HQN := Lib.hid hqn
        rw [hqi]
        clear hx hsn hq hqi hqn
        go_wp2_with (at_builtin; refine wpList_append_lies _ rfl _ _ 24 rfl w.heap.size 2 i0 (.int .i64 0) 1 8 Try.underlying24 hi hz0 hz1 hz2 rfl (by decide) (.slice (some ⟨ge, 0, none⟩) k ce) k ((dwnP zs k).map iv4) rfl (HR.out.own.alloc _) ⟨wr.heap.size, 0, none⟩ 1 1 [.int .i64 x] rfl rfl (World.news_of_block (cs := #[.int .i64 x]) (t := 2) (fr := (0, 0)) (heap_alloc_new wr _)) (by simp [Value.oneCell']) (by decide) (by unfold maxLen; omega) (by omega) (by simp; exact Nat.le_succ_of_le HR.out.bel.size) (wr.heap.size + 1) (by simp) ?_; intro g2 cp2 w9 hown hgrow hat hlt9; have HR9 := Lib.hid ((HR.out.on ((Below.refl _ _).alloc (Nat.le_refl _) _)).snoc hown hgrow); clear hown hgrow hat hlt9)
        rw [HSN.out] at HR9
        go_wp2_with fail
        go_roundw
        case rel => exact ⟨k + 1, g2, cp2, by omega, rfl, by rw [HQN.out], HR9.out⟩
        case measure => (simp [intOf] <;> omega)
      · obtain rfl : k = zs.length := by omega
        have hneg : (zs.length : Int) - 1 - (zs.length : Int) = -1 := by omega
        rw [hneg]
        rw [dwnP_end] at HR
        go_wp2
        go_ret2
        exact ⟨some ⟨ge, 0, none⟩, ce, by rw [H1.out, H2.out, List.length_reverse]; rfl, by rw [H1.out]; exact ownA_row HR.out (List.length_reverse ..) (Nat.le_refl _), HR.out.bel⟩
end Go.Proofs.Ytpnebnjpeiieaaa
