/- The contract of the model's ReadRatio, and the walk of its exact law. -/
import Derived.Test.YtkiadgmolkpgfabDoorNums
import Derived.Test.YtkiadgmolkpgfabDoorIRead
import Derived.Test.YtkiadgmolkpgfabDoorLRat
import Derived.Deep.RegionHeld3
import Derived.Deep.DeepCutAuto
import Derived.Deep.DrawnRows
import Derived.RegionTactic
import Derived.Deep.QuietTactic
import Derived.BigQuiet
namespace Go.Proofs.YtkiadgmolkpgfabDoor
open Go.ChangeShapes Go.WideShapes Go.ChangeAt Go.RowKit Num
set_option linter.unusedVariables false
attribute [local go_sem ↓] Go.wp_at_zero Go.wp_at_succ
theorem rat_words {s : ByteArray} {ws : List ByteArray} {u v : Int} (hw : lists ws = splitS s.data.toList) (h : ratB u v = true) (e : ratT u v = s) : ws.length = 2 ∧ wordAt ws 0 = numS u ∧ wordAt ws 1 = numS v := by
  rw [← e, ratT_L h, split_rat] at hw
  have hl : ws.length = 2 := by have := congrArg List.length hw; simpa [lists] using this
  match ws, hl, hw with
  | [a, b], _, hw =>
    simp only [lists, List.map_cons, List.map_nil, List.cons.injEq, and_true] at hw
    refine ⟨rfl, ?_, ?_⟩
    · apply ByteArray.ext; apply Array.toList_inj.1; rw [numS_list]; exact hw.1
    · apply ByteArray.ext; apply Array.toList_inj.1; rw [numS_list]; exact hw.2
theorem numS_inj {x y : Int} (hx : x.natAbs ≤ 1000000000000000) (hy : y.natAbs ≤ 1000000000000000) (h : numS x = numS y) : x = y := by
  have := congrArg (fun t => t.data.toList) h
  simp only [numS_list] at this
  exact itoa_inj hx hy this
theorem rw_fit {u v : Int} (h : ratB u v = true) : u.natAbs < 1000000000000 ∧ v.natAbs < 1000000000000 := by
  obtain ⟨a1, a2, b1, b2, _⟩ := ratB_t h
  omega
theorem rs_bad {s : ByteArray} {ws : List ByteArray} (hw : lists ws = splitS s.data.toList) (h : ∃ j, j < ws.length ∧ ∀ y : Int, y.natAbs < 1000000000000 → numS y ≠ wordAt ws j) : RR s 0 0 false :=
  rr_no fun u v hu e => by
    obtain ⟨hl, h0, h1⟩ := rat_words hw hu e
    obtain ⟨j, hj, hno⟩ := h
    obtain ⟨f1, f2⟩ := rw_fit hu
    match j, hj with
    | 0, _ => exact hno u f1 h0.symm
    | 1, _ => exact hno v f2 h1.symm
    | j + 2, hj => omega
theorem rs_len {s : ByteArray} {ws : List ByteArray} {xs : List Int} (hw : lists ws = splitS s.data.toList) (h : NumsTo ws xs ws.length) (h2 : ¬ xs.length = 2) : RR s 0 0 false :=
  rr_no fun u v hu e => by
    obtain ⟨hl, _, _⟩ := rat_words hw hu e
    exact h2 (by rw [h.1, hl])
theorem rs_no {s : ByteArray} {ws : List ByteArray} {x y : Int} (hw : lists ws = splitS s.data.toList) (h : NumsTo ws [x, y] ws.length) (hr : ratB x y = false) : RR s 0 0 false :=
  rr_no fun u v hu e => by
    obtain ⟨hl, h0, h1⟩ := rat_words hw hu e
    obtain ⟨f1, f2⟩ := rw_fit hu
    have g0 := h.2 0 (by omega)
    have g1 := h.2 1 (by omega)
    simp only [List.getD_cons_zero, List.getD_cons_succ] at g0 g1
    have e0 : x = u := numS_inj (by omega) (by omega) (g0.2.trans h0)
    have e1 : y = v := numS_inj (by omega) (by omega) (g1.2.trans h1)
    subst e0; subst e1
    rw [hr] at hu; cases hu
theorem rs_yes {s : ByteArray} {ws : List ByteArray} {x y : Int} (hw : lists ws = splitS s.data.toList) (h : NumsTo ws [x, y] ws.length) (hr : ratB x y = true) : RR s x y true := by
  refine Or.inl ⟨rfl, hr, ?_⟩
  have hl : ws.length = 2 := h.1.symm
  have g0 := h.2 0 (by omega)
  have g1 := h.2 1 (by omega)
  match ws, hl with
  | [a, b], _ =>
    simp only [List.getD_cons_zero, List.getD_cons_succ, wordAt] at g0 g1
    have hs := split_two _ a.data.toList b.data.toList hw.symm
    apply ByteArray.ext; apply Array.toList_inj.1
    rw [ratT_L hr, hs, ← g0.2, ← g1.2, numS_list, numS_list]
    rfl
theorem words_fit {s : ByteArray} {ws : List ByteArray} (hw : lists ws = splitS s.data.toList) : ∀ j, j < ws.length → (wordAt ws j).size ≤ s.size := by
  have key : ∀ (l : List UInt8) (p : List UInt8), p ∈ splitS l → p.length ≤ l.length := by
    intro l
    induction l with
    | nil => intro p hp; simp [splitS] at hp; subst hp; simp
    | cons c r ih =>
      intro p hp
      unfold splitS at hp
      split at hp
      · rcases List.mem_cons.1 hp with rfl | h
        · simp
        · have := ih p h; simp; omega
      · obtain ⟨x, t, e⟩ := splitS_ne r
        rw [e] at hp ih
        rcases List.mem_cons.1 hp with rfl | h
        · have := ih x (by simp); simp; omega
        · have := ih p (by simp [h]); simp; omega
  intro j hj
  have hm : (wordAt ws j).data.toList ∈ lists ws := by
    unfold lists wordAt
    rw [List.getD_eq_getElem?_getD, List.getElem?_eq_getElem hj]
    exact List.mem_map_of_mem (List.getElem_mem hj)
  rw [hw] at hm
  have := key _ _ hm
  rw [size_list, size_list] at this
  exact this
theorem own_word {w : World} {B g cap : Nat} {ws : List ByteArray} (h : w.ownsRow B 9 1 (.slice (some ⟨g, 0, none⟩) ws.length cap) ws.length (ws.map Value.string)) : ∀ j, j < ws.length → w.cell? ⟨g, j, none⟩ = some (.string (wordAt ws j)) := by
  intro j hj
  rw [h.cellAt j (by omega)]
  unfold wordAt
  rw [List.getElem?_map, List.getElem?_eq_getElem hj, List.getD_eq_getElem?_getD, List.getElem?_eq_getElem hj]
  rfl
set_option maxRecDepth 100000 in
set_option maxHeartbeats 8000000 in
theorem srd_any (s : ByteArray) (w : World) (hl : s.size ≤ 1048576) :
    Calls Tryd.prog 31 #[.string s] w (RdRat w s) := by
  go_enter Tryd.func31, Tryd.ntmps31
  go_wp2_with fail
  refine (spl_any s _ hl).mono ?_
  rintro e w1 ⟨g, cap, ws, rfl, hw, hwl, hown, hb⟩
  have r0 : w1.cell? ⟨w.heap.size, 0, none⟩ = some (.int .i64 0) := (hb.cell (p := ⟨w.heap.size, 0, none⟩) (by simp)).trans (by simp [go_sem])
  have r1 : w1.cell? ⟨w.heap.size, 1, none⟩ = some (.int .i64 0) := (hb.cell (p := ⟨w.heap.size, 1, none⟩) (by simp)).trans (by simp [go_sem])
  have f0 : w1.frozen? ⟨w.heap.size, 0, none⟩ = false := (hb.frozen (p := ⟨w.heap.size, 0, none⟩) (by simp)).trans (by simp [go_sem])
  have f1 : w1.frozen? ⟨w.heap.size, 1, none⟩ = false := (hb.frozen (p := ⟨w.heap.size, 1, none⟩) (by simp)).trans (by simp [go_sem])
  have HB := Lib.hid (bel_end ((Below.refl w.heap.size w).alloc (Nat.le_refl _) (.cells #[.int .i64 0, .int .i64 0] 45)) hb)
  have HW := Lib.hid hw
  have hsz : w.heap.size < w1.heap.size := World.block_lt_of_cell? w1 _ r0
  have HG := Lib.hid (own_word hown)
  have hg := (hown.lt g rfl).2
  have HF := Lib.hid (words_fit hw)
  clear hb hw hown
  go_wp2_with fail
  refine (nums_any g cap ws _ HG.out (fun j hj => by have := HF.out j hj; omega) hg (by omega)).mono ?_
  rintro e w2 hD
  have HBx : Hid (Below w1.heap.size w1 w2) := Lib.hid (by rcases hD with ⟨_, _, _, _, _, _, h⟩ | ⟨_, _, h⟩ <;> exact h)
  replace f0 := kp_fr f0 r0 HBx.out
  replace f1 := kp_fr f1 r1 HBx.out
  replace r0 := kp1 r0 HBx.out
  replace r1 := kp1 r1 HBx.out
  replace HB := Lib.hid (bel_end HB.out HBx.out)
  rcases hD with ⟨g2, cap2, xs, rfl, hx, hown, -⟩ | ⟨rfl, hbad, -⟩
  · have hg2 := hown.lt g2 rfl
    by_cases h2 : xs.length = 2
    · match xs, h2 with
      | [x, y], _ =>
      have x0 : w2.cell? ⟨g2, 0, none⟩ = some (.int .i64 x) := hown.cellAt 0 (by simp)
      have x1 : w2.cell? ⟨g2, 1, none⟩ = some (.int .i64 y) := hown.cellAt 1 (by simp)
      have hne : ¬ g2 = w.heap.size := by omega
      have b2 : (((2 : Nat) : Int) != 2) = false := by decide
      cases hr : ratB x y
      · have HR := Lib.hid (rs_no HW.out hx hr)
        have HA := Lib.hid hr
        clear hr hx hown HBx
        go_wp2_with fail
        go_upto_region 3 with fail
        go_cut [31] (fun v wx => v = .bool true ∧ Below w2.heap.size w2 wx)
        case first =>
          go_region_held3 (fun w' => w'.cell? ⟨g2, 0, none⟩ = some (.int .i64 x) ∧ w'.cell? ⟨g2, 1, none⟩ = some (.int .i64 y) ∧ Below w2.heap.size w2 w')
            (first
              | (exact ⟨x0, x1, (Below.refl _ w2).drew⟩)
              | (go_split_ands; exact ⟨kp1 (by assumption) hb, kp1 (by assumption) hb, bel_in hb (by assumption) (Nat.le_refl _)⟩))
            (first
              | (go_at_call 65; refine (srt_is HA.out _).mono ?_; rintro e w3 ⟨rfl, hb⟩))
          all_goals (go_wp2_with fail; go_meet; go_split_ands)
          all_goals (exact ⟨rfl, by assumption⟩)
        case rest =>
          obtain ⟨rfl, hb⟩ := hcut
          replace f0 := kp_fr f0 r0 hb
          replace f1 := kp_fr f1 r1 hb
          replace r0 := kp1 r0 hb
          replace r1 := kp1 r1 hb
          go_wp2
          exact bodyPost_ret (v := .tuple #[.agg #[.int .i64 0, .int .i64 0], .bool false]) (by simp [results, Tryd.results31, go_sem, r0, r1]) rfl (rd_ret HR.out (((bel_end HB.out hb).setCell (Nat.le_refl _) _).setCell (Nat.le_refl _) _))
      · have HR := Lib.hid (rs_yes HW.out hx hr)
        have HA := Lib.hid hr
        clear hr hx hown HBx
        go_wp2_with fail
        go_upto_region 3 with fail
        go_cut [31] (fun v wx => v = .bool false ∧ Below w2.heap.size w2 wx)
        case first =>
          go_region_held3 (fun w' => w'.cell? ⟨g2, 0, none⟩ = some (.int .i64 x) ∧ w'.cell? ⟨g2, 1, none⟩ = some (.int .i64 y) ∧ Below w2.heap.size w2 w')
            (first
              | (exact ⟨x0, x1, (Below.refl _ w2).drew⟩)
              | (go_split_ands; exact ⟨kp1 (by assumption) hb, kp1 (by assumption) hb, bel_in hb (by assumption) (Nat.le_refl _)⟩))
            (first
              | (go_at_call 65; refine (srt_is HA.out _).mono ?_; rintro e w3 ⟨rfl, hb⟩))
          all_goals (go_wp2_with fail; go_meet; go_split_ands)
          all_goals (exact ⟨rfl, by assumption⟩)
        case rest =>
          obtain ⟨rfl, hb⟩ := hcut
          replace f0 := kp_fr f0 r0 hb
          replace f1 := kp_fr f1 r1 hb
          replace r0 := kp1 r0 hb
          replace r1 := kp1 r1 hb
          replace x0 := kp1 x0 hb
          replace x1 := kp1 x1 hb
          go_wp2
          go_region
          all_goals
            go_wp2
            exact bodyPost_ret (v := .tuple #[.agg #[.int .i64 x, .int .i64 y], .bool true]) (by simp [results, Tryd.results31, go_sem, r0, r1]) rfl (rd_ret HR.out (((bel_end HB.out hb).drew.setCell (Nat.le_refl _) _).setCell (Nat.le_refl _) _))
    · have HR := Lib.hid (rs_len HW.out hx h2)
      have b2 : ((xs.length : Int) != 2) = true := by simp; omega
      clear hx hown HBx h2
      go_wp2_with fail
      go_quiet (fail)
      go_wp2
      exact bodyPost_ret (v := .tuple #[.agg #[.int .i64 0, .int .i64 0], .bool false]) (by simp [results, Tryd.results31, go_sem, r0, r1]) rfl (rd_ret HR.out (((bel_drewN HB.out nq).setCell (Nat.le_refl _) _).setCell (Nat.le_refl _) _))
  · have HR := Lib.hid (rs_bad HW.out hbad)
    clear hbad HBx
    go_wp2_with fail
    go_quiet (fail)
    go_wp2
    exact bodyPost_ret (v := .tuple #[.agg #[.int .i64 0, .int .i64 0], .bool false]) (by simp [results, Tryd.results31, go_sem, r0, r1]) rfl (rd_ret HR.out (((bel_drewN HB.out nq).setCell (Nat.le_refl _) _).setCell (Nat.le_refl _) _))
set_option maxHeartbeats 2000000 in
theorem lrdr (a0 : ByteArray) (w0 : a0.size ≤ maxLen) (w : World) (ht : Pow10 w) (h1 : ∃ tp p, w.var? Tryd.prog "strconv.ErrSyntax" = some #[.iface tp p]) (h2 : ∃ tp p, w.var? Tryd.prog "strconv.ErrRange" = some #[.iface tp p]) (hm : MaxCell w) :
    Calls Tryd.prog 7 #[.string a0] w fun e w' => e = .returned (.bool true) ∧ Below w.heap.size w w' := by
  have HT := Lib.hid ht
  have HE := Lib.hid (errs_of h1 h2)
  have HM := Lib.hid hm
  unfold maxLen at w0
  clear ht h1 h2 hm
  by_cases hbig : 1048576 < a0.size
  · go_enter Tryd.func7, Tryd.ntmps7
    go_wp2
    go_ret
    exact ⟨rfl, Below.refl _ _⟩
  · go_enter Tryd.func7, Tryd.ntmps7
    go_wp2_with fail
    refine (srd_any a0 _ (by omega)).mono ?_
    rintro e w1 ⟨x, y, b, rfl, hr, hb⟩
    have R := Lib.hid hr
    have B1 := Lib.hid hb
    clear hr hb
    go_wp2_with fail
    have HB1 := Lib.hid (B1.out.alloc B1.out.size (.cells #[.int .i64 x, .int .i64 y] 45))
    refine (ird_any a0 _ (by omega) (HT.out.later HB1.out) (HE.out.later HB1.out) (HM.out.later HB1.out)).mono ?_
    rintro e w2 ⟨x', y', b', rfl, hr, hb⟩
    obtain ⟨⟨rfl, rfl⟩, rfl⟩ := RR.unique hr R.out
    have x0 : w2.cell? ⟨w1.heap.size, 0, none⟩ = some (.int .i64 x') := (hb.cell (p := ⟨w1.heap.size, 0, none⟩) (by simp)).trans (by simp [go_sem])
    have x1 : w2.cell? ⟨w1.heap.size, 1, none⟩ = some (.int .i64 y') := (hb.cell (p := ⟨w1.heap.size, 1, none⟩) (by simp)).trans (by simp [go_sem])
    have hlt := World.block_lt_of_cell? w2 _ x0
    have B2 := Lib.hid (bel_end HB1.out hb)
    clear hb hr HB1
    go_wp2_with fail
    refine (eqr_any _ _ _ _ _).mono ?_
    rintro e w3 ⟨rfl, hb⟩
    have B3 := Lib.hid (bel_end (B2.out.alloc B2.out.size (.cells #[.int .i64 x', .int .i64 y'] 45)) hb)
    clear hb
    cases b'
    all_goals
      go_wp2
      go_ret
      exact ⟨rfl, B3.out⟩
end Go.Proofs.YtkiadgmolkpgfabDoor
