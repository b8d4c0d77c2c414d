/- The model's greedy pairing. -/
import Derived.Test.YtlahgdhofakinaaPrD
namespace Go.Proofs.Ytlahgdhofakinaa
open Go.ChangeShapes Go.WideShapes Go.ChangeAt Go.RowKit Go.Shelf Num
set_option linter.unusedVariables false
set_option linter.unusedSimpArgs false
def grW (zss : List (List Int)) (miss : Int) : List Int := if coC zss miss = 0 then grV zss miss else []
/-- the pair that the search holds, in two slots -/
def rcR : Option (Nat × Nat) → Value → Value → Prop
  | none, u, v => u = .int .i64 (-1) ∧ v = .int .i64 (-1)
  | some (r, c), u, v => u = .int .i64 r ∧ v = .int .i64 c
/-- the numbers of a block -/
def outW (g n : Nat) (w : World) : List Int := (List.range n).map (fun j => match w.cell? ⟨g, j, none⟩ with | some (.int _ z) => z | _ => 0)
theorem outW_eq {W1 W : World} {g c n : Nat} {out : List Int} (hn : out.length = n) (h : RowG W1 2 1 g c n (out.map iv4) W) : outW g n W = out := by
  subst hn
  unfold outW
  apply List.ext_getElem (by simp)
  intro i h1 h2
  rw [List.getElem_map, List.getElem_range, h.own.cellAt i (by omega), List.getElem?_map, List.getElem?_eq_getElem h2]
  rfl
theorem gr_cell {W1 W : World} {g c n : Nat} {out : List Int} (hn : out.length = n) (h : RowG W1 2 1 g c n (out.map iv4) W) {i : Nat} (hi : i < n) : W.cell? ⟨g, i, none⟩ = some (.int .i64 (pI out i)) := by
  subst hn
  rw [h.own.cellAt i (by omega), List.getElem?_map, List.getElem?_eq_getElem hi]
  unfold pI
  rw [List.getD_eq_getElem?_getD, List.getElem?_eq_getElem hi]
  rfl
theorem grF_end {zss : List (List Int)} {miss : Int} {out : List Int} (h : fnI zss miss out zss.length = none) : ∀ f, grF zss miss f out = out
  | 0 => rfl
  | f + 1 => by unfold grF; rw [h]
theorem grF_step {zss : List (List Int)} {miss : Int} {out : List Int} {r c f : Nat} (h : fnI zss miss out zss.length = some (r, c)) : grF zss miss (f + 1) out = grF zss miss f (out.set r (c : Int)) := by
  conv => lhs; unfold grF
  rw [h]
theorem RwL.at2 {w : World} {B b off : Nat} {zss : List (List Int)} (h : RwL w B (some ⟨b, off, none⟩) zss) {j : Nat} (hj : j < zss.length) : ∃ p c, w.cell? ⟨b, off + j, none⟩ = some (.slice p (gR zss j).length c) ∧ (gR zss j).length ≤ c ∧ Ints .i64 w B p (gR zss j) := by
  obtain ⟨b', off', p, c, e, -, h1, h2, h3⟩ := h.at_ hj
  simp only [Option.some.injEq, Addr.mk.injEq, and_true] at e
  obtain ⟨e1, e2⟩ := e
  subst e1 e2
  exact ⟨p, c, h1, h2, h3⟩
theorem rc_bd {zss : List (List Int)} {miss : Int} {out : List Int} {i j r c : Nat} (h : fnK zss miss out i (fnI zss miss out i) j = some (r, c)) : (r < i ∧ c < (gR zss r).length) ∨ (r = i ∧ c < j) := by
  have h1 := fnK_seen (i := i) (fnI_seen zss miss out i) j
  rw [h] at h1
  rcases h1.1 with ⟨e1, e2⟩ | ⟨e1, e2⟩
  · exact Or.inl ⟨e1, e2⟩
  · exact Or.inr ⟨e1, e2⟩
set_option maxRecDepth 100000 in
set_option maxHeartbeats 8000000 in
theorem sgr_any (w : World) (a : Option Addr) (cap n : Nat) (zss : List (List Int)) (hn : zss.length = n) (hl : n ≤ 9223372036854775807) (hr : ∀ j, j < zss.length → (gR zss j).length ≤ 9223372036854775807) (hx : RwL w w.heap.size a zss) (miss : Int) :
    Calls Try.prog 40 #[.slice a n cap, .int .i64 miss] w fun e w' => ∃ (g : Option Addr) (c : Nat), e = .returned (.tuple #[.slice g (grW zss miss).length c, .int .i64 (coC zss miss)]) ∧ OwnA w' w.heap.size w'.heap.size g c (grW zss miss) ∧ Below w.heap.size w w' := by
  obtain ⟨i0, hi, hz0, hz1, hz2⟩ := info_parts info_i64
  have KC := Lib.hid (prc_any w w.heap.size a cap n zss miss hn hl hr hx)
  have HX := Lib.hid hx
  have N1 := Lib.hid hn
  clear hx hn hl hr
  obtain ⟨k, hk⟩ : ∃ k, coC zss miss = k := ⟨_, rfl⟩
  have HK := Lib.hid hk
  by_cases h0 : k = 0
  rotate_left
  · have hd : (k != 0) = true := by simpa using h0
    have HN := Lib.hid (show ¬ coC zss miss = 0 by rw [hk]; exact h0)
    have HV : Hid (grW zss miss = []) := Lib.hid (by unfold grW; rw [if_neg HN.out])
    rw [hk] at KC ⊢
    clear hk
    go_enter Try.func40, Try.ntmps40
    go_wp2_with (go_at_call 83; (with_reducible refine Calls.mono KC.out ?_); rintro e w' ⟨rfl, q, rfl⟩)
    go_ret2
    exact ⟨none, 0, by rw [HV.out]; rfl, by rw [HV.out]; exact ownA_nil _ _ (Nat.le_refl _), bel_drewN (Below.refl _ _) _⟩
  subst h0
  obtain ⟨ha, m0, m1⟩ := coC_0 hk
  have h6 : n ≤ 6 := by have := ha.1; have := N1.out; omega
  have HA := Lib.hid ha
  have HV : Hid (grW zss miss = grV zss miss) := Lib.hid (by unfold grW; rw [if_pos hk])
  rw [hk] at KC ⊢
  clear hk ha
  go_enter Try.func40, Try.ntmps40
  go_wp2_with (go_at_call 83; (with_reducible refine Calls.mono KC.out ?_); rintro e w' ⟨rfl, q, rfl⟩)
  replace HX := Lib.hid (HX.out.drN q)
  obtain ⟨w1, hw1⟩ : ∃ u, w.drewN q = u := ⟨_, rfl⟩
  have HSZ : Hid (w1.heap.size = w.heap.size) := Lib.hid (by rw [← hw1]; rfl)
  have HW : Hid (Below w.heap.size w w1) := Lib.hid (by rw [← hw1]; exact bel_drewN (Below.refl _ _) _)
  replace HX : Hid (RwL w1 w1.heap.size a zss) := Lib.hid (by rw [← hw1]; exact HX.out)
  rw [hw1]
  clear hw1 KC
  go_loopw [7, 8] (fun o i wr => ∃ (k ge ce : Nat), k ≤ n ∧ i = .int .i64 k ∧ o = .slice (some ⟨ge, 0, none⟩) k ce ∧ RowG w1 2 1 ge ce k ((List.replicate k (-1)).map iv4) wr) (fun _ i _ => n - (intOf i).toNat)
  case atStart => exact ⟨0, w.heap.size, 0, by omega, rfl, rfl, by rw [← HSZ.out]; exact RowG.lit (Bk.new w1 _ _) (Nat.le_refl _) ((Below.refl _ _).alloc (Nat.le_refl _) _)⟩
  case round =>
    obtain ⟨k, ge, ce, hk, rfl, rfl, hR⟩ := hrel
    have HR := Lib.hid hR
    clear hR
    by_cases hlt : k < n
    · go_wp2_with (at_builtin; refine wpList_append_lies _ rfl _ _ 38 rfl w1.heap.size 2 i0 (.int .i64 0) 1 8 Try.underlying38 hi hz0 hz1 hz2 rfl (by decide) (.slice (some ⟨ge, 0, none⟩) k ce) k ((List.replicate k (-1)).map iv4) rfl (HR.out.own.alloc _) ⟨wr.heap.size, 0, none⟩ 1 1 [.int .i64 (-1)] rfl rfl (World.news_of_block (cs := #[.int .i64 (-1)]) (t := 2) (fr := (0, 0)) (heap_alloc_new wr _)) (by simp [Value.oneCell']) (by decide) (by unfold maxLen; omega) (by omega) (by simp; exact Nat.le_succ_of_le HR.out.bel.size) (wr.heap.size + 1) (by simp) ?_; intro g2 cp2 w9 hown hgrow hat hlt9; have HP9 := Lib.hid ((HR.out.on ((Below.refl _ _).alloc (Nat.le_refl _) _)).snoc hown hgrow); clear hown hgrow hat hlt9)
      go_roundw
      case rel => exact ⟨k + 1, g2, cp2, by omega, by go_num, rfl, by rw [List.replicate_succ', List.map_append]; exact HP9.out⟩
      case measure => simp [intOf] <;> omega
    · obtain rfl : k = n := by omega
      have HLO : Hid (w1.heap.size ≤ ge) := Lib.hid HR.out.lo
      go_wp2
      go_loopw [9, 10] (fun _ _ wr2 => ∃ (f : Nat) (out : List Int), out.length = k ∧ PrE zss out ∧ ngC out < f ∧ grF zss miss f out = grV zss miss ∧ RowG w1 2 1 ge ce k (out.map iv4) wr2) (fun _ _ wr2 => ngC (outW ge k wr2))
      case atStart => exact ⟨zss.length + 1, List.replicate k (-1), by simp, PrE_rep _ _, by
        unfold ngC
        have := List.length_filter_le (fun z : Int => decide (z < 0)) (List.replicate k (-1))
        rw [List.length_replicate] at this
        have := N1.out
        omega, by unfold grV; rw [N1.out], HR.out⟩
      case round =>
        obtain ⟨f, out, ho, hpe, hng, hgf, hR⟩ := hrel
        obtain ⟨wr2, rfl⟩ : ∃ u, u = wr := ⟨wr, rfl⟩
        have HO := Lib.hid ho
        have HPE := Lib.hid hpe
        have HGF := Lib.hid hgf
        have HNG := Lib.hid hng
        have HR2 := Lib.hid hR
        clear ho hpe hgf hng hR
        go_wp2
        have HX2 := Lib.hid (HX.out.below HR2.out.bel)
        go_loopw [9, 10, 11] (fun u v s wr3 => ∃ i : Nat, i ≤ k ∧ s = .int .i64 i ∧ rcR (fnI zss miss out i) u v ∧ ∃ q, wr3 = wr2.drewN q) (fun _ _ s _ => k - (intOf s).toNat)
        case atStart => exact ⟨0, by omega, rfl, ⟨rfl, rfl⟩, 0, rfl⟩
        case round =>
          obtain ⟨i, hik, rfl, hrc, q3, rfl⟩ := hrel
          by_cases hlt : i < k
          · obtain ⟨b, off, p, c, rfl, -, hc, hcc, hp⟩ := HX2.out.at_ (j := i) (by rw [N1.out]; exact hlt)
            have hd := gr_cell HO.out HR2.out hlt
            have hL6 := acP_rows HA.out i
            obtain ⟨L, hLe⟩ : ∃ L, (gR zss i).length = L := ⟨_, rfl⟩
            rw [hLe] at hc hcc hL6
            have HLE := Lib.hid hLe
            have HP := Lib.hid hp
            have HFI : Hid (fnI zss miss out (i + 1) = fnK zss miss out i (fnI zss miss out i) L) := Lib.hid (by rw [← hLe]; rfl)
            obtain ⟨z, hz⟩ : ∃ z, pI out i = z := ⟨_, rfl⟩
            rw [hz] at hd
            have HZ := Lib.hid hz
            have HRC := Lib.hid hrc
            clear hp hLe hz hrc
            go_wp2
            go_loopw [9, 10, 12] (fun u v s wr4 => ∃ j : Nat, j ≤ L ∧ s = .int .i64 j ∧ rcR (fnK zss miss out i (fnI zss miss out i) j) u v ∧ ∃ q, wr4 = wr2.drewN q) (fun _ _ s _ => L - (intOf s).toNat)
            case atStart => exact ⟨0, by omega, rfl, HRC.out, _, rfl⟩
            case round =>
              obtain ⟨j, hjL, rfl, hrc, q4, rfl⟩ := hrel
              by_cases hjl : j < L
              · obtain ⟨b3, off3, rfl, -, hy⟩ := HP.out.at_ (j := j) (by rw [HLE.out]; exact hjl)
                have KH : Hid (∀ q : Nat, Calls Try.prog 90 #[.slice (some ⟨ge, 0, none⟩) k ce, .int .i64 j] (wr2.drewN q) fun e w' => e = .returned (.bool (decide ((j : Int) ∈ out))) ∧ wr2.drewN q = w') := Lib.hid (fun q => lhs_any (wr2.drewN q) _ (some ⟨ge, 0, none⟩) ce k out j HO.out (by omega) ((ownA_row HR2.out HO.out (Nat.le_refl _)).ints.drewN q))
                obtain ⟨y, hye⟩ : ∃ y, (gR zss i).getD j 0 = y := ⟨_, rfl⟩
                rw [hye] at hy
                have HYE := Lib.hid hye
                have HST : Hid (fnK zss miss out i (fnI zss miss out i) (j + 1) = if frP zss miss out i j ∧ bet zss i j (fnK zss miss out i (fnI zss miss out i) j) then some (i, j) else fnK zss miss out i (fnI zss miss out i) j) := Lib.hid rfl
                have HFR : Hid (frP zss miss out i j ↔ (z < 0 ∧ ¬ (j : Int) ∈ out ∧ 0 ≤ y ∧ y < miss)) := Lib.hid (by unfold frP eAt; rw [HZ.out, HYE.out])
                have HBD : Hid (∀ r c, fnK zss miss out i (fnI zss miss out i) j = some (r, c) → (r < i ∧ c < (gR zss r).length) ∨ (r = i ∧ c < j)) := Lib.hid (fun r c h => rc_bd h)
                obtain ⟨rc, hrce⟩ : ∃ rc, fnK zss miss out i (fnI zss miss out i) j = rc := ⟨_, rfl⟩
                rw [hrce] at hrc HST HBD
                clear hrce hye HRC
                by_cases hz0 : z < 0
                rotate_left
                · have hz1 : decide (z < 0) = false := decide_eq_false hz0
                  have HEQ : Hid (fnK zss miss out i (fnI zss miss out i) (j + 1) = rc) := Lib.hid (by rw [HST.out, if_neg (fun h => by have h2 := HFR.out.1 h.1; exact hz0 h2.1)])
                  have HRC := Lib.hid hrc
                  clear KH
                  clear HST HBD HFR hrc
                  go_wp2
                  go_quiet (fail)
                  go_wp2
                  go_roundw
                  case rel => exact ⟨j + 1, by omega, by go_num, by rw [HEQ.out]; exact HRC.out, by first | exact ⟨_, rfl⟩ | exact ⟨_, World.drewN_drewN _ _ _⟩⟩
                  case measure => simp [intOf] <;> omega
                have hz1 : decide (z < 0) = true := decide_eq_true hz0
                cases hh : decide ((j : Int) ∈ out)
                rotate_left
                · replace KH : Hid (∀ q : Nat, Calls Try.prog 90 #[.slice (some ⟨ge, 0, none⟩) k ce, .int .i64 j] (wr2.drewN q) fun e w' => e = .returned (.bool true) ∧ wr2.drewN q = w') := Lib.hid (fun q => by have := KH.out q; rwa [hh] at this)
                  have HEQ : Hid (fnK zss miss out i (fnI zss miss out i) (j + 1) = rc) := Lib.hid (by rw [HST.out, if_neg (fun h => by have h2 := HFR.out.1 h.1; exact h2.2.1 (of_decide_eq_true hh))])
                  have HRC := Lib.hid hrc
                  clear hh
                  clear HST HBD HFR hrc
                  go_wp2_with (go_at_call 90; (with_reducible refine Calls.mono (KH.out _) ?_); rintro e w' ⟨rfl, rfl⟩)
                  go_quiet (fail)
                  go_wp2
                  go_roundw
                  case rel => exact ⟨j + 1, by omega, by go_num, by rw [HEQ.out]; exact HRC.out, by first | exact ⟨_, rfl⟩ | exact ⟨_, World.drewN_drewN _ _ _⟩⟩
                  case measure => simp [intOf] <;> omega
                replace KH : Hid (∀ q : Nat, Calls Try.prog 90 #[.slice (some ⟨ge, 0, none⟩) k ce, .int .i64 j] (wr2.drewN q) fun e w' => e = .returned (.bool false) ∧ wr2.drewN q = w') := Lib.hid (fun q => by have := KH.out q; rwa [hh] at this)
                have HNI := Lib.hid (of_decide_eq_false hh)
                clear hh
                by_cases hy0 : 0 ≤ y
                rotate_left
                · have hy1 : decide (0 ≤ y) = false := decide_eq_false hy0
                  have HEQ : Hid (fnK zss miss out i (fnI zss miss out i) (j + 1) = rc) := Lib.hid (by rw [HST.out, if_neg (fun h => by have h2 := HFR.out.1 h.1; exact hy0 h2.2.2.1)])
                  have HRC := Lib.hid hrc
                  clear HST HBD HFR hrc
                  go_wp2_with (go_at_call 90; (with_reducible refine Calls.mono (KH.out _) ?_); rintro e w' ⟨rfl, rfl⟩)
                  go_quiet (fail)
                  go_wp2
                  go_roundw
                  case rel => exact ⟨j + 1, by omega, by go_num, by rw [HEQ.out]; exact HRC.out, by first | exact ⟨_, rfl⟩ | exact ⟨_, World.drewN_drewN _ _ _⟩⟩
                  case measure => simp [intOf] <;> omega
                have hy1 : decide (0 ≤ y) = true := decide_eq_true hy0
                by_cases hym : y < miss
                rotate_left
                · have hy2 : decide (y < miss) = false := decide_eq_false hym
                  have HEQ : Hid (fnK zss miss out i (fnI zss miss out i) (j + 1) = rc) := Lib.hid (by rw [HST.out, if_neg (fun h => by have h2 := HFR.out.1 h.1; exact hym h2.2.2.2)])
                  have HRC := Lib.hid hrc
                  clear HST HBD HFR hrc
                  go_wp2_with (go_at_call 90; (with_reducible refine Calls.mono (KH.out _) ?_); rintro e w' ⟨rfl, rfl⟩)
                  go_quiet (fail)
                  go_wp2
                  go_roundw
                  case rel => exact ⟨j + 1, by omega, by go_num, by rw [HEQ.out]; exact HRC.out, by first | exact ⟨_, rfl⟩ | exact ⟨_, World.drewN_drewN _ _ _⟩⟩
                  case measure => simp [intOf] <;> omega
                have hy2 : decide (y < miss) = true := decide_eq_true hym
                have HF : Hid (frP zss miss out i j) := Lib.hid (HFR.out.2 ⟨hz0, HNI.out, hy0, hym⟩)
                clear HFR HNI
                rcases rc with _ | ⟨r0, c0⟩
                · obtain ⟨rfl, rfl⟩ := hrc
                  have HEQ : Hid (fnK zss miss out i (fnI zss miss out i) (j + 1) = some (i, j)) := Lib.hid (by rw [HST.out, if_pos ⟨HF.out, trivial⟩])
                  clear HST HBD HF
                  go_wp2_with (go_at_call 90; (with_reducible refine Calls.mono (KH.out _) ?_); rintro e w' ⟨rfl, rfl⟩)
                  go_quiet (fail)
                  go_wp2
                  go_roundw
                  case rel => exact ⟨j + 1, by omega, by go_num, by rw [HEQ.out]; exact ⟨rfl, rfl⟩, by first | exact ⟨_, rfl⟩ | exact ⟨_, World.drewN_drewN _ _ _⟩⟩
                  case measure => simp [intOf] <;> omega
                · obtain ⟨rfl, rfl⟩ := hrc
                  have hbd := HBD.out r0 c0 rfl
                  have hr0 : r0 < k := by omega
                  obtain ⟨p0, d0, hc0, hcc0, hp0⟩ := HX2.out.at2 (j := r0) (by rw [N1.out]; exact hr0)
                  have hcl : c0 < (gR zss r0).length := by
                    rcases hbd with ⟨-, h⟩ | ⟨rfl, h⟩
                    · exact h
                    · rw [HLE.out]; omega
                  obtain ⟨b4, off4, rfl, -, hy4⟩ := hp0.at_ (j := c0) hcl
                  obtain ⟨L0, hL0⟩ : ∃ L, (gR zss r0).length = L := ⟨_, rfl⟩
                  rw [hL0] at hc0 hcc0 hcl
                  obtain ⟨y4, hye4⟩ : ∃ y, (gR zss r0).getD c0 0 = y := ⟨_, rfl⟩
                  rw [hye4] at hy4
                  have HBE : Hid (bet zss i j (some (r0, c0)) ↔ y < y4) := Lib.hid (by unfold bet eAt; simp only; rw [HYE.out, hye4])
                  clear hp0 hL0 hye4 hbd
                  by_cases hyy : y < y4
                  · have hy5 : decide (y < y4) = true := decide_eq_true hyy
                    have HEQ : Hid (fnK zss miss out i (fnI zss miss out i) (j + 1) = some (i, j)) := Lib.hid (by rw [HST.out, if_pos ⟨HF.out, HBE.out.2 hyy⟩])
                    clear HST HBD HF
                    go_wp2_with (go_at_call 90; (with_reducible refine Calls.mono (KH.out _) ?_); rintro e w' ⟨rfl, rfl⟩)
                    go_quiet (fail)
                    go_wp2
                    go_roundw
                    case rel => exact ⟨j + 1, by omega, by go_num, by rw [HEQ.out]; exact ⟨rfl, rfl⟩, by first | exact ⟨_, rfl⟩ | exact ⟨_, World.drewN_drewN _ _ _⟩⟩
                    case measure => simp [intOf] <;> omega
                  · have hy5 : decide (y < y4) = false := decide_eq_false hyy
                    have HEQ : Hid (fnK zss miss out i (fnI zss miss out i) (j + 1) = some (r0, c0)) := Lib.hid (by rw [HST.out, if_neg (fun h => hyy (HBE.out.1 h.2))])
                    clear HST HBD HF
                    go_wp2_with (go_at_call 90; (with_reducible refine Calls.mono (KH.out _) ?_); rintro e w' ⟨rfl, rfl⟩)
                    go_quiet (fail)
                    go_wp2
                    go_roundw
                    case rel => exact ⟨j + 1, by omega, by go_num, by rw [HEQ.out]; exact ⟨rfl, rfl⟩, by first | exact ⟨_, rfl⟩ | exact ⟨_, World.drewN_drewN _ _ _⟩⟩
                    case measure => simp [intOf] <;> omega
              · obtain rfl : j = L := by omega
                have HR3 := Lib.hid hrc
                clear hrc HRC
                go_wp2
                go_roundw
                case rel => exact ⟨i + 1, by omega, by go_num, by rw [HFI.out]; exact HR3.out, by first | exact ⟨_, rfl⟩ | exact ⟨_, World.drewN_drewN _ _ _⟩⟩
                case measure => simp [intOf] <;> omega
          · obtain rfl : i = k := by omega
            have HGE : Hid (∀ f, fnI zss miss out zss.length = none → grF zss miss f out = out) := Lib.hid (fun f h => grF_end h f)
            have hse := fnI_seen zss miss out i
            have HFN : Hid (zss.length = i) := Lib.hid N1.out
            obtain ⟨rc, hrce⟩ : ∃ rc, fnI zss miss out i = rc := ⟨_, rfl⟩
            have HRCE := Lib.hid hrce
            rw [hrce] at hrc hse
            clear hrce
            rcases rc with _ | ⟨r0, c0⟩
            · obtain ⟨rfl, rfl⟩ := hrc
              have HFIN : Hid (grW zss miss = out) := Lib.hid (by rw [HV.out, ← HGF.out]; exact HGE.out f (by rw [HFN.out]; exact HRCE.out))
              have HB9 : Hid (Below w.heap.size w wr2) := Lib.hid (HW.out.trans (HR2.out.bel.mono (Nat.le_of_eq HSZ.out.symm)))
              have HOA := Lib.hid (ownA_row HR2.out HO.out (Nat.le_of_eq HSZ.out.symm))
              clear hse
              go_wp2
              go_ret2
              exact ⟨some ⟨ge, 0, none⟩, ce, by rw [HFIN.out, HO.out]; rfl, by rw [HFIN.out]; exact HOA.out.on (bel_drewN (Below.refl _ _) _), bel_drewN HB9.out _⟩
            · obtain ⟨rfl, rfl⟩ := hrc
              obtain ⟨⟨hs1, hs2⟩, hs3, -⟩ := hse
              have hri : r0 < i := hs1
              have hng2 := ngC_set (out := out) (r := r0) (c := (c0 : Int)) (by rw [HO.out]; exact hs1) hs3.1 (by omega)
              have HPE2 := Lib.hid (PrE_set HPE.out (by rw [HO.out]; exact hs1) hs2 hs3)
              have HNG2 := Lib.hid hng2
              have hfr : wr2.frozen? ⟨ge, r0, none⟩ = false := by obtain ⟨cur, hb⟩ := HR2.out.blk; exact hb.frozen _
              have hcl := gr_cell HO.out HR2.out hri
              have HGF2 : Hid (grF zss miss (f - 1) (out.set r0 (c0 : Int)) = grV zss miss) := Lib.hid (by
                have := HNG.out
                have := HNG2.out
                obtain ⟨f', rfl⟩ : ∃ f', f = f' + 1 := ⟨f - 1, by omega⟩
                rw [Nat.add_sub_cancel, ← grF_step (by rw [HFN.out]; exact HRCE.out)]
                exact HGF.out)
              clear hs2 hs3 hng2
              go_wp2
              go_roundw
              case rel => exact ⟨f - 1, out.set r0 (c0 : Int), by rw [List.length_set]; exact HO.out, HPE2.out, by have := HNG.out; have := HNG2.out; omega, HGF2.out, by rw [List.map_set]; exact (HR2.out.on (bel_drewN (Below.refl _ _) _)).setV r0 _⟩
              case measure =>
                have e2 := outW_eq HO.out HR2.out
                have e1 : ∀ W, RowG w1 2 1 ge ce i ((out.set r0 (c0 : Int)).map iv4) W → outW ge i W = out.set r0 (c0 : Int) := fun W h => outW_eq (by rw [List.length_set]; exact HO.out) h
                show ngC (outW ge i _) < ngC (outW ge i wr2)
                rw [e2, e1]
                · have := HNG2.out; omega
                · rw [List.map_set]; exact (HR2.out.on (bel_drewN (Below.refl _ _) _)).setV r0 _
end Go.Proofs.Ytlahgdhofakinaa
