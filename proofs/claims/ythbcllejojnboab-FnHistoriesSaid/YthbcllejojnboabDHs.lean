/- The model's draws of events and of their letters. -/
import Derived.Test.YthbcllejojnboabDrw
import Derived.Test.YthbcllejojnboabDmg
import Derived.Test.YthbcllejojnboabHst
import Derived.Test.YthbcllejojnboabLys
import Derived.Deep.AppendLies
import Derived.Deep.OwnRows
import Derived.OwnWalk
import Derived.LoopTactic
import Derived.Outline
namespace Go.Proofs.Ythbcllejojnboab
open Go.ChangeShapes Go.WideShapes Go.ChangeAt Go.RowKit Go.Shelf Num
set_option linter.unusedVariables false
theorem srcB {w w1 : World} {s B : Nat} (h : Src w s) (hb : Below B w w1) (hs : s < B) : Src w1 s := by
  obtain ⟨a, cap, zs, k, seed, hb0, hc, rest⟩ := h
  exact ⟨a, cap, zs, k, seed, (hb.block s hs).trans hb0, hc.below hb (Nat.le_of_lt hs), rest⟩
theorem far_grown {w wz w9 : World} {s g : Nat} (h : w.grownBy wz (some s)) (hg : wz.grownBy w9 (some g)) (hgw : w.heap.size ≤ g) : w.grownBy w9 (some s) :=
  ⟨hg.os.trans h.os, hg.tape.trans h.tape, hg.output.trans h.output, Nat.le_trans h.size hg.size, fun k hk hne => (hg.block k (Nat.lt_of_lt_of_le hk h.size) (fun e => by injection e; omega)).trans (h.block k hk hne)⟩
/-- the events drawn so far -/
structure EvL (w : World) (s g c : Nat) (ps : List Int) (wr : World) : Prop where
  own : wr.ownsRow w.heap.size 2 1 (.slice (some ⟨g, 0, none⟩) ps.length c) ps.length (ps.map iv4)
  src : Src wr s
  gro : w.grownBy wr (some s)
theorem EvL.lo {w wr : World} {s g c : Nat} {ps : List Int} (h : EvL w s g c ps wr) : w.heap.size ≤ g := (h.own.lt g rfl).1
theorem EvL.up {w wr : World} {s g c : Nat} {ps : List Int} (h : EvL w s g c ps wr) : g < wr.heap.size := (h.own.lt g rfl).2
theorem EvL.size {w wr : World} {s g c : Nat} {ps : List Int} (h : EvL w s g c ps wr) : w.heap.size ≤ wr.heap.size := h.gro.size
theorem EvL.next {w wr wz : World} {s g c : Nat} {ps : List Int} (h : EvL w s g c ps wr) (hs : s < w.heap.size) (hg : wr.grownBy wz (some s)) (hz : Src wz s) : EvL w s g c ps wz :=
  ⟨h.own.kept hg (Or.inr (by simp [Value.ownBlock]; have := h.lo; omega)), hz, grown_trans h.gro hg⟩
theorem EvL.alloc {w wr : World} {s g c : Nat} {ps : List Int} (h : EvL w s g c ps wr) (o : Obj) : EvL w s g c ps (wr.alloc o) := ⟨h.own.alloc o, h.src.alloc o, grown_alloc h.gro o⟩
theorem EvL.snoc {w wz w9 : World} {s g c g2 c2 : Nat} {ps : List Int} {x : Int} {o : Obj} (h : EvL w s g c ps wz) (hs : s < w.heap.size)
    (hown : w9.ownsRow w.heap.size 2 1 (.slice (some ⟨g2, 0, none⟩) (ps.length + 1) c2) (ps.length + 1) (ps.map iv4 ++ [.int .i64 x])) (hgrow : (wz.alloc o).grownBy w9 (some g)) : EvL w s g2 c2 (ps ++ [x]) w9 :=
  ⟨by simpa [iv4] using hown, srcB (h.src.alloc o) (below_of_grown hgrow (Nat.le_refl _) (by have := h.up; simp; omega)) (by have := h.lo; omega), far_grown (grown_alloc h.gro o) hgrow h.lo⟩
theorem EvL.ints {w wr : World} {s g c : Nat} {ps : List Int} (h : EvL w s g c ps wr) : Ints .i64 wr wr.heap.size (some ⟨g, 0, none⟩) ps := own_ints h.own
theorem ints_rowN {w : World} {g N : Nat} {L : List Int} (hL : L.length = N) (h : w.rowIs g 2 N (cellsOf L)) : Ints .i64 w w.heap.size (some ⟨g, 0, none⟩) L := by subst hL; exact Ints.of_rowIs h
/-- a row of a made list that is filled -/
structure FilL (w : World) (s g N : Nat) (L : List Int) (wr : World) : Prop where
  row : wr.rowIs g 2 N (cellsOf L)
  src : Src wr s
  gro : w.grownBy wr (some s)
theorem FilL.set {w wr : World} {s g N : Nat} {L : List Int} (h : FilL w s g N L wr) (hs : s < w.heap.size) (hg : w.heap.size ≤ g) (hL : L.length = N) (k : Nat) (hk : k < N) (x : Int) : FilL w s g N (L.set k x) (wr.setCell ⟨g, k, none⟩ (.int .i64 x)) :=
  ⟨(h.row.set k (.int .i64 x)).congr (fun i hi => by
    unfold cellsOf
    by_cases e : i = k
    · subst e; rw [if_pos rfl, List.getD_eq_getElem?_getD, List.getElem?_set_self (by omega)]; rfl
    · rw [if_neg e, List.getD_eq_getElem?_getD, List.getD_eq_getElem?_getD, List.getElem?_set_ne (fun e' => e e'.symm)]),
   srcB h.src (below_of_grown (grown_cell (grown_id _ _) _ _) (Nat.le_refl _) (by have := h.row.lt; omega)) (by omega), far_grown h.gro (grown_cell (grown_id _ _) _ _) hg⟩
/-- what a draw of events leaves -/
def EvDrawn (w : World) (e : Ending) (w' : World) : Prop := ∃ (a : Option Addr) (c : Nat) (L : List Int), e = .returned (.slice a L.length c) ∧ L.length ≤ 101 ∧ Ints .i64 w' w'.heap.size a L ∧ Below w.heap.size w w'

set_option maxRecDepth 100000 in
set_option maxHeartbeats 8000000 in
theorem dht_any (w : World) (a : Option Addr) (cap : Nat) (zs : List Int) (h : Code8 w w.heap.size a zs) :
    Calls Try.prog 7 #[.slice a zs.length cap] w (EvDrawn w) := by
  have H := Lib.hid h
  clear h
  obtain ⟨j0, hj0, hy0, hy1, hy2⟩ := info_parts info_i64h
  go_enter Try.func7, Try.ntmps7
  go_wp2_with fail
  refine (from_any _ _ _ zs H.out).mono ?_
  rintro e w1 ⟨s, rfl, hs, hsrc, hb⟩
  have hlt := hsrc.lt
  have S1 := Lib.hid hsrc
  have B1 := Lib.hid hb
  have HB : Hid (∀ w' : World, w1.grownBy w' (some s) → Below w.heap.size w w') := Lib.hid (fun w' hg => hb.trans (below_of_grown hg hs hb.size))
  clear hsrc hb
  go_wp2_with fail
  have HL0 : Hid (EvL w1 s w1.heap.size 0 [] (w1.alloc (.cells #[] 2))) := Lib.hid ⟨World.ownsRow_lit (base := w1.heap.size) (e := 2) (size := 1) w1 #[] 0 (Nat.le_refl _) (by decide) (by decide), S1.out.alloc _, grown_alloc (grown_refl _ _) _⟩
  refine (nxt_any _ _ _ HL0.out.src).mono ?_
  rintro e w2 ⟨n, rfl, hn0, hn1, -, hs2, hg2⟩
  have hn := hn1 (by omega)
  have HL1 := Lib.hid (HL0.out.next hlt hg2 hs2)
  clear hs2 hg2 hn1 HL0
  go_wp2_with fail
  go_loopw [4, 5] (fun v i wr => ∃ (m : Int) (g c : Nat) (ps : List Int), i = .int .i64 m ∧ v = .slice (some ⟨g, 0, none⟩) ps.length c ∧ 0 ≤ m ∧ (ps.length : Int) + m ≤ 11 ∧ EvL w1 s g c ps wr) (fun _ i _ => (intOf i).toNat)
  case atStart => exact ⟨n, w1.heap.size, 0, [], rfl, rfl, hn0, by simp; omega, HL1.out⟩
  case round =>
    obtain ⟨m, g, c, ps, rfl, rfl, hm0, hm, hL⟩ := hrel
    have HL := Lib.hid hL
    clear hL HL1
    by_cases hmp : 0 < m
    · go_wp2_with fail
      refine (nxt_any _ _ _ HL.out.src).mono ?_
      rintro e wz ⟨x, rfl, hx0, hx1, -, hs2, hg2⟩
      have hx := hx1 (by omega)
      replace HL := Lib.hid (HL.out.next hlt hg2 hs2)
      clear hs2 hg2 hx1
      go_wp2_with (at_builtin; refine wpList_append_lies _ rfl _ _ 24 rfl w1.heap.size 2 j0 (.int .i64 0) 1 8 Try.underlying24 hj0 hy0 hy1 hy2 rfl (by decide) (.slice (some ⟨g, 0, none⟩) ps.length c) ps.length (ps.map iv4) rfl (HL.out.own.alloc _) ⟨wz.heap.size, 0, none⟩ 1 1 [.int .i64 (1 + x)] rfl rfl (World.news_of_block (cs := #[.int .i64 (1 + x)]) (t := 2) (fr := (0, 0)) (heap_alloc_new wz _)) (by simp [Value.oneCell']) (by omega) (by unfold maxLen; omega) (by omega) (by simp; exact Nat.le_succ_of_le HL.out.size) (wz.heap.size + 1) (by simp) ?_; intro g2 cp2 w9 hown hgrow hat hlt9; have HL9 := Lib.hid (HL.out.snoc hlt hown hgrow); clear hown hgrow hat hlt9)
      go_wp2
      go_roundw
      case rel => exact ⟨m - 1, g2, cp2, ps ++ [1 + x], rfl, by simp, by omega, by simp; omega, HL9.out⟩
      case measure => simp [intOf]; omega
    · go_wp2_with fail
      refine (nxt_any _ _ _ HL.out.src).mono ?_
      rintro e w3 ⟨q, rfl, hq0, hq1, -, hs2, hg2⟩
      replace HL := Lib.hid (HL.out.next hlt hg2 hs2)
      clear hs2 hg2 hq1
      by_cases hqa : q = 0
      · subst hqa
        go_wp2_with fail
        refine (pick_new _ s _ 2 [0, 5] #[.int .i64 0, .int .i64 5] HL.out.src rfl (by decide) (by decide) (fun j hj => by rcases (by omega : j = 0 ∨ j = 1) with rfl | rfl <;> rfl)).mono ?_
        rintro e w4 ⟨j, hj, rfl, hs2, hg2⟩
        obtain ⟨x, hx⟩ : ∃ x : Int, [0, 5].getD j 0 = x := ⟨_, rfl⟩
        rw [hx]
        replace HL := Lib.hid ((HL.out.alloc _).next hlt hg2 hs2)
        clear hs2 hg2 hx hj
        go_wp2_with (at_builtin; refine wpList_append_lies _ rfl _ _ 24 rfl w1.heap.size 2 j0 (.int .i64 0) 1 8 Try.underlying24 hj0 hy0 hy1 hy2 rfl (by decide) (.slice (some ⟨g, 0, none⟩) ps.length c) ps.length (ps.map iv4) rfl (HL.out.own.alloc _) ⟨w4.heap.size, 0, none⟩ 1 1 [.int .i64 x] rfl rfl (World.news_of_block (cs := #[.int .i64 x]) (t := 2) (fr := (0, 0)) (heap_alloc_new w4 _)) (by simp [Value.oneCell']) (by omega) (by unfold maxLen; omega) (by omega) (by simp; exact Nat.le_succ_of_le HL.out.size) (w4.heap.size + 1) (by simp) ?_; intro g2 cp2 w9 hown hgrow hat hlt9; have HL9 := Lib.hid (HL.out.snoc hlt hown hgrow); clear hown hgrow hat hlt9)
        go_wp2
        go_ret
        exact ⟨some ⟨g2, 0, none⟩, cp2, ps ++ [x], by simp, by simp; omega, HL9.out.ints, HB.out _ HL9.out.gro⟩
      · have hqf : (q == 0) = false := by simpa using hqa
        by_cases hqb : q = 1
        · subst hqb
          go_wp2_with fail
          refine (nxt_any _ _ _ HL.out.src).mono ?_
          rintro e w4 ⟨r, rfl, hr0, hr1, -, hs2, hg2⟩
          have hr := hr1 (by omega)
          replace HL := Lib.hid (HL.out.next hlt hg2 hs2)
          clear hs2 hg2 hr1
          rcases (by omega : r = 0 ∨ r = 1) with rfl | rfl
          · have hmk : ∀ w, (Instr.makeSlice 24 (.int .i64 100) (.int .i64 100)).run Try.prog w = .ok (.slice (some ⟨w.heap.size, 0, none⟩) 100 100) (w.alloc (.cells (madeCells #[.int .i64 0] 100) 2)) := fun w => run_make_row' (P := Try.prog) 24 2 (.int .i64 0) 8 Try.underlying24 info_i64h rfl .i64 .i64 100 (by decide) (by decide) w
            go_upto_region 12 with fail
            have hF : FilL w1 s w4.heap.size 100 (List.replicate 100 0) (w4.alloc (.cells (madeCells #[.int .i64 0] 100) 2)) := ⟨(show (w4.alloc (.cells (madeCells #[.int .i64 0] 100) 2)).rowIs w4.heap.size 2 100 (fun _ => .int .i64 0) from World.rowIs_made _ _ _ _).congr (fun i hi => by
              unfold cellsOf; rw [List.getD_eq_getElem?_getD, List.getElem?_replicate, if_pos hi]; rfl), HL.out.src.alloc _, grown_alloc HL.out.gro _⟩
            generalize hW : World.alloc _ _ = W at hF ⊢
            obtain ⟨gR, hg⟩ : ∃ g, g = w4.heap.size := ⟨_, rfl⟩
            have hgl : w1.heap.size ≤ gR := by rw [hg]; exact HL.out.size
            rw [← hg] at hF ⊢
            have HF := Lib.hid hF
            clear hF hW hg hmk HL
            go_wp2_with fail
            go_loopw [6] (fun i wr => ∃ (k : Nat) (L : List Int), i = .int .i64 (k : Int) ∧ k ≤ 100 ∧ L.length = 100 ∧ FilL w1 s gR 100 L wr) (fun i _ => 100 - (intOf i).toNat)
            case atStart => exact ⟨0, List.replicate 100 0, rfl, by omega, by simp, HF.out⟩
            case round =>
              obtain ⟨k, L, rfl, hk, hLN, hF⟩ := hrel
              have HF2 := Lib.hid hF
              clear HF
              by_cases hkN : k < 100
              · have ho := hF.row.cell hkN
                have hf := hF.row.frozen k
                obtain ⟨u, hu⟩ : ∃ u, cellsOf L k = u := ⟨_, rfl⟩
                rw [hu] at ho
                have ik : (k : Int) < 100 := by omega
                clear hF hu
                go_wp2
                go_roundw
                case rel => exact ⟨k + 1, L.set k 1, by go_num, by omega, by simpa using hLN, HF2.out.set hlt hgl hLN k hkN 1⟩
                case measure => simp [intOf]; omega
              · have ik : ¬ (k : Int) < 100 := by omega
                clear hF
                go_wp2
                go_ret
                exact ⟨some ⟨gR, 0, none⟩, 100, L, by rw [hLN]; rfl, by omega, ints_rowN hLN HF2.out.row, HB.out _ HF2.out.gro⟩
          · have hmk : ∀ w, (Instr.makeSlice 24 (.int .i64 101) (.int .i64 101)).run Try.prog w = .ok (.slice (some ⟨w.heap.size, 0, none⟩) 101 101) (w.alloc (.cells (madeCells #[.int .i64 0] 101) 2)) := fun w => run_make_row' (P := Try.prog) 24 2 (.int .i64 0) 8 Try.underlying24 info_i64h rfl .i64 .i64 101 (by decide) (by decide) w
            go_upto_region 12 with fail
            have hF : FilL w1 s w4.heap.size 101 (List.replicate 101 0) (w4.alloc (.cells (madeCells #[.int .i64 0] 101) 2)) := ⟨(show (w4.alloc (.cells (madeCells #[.int .i64 0] 101) 2)).rowIs w4.heap.size 2 101 (fun _ => .int .i64 0) from World.rowIs_made _ _ _ _).congr (fun i hi => by
              unfold cellsOf; rw [List.getD_eq_getElem?_getD, List.getElem?_replicate, if_pos hi]; rfl), HL.out.src.alloc _, grown_alloc HL.out.gro _⟩
            generalize hW : World.alloc _ _ = W at hF ⊢
            obtain ⟨gR, hg⟩ : ∃ g, g = w4.heap.size := ⟨_, rfl⟩
            have hgl : w1.heap.size ≤ gR := by rw [hg]; exact HL.out.size
            rw [← hg] at hF ⊢
            have HF := Lib.hid hF
            clear hF hW hg hmk HL
            go_wp2_with fail
            go_loopw [6] (fun i wr => ∃ (k : Nat) (L : List Int), i = .int .i64 (k : Int) ∧ k ≤ 101 ∧ L.length = 101 ∧ FilL w1 s gR 101 L wr) (fun i _ => 101 - (intOf i).toNat)
            case atStart => exact ⟨0, List.replicate 101 0, rfl, by omega, by simp, HF.out⟩
            case round =>
              obtain ⟨k, L, rfl, hk, hLN, hF⟩ := hrel
              have HF2 := Lib.hid hF
              clear HF
              by_cases hkN : k < 101
              · have ho := hF.row.cell hkN
                have hf := hF.row.frozen k
                obtain ⟨u, hu⟩ : ∃ u, cellsOf L k = u := ⟨_, rfl⟩
                rw [hu] at ho
                have ik : (k : Int) < 101 := by omega
                clear hF hu
                go_wp2
                go_roundw
                case rel => exact ⟨k + 1, L.set k 1, by go_num, by omega, by simpa using hLN, HF2.out.set hlt hgl hLN k hkN 1⟩
                case measure => simp [intOf]; omega
              · have ik : ¬ (k : Int) < 101 := by omega
                clear hF
                go_wp2
                go_ret
                exact ⟨some ⟨gR, 0, none⟩, 101, L, by rw [hLN]; rfl, by omega, ints_rowN hLN HF2.out.row, HB.out _ HF2.out.gro⟩
        · have hqg : (q == 1) = false := by simpa using hqb
          go_wp2
          go_ret
          exact ⟨some ⟨g, 0, none⟩, c, ps, rfl, by omega, HL.out.ints, HB.out _ HL.out.gro⟩
/-- what a draw of letters leaves -/
def LtDrawn (w : World) (e : Ending) (w' : World) : Prop := ∃ t : ByteArray, e = .returned (.string t) ∧ t.size ≤ 2000 ∧ Below w.heap.size w w'
theorem hstT_size (L : List Int) : (hstT L).size ≤ 100 := by
  unfold hstT
  cases h : hOk L
  · exact Nat.zero_le _
  · have : L.length ≤ 100 := by unfold hOk at h; simp at h; exact h.1
    simpa [ByteArray.size] using this
set_option maxRecDepth 100000 in
set_option maxHeartbeats 4000000 in
theorem dhr_any (w : World) (a : Option Addr) (cap : Nat) (zs : List Int) (h : Code8 w w.heap.size a zs) :
    Calls Try.prog 10 #[.slice a zs.length cap] w (LtDrawn w) := by
  have H := Lib.hid h
  clear h
  go_enter Try.func10, Try.ntmps10
  go_wp2_with fail
  refine (from_any _ _ _ zs H.out).mono ?_
  rintro e w1 ⟨s, rfl, hs, hsrc, hb⟩
  have hlt := hsrc.lt
  have S1 := Lib.hid hsrc
  have B1 := Lib.hid hb
  have HC := Lib.hid ((H.out.below hb (Nat.le_refl _)).more hb.size)
  clear hsrc hb
  go_wp2_with fail
  refine (dht_any _ _ _ zs HC.out).mono ?_
  rintro e w2 ⟨a2, c2, L, rfl, hL, hz, hb⟩
  have S2 := Lib.hid (srcB S1.out hb hlt)
  have B2 := Lib.hid (bel_end B1.out hb)
  have HZ := Lib.hid hz
  clear hz hb
  go_wp2_with fail
  refine (sht_any _ _ _ L (by omega) HZ.out).mono ?_
  rintro e w3 ⟨rfl, hb⟩
  have S3 := Lib.hid (srcB S2.out hb S2.out.lt)
  have B3 := Lib.hid (bel_end B2.out hb)
  have hsz := hstT_size L
  obtain ⟨t, ht⟩ : ∃ t, hstT L = t := ⟨_, rfl⟩
  rw [ht] at hsz ⊢
  clear hb ht
  have hs3 : w.heap.size ≤ s := hs
  go_wp2_with fail
  refine (nxt_any _ _ _ S3.out).mono ?_
  rintro e w4 ⟨q, rfl, hq0, hq1, -, hs4, hg4⟩
  have S4 := Lib.hid hs4
  have B4 := Lib.hid (B3.out.trans (below_of_grown hg4 hs3 B3.out.size))
  clear hs4 hg4 hq1
  by_cases hqa : q = 0
  · subst hqa
    go_wp2_with fail
    refine (dmg_any _ _ t S4.out (by omega)).mono ?_
    rintro e w5 ⟨t2, rfl, ht2, hs5, hg5⟩
    have B5 := Lib.hid (B4.out.trans (below_of_grown hg5 hs3 B4.out.size))
    clear hs5 hg5
    go_wp2
    go_ret
    exact ⟨t2, rfl, by omega, B5.out⟩
  · have hqf : (q == 0) = false := by simpa using hqa
    go_wp2
    go_ret
    exact ⟨t, rfl, by omega, B4.out⟩
end Go.Proofs.Ythbcllejojnboab
