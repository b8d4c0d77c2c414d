/- The contract of the model's draw of a list of intervals. -/
import Derived.Test.YthbcllejojnboaaDrw
import Derived.Test.YthbcllejojnboaaIvc
import Derived.Deep.AppendLies
import Derived.OwnWalk
import Derived.LoopTactic
import Derived.Outline
namespace Go.Proofs.Ythbcllejojnboaa
open Go.ChangeShapes Go.WideShapes Go.ChangeAt Go.RowKit
set_option linter.unusedVariables false
/-- the pairs as cells, one behind the other -/
def flatP (ps : List (Int × Int)) : List Value := ps.flatMap fun p => [.int .i64 p.1, .int .i64 p.2]
theorem flatP_snoc (ps : List (Int × Int)) (x y : Int) : flatP (ps ++ [(x, y)]) = flatP ps ++ [.int .i64 x, .int .i64 y] := by simp [flatP]
theorem flatP_at (ps : List (Int × Int)) : ∀ j, j < ps.length → (flatP ps)[j * 2]? = some (.int .i64 (ps.getD j (0, 0)).1) ∧ (flatP ps)[j * 2 + 1]? = some (.int .i64 (ps.getD j (0, 0)).2) := by
  induction ps with
  | nil => intro j hj; simp at hj
  | cons p ps ih =>
    intro j hj
    cases j with
    | zero => exact ⟨rfl, rfl⟩
    | succ j =>
      have h := ih j (by simpa using hj)
      have e1 : (flatP (p :: ps))[(j + 1) * 2]? = (flatP ps)[j * 2]? := by
        rw [show (j + 1) * 2 = j * 2 + 1 + 1 by omega]; rfl
      have e2 : (flatP (p :: ps))[(j + 1) * 2 + 1]? = (flatP ps)[j * 2 + 1]? := by
        rw [show (j + 1) * 2 + 1 = j * 2 + 1 + 1 + 1 by omega]; rfl
      rw [e1, e2]
      exact h
theorem addr_add0 (g j : Nat) : (⟨g, 0, none⟩ : Addr).add j = ⟨g, j, none⟩ := by unfold Addr.add; split <;> simp_all
theorem Ivs.of_own {w : World} {base g cap : Nat} {e : TypeId} {ps : List (Int × Int)} (h : w.ownsRow base e 2 (.slice (some ⟨g, 0, none⟩) ps.length cap) ps.length (flatP ps)) : Ivs w w.heap.size (some ⟨g, 0, none⟩) ps := fun hp =>
  ⟨g, 0, rfl, (h.lt g rfl).2, fun j hj => by
    have hc := h.cells (g := g) rfl
    have hf := flatP_at ps j hj
    have h1 := hc _ _ hf.1
    have h2 := hc _ _ hf.2
    rw [addr_add0] at h1 h2
    exact ⟨by rw [Nat.zero_add]; exact h1, by rw [Nat.zero_add]; exact h2⟩⟩
theorem Src.keepB {w w1 : World} {s B : Nat} (h : Src w s) (hb : Below B w w1) (hs : s < B) : Src w1 s := by
  obtain ⟨a, cap, zs, k, seed, hb0, hc, rest⟩ := h
  exact ⟨a, cap, zs, k, seed, (hb.block s hs).trans hb0, hc.below hb (Nat.le_of_lt hs), rest⟩
theorem grown_far {w wz w9 : World} {s g : Nat} (h : w.grownBy wz (some s)) (hg : wz.grownBy w9 (some g)) (hgw : w.heap.size ≤ g) : w.grownBy w9 (some s) :=
  ⟨hg.os.trans h.os, hg.tape.trans h.tape, hg.output.trans h.output, Nat.le_trans h.size hg.size, fun k hk hne => (hg.block k (Nat.lt_of_lt_of_le hk h.size) (fun e => by injection e; omega)).trans (h.block k hk hne)⟩
/-- the list drawn so far -/
def LstRel (w : World) (s : Nat) (v : Value) (m : Int) (wr : World) : Prop :=
  ∃ (g cap : Nat) (ps : List (Int × Int)), v = .slice (some ⟨g, 0, none⟩) ps.length cap ∧ (ps.length : Int) + m ≤ 7 ∧ 0 ≤ m ∧ ps.length ≤ cap ∧ wr.ownsRow w.heap.size 25 2 (.slice (some ⟨g, 0, none⟩) ps.length cap) ps.length (flatP ps) ∧ Src wr s ∧ w.grownBy wr (some s)

/-- the list drawn so far, one element longer -/
theorem LstRel.snoc {w wz w9 : World} {s g g2 cap2 : Nat} {ps : List (Int × Int)} {x y m : Int} {o : Obj} (hs : s < w.heap.size) (hgw : w.heap.size ≤ g) (hm : (ps.length : Int) + m ≤ 7) (hm0 : 0 < m)
    (hsrc : Src wz s) (hgz : w.grownBy wz (some s)) (hgz2 : g < wz.heap.size) (hown : w9.ownsRow w.heap.size 25 2 (.slice (some ⟨g2, 0, none⟩) (ps.length + 1) cap2) (ps.length + 1) (flatP ps ++ [.int .i64 x, .int .i64 y])) (hgrow : (wz.alloc o).grownBy w9 (some g)) :
    LstRel w s (.slice (some ⟨g2, 0, none⟩) (ps.length + 1) cap2) (m - 1) w9 := by
  have hcap : ps.length + 1 ≤ cap2 := by
    rcases hown.2 with ⟨h, _⟩ | ⟨g', cap', cur, h, _, _, hle, _⟩
    · simp at h
    · simp only [Value.slice.injEq] at h
      omega
  refine ⟨g2, cap2, ps ++ [(x, y)], by simp, by simp; omega, by omega, by simpa using hcap, by rw [flatP_snoc]; simpa using hown, ?_, grown_far (grown_alloc hgz o) hgrow hgw⟩
  exact (hsrc.alloc o).keepB (below_of_grown hgrow (Nat.le_refl _) (by simp; omega)) (by omega)
/-- what a draw of a list of intervals leaves -/
def IvsDrawn (w : World) (s : Nat) (e : Ending) (w' : World) : Prop :=
  ∃ (a : Option Addr) (cap : Nat) (ps : List (Int × Int)), e = .returned (.slice a ps.length cap) ∧ ps.length ≤ 201 ∧ ps.length ≤ cap ∧ Ivs w' w'.heap.size a ps ∧ Src w' s ∧ w.grownBy w' (some s)
theorem flat_zeros (n k i : Nat) : flat (List.replicate n (0, 0)) k i = .int .i64 0 := by
  have e : (List.replicate n ((0 : Int), (0 : Int))).getD (i / 2) (0, 0) = (0, 0) := by
    rw [List.getD_eq_getElem?_getD, List.getElem?_replicate]
    split <;> rfl
  unfold flat
  rw [e]
  split
  · split <;> rfl
  · rfl
theorem made_list {w w3 : World} {s : Nat} (n : Nat) (hn : n ≤ 201) (hs : s < w.heap.size) (h : Src w3 s) (hg : w.grownBy w3 (some s)) :
    IvsDrawn w s (.returned (.slice (some ⟨w3.heap.size, 0, none⟩) n n)) (w3.alloc (.cells (madeCells #[.int .i64 0, .int .i64 0] (n * 2)) 25)) := by
  have hr := World.rowIs_alloc w3 (madeCells #[.int .i64 0, .int .i64 0] (n * 2)) 25 _ (made_zero _)
  rw [size_madeCells] at hr
  refine ⟨some ⟨w3.heap.size, 0, none⟩, n, List.replicate n (0, 0), by simp, by simpa using hn, by simp, Ivs.of_flat (t := 25) ?_, h.alloc _, grown_alloc hg _⟩
  rw [List.length_replicate]
  exact hr.congr (fun i hi => (flat_zeros n n i).symm)
set_option maxRecDepth 100000 in
set_option maxHeartbeats 4000000 in
theorem dls_any (w : World) (s : Nat) (h : Src w s) :
    Calls Try.prog 65 #[.pointer (some ⟨s, 0, none⟩)] w (IvsDrawn w s) := by
  have hlt := h.lt
  have HS := Lib.hid h
  clear h
  go_enter Try.func65, Try.ntmps65
  go_wp2_with fail
  have hown := World.ownsRow_lit (base := w.heap.size) (e := 25) (size := 2) w #[] 0 (Nat.le_refl _) (by decide) (by decide)
  refine (nxt_any _ _ _ (HS.out.alloc _)).mono ?_
  rintro e w1 ⟨n, rfl, hn0, hn1, -, hs, hg⟩
  have hn := hn1 (by omega)
  have HR : Hid (LstRel w s (.slice (some ⟨w.heap.size, 0, none⟩) 0 0) n w1) := Lib.hid ⟨w.heap.size, 0, [], rfl, by simp; omega, hn0, Nat.le_refl _, hown.kept hg (Or.inr (by simp [Value.ownBlock]; omega)), hs, grown_trans (grown_alloc (grown_refl w s) _) hg⟩
  clear hown hs hg hn1
  obtain ⟨i0, hi, hz0, hz1, hz2⟩ := info_parts info_iv
  go_wp2_with fail
  go_loopw [3, 4] (fun v i wr => ∃ m : Int, i = .int .i64 m ∧ LstRel w s v m wr) (fun _ i _ => (intOf i).toNat)
  case atStart => exact ⟨n, rfl, HR.out⟩
  case round =>
    obtain ⟨m, rfl, g, cap, ps, rfl, hm, hm0, hcap, hown, hs, hg0⟩ := hrel
    clear HR
    have hgw : w.heap.size ≤ g := (hown.lt g rfl).1
    have hgl : g < _ := (hown.lt g rfl).2
    by_cases hmp : 0 < m
    · go_wp2_with fail
      refine (nxt_any _ _ _ hs).mono ?_
      rintro e w2 ⟨q, rfl, hq0, hq1, -, hs2, hg2⟩
      have hown2 := hown.kept hg2 (Or.inr (by simp [Value.ownBlock]; omega))
      have hg02 := grown_trans hg0 hg2
      have hgl' : g < w2.heap.size := Nat.lt_of_lt_of_le hgl hg2.size
      clear hown hs hg0 hg2 hq1 hgl
      have hown := hown2
      have hs := hs2
      have hg0 := hg02
      have hgl := hgl'
      clear hown2 hs2 hg02 hgl'
      by_cases hq : q = 0
      · subst hq
        go_wp2_with fail
        refine (div_any _ _ hs).mono ?_
        rintro e wz ⟨x, y, rfl, -, hsz, hgz⟩
        have hown2 := hown.kept hgz (Or.inr (by simp [Value.ownBlock]; omega))
        have gz := grown_trans hg0 hgz
        have hgl2 : g < wz.heap.size := Nat.lt_of_lt_of_le hgl hgz.size
        have HO := Lib.hid hown2
        have HG := Lib.hid gz
        have HZ := Lib.hid hsz
        clear hown hgz hsz gz hown2 hs hg0
        go_wp2_with (at_builtin; (refine wpList_append_lies _ rfl _ _ 28 rfl w.heap.size 25 i0 (.agg #[.int .i64 0, .int .i64 0]) 2 16 Try.underlying28 hi hz0 hz1 hz2 rfl (by decide) (.slice (some ⟨g, 0, none⟩) ps.length cap) ps.length (flatP ps) rfl (HO.out.alloc _) ⟨wz.heap.size, 0, none⟩ 1 1 [.int .i64 x, .int .i64 y] rfl rfl (World.news_of_block (cs := #[.int .i64 x, .int .i64 y]) (t := 25) (fr := (0, 0)) (heap_alloc_new wz _)) (by simp [Value.oneCell']) (by omega) (by unfold maxLen; omega) (by omega) (by simp; exact Nat.le_succ_of_le (Nat.le_trans hgw (Nat.le_of_lt hgl2))) (wz.heap.size + 1) (by simp) ?_); intro g2 cap2 w9 hown3 hgrow hat hlt9)
        have HL := Lib.hid (LstRel.snoc hlt hgw hm hmp HZ.out HG.out hgl2 hown3 hgrow)
        clear hown3 hgrow hat hlt9
        go_wp2
        go_roundw
        case rel => exact ⟨m - 1, rfl, HL.out⟩
        case measure => simp [intOf]; omega
      · have hqf : (q == 0) = false := by simpa using hq
        go_wp2_with fail
        refine (dsm_any _ _ hs).mono ?_
        rintro e wz ⟨x, y, rfl, -, hsz, hgz⟩
        have hown2 := hown.kept hgz (Or.inr (by simp [Value.ownBlock]; omega))
        have gz := grown_trans hg0 hgz
        have hgl2 : g < wz.heap.size := Nat.lt_of_lt_of_le hgl hgz.size
        have HO := Lib.hid hown2
        have HG := Lib.hid gz
        have HZ := Lib.hid hsz
        clear hown hgz hsz gz hown2 hs hg0
        go_wp2_with (at_builtin; (refine wpList_append_lies _ rfl _ _ 28 rfl w.heap.size 25 i0 (.agg #[.int .i64 0, .int .i64 0]) 2 16 Try.underlying28 hi hz0 hz1 hz2 rfl (by decide) (.slice (some ⟨g, 0, none⟩) ps.length cap) ps.length (flatP ps) rfl (HO.out.alloc _) ⟨wz.heap.size, 0, none⟩ 1 1 [.int .i64 x, .int .i64 y] rfl rfl (World.news_of_block (cs := #[.int .i64 x, .int .i64 y]) (t := 25) (fr := (0, 0)) (heap_alloc_new wz _)) (by simp [Value.oneCell']) (by omega) (by unfold maxLen; omega) (by omega) (by simp; exact Nat.le_succ_of_le (Nat.le_trans hgw (Nat.le_of_lt hgl2))) (wz.heap.size + 1) (by simp) ?_); intro g2 cap2 w9 hown3 hgrow hat hlt9)
        have HL := Lib.hid (LstRel.snoc hlt hgw hm hmp HZ.out HG.out hgl2 hown3 hgrow)
        clear hown3 hgrow hat hlt9
        go_wp2
        go_roundw
        case rel => exact ⟨m - 1, rfl, HL.out⟩
        case measure => simp [intOf]; omega
    · have hcl := hcap
      go_wp2_with fail
      refine (nxt_any _ _ _ hs).mono ?_
      rintro e w2 ⟨q, rfl, hq0, hq1, -, hs2, hg2⟩
      have hown2 := hown.kept hg2 (Or.inr (by simp [Value.ownBlock]; omega))
      have HG := Lib.hid (grown_trans hg0 hg2)
      have HS2 := Lib.hid hs2
      have HV := Lib.hid (Ivs.of_own hown2)
      clear hown hs hg0 hg2 hq1 hown2 hs2
      by_cases hq : q = 0
      · subst hq
        go_wp2_with fail
        refine (nxt_any _ _ _ HS2.out).mono ?_
        rintro e w3 ⟨r, rfl, hr0, hr1, -, hs3, hg3⟩
        have hr := hr1 (by omega)
        have HG3 := Lib.hid (grown_trans HG.out hg3)
        have HS3 := Lib.hid hs3
        clear hg3 hs3 hr1
        have hcases : r = 0 ∨ r = 1 := by omega
        rcases hcases with rfl | rfl
        · have hmk : ∀ w, (Instr.makeSlice 28 (.int .i64 200) (.int .i64 200)).run Try.prog w = .ok (.slice (some ⟨w.heap.size, 0, none⟩) 200 200) (w.alloc (.cells (madeCells #[.int .i64 0, .int .i64 0] 400) 25)) := fun w => run_make_iv 200 (by decide) w
          go_wp2
          go_ret
          exact made_list 200 (by decide) hlt HS3.out HG3.out
        · have hmk : ∀ w, (Instr.makeSlice 28 (.int .i64 201) (.int .i64 201)).run Try.prog w = .ok (.slice (some ⟨w.heap.size, 0, none⟩) 201 201) (w.alloc (.cells (madeCells #[.int .i64 0, .int .i64 0] 402) 25)) := fun w => run_make_iv 201 (by decide) w
          go_wp2
          go_ret
          exact made_list 201 (by decide) hlt HS3.out HG3.out
      · have hqf : (q == 0) = false := by simpa using hq
        go_wp2
        go_ret
        exact ⟨_, _, ps, rfl, by omega, hcl, HV.out, HS2.out, HG.out⟩
end Go.Proofs.Ythbcllejojnboaa
