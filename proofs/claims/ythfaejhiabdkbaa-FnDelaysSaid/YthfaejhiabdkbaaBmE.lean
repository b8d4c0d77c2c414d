/- Contracts of the model's draws of arrays, of rates and speeds, of arguments of DelaysOf. -/
import Derived.Test.YthfaejhiabdkbaaPuD
import Derived.Test.YthfaejhiabdkbaaDry
import Derived.Test.YthfaejhiabdkbaaBmM
namespace Go.Proofs.Ythfaejhiabdkbaa
open Go.ChangeShapes Go.WideShapes Go.ChangeAt Go.RowKit Go.Shelf Num
set_option linter.unusedVariables false
set_option linter.unusedSimpArgs false
theorem D1.own {w W : World} {s g c n : Nat} {L : List Int} (h : D1 w s g c n L W) : OwnA W w.heap.size W.heap.size (some ⟨g, 0, none⟩) c L :=
  ⟨by rw [h.len]; exact h.row, fun g' e => by rw [h.len] at e; exact (h.row.lt g' e).2, Nat.le_refl _⟩
theorem ownA_grown {w w' : World} {lo hi s : Nat} {a : Option Addr} {c : Nat} {zs : List Int} (h : OwnA w lo hi a c zs) (hg : w.grownBy w' (some s)) (hs : s < lo) : OwnA w' lo hi a c zs :=
  ⟨own_at h.own (fun g e => hg.block g (h.own.lt g e).2 (fun e' => by injection e' with e'; have := (h.own.lt g e).1; omega)), h.lt, Nat.le_trans h.up hg.size⟩
theorem ownA_far1 {W : World} {M hi : Nat} {a : Option Addr} {c : Nat} {L : List Int} (h : OwnA W M hi a c L) {g : Nat} (hg : g < M) (j : Nat) (v : Value) : OwnA (W.setCell ⟨g, j, none⟩ v) M hi a c L :=
  ⟨own_at h.own (fun g' e => Below.heap_setCell W ⟨g, j, none⟩ v g' (by have := (h.own.lt g' e).1; simp; omega)), h.lt, by simpa using h.up⟩
theorem ownA_far3 {W : World} {M hi : Nat} {a : Option Addr} {c : Nat} {L : List Int} (h : OwnA W M hi a c L) {g : Nat} (hg : g < M) (u v t : Value) : OwnA (((W.setCell ⟨g, 0, none⟩ u).setCell ⟨g, 1, none⟩ v).setCell ⟨g, 2, none⟩ t) M hi a c L :=
  ownA_far1 (ownA_far1 (ownA_far1 h hg _ _) hg _ _) hg _ _
theorem ownA_hi {W : World} {lo lo' hi : Nat} {a : Option Addr} {c : Nat} {L : List Int} (h : OwnA W lo hi a c L) (hl : lo' ≤ lo) : OwnA W lo' W.heap.size a c L := ⟨World.ownsRow.mono h.own hl, fun g e => (h.own.lt g e).2, Nat.le_refl _⟩
def TimD (w : World) (s : Nat) (e : Ending) (w' : World) : Prop := ∃ r v : Int, e = .returned (.tuple #[.int .i64 r, .int .i64 v]) ∧ Src w' s ∧ w.grownBy w' (some s)

set_option maxRecDepth 100000 in
set_option maxHeartbeats 4000000 in
theorem dtm_any (w : World) (s : Nat) (h : Src w s) :
    Calls Try.prog 48 #[.pointer (some ⟨s, 0, none⟩)] w (TimD w s) := by
  have hlt := h.lt
  have HS := Lib.hid h
  clear h
  go_enter Try.func48, Try.ntmps48
  go_wp2_with fail
  refine (nxt_any _ _ _ HS.out).mono ?_
  rintro e w1 ⟨q, rfl, hq0, hq1, -, hs, hg⟩
  have hq := hq1 (by omega)
  replace HS := Lib.hid hs
  have HG := Lib.hid hg
  clear hs hg hq1
  by_cases e0 : q = 0
  · subst e0
    go_wp2_with fail
    refine (pick_new _ s 4 4 [0, 1, 100000, 100001] _ HS.out rfl (by omega) (by omega) ?hc).mono ?_
    case hc => intro j hj; match j, hj with
      | 0, _ => rfl
      | 1, _ => rfl
      | 2, _ => rfl
      | 3, _ => rfl
    rintro e w2 ⟨j, hj, rfl, hs, hg⟩
    replace HG := Lib.hid (grown_trans (grown_alloc HG.out _) hg)
    replace HS := Lib.hid hs
    clear hs hg
    go_wp2
    go_ret2
    exact ⟨_, _, rfl, HS.out, HG.out⟩
  by_cases e1 : q = 1
  · subst e1
    go_wp2_with fail
    refine (pick_new _ s 4 4 [1300000, 1299999, 1700000, 1700001] _ HS.out rfl (by omega) (by omega) ?hc).mono ?_
    case hc => intro j hj; match j, hj with
      | 0, _ => rfl
      | 1, _ => rfl
      | 2, _ => rfl
      | 3, _ => rfl
    rintro e w2 ⟨j, hj, rfl, hs, hg⟩
    replace HG := Lib.hid (grown_trans (grown_alloc HG.out _) hg)
    replace HS := Lib.hid hs
    clear hs hg
    go_wp2
    go_ret2
    exact ⟨_, _, rfl, HS.out, HG.out⟩
  have b0 : (q == 0) = false := by simpa using e0
  have b1 : (q == 1) = false := by simpa using e1
  go_wp2_with fail
  refine (nxt_any _ _ _ HS.out).mono ?_
  rintro e w2 ⟨x, rfl, hx0, hx1, -, hs, hg⟩
  have hx := hx1 (by omega)
  replace HG := Lib.hid (grown_trans HG.out hg)
  replace HS := Lib.hid hs
  clear hs hg hx1
  go_wp2_with fail
  refine (nxt_any _ _ _ HS.out).mono ?_
  rintro e w3 ⟨y, rfl, hy0, hy1, -, hs, hg⟩
  have hy := hy1 (by omega)
  replace HG := Lib.hid (grown_trans HG.out hg)
  replace HS := Lib.hid hs
  clear hs hg hy1
  go_wp2
  go_ret2
  exact ⟨_, _, rfl, HS.out, HG.out⟩
def ArrD (w : World) (s : Nat) (e : Ending) (w' : World) : Prop := ∃ (a : Option Addr) (c : Nat) (ps : List Int), e = .returned (.slice a ps.length c) ∧ ps.length ≤ 6 ∧ OwnA w' w.heap.size w'.heap.size a c ps ∧ Src w' s ∧ w.grownBy w' (some s)

set_option maxRecDepth 100000 in
set_option maxHeartbeats 8000000 in
theorem dra_any (w : World) (s : Nat) (h : Src w s) :
    Calls Try.prog 49 #[.pointer (some ⟨s, 0, none⟩)] w (ArrD w s) := by
  have hlt := h.lt
  have HS := Lib.hid h
  clear h
  obtain ⟨i0, hi, hz0, hz1, hz2⟩ := info_parts info_i64
  go_enter Try.func49, Try.ntmps49
  go_wp2_with fail
  have HD := Lib.hid (D1.lit HS.out)
  refine (nxt_any _ _ _ HD.out.src).mono ?_
  rintro e w1 ⟨x, rfl, hx0, hx1, -, hs, hg⟩
  have hx := hx1 (by omega)
  replace HD := Lib.hid (HD.out.draw hlt hs hg)
  clear hs hg hx1
  have ex : IntKind.wrap .i64 (-x) = -x := IntWalk.i64_in _ (by omega)
  go_wp2_with fail
  refine (nxt_any _ _ _ HD.out.src).mono ?_
  rintro e w2 ⟨y, rfl, hy0, hy1, -, hs, hg⟩
  have hy := hy1 (by omega)
  replace HD := Lib.hid (HD.out.draw hlt hs hg)
  clear hs hg hy1
  go_wp2_with fail
  go_loopw [3, 4, 5] (fun u at_ y wr => ∃ (ge ce n : Nat) (L : List Int) (q r : Int), u = .slice (some ⟨ge, 0, none⟩) n ce ∧ at_ = .int .i64 q ∧ y = .int .i64 r ∧ 0 ≤ r ∧ (n : Int) + r ≤ 5 ∧ -119 ≤ q ∧ q + 70 * r ≤ 350 ∧ D1 w s ge ce n L wr) (fun _ _ y _ => (intOf y).toNat)
  case atStart => exact ⟨w.heap.size, 0, 0, [], -x, 1 + y, rfl, rfl, by simp, by omega, by simp; omega, by omega, by omega, HD.out⟩
  case round =>
    obtain ⟨ge, ce, n, Lx, q, r, rfl, rfl, rfl, hr0, hrm, hq0, hq1, hD⟩ := hrel
    replace HD := Lib.hid hD
    clear hD ex
    by_cases hr : 0 < r
    · go_wp2_with (at_builtin; refine wpList_append_lies _ rfl _ _ 22 rfl _ 2 i0 (.int .i64 0) 1 8 Try.underlying22 hi hz0 hz1 hz2 rfl (by decide) (.slice (some ⟨ge, 0, none⟩) n ce) n ((Lx).map iv4) rfl (HD.out.row.alloc _) ⟨wr.heap.size, 0, none⟩ 1 1 [.int .i64 q] rfl rfl (World.news_of_block (cs := #[.int .i64 q]) (t := 2) (fr := (0, 0)) (heap_alloc_new wr _)) (by simp [Value.oneCell']) (by decide) (by unfold maxLen; omega) (by omega) (by have := HD.out.grw.size; simp; omega) (wr.heap.size + 1) (by simp) ?_; intro g2 cp2 w9 hown hgrow hat hlt9; have HD9 := Lib.hid (HD.out.put hlt hown hgrow); clear hown hgrow hat hlt9)
      clear HD
      go_wp2_with fail
      refine (nxt_any _ _ _ HD9.out.src).mono ?_
      rintro e w4 ⟨t, rfl, ht0, ht1, -, hs, hg⟩
      have ht := ht1 (by omega)
      have HD := Lib.hid (HD9.out.draw hlt hs hg)
      clear hs hg ht1 HD9
      go_wp2_with fail
      go_roundw
      case rel => exact ⟨g2, cp2, n + 1, Lx ++ [q], q + 10 + t, r - 1, rfl, rfl, rfl, by omega, by omega, by omega, by omega, HD.out⟩
      case measure => simp [intOf]; omega
    · go_wp2_with fail
      refine (nxt_any _ _ _ HD.out.src).mono ?_
      rintro e w4 ⟨t, rfl, ht0, ht1, -, hs, hg⟩
      have ht := ht1 (by omega)
      replace HD := Lib.hid (HD.out.draw hlt hs hg)
      clear hs hg ht1
      have hll := HD.out.len
      by_cases e0 : t = 0
      · subst e0
        go_wp2_with fail
        refine (pick_new _ s 3 3 [q - 200, 10000, 10001] _ HD.out.src rfl (by omega) (by omega) ?hc).mono ?_
        case hc => intro j hj; match j, hj with
          | 0, _ => rfl
          | 1, _ => rfl
          | 2, _ => rfl
        rintro e w5 ⟨j, hj, rfl, hs, hg⟩
        replace HD := Lib.hid ((HD.out.al _).draw hlt hs hg)
        clear hs hg
        obtain ⟨z, hz⟩ : ∃ z : Int, [q - 200, 10000, 10001].getD j 0 = z := ⟨_, rfl⟩
        rw [hz]
        clear hz hj
        go_wp2_with (at_builtin; refine wpList_append_lies _ rfl _ _ 22 rfl _ 2 i0 (.int .i64 0) 1 8 Try.underlying22 hi hz0 hz1 hz2 rfl (by decide) (.slice (some ⟨ge, 0, none⟩) n ce) n ((Lx).map iv4) rfl (HD.out.row.alloc _) ⟨w5.heap.size, 0, none⟩ 1 1 [.int .i64 z] rfl rfl (World.news_of_block (cs := #[.int .i64 z]) (t := 2) (fr := (0, 0)) (heap_alloc_new w5 _)) (by simp [Value.oneCell']) (by decide) (by unfold maxLen; omega) (by omega) (by have := HD.out.grw.size; simp; omega) (w5.heap.size + 1) (by simp) ?_; intro g2 cp2 w9 hown hgrow hat hlt9; have HD9 := Lib.hid (HD.out.put hlt hown hgrow); clear hown hgrow hat hlt9)
        go_wp2
        go_ret
        exact ⟨some ⟨g2, 0, none⟩, cp2, Lx ++ [z], by rw [HD9.out.len]; rfl, by rw [HD9.out.len]; omega, HD9.out.own, HD9.out.src, HD9.out.grw⟩
      by_cases e1 : t = 1
      · subst e1
        go_wp2
        go_ret
        exact ⟨none, 0, [], rfl, by decide, ownA_nil _ _ HD.out.grw.size, HD.out.src, HD.out.grw⟩
      have b0 : (t == 0) = false := by simpa using e0
      have b1 : (t == 1) = false := by simpa using e1
      go_wp2
      go_ret
      exact ⟨some ⟨ge, 0, none⟩, ce, Lx, by rw [hll]; rfl, by omega, HD.out.own, HD.out.src, HD.out.grw⟩
/-- what a draw of arguments of DelaysOf leaves -/
def DelD (w : World) (e : Ending) (w' : World) : Prop := ∃ (a : Option Addr) (c : Nat) (ps : List Int) (x y z r v : Int), e = .returned (.tuple #[.slice a ps.length c, .agg #[.int .i64 x, .int .i64 y, .int .i64 z], .int .i64 r, .int .i64 v]) ∧ ps.length ≤ 6 ∧ OwnA w' w.heap.size w'.heap.size a c ps ∧ Below w.heap.size w w'

set_option maxRecDepth 100000 in
set_option maxHeartbeats 8000000 in
theorem ddo_any (w : World) (a : Option Addr) (cap : Nat) (cs : List Int) (h : Code8 w w.heap.size a cs) :
    Calls Try.prog 30 #[.slice a cs.length cap] w (DelD w) := by
  have HC := Lib.hid h
  clear h
  go_enter Try.func30, Try.ntmps30
  go_wp2_with fail
  generalize hW : World.alloc _ _ = W
  have bR : Bk W w.heap.size #[.int .i64 0, .int .i64 0, .int .i64 0] 30 := by rw [← hW]; exact Bk.new' rfl
  have HB : Hid (Below w.heap.size w W) := Lib.hid (by rw [← hW]; exact (by repeat (first | exact Below.refl _ _ | (refine Below.alloc ?_ (by simp <;> omega) _) | (refine Below.setCell ?_ (by simp <;> omega) _) | (refine Below.drew ?_) | (refine bel_drewN ?_ _))))
  clear hW
  have ltR := bR.lt
  refine (from_any W _ _ cs ((HC.out.below HB.out (Nat.le_refl _)).more HB.out.size)).mono ?_
  rintro e w1 ⟨s, rfl, hs, hsrc, hb⟩
  replace HB := Lib.hid (bel_end HB.out hb)
  replace bR := bR.on hb
  have HS := Lib.hid hsrc
  clear hsrc hb
  go_wp2_with fail
  refine (dtm_any _ _ HS.out).mono ?_
  rintro e w2 ⟨r, v, rfl, hs2, hg⟩
  replace HB := Lib.hid (HB.out.trans (below_of_grown hg (by omega) (by have := HB.out.size; omega)))
  replace bR := bR.kept hg (by simp; omega)
  replace HS := Lib.hid hs2
  have q2 := hg.size
  have hs2l := HS.out.lt
  have q1 := HB.out.size
  clear hg hs2
  go_wp2_with fail
  refine (dra_any _ _ HS.out).mono ?_
  rintro e w3 ⟨p, c, ps, rfl, hl, ho, hs2, hg⟩
  replace HB := Lib.hid (HB.out.trans (below_of_grown hg (by omega) (by have := HB.out.size; omega)))
  replace bR := bR.kept hg (by simp; omega)
  have HO := Lib.hid ho
  replace HS := Lib.hid hs2
  have q3 := hg.size
  have hs3 := HS.out.lt
  clear hg hs2 ho
  go_wp2_with fail
  refine (ddi_any _ _ HS.out).mono ?_
  rintro e w4 ⟨x, y, z, rfl, hs2, hg⟩
  replace HB := Lib.hid (HB.out.trans (below_of_grown hg (by omega) (by have := HB.out.size; omega)))
  replace bR := bR.kept hg (by simp; omega)
  replace HO := Lib.hid (ownA_grown HO.out hg (by omega))
  clear hg hs2
  have r0 := bR.cell 0 rfl
  have r1 := bR.cell 1 rfl
  have r2 := bR.cell 2 rfl
  have f0 := bR.frozen 0
  have f1 := bR.frozen 1
  have f2 := bR.frozen 2
  have rl := bR.lt
  go_wp2
  exact bodyPost_ret (v := .tuple #[.slice p ps.length c, .agg #[.int .i64 x, .int .i64 y, .int .i64 z], .int .i64 r, .int .i64 v]) (by simp [results, Try.results30, go_sem, r0, r1, r2]) rfl ⟨p, c, ps, x, y, z, r, v, rfl, hl,
    ownA_hi (ownA_far3 HO.out (by omega) _ _ _) (by omega), ((HB.out.setCell (by simp) _).setCell (by simp) _).setCell (by simp) _⟩
end Go.Proofs.Ythfaejhiabdkbaa
