/- Contracts of the model's draws for MedianOf and IsRising, and of the laws' search of a list. -/
import Derived.Test.YtaamfgpdfakakaaADraw
import Derived.Test.YtaamfgpdfakakaaQLaw
import Derived.Test.YtaamfgpdfakakaaRise
namespace Go.Proofs.Ytaamfgpdfakakaa
open Go.ChangeShapes Go.WideShapes Go.ChangeAt Go.RowKit Num
set_option linter.unusedVariables false
/-- a list that a draw has made -/
def ListDrawn (w : World) (e : Ending) (w' : World) : Prop :=
  ∃ (a : Option Addr) (cap : Nat) (ps : List Int), e = .returned (.slice a ps.length cap) ∧ ps.length ≤ 201 ∧ Ints .i64 w' w'.heap.size a ps ∧ Below w.heap.size w w'
theorem dmo_any (w : World) (a : Option Addr) (cap : Nat) (zs : List Int) (h : Code8 w w.heap.size a zs) :
    Calls Try.prog 24 #[.slice a zs.length cap] w (ListDrawn w) := by
  have H := Lib.hid h
  clear h
  go_enter Try.func24, Try.ntmps24
  go_wp2_with fail
  refine (from_any _ _ _ zs H.out).mono ?_
  rintro e w1 ⟨s, rfl, hs, hsrc, hb⟩
  have S1 := Lib.hid hsrc
  have B1 := Lib.hid hb
  clear hsrc hb
  go_wp2_with fail
  refine (AD.daa_any _ _ S1.out).mono ?_
  rintro e w2 ⟨b, c, ps, rfl, hl, -, hi, hsrc, hg⟩
  have I2 := Lib.hid hi
  have B2 := Lib.hid (B1.out.trans (below_of_grown hg hs B1.out.size))
  clear hsrc hg hi
  go_wp2_with fail
  go_ret
  exact ⟨b, c, ps, rfl, hl, I2.out, B2.out⟩

def hasB (L : List Int) (x : Int) : Bool := L.contains x
theorem hasI_t {L : List Int} {x : Int} {k : Nat} (hk : k < L.length) (h : L.getD k 0 = x) : hasB L x = true := by
  unfold hasB
  rw [List.getD_eq_getElem?_getD, List.getElem?_eq_getElem hk] at h
  simp only [Option.getD_some] at h
  rw [List.contains_iff_mem, ← h]
  exact List.getElem_mem hk
theorem hasI_f {L : List Int} {x : Int} (h : ∀ j, j < L.length → L.getD j 0 ≠ x) : hasB L x = false := by
  unfold hasB
  rw [Bool.eq_false_iff]
  intro hc
  rw [List.contains_iff_mem] at hc
  obtain ⟨j, hj, e⟩ := List.getElem_of_mem hc
  exact h j hj (by rw [List.getD_eq_getElem?_getD, List.getElem?_eq_getElem hj]; exact e)
theorem has_any (w : World) (B : Nat) (a : Option Addr) (cap : Nat) (L : List Int) (x : Int) (hl : L.length ≤ 1000000) (hz : Ints .i64 w B a L) :
    Calls Try.prog 30 #[.slice a L.length cap, .int .i64 x] w fun e w' => e = .returned (.bool (hasB L x)) ∧ w = w' := by
  go_enter Try.func30, Try.ntmps30
  go_wp2
  go_loop [5] (fun i => ∃ k : Nat, k ≤ L.length ∧ i = .int .i64 k ∧ ∀ j, j < k → L.getD j 0 ≠ x) (fun i => L.length - (intOf i).toNat)
  case atStart => exact ⟨0, by omega, rfl, fun j hj => by omega⟩
  case round =>
    obtain ⟨k, hk, rfl, hr⟩ := hrel
    have HR := Lib.hid hr
    clear hr
    by_cases hlt : k < L.length
    · obtain ⟨b, off, rfl, hB, hc⟩ := hz.at_ hlt
      clear hz
      obtain ⟨y, hy⟩ : ∃ y, L.getD k 0 = y := ⟨_, rfl⟩
      rw [hy] at hc
      have HY := Lib.hid hy
      clear hy
      by_cases he : y = x
      · subst he
        go_wp2
        go_ret
        exact ⟨ret_bool (hasI_t hlt HY.out).symm, rfl⟩
      · have hef : (y == x) = false := by simpa using he
        go_wp2
        go_round
        case rel => exact ⟨k + 1, by omega, by go_num, fun j hj => by
          by_cases hjk : j = k
          · rw [hjk, HY.out]; exact he
          · exact HR.out j (by omega)⟩
        case measure => simp [intOf]; omega
    · obtain rfl : k = L.length := by omega
      clear hz
      go_wp2
      go_ret
      exact ⟨ret_bool (hasI_f HR.out).symm, rfl⟩
namespace AD
theorem LstRel.next {w w1 w2 : World} {s : Nat} {v : Value} {m : Int} (hs : s < w.heap.size) (h : LstRel w s v m w1) (hsrc : Src w2 s) (hg : w1.grownBy w2 (some s)) : LstRel w s v m w2 := by
  obtain ⟨g, cap, ps, rfl, a, b, c, own, _, gg⟩ := h
  have := (own.lt g rfl).1
  exact ⟨g, cap, ps, rfl, a, b, c, own.kept hg (Or.inr (by simp [Value.ownBlock]; omega)), hsrc, grown_trans gg hg⟩
theorem LstRel.drawn {w w1 : World} {s : Nat} {v : Value} {m : Int} (h : LstRel w s v m w1) : IntsDrawn w s (.returned v) w1 := by
  obtain ⟨g, cap, ps, rfl, a, b, c, own, hs, gg⟩ := h
  exact ⟨_, cap, ps, rfl, by omega, c, Ints.of_own own, hs, gg⟩
end AD
set_option maxRecDepth 100000 in
set_option maxHeartbeats 4000000 in
theorem dli_any (w : World) (s : Nat) (n : Int) (h : Src w s) (n0 : 0 ≤ n) (n1 : n ≤ 19) :
    Calls Try.prog 78 #[.pointer (some ⟨s, 0, none⟩), .int .i64 n, .int .i64 6] w (AD.IntsDrawn w s) := by
  have hlt := h.lt
  have HS := Lib.hid h
  clear h
  go_enter Try.func78, Try.ntmps78
  by_cases h2 : n / 2 ≤ 1
  all_goals go_wp2_with fail
  all_goals
    have hown := World.ownsRow_lit (base := w.heap.size) (e := 2) (size := 1) w #[] 0 (Nat.le_refl _) (by decide) (by decide)
    refine (nxt_any _ _ _ (HS.out.alloc _)).mono ?_
    rintro e w1 ⟨a0, rfl, ha0, ha1, ha2, hs, hg⟩
    have ha : a0 ≤ 20 := by omega
    have HR : Hid (AD.LstRel w s (.slice (some ⟨w.heap.size, 0, none⟩) 0 0) 7 w1) := Lib.hid ⟨w.heap.size, 0, [], rfl, by simp, by decide, Nat.le_refl _, hown.kept hg (Or.inr (by simp [Value.ownBlock]; omega)), hs, grown_trans (grown_alloc (grown_refl w s) _) hg⟩
    have HS1 := Lib.hid hs
    clear hown hs hg ha1 ha2
    go_wp2_with fail
    refine (nxt_any _ _ _ HS1.out).mono ?_
    rintro e w2 ⟨k0, rfl, hk0, hk1, -, hs, hg⟩
    have hk := hk1 (by omega)
    have HR2 := Lib.hid (HR.out.next hlt hs hg)
    clear hs hg hk1 HR HS1 h2
    obtain ⟨i0, hi, hz0, hz1, hz2⟩ := info_parts info_i64
    go_wp2_with fail
    go_loopw [7, 8, 9] (fun v a k wr => ∃ A m : Int, a = .int .i64 A ∧ k = .int .i64 m ∧ 0 ≤ A ∧ A ≤ 100 ∧ 0 ≤ m ∧ m ≤ 6 ∧ AD.LstRel w s v (m + 1) wr) (fun _ _ k _ => (intOf k).toNat)
    case atStart => exact ⟨a0, k0, rfl, rfl, by omega, by omega, by omega, by omega, by
      obtain ⟨g, cap, ps, e1, e2, e3, e4, e5, e6, e7⟩ := HR2.out
      exact ⟨g, cap, ps, e1, by omega, by omega, e4, e5, e6, e7⟩⟩
    case round =>
      obtain ⟨A, m, rfl, rfl, hA0, hA1, hm0, hm1, hR⟩ := hrel
      rename_i wr
      clear HR2
      by_cases hmp : 0 < m
      · by_cases han : A < n
        · by_cases h4 : n / 4 ≤ 1
          all_goals
            obtain ⟨g, cap, ps, rfl, hl, hl0, hcap, hown, hs, hg0⟩ := hR
            have hgw : w.heap.size ≤ g := (hown.lt g rfl).1
            have hgl : g < _ := (hown.lt g rfl).2
            have HO := Lib.hid hown
            have HG := Lib.hid hg0
            have HZ := Lib.hid hs
            clear hown hs hg0
            go_wp2_with (at_builtin; (refine wpList_append_lies _ rfl _ _ 29 rfl w.heap.size 2 i0 (.int .i64 0) 1 8 Try.underlying29 hi hz0 hz1 hz2 rfl (by decide) (.slice (some ⟨g, 0, none⟩) ps.length cap) ps.length (ps.map iv) rfl (HO.out.alloc _) ⟨wr.heap.size, 0, none⟩ 1 1 [.int .i64 A] rfl rfl (World.news_of_block (cs := #[.int .i64 A]) (t := 2) (fr := (0, 0)) (heap_alloc_new wr _)) (by simp [Value.oneCell']) (by omega) (by unfold maxLen; omega) (by omega) (by simp; exact Nat.le_succ_of_le (Nat.le_trans hgw (Nat.le_of_lt hgl))) (wr.heap.size + 1) (by simp) ?_); intro g2 cap2 w9 hown3 hgrow hat hlt9)
          all_goals
            have HL := Lib.hid (AD.LstRel.snoc hlt hgw hl (by omega) HZ.out HG.out hgl hown3 hgrow)
            have HS9 : Hid (Src w9 s) := Lib.hid (by obtain ⟨_, _, _, _, _, _, _, _, h, _⟩ := HL.out; exact h)
            clear hown3 hgrow hat hlt9
            go_wp2_with fail
          all_goals
            refine (nxt_any _ _ _ HS9.out).mono ?_
            rintro e w3 ⟨q, rfl, hq0, hq1, hq2, hs, hg⟩
            have hq : q ≤ 20 := by omega
            have HL3 := Lib.hid (HL.out.next hlt hs hg)
            clear hs hg hq1 hq2 HL HS9
            go_wp2
            go_roundw
            case rel => exact ⟨A + 1 + q, m - 1, by go_num, rfl, by omega, by omega, by omega, by omega, by have := HL3.out; rwa [show m + 1 - 1 = m - 1 + 1 by omega] at this⟩
            case measure => simp [intOf]; omega
        · have HZ0 : Hid (Src wr s) := Lib.hid (by obtain ⟨_, _, _, _, _, _, _, _, h, _⟩ := hR; exact h)
          go_wp2_with fail
          refine (nxt_any _ _ _ HZ0.out).mono ?_
          rintro e w3 ⟨q, rfl, hq0, hq1, -, hs, hg⟩
          have hq := hq1 (by omega)
          have HL := Lib.hid (hR.next hlt hs hg)
          have HZ3 := Lib.hid hs
          clear hR hs hg hq1
          by_cases q0 : q = 0
          · subst q0
            have hR := HL.out
            clear HL
            obtain ⟨g, cap, ps, rfl, hl, hl0, hcap, hown, hs, hg0⟩ := hR
            have hgw : w.heap.size ≤ g := (hown.lt g rfl).1
            have hgl : g < _ := (hown.lt g rfl).2
            have HO := Lib.hid hown
            have HG := Lib.hid hg0
            have HZ := Lib.hid hs
            clear hown hs hg0
            go_wp2_with (at_builtin; (refine wpList_append_lies _ rfl _ _ 29 rfl w.heap.size 2 i0 (.int .i64 0) 1 8 Try.underlying29 hi hz0 hz1 hz2 rfl (by decide) (.slice (some ⟨g, 0, none⟩) ps.length cap) ps.length (ps.map iv) rfl (HO.out.alloc _) ⟨w3.heap.size, 0, none⟩ 1 1 [.int .i64 n] rfl rfl (World.news_of_block (cs := #[.int .i64 n]) (t := 2) (fr := (0, 0)) (heap_alloc_new w3 _)) (by simp [Value.oneCell']) (by omega) (by unfold maxLen; omega) (by omega) (by simp; exact Nat.le_succ_of_le (Nat.le_trans hgw (Nat.le_of_lt hgl))) (w3.heap.size + 1) (by simp) ?_); intro g2 cap2 w9 hown3 hgrow hat hlt9)
            have HL := Lib.hid (AD.LstRel.snoc hlt hgw hl (by omega) HZ.out HG.out hgl hown3 hgrow).drawn
            clear hown3 hgrow hat hlt9
            go_wp2
            go_ret
            exact HL.out
          · have q0f : (q == 0) = false := by simpa using q0
            by_cases q1 : q = 1
            · subst q1
              have hR := HL.out
              clear HL
              obtain ⟨g, cap, ps, rfl, hl, hl0, hcap, hown, hs, hg0⟩ := hR
              have hgw : w.heap.size ≤ g := (hown.lt g rfl).1
              have hgl : g < _ := (hown.lt g rfl).2
              have HO := Lib.hid hown
              have HG := Lib.hid hg0
              have HZ := Lib.hid hs
              clear hown hs hg0
              go_wp2_with (at_builtin; (refine wpList_append_lies _ rfl _ _ 29 rfl w.heap.size 2 i0 (.int .i64 0) 1 8 Try.underlying29 hi hz0 hz1 hz2 rfl (by decide) (.slice (some ⟨g, 0, none⟩) ps.length cap) ps.length (ps.map iv) rfl (HO.out.alloc _) ⟨w3.heap.size, 0, none⟩ 1 1 [.int .i64 0] rfl rfl (World.news_of_block (cs := #[.int .i64 0]) (t := 2) (fr := (0, 0)) (heap_alloc_new w3 _)) (by simp [Value.oneCell']) (by omega) (by unfold maxLen; omega) (by omega) (by simp; exact Nat.le_succ_of_le (Nat.le_trans hgw (Nat.le_of_lt hgl))) (w3.heap.size + 1) (by simp) ?_); intro g2 cap2 w9 hown3 hgrow hat hlt9)
              have HL := Lib.hid (AD.LstRel.snoc hlt hgw hl (by omega) HZ.out HG.out hgl hown3 hgrow).drawn
              clear hown3 hgrow hat hlt9
              go_wp2
              go_ret
              exact HL.out
            · have q1f : (q == 1) = false := by simpa using q1
              go_wp2
              go_ret
              exact HL.out.drawn
      · have HZ0 : Hid (Src wr s) := Lib.hid (by obtain ⟨_, _, _, _, _, _, _, _, h, _⟩ := hR; exact h)
        go_wp2_with fail
        refine (nxt_any _ _ _ HZ0.out).mono ?_
        rintro e w3 ⟨q, rfl, hq0, hq1, -, hs, hg⟩
        have hq := hq1 (by omega)
        have HL := Lib.hid (hR.next hlt hs hg)
        have HZ3 := Lib.hid hs
        clear hR hs hg hq1
        by_cases q0 : q = 0
        · subst q0
          have hR := HL.out
          clear HL
          obtain ⟨g, cap, ps, rfl, hl, hl0, hcap, hown, hs, hg0⟩ := hR
          have hgw : w.heap.size ≤ g := (hown.lt g rfl).1
          have hgl : g < _ := (hown.lt g rfl).2
          have HO := Lib.hid hown
          have HG := Lib.hid hg0
          have HZ := Lib.hid hs
          clear hown hs hg0
          go_wp2_with (at_builtin; (refine wpList_append_lies _ rfl _ _ 29 rfl w.heap.size 2 i0 (.int .i64 0) 1 8 Try.underlying29 hi hz0 hz1 hz2 rfl (by decide) (.slice (some ⟨g, 0, none⟩) ps.length cap) ps.length (ps.map iv) rfl (HO.out.alloc _) ⟨w3.heap.size, 0, none⟩ 1 1 [.int .i64 n] rfl rfl (World.news_of_block (cs := #[.int .i64 n]) (t := 2) (fr := (0, 0)) (heap_alloc_new w3 _)) (by simp [Value.oneCell']) (by omega) (by unfold maxLen; omega) (by omega) (by simp; exact Nat.le_succ_of_le (Nat.le_trans hgw (Nat.le_of_lt hgl))) (w3.heap.size + 1) (by simp) ?_); intro g2 cap2 w9 hown3 hgrow hat hlt9)
          have HL := Lib.hid (AD.LstRel.snoc hlt hgw hl (by omega) HZ.out HG.out hgl hown3 hgrow).drawn
          clear hown3 hgrow hat hlt9
          go_wp2
          go_ret
          exact HL.out
        · have q0f : (q == 0) = false := by simpa using q0
          by_cases q1 : q = 1
          · subst q1
            have hR := HL.out
            clear HL
            obtain ⟨g, cap, ps, rfl, hl, hl0, hcap, hown, hs, hg0⟩ := hR
            have hgw : w.heap.size ≤ g := (hown.lt g rfl).1
            have hgl : g < _ := (hown.lt g rfl).2
            have HO := Lib.hid hown
            have HG := Lib.hid hg0
            have HZ := Lib.hid hs
            clear hown hs hg0
            go_wp2_with (at_builtin; (refine wpList_append_lies _ rfl _ _ 29 rfl w.heap.size 2 i0 (.int .i64 0) 1 8 Try.underlying29 hi hz0 hz1 hz2 rfl (by decide) (.slice (some ⟨g, 0, none⟩) ps.length cap) ps.length (ps.map iv) rfl (HO.out.alloc _) ⟨w3.heap.size, 0, none⟩ 1 1 [.int .i64 0] rfl rfl (World.news_of_block (cs := #[.int .i64 0]) (t := 2) (fr := (0, 0)) (heap_alloc_new w3 _)) (by simp [Value.oneCell']) (by omega) (by unfold maxLen; omega) (by omega) (by simp; exact Nat.le_succ_of_le (Nat.le_trans hgw (Nat.le_of_lt hgl))) (w3.heap.size + 1) (by simp) ?_); intro g2 cap2 w9 hown3 hgrow hat hlt9)
            have HL := Lib.hid (AD.LstRel.snoc hlt hgw hl (by omega) HZ.out HG.out hgl hown3 hgrow).drawn
            clear hown3 hgrow hat hlt9
            go_wp2
            go_ret
            exact HL.out
          · have q1f : (q == 1) = false := by simpa using q1
            go_wp2
            go_ret
            exact HL.out.drawn
end Go.Proofs.Ytaamfgpdfakakaa
