/- The program's BestPairs, LeastSum, CountPairings. -/
import Derived.Test.YtlahgdhofakinaaPrT
import Derived.Test.YtlahgdhofakinaaPrC
namespace Go.Proofs.Ytlahgdhofakinaa
open Go.ChangeShapes Go.WideShapes Go.ChangeAt Go.RowKit Go.Shelf Num
set_option linter.unusedVariables false
set_option linter.unusedSimpArgs false
set_option maxRecDepth 100000 in
theorem run_preP (g n : Nat) (hn : n ≤ 6) (w : World) : (Instr.sliceAt 90 (.pointer (some ⟨g, 0, none⟩)) none (some (.int .i64 (n : Int))) none).run Try.prog w = .ok (.slice (some ⟨g, 0, none⟩) n 6) w := by
  have ha : Try.prog.arrayLen 90 = 6 := by kernel_rfl
  have hs : (sizeOf (Try.prog.elem 90)).run Try.prog w = .ok 1 w := by kernel_rfl
  rw [run_sliceAt_array_h (w := w) (ht := Try.underlying90) (kh := .i64) (h := (n : Int)) (h0 := by omega) (h2 := by rw [ha]; omega), hs]
  simp [Result.andThen, slicedAt, ha, Addr.add]
set_option maxRecDepth 100000 in
set_option maxHeartbeats 2000000 in
theorem cls_any (w : World) (q : List Int) (n : Nat) (hq : q.length = 6) (hn : n ≤ 6) :
    Calls Try.prog 82 #[arV q, .int .i64 n] w (Cloned w n (q.take n)) := by
  have HQ := Lib.hid hq
  have hsl := fun W0 => run_preP w.heap.size n hn W0
  unfold arV arC
  go_enter Try.func82, Try.ntmps82
  go_upto_region 1 with fail
  generalize hW : World.alloc _ _ = W
  have b0 : Bk W w.heap.size #[.int .i64 (pI q 0), .int .i64 (pI q 1), .int .i64 (pI q 2), .int .i64 (pI q 3), .int .i64 (pI q 4), .int .i64 (pI q 5)] 90 := by rw [← hW]; exact Bk.new' rfl
  have HB : Hid (Below w.heap.size w W) := Lib.hid (by rw [← hW]; exact (Below.refl _ _).alloc (Nat.le_refl _) _)
  have KL := Lib.hid (cln_any W (some ⟨w.heap.size, 0, none⟩) 6 n (q.take n) (by rw [List.length_take]; omega) (by omega) (Ints.pre (ar_ints (show Bk W w.heap.size (arC q) 90 from b0) hq) n))
  have hl := b0.lt
  clear hW b0 hq
  go_wp2_with (go_at_call 117; (with_reducible refine Calls.mono KL.out ?_); rintro e w' ⟨a', c', rfl, hlen, ho, hb⟩; have HO := Lib.hid ho; have HL := Lib.hid hlen; have HB2 := Lib.hid (bel_end HB.out hb); clear ho hlen hb)
  go_ret
  exact ⟨a', c', rfl, HL.out, HO.out.less HB.out.size, HB2.out⟩
theorem nodup_all (zss : List (List Int)) (n : Nat) : (allP zss n []).Nodup := (allP_lx zss n []).imp (fun {a b} h e => by subst e; rw [lx_irr] at h; cases h)
theorem cnt_map {w : World} {b n0 n : Nat} {D : DataW Nat} {zss : List (List Int)} {g : List Int → Int} (hn : zss.length = n) (ha : AcP zss) (ho : w.ownsMap Try.prog 90 (plainElem (H := Nat) Try.prog 2) b n0 D) (hv : MapV D (stB zss n) g) : Maps.size D = (allP zss n []).length := by
  subst hn
  have h6 := ha.1
  rw [hv.size ho (L := (allP zss zss.length []).map pd6) ?_ ?_, List.length_map]
  · rw [List.Nodup, List.pairwise_map]
    refine (nodup_all zss zss.length).imp_of_mem ?_
    intro p q hp hq hne e
    have h1 := (prB_t (allP_pr.1 hp)).1
    have h2 := (prB_t (allP_pr.1 hq)).1
    have e2 : (pd6 p).take p.length = (pd6 q).take q.length := by rw [h1, h2, e]
    rw [pd6_take, pd6_take] at e2
    exact hne e2
  · intro q
    rw [List.mem_map]
    constructor
    · rintro ⟨p, hp, rfl⟩
      have h1 := allP_pr.1 hp
      have h2 := stB_pd h6 h1
      exact ⟨stB_len h2, st_wf ha h2 h6, h2⟩
    · rintro ⟨h1, h2, h3⟩
      obtain ⟨h4, h5⟩ := pd_stB h6 h3
      exact ⟨_, allP_pr.2 h4, h5⟩
section
variable (w : World) (a : Option Addr) (cap n : Nat) (zss : List (List Int)) (hn : zss.length = n) (hl : n ≤ 9223372036854775807) (hr : ∀ j, j < zss.length → (gR zss j).length ≤ 9223372036854775807) (hx : RwL w w.heap.size a zss)
include hn hl hr hx
theorem ilm_any (miss : Int) :
    Calls Try.prog 32 #[.slice a n cap, .int .i64 miss] w fun e w' => e = .returned (.tuple #[.int .i64 (lsV zss miss), .int .i64 (coC zss miss)]) ∧ Below w.heap.size w w' := by
  have KC := Lib.hid (cer_any w a cap n zss hn hl hr hx miss)
  have HX := Lib.hid hx
  have N1 := Lib.hid hn
  clear hx hn hl hr
  obtain ⟨k, hk⟩ : ∃ k, coC zss miss = k := ⟨_, rfl⟩
  have HK := Lib.hid hk
  by_cases h0 : k = 0
  · subst h0
    obtain ⟨ha, m0, m1⟩ := coC_0 hk
    have HA := Lib.hid ha
    rw [hk] at KC ⊢
    have HV : Hid (lsV zss miss = smV zss miss (bstP zss miss)) := Lib.hid (by unfold lsV; rw [if_pos HK.out])
    clear hk ha
    go_enter Try.func32, Try.ntmps32
    go_wp2_with (first | (go_at_call 76; (with_reducible refine Calls.mono KC.out ?_); rintro e w1 ⟨rfl, hb⟩; have HB1 := Lib.hid hb; have KS := Lib.hid (spt_any w1 a cap n zss miss N1.out HA.out m0 m1 ((HX.out.below hb).more hb.size)); clear hb) | (go_at_call 81; (with_reducible refine Calls.mono KS.out ?_); rintro e w2 ⟨b', D', rfl, hbb, ho, hv, hb⟩; have HB2 := Lib.hid (bel_end HB1.out hb); have KH := Lib.hid (chp_any w2 b' 823543 n D' zss miss N1.out HA.out ho hv); unfold arV arC at KH; clear hbb ho hv hb) | (go_at_call 80; (with_reducible refine Calls.mono KH.out ?_); rintro e w3 ⟨rfl, hb⟩; have HB3 := Lib.hid (bel_end HB2.out hb); clear hb))
    go_ret2
    exact ⟨pri_ii HV.out rfl, HB3.out.alloc HB3.out.size _⟩
  · have hd : (k != 0) = true := by simpa using h0
    have HN := Lib.hid (show ¬ coC zss miss = 0 by rw [hk]; exact h0)
    rw [hk] at KC ⊢
    clear hk
    go_enter Try.func32, Try.ntmps32
    go_wp2_with (go_at_call 76; (with_reducible refine Calls.mono KC.out ?_); rintro e w' ⟨rfl, hb⟩; have HB := Lib.hid hb; clear hb)
    go_ret2
    exact ⟨pri_ii (by unfold lsV; rw [if_neg HN.out]) rfl, HB.out⟩
set_option maxHeartbeats 2000000 in
theorem ibp_any (miss : Int) :
    Calls Try.prog 30 #[.slice a n cap, .int .i64 miss] w fun e w' => ∃ (g : Option Addr) (c : Nat), e = .returned (.tuple #[.slice g (bsV zss miss).length c, .int .i64 (coC zss miss)]) ∧ OwnA w' w.heap.size w'.heap.size g c (bsV zss miss) ∧ Below w.heap.size w w' := by
  have KC := Lib.hid (cer_any w a cap n zss hn hl hr hx miss)
  have HX := Lib.hid hx
  have N1 := Lib.hid hn
  clear hx hn hl hr
  obtain ⟨k, hk⟩ : ∃ k, coC zss miss = k := ⟨_, rfl⟩
  have HK := Lib.hid hk
  by_cases h0 : k = 0
  · subst h0
    obtain ⟨ha, m0, m1⟩ := coC_0 hk
    have HA := Lib.hid ha
    have h6 : n ≤ 6 := by have := ha.1; have := N1.out; omega
    rw [hk] at KC ⊢
    have HV : Hid (bsV zss miss = bstP zss miss) := Lib.hid (by unfold bsV; rw [if_pos HK.out])
    have hbl : (bstP zss miss).length = n := by rw [(prB_t (bst_facts zss miss).1).1, N1.out]
    have HTK : Hid ((pd6 (bstP zss miss)).take n = bstP zss miss) := Lib.hid (by rw [← hbl]; exact pd6_take)
    have HBL := Lib.hid hbl
    have hpl : (pd6 (bstP zss miss)).length = 6 := pd6_len (by omega)
    have KL := Lib.hid (fun W : World => cls_any W (pd6 (bstP zss miss)) n hpl h6)
    rw [HTK.out] at KL
    unfold arV arC at KL
    clear hk ha hbl hpl
    go_enter Try.func30, Try.ntmps30
    go_upto_region 5 with (first | (go_at_call 76; (with_reducible refine Calls.mono KC.out ?_); rintro e w1 ⟨rfl, hb⟩; have HB1 := Lib.hid hb; have KS := Lib.hid (spt_any w1 a cap n zss miss N1.out HA.out m0 m1 ((HX.out.below hb).more hb.size)); clear hb) | (go_at_call 81; (with_reducible refine Calls.mono KS.out ?_); rintro e w2 ⟨b', D', rfl, hbb, ho, hv, hb⟩; have HB2 := Lib.hid (bel_end HB1.out hb); have KH := Lib.hid (chp_any w2 b' 823543 n D' zss miss N1.out HA.out ho hv); unfold arV arC at KH; clear hbb ho hv hb) | (go_at_call 80; (with_reducible refine Calls.mono KH.out ?_); rintro e w3 ⟨rfl, hb⟩; have HB3 := Lib.hid (bel_end HB2.out hb); clear hb))
    clear KC KS KH
    obtain ⟨t, ht⟩ : ∃ t, pd6 (bstP zss miss) = t := ⟨_, rfl⟩
    rw [ht] at KL ⊢
    clear ht
    generalize hW : World.alloc _ _ = W
    obtain ⟨g, hg⟩ : ∃ g, w3.heap.size = g := ⟨_, rfl⟩
    have b0 : Bk W g #[.int .i64 (pI t 0), .int .i64 (pI t 1), .int .i64 (pI t 2), .int .i64 (pI t 3), .int .i64 (pI t 4), .int .i64 (pI t 5)] 90 := by rw [← hW, ← hg]; exact Bk.new' rfl
    have HB4 : Hid (Below w.heap.size w W) := Lib.hid (by rw [← hW]; exact HB3.out.alloc HB3.out.size _)
    rw [hg]
    clear hW hg
    have b0_0 := b0.cell 0 rfl
    have b0_1 := b0.cell 1 rfl
    have b0_2 := b0.cell 2 rfl
    have b0_3 := b0.cell 3 rfl
    have b0_4 := b0.cell 4 rfl
    have b0_5 := b0.cell 5 rfl
    have b0_l := b0.lt
    clear b0
    go_wp2_with (go_at_call 82; (with_reducible refine Calls.mono (KL.out _) ?_); rintro e w' ⟨a', c', rfl, hlen, ho, hb⟩; have HO := Lib.hid ho; have HB2 := Lib.hid (bel_end HB4.out hb); clear ho hlen hb)
    go_ret2
    exact ⟨a', c', by rw [HV.out, HBL.out]; rfl, by rw [HV.out]; exact HO.out.less HB4.out.size, HB2.out⟩
  · have hd : (k != 0) = true := by simpa using h0
    have HN := Lib.hid (show ¬ coC zss miss = 0 by rw [hk]; exact h0)
    rw [hk] at KC ⊢
    clear hk
    have HV : Hid (bsV zss miss = []) := Lib.hid (by unfold bsV; rw [if_neg HN.out])
    go_enter Try.func30, Try.ntmps30
    go_wp2_with (go_at_call 76; (with_reducible refine Calls.mono KC.out ?_); rintro e w' ⟨rfl, hb⟩; have HB := Lib.hid hb; clear hb)
    go_ret2
    exact ⟨none, 0, by rw [HV.out]; rfl, by rw [HV.out]; exact ownA_nil _ _ HB.out.size, HB.out⟩
theorem icn_any :
    Calls Try.prog 46 #[.slice a n cap] w fun e w' => e = .returned (.tuple #[.int .i64 (cnV zss), .int .i64 (cnC zss)]) ∧ Below w.heap.size w w' := by
  have KA := Lib.hid (iac_any w a cap n zss hn hl hr hx)
  have HX := Lib.hid hx
  have N1 := Lib.hid hn
  clear hx hn hl hr
  cases h1 : acB zss
  · have HV : Hid (cnV zss = 0) := Lib.hid (by unfold cnV; rw [h1]; rfl)
    have HC : Hid (cnC zss = 1) := Lib.hid (by unfold cnC; rw [h1]; rfl)
    rw [h1] at KA
    clear h1
    go_enter Try.func46, Try.ntmps46
    go_wp2_with (go_at_call 26; (with_reducible refine Calls.mono KA.out ?_); rintro e w' ⟨rfl, hb⟩; have HB := Lib.hid hb; clear hb)
    go_ret2
    exact ⟨pri_ii HV.out HC.out, HB.out⟩
  · have ha := acB_t h1
    have HA := Lib.hid ha
    have HV : Hid (cnV zss = ((allP zss n []).length : Int)) := Lib.hid (by unfold cnV; rw [h1, N1.out]; rfl)
    have HC : Hid (cnC zss = 0) := Lib.hid (by unfold cnC; rw [h1]; rfl)
    rw [h1] at KA
    clear h1 ha
    go_enter Try.func46, Try.ntmps46
    go_wp2_with (first
      | (go_at_call 26; (with_reducible refine Calls.mono KA.out ?_); rintro e w1 ⟨rfl, hb⟩; have HB1 := Lib.hid hb; have KS := Lib.hid (spt_any w1 a cap n zss 0 N1.out HA.out (by omega) (by omega) ((HX.out.below hb).more hb.size)); clear hb)
      | (go_at_call 81; (with_reducible refine Calls.mono KS.out ?_); rintro e w2 ⟨b', D', rfl, hbb, ho, hv, hb⟩; have HB2 := Lib.hid (bel_end HB1.out hb); have HSZ := Lib.hid (cnt_map N1.out HA.out ho hv); have HOW := Lib.hid ho; clear hbb ho hv hb)
      | (at_len; refine wpList_len_own _ rfl _ 93 rfl 90 2 Try.underlying93 (plainElem (H := Nat) Try.prog 2) b' 823543 D' rfl HOW.out ?_))
    go_ret2
    exact ⟨pri_ii (by rw [HV.out, HSZ.out]) HC.out, HB2.out⟩
end
end Go.Proofs.Ytlahgdhofakinaa
