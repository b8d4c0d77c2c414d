/- The model's draws of costs, of a miss, of pairings. -/
import Derived.Test.YtlahgdhofakinaaPrP
import Derived.Test.YtlahgdhofakinaaPrA
import Derived.Deep.RegionHeld3
import Derived.Deep.DeepCutAuto
import Derived.Deep.DrawnRows
import Derived.Deep.RegionWith
namespace Go.Proofs.Ytlahgdhofakinaa
open Go.ChangeShapes Go.WideShapes Go.ChangeAt Go.RowKit Go.Shelf Num
set_option linter.unusedVariables false
set_option linter.unusedSimpArgs false
set_option maxRecDepth 100000 in
set_option maxHeartbeats 2000000 in
theorem dmi_any (w : World) (s : Nat) (h : Src w s) :
    Calls Try.prog 74 #[.pointer (some ⟨s, 0, none⟩)] w (Some1 w s) := by
  have hlt := h.lt
  have HS := Lib.hid h
  clear h
  go_enter Try.func74, Try.ntmps74
  go_wp2_with fail
  refine (nxt_any _ s 12 HS.out).mono ?_
  rintro e w1 ⟨x, rfl, -, -, -, hs, hg⟩
  have HS1 := Lib.hid hs
  have HG1 := Lib.hid hg
  clear hs hg
  by_cases hx : x = 0
  · subst hx
    go_wp2_with fail
    refine (pick_newS w1 s 4 4 [-1, 0, 1000000000000, 1000000000001] _ HS1.out rfl (by decide) (by decide) ?hc).mono ?_
    case hc => intro j hj; match j, hj with
      | 0, _ => rfl
      | 1, _ => rfl
      | 2, _ => rfl
      | 3, _ => rfl
    rintro e w2 ⟨z, rfl, hs, hg⟩
    have HS2 := Lib.hid hs
    have HG2 := Lib.hid (grown_trans (grown_alloc HG1.out _) hg)
    clear hs hg
    go_wp2_with fail
    go_ret
    exact ⟨z, rfl, HS2.out, HG2.out⟩
  · have hd : (x == 0) = false := by simpa using hx
    go_wp2_with fail
    refine (nxt_any _ s 16 HS1.out).mono ?_
    rintro e w2 ⟨z, rfl, -, -, -, hs, hg⟩
    have HS2 := Lib.hid hs
    have HG2 := Lib.hid (grown_trans HG1.out hg)
    clear hs hg
    go_wp2_with fail
    go_ret
    exact ⟨z, rfl, HS2.out, HG2.out⟩
/-- the tail of the draw of costs, once the rows stand -/
theorem row_lens {L : List (List Int)} {C : Int} (h : ∀ j, j < L.length → ((gR L j).length : Int) = C) {Z : List Int} (hZ : (Z.length : Int) = C) : ∀ j, j < (L ++ [Z]).length → ((gR (L ++ [Z]) j).length : Int) = C := fun j hj => by
  rw [List.length_append] at hj
  by_cases hl : j < L.length
  · rw [gR_app_lt hl]; exact h j hl
  · obtain rfl : j = L.length := by simp at hj; omega
    rw [gR_app_ge (Nat.le_refl _), Nat.sub_self]; exact hZ
theorem len_snoc (L : List (List Int)) (Z : List Int) : (((L ++ [Z]).length : Nat) : Int) = (L.length : Int) + 1 := by simp
theorem len_snocI (L : List Int) (z : Int) : (((L ++ [z]).length : Nat) : Int) = (L.length : Int) + 1 := by simp
theorem rows_8 {L : List (List Int)} {C : Int} (h : ∀ j, j < L.length → ((gR L j).length : Int) = C) (hC : C ≤ 4) : ∀ j, j < L.length → (gR L j).length ≤ 8 := fun j hj => by have := h j hj; omega
theorem rows_s8 {L : List (List Int)} {Z : List Int} (h : ∀ j, j < L.length → (gR L j).length ≤ 8) (hZ : Z.length ≤ 8) : ∀ j, j < (L ++ [Z]).length → (gR (L ++ [Z]) j).length ≤ 8 := fun j hj => by
  rw [List.length_append] at hj
  by_cases hl : j < L.length
  · rw [gR_app_lt hl]; exact h j hl
  · obtain rfl : j = L.length := by simp at hj; omega
    rw [gR_app_ge (Nat.le_refl _), Nat.sub_self]; exact hZ

set_option maxRecDepth 100000 in
set_option maxHeartbeats 16000000 in
theorem drw_any (w : World) (s : Nat) (h : Src w s) :
    Calls Try.prog 73 #[.pointer (some ⟨s, 0, none⟩)] w (RowsD w s) := by
  have hlt := h.lt
  have HS := Lib.hid h
  clear h
  obtain ⟨i0, hi, hz0, hz1, hz2⟩ := info_parts info_i64
  obtain ⟨j0, hj, hy0, hy1, hy2⟩ := info_parts info_sl
  go_enter Try.func73, Try.ntmps73
  go_wp2_with fail
  refine (nxt_any _ s 5 HS.out).mono ?_
  rintro e w1 ⟨x1, rfl, a0, a1, -, hs, hg⟩
  have a2 := a1 (by omega)
  have HS1 := Lib.hid hs
  have HG1 := Lib.hid hg
  clear hs hg a1
  go_wp2_with fail
  refine (nxt_any _ s 5 HS1.out).mono ?_
  rintro e w2 ⟨x2, rfl, c0, c1, -, hs, hg⟩
  have c2 := c1 (by omega)
  have HS2 := Lib.hid hs
  have HG2 := Lib.hid (grown_trans HG1.out hg)
  clear hs hg c1
  go_wp2_with fail
  refine (nxt_any _ s 40 HS2.out).mono ?_
  rintro e w3 ⟨t0, rfl, -, -, -, hs, hg⟩
  have HS3 := Lib.hid hs
  have HG3 := Lib.hid (grown_trans HG2.out hg)
  clear hs hg HS1 HS2 HG1 HG2
  by_cases ht0 : t0 = 0
  · subst ht0
    go_wp2_with fail
    have HR0 : Hid (RwS w s w3.heap.size 0 [] [] (w3.alloc (.cells #[] 38))) := Lib.hid (RwS.lit HS3.out HG3.out)
    go_loopw [5, 6] (fun o i wr => ∃ (G c : Nat) (vs : List Value) (L : List (List Int)), o = .slice (some ⟨G, 0, none⟩) L.length c ∧ i = .int .i64 (L.length : Int) ∧ (L.length : Int) ≤ 6 ∧ (∀ j, j < L.length → ((gR L j).length : Int) = 4) ∧ RwS w s G c vs L wr) (fun _ i _ => (6 - intOf i).toNat)
    case atStart => exact ⟨w3.heap.size, 0, [], [], rfl, rfl, by first | (simp; done) | (simp; omega), fun j hj => by simp at hj, HR0.out⟩
    case round =>
      obtain ⟨G, c, vs, L, rfl, rfl, hLR, hLC, hR⟩ := hrel
      obtain ⟨wo, rfl⟩ : ∃ u, u = wr := ⟨wr, rfl⟩
      have HR := Lib.hid hR
      have HLC := Lib.hid hLC
      clear hR hLC HR0
      have hlo : s < wo.heap.size := HR.out.src.lt
      by_cases hlt1 : (L.length : Int) < 6
      · go_wp2_with fail
        have HD0 : Hid (D1 wo s wo.heap.size 0 0 [] (wo.alloc (.cells #[] 2))) := Lib.hid (D1.lit HR.out.src)
        go_loopw [7, 8] (fun v y wx => ∃ (ge ce : Nat) (Z : List Int), v = .slice (some ⟨ge, 0, none⟩) Z.length ce ∧ y = .int .i64 (Z.length : Int) ∧ (Z.length : Int) ≤ 4 ∧ D1 wo s ge ce Z.length Z wx) (fun _ y _ => (4 - intOf y).toNat)
        case atStart => exact ⟨wo.heap.size, 0, [], rfl, rfl, by first | (simp; done) | (simp; omega), HD0.out⟩
        case round =>
          obtain ⟨ge, ce, Z, rfl, rfl, hZC, hD⟩ := hrel
          have HD := Lib.hid hD
          clear hD HD0
          by_cases hlt2 : (Z.length : Int) < 4
          · go_wp2_with fail
            refine (nxt_any _ s 20 HD.out.src).mono ?_
            rintro e v1 ⟨x, rfl, -, -, -, hs, hg⟩
            replace HD := Lib.hid (HD.out.draw hlo hs hg)
            clear hs hg
            go_wp2_with fail
            refine (nxt_any _ s 8 HD.out.src).mono ?_
            rintro e v2 ⟨y, rfl, -, -, -, hs, hg⟩
            replace HD := Lib.hid (HD.out.draw hlo hs hg)
            clear hs hg
            go_wp2_with fail
            refine (pick_newS v2 s 6 6 [-1, 1, 2, 3, x, y] _ HD.out.src rfl (by decide) (by decide) ?hc).mono ?_
            case hc => intro j hj; match j, hj with
              | 0, _ => rfl
              | 1, _ => rfl
              | 2, _ => rfl
              | 3, _ => rfl
              | 4, _ => rfl
              | 5, _ => rfl
            rintro e v3 ⟨z, rfl, hs, hg⟩
            replace HD := Lib.hid ((HD.out.al _).draw hlo hs hg)
            clear hs hg
            go_wp2_with (at_builtin; refine wpList_append_lies _ rfl _ _ 38 rfl _ 2 i0 (.int .i64 0) 1 8 Try.underlying38 hi hz0 hz1 hz2 rfl (by decide) (.slice (some ⟨ge, 0, none⟩) Z.length ce) Z.length ((Z).map iv4) rfl (HD.out.row.alloc _) ⟨v3.heap.size, 0, none⟩ 1 1 [.int .i64 z] rfl rfl (World.news_of_block (cs := #[.int .i64 z]) (t := 2) (fr := (0, 0)) (heap_alloc_new v3 _)) (by simp [Value.oneCell']) (by decide) (by unfold maxLen; omega) (by omega) (by have := HD.out.grw.size; simp; omega) (v3.heap.size + 1) (by simp) ?_; intro g2 cp2 w9 hown hgrow hat hlt9; have HD9 := Lib.hid (HD.out.put hlo hown hgrow); clear hown hgrow hat hlt9)
            go_roundw
            case rel => exact ⟨g2, cp2, Z ++ [z], by rw [List.length_append]; rfl, by rw [len_snocI], by rw [len_snocI]; omega, by rw [List.length_append]; exact HD9.out⟩
            case measure => simp [intOf] <;> omega
          · have HRX := Lib.hid (HR.out.draw hlt HD.out.src HD.out.grw)
            have HO := Lib.hid (HD.out.ownA (lo := w.heap.size) (HR.out.grw.size))
            have hgl := HD.out.lo.1
            have HF : Hid (∀ j, j < L.length → ∀ g' l' d' : Nat, vs[j]? = some (.slice (some ⟨g', 0, none⟩) l' d') → g' ≠ ge) := Lib.hid (fun j hj g' l' d' e => by have := (HR.out.rlt hj e).2; omega)
            obtain ⟨wi, rfl⟩ : ∃ u, u = wr := ⟨wr, rfl⟩
            go_wp2_with (at_builtin; refine wpList_append_lies _ rfl _ _ 28 rfl w.heap.size 38 j0 (.slice none 0 0) 1 24 Try.underlying28 hj hy0 hy1 hy2 rfl (by decide) (.slice (some ⟨G, 0, none⟩) L.length c) L.length vs rfl (HRX.out.row.alloc _) ⟨wi.heap.size, 0, none⟩ 1 1 [.slice (some ⟨ge, 0, none⟩) Z.length ce] rfl rfl (World.news_of_block (cs := #[.slice (some ⟨ge, 0, none⟩) Z.length ce]) (t := 38) (fr := (0, 0)) (heap_alloc_new wi _)) (by simp [Value.oneCell']) (by decide) (by unfold maxLen; omega) (by omega) (by have := HRX.out.grw.size; simp; omega) (wi.heap.size + 1) (by simp) ?_; intro g2 cp2 w9 hown hgrow hat hlt9; have HP9 := Lib.hid (HRX.out.snoc hlt HO.out HF.out hown hgrow); clear hown hgrow hat hlt9)
            go_roundw
            case rel => exact ⟨g2, cp2, _, L ++ [Z], by rw [List.length_append]; rfl, by rw [len_snoc], by rw [len_snoc]; omega, row_lens HLC.out (by omega), HP9.out⟩
            case measure => simp [intOf] <;> omega
      · go_wp2_with fail
        have hLE : (L.length : Int) = 6 := by omega
        refine (nxt_any _ s 24 HR.out.src).mono ?_
        rintro e w4 ⟨t, rfl, -, -, -, hs, hg⟩
        replace HR := Lib.hid (HR.out.draw hlt hs hg)
        clear hs hg
        by_cases ht : t = 0
        · subst ht
          obtain ⟨W7, hW7⟩ : ∃ u, w4.alloc (.cells #[.int .i64 1, .int .i64 2, .int .i64 3, .int .i64 4, .int .i64 5, .int .i64 6, .int .i64 7] 2) = u := ⟨_, rfl⟩
          have HR7 : Hid (RwS w s G c vs L W7) := Lib.hid (by rw [← hW7]; exact HR.out.al _)
          have b7 : Bk W7 w4.heap.size ([1, 2, 3, 4, 5, 6, 7].map iv4).toArray 2 := by rw [← hW7]; exact Bk.new w4 _ _
          have HO7 := Lib.hid (ownA_bk (lo := w.heap.size) b7 HR.out.grw.size (by decide))
          have e7 : w4.heap.size + 1 = W7.heap.size := by rw [← hW7]; simp
          clear b7
          have HF : Hid (∀ j, j < L.length → ∀ g' l' d' : Nat, vs[j]? = some (.slice (some ⟨g', 0, none⟩) l' d') → g' ≠ w4.heap.size) := Lib.hid (fun j hj g' l' d' e => by have := (HR.out.rlt hj e).2; omega)
          go_wp2_with (at_builtin; refine wpList_append_lies _ rfl _ _ 28 rfl w.heap.size 38 j0 (.slice none 0 0) 1 24 Try.underlying28 hj hy0 hy1 hy2 rfl (by decide) (.slice (some ⟨G, 0, none⟩) L.length c) L.length vs rfl (HR7.out.row.alloc _) ⟨W7.heap.size, 0, none⟩ 1 1 [.slice (some ⟨w4.heap.size, 0, none⟩) 7 7] rfl rfl (World.news_of_block (cs := #[.slice (some ⟨w4.heap.size, 0, none⟩) 7 7]) (t := 38) (fr := (0, 0)) (heap_alloc_new W7 _)) (by simp [Value.oneCell']) (by decide) (by unfold maxLen; omega) (by omega) (by have := HR7.out.grw.size; simp; omega) (W7.heap.size + 1) (by simp) ?_; intro g2 cp2 w9 hown hgrow hat hlt9; have HP9 := Lib.hid (HR7.out.snoc hlt HO7.out HF.out hown hgrow); clear hown hgrow hat hlt9)
          go_wp2_with fail
          go_ret
          exact ⟨g2, cp2, L ++ [[1, 2, 3, 4, 5, 6, 7]], by rw [List.length_append]; rfl, by rw [List.length_append]; simp; omega, rows_s8 (rows_8 HLC.out (by omega)) (by decide), own_caps HP9.out.row, HP9.out.done⟩
        · have hd0 : (t == 0) = false := by simpa using ht
          by_cases ht1 : t = 1
          · subst ht1
            by_cases hRC : 0 < 6 ∧ 0 < 4
            rotate_left
            · exact absurd ⟨by omega, by omega⟩ hRC
            obtain ⟨hR0, hC0⟩ := hRC
            obtain ⟨g0, d0, e0, ho⟩ := HR.out.inn 0 (by omega)
            have hL0 := HLC.out 0 (by omega)
            have HO0 := Lib.hid ho
            have hcG : w4.cell? ⟨G, 0, none⟩ = some (.slice (some ⟨g0, 0, none⟩) (gR L 0).length d0) := by rw [HR.out.cellAt (by omega), e0]
            have HE0 := Lib.hid e0
            clear ho e0
            obtain ⟨n0, hn0⟩ : ∃ n, (gR L 0).length = n := ⟨_, rfl⟩
            have HN0 := Lib.hid hn0
            rw [hn0] at hcG hL0
            clear hn0
            have hL1 : (0 : Int) < (L.length : Int) := by omega
            have hn1 : (0 : Int) < (n0 : Int) := by omega
            go_upto_region 19 with fail
            have hs4 : s < w4.heap.size := HR.out.src.lt
            have HBT : Hid (Below w4.heap.size w4 w4) := Lib.hid (Below.refl _ _)
            obtain ⟨S, hSd⟩ : ∃ S : World → Prop, ∀ w', S w' ↔ (w'.cell? ⟨G, 0, none⟩ = some (.slice (some ⟨g0, 0, none⟩) n0 d0)) := ⟨_, fun _ => Iff.rfl⟩
            have HSp : Hid (∀ w' : World, w'.cell? ⟨G, 0, none⟩ = some (.slice (some ⟨g0, 0, none⟩) n0 d0) → S w') := Lib.hid (fun w' y0 => (hSd w').2 y0)
            have HSd := Lib.hid hSd
            clear hSd
            refine wp_region_held_drew (S := S) (by kernel_rfl) ?_ (fun hH => ?_)
            · exact (HSp.out _ hcG : S (World.drew w4))
            clear hH
            generalize hX : World.drew w4 = V0
            have hb : Below w4.heap.size w4 V0 := by rw [← hX]; exact (Below.refl _ _).drew
            clear hX
            replace HR := Lib.hid (HR.out.bel hb)
            replace hcG : V0.cell? ⟨G, 0, none⟩ = some (.slice (some ⟨g0, 0, none⟩) n0 d0) := by rw [HR.out.cellAt (by omega), HE0.out, HN0.out]
            replace HBT := Lib.hid (bel_end HBT.out hb)
            clear hb
            have hS := HSp.out _ hcG
            refine wpAnyH_take (i := 0) (oi := { dst := some 58, op := Go.Op.move (Go.Operand.tmp 5), type := 28, pos := "l15_assignment.go:213", after := #[], guard := none }) (v := ?_) rfl (by kernel_rfl) (by kernel_rfl) (by kernel_rfl) (fun _ _ _ h => h) (Or.inl ⟨by rfl, ?_⟩) hS ?_
            rotate_left
            · (intro w hSw; have hSw := (HSd.out w).1 hSw; go_split_ands; go_simp) <;> with_reducible rfl
            clear hS
            try simp only [Act.put, List.setIfInBounds_toArray, List.set_cons_zero, List.set_cons_succ]
            have hS := HSp.out _ hcG
            refine wpAnyH_take (i := 1) (oi := { dst := some 59, op := Go.Op.indexAddr 28 (Go.Operand.tmp 58) (Go.Operand.const (Go.Value.int Go.IntKind.i64 0)), type := 0, pos := "l15_assignment.go:213", after := #[{ on := 0, ground := Go.Ground.data }], guard := none }) (v := ?_) rfl (by kernel_rfl) (by kernel_rfl) (by kernel_rfl) (fun _ _ _ h => h) (Or.inl ⟨by rfl, ?_⟩) hS ?_
            rotate_left
            · (intro w hSw; have hSw := (HSd.out w).1 hSw; go_split_ands; go_simp) <;> with_reducible rfl
            clear hS
            try simp only [Act.put, List.setIfInBounds_toArray, List.set_cons_zero, List.set_cons_succ]
            have hS := HSp.out _ hcG
            refine wpAnyH_take (i := 2) (oi := { dst := some 60, op := Go.Op.load 38 (Go.Operand.tmp 59), type := 38, pos := "l15_assignment.go:213", after := #[{ on := 1, ground := Go.Ground.data }], guard := none }) (v := ?_) rfl (by kernel_rfl) (by kernel_rfl) (by kernel_rfl) (fun _ _ _ h => h) (Or.inl ⟨by rfl, ?_⟩) hS ?_
            rotate_left
            · (intro w hSw; have hSw := (HSd.out w).1 hSw; go_split_ands; go_simp) <;> with_reducible rfl
            clear hS
            try simp only [Act.put, List.setIfInBounds_toArray, List.set_cons_zero, List.set_cons_succ]
            have hS := HSp.out _ hcG
            refine wpAnyH_take (i := 3) (oi := { dst := some 61, op := Go.Op.move (Go.Operand.tmp 0), type := 63, pos := "l15_assignment.go:213", after := #[], guard := none }) (v := ?_) rfl (by kernel_rfl) (by kernel_rfl) (by kernel_rfl) (fun _ _ _ h => h) (Or.inl ⟨by rfl, ?_⟩) hS ?_
            rotate_left
            · (intro w hSw; have hSw := (HSd.out w).1 hSw; go_split_ands; go_simp) <;> with_reducible rfl
            clear hS
            try simp only [Act.put, List.setIfInBounds_toArray, List.set_cons_zero, List.set_cons_succ]
            refine wpAnyH_ready (rs := [4]) (by kernel_rfl) (by simp) ?_
            refine AllReadyH.cons (o := { dst := some 62, op := Go.Op.buildSlice 38 3 #[(0, Go.Operand.const (Go.Value.int Go.IntKind.i64 (-2))), (1, Go.Operand.const (Go.Value.int Go.IntKind.i64 1000000000000)), (2, Go.Operand.const (Go.Value.int Go.IntKind.i64 1000000000001))], type := 38, pos := "l15_assignment.go:213", after := #[], guard := none }) rfl (fun Kn hK => ?_) AllReadyH.nil
            go_simp
            generalize hX : World.alloc V0 _ = V1
            obtain ⟨g4, hg⟩ : ∃ g, g = V0.heap.size := ⟨_, rfl⟩
            have bn4 : Bk V1 g4 #[.int .i64 (-2), .int .i64 1000000000000, .int .i64 1000000000001] 2 := by rw [← hX]; exact Bk.new' hg
            have le4 : w4.heap.size ≤ g4 := by rw [hg]; exact HBT.out.size
            try rw [← hg]
            have hb : Below V0.heap.size V0 V1 := by rw [← hX]; exact (Below.refl _ _).alloc (Nat.le_refl _) _
            clear hX hg
            replace HR := Lib.hid (HR.out.bel hb)
            replace hcG : V1.cell? ⟨G, 0, none⟩ = some (.slice (some ⟨g0, 0, none⟩) n0 d0) := by rw [HR.out.cellAt (by omega), HE0.out, HN0.out]
            replace HBT := Lib.hid (bel_end HBT.out hb)
            clear hb
            refine hK.out _ _ (HSp.out _ hcG) (fun _ => ?_)
            clear hK Kn
            refine wpAnyH_ready (rs := [5]) (by kernel_rfl) (by simp) ?_
            refine AllReadyH.cons (o := { dst := some 63, op := Go.Op.call { callee := Go.Callee.value (Go.Operand.func 97), args := #[Go.Operand.tmp 61, Go.Operand.tmp 62], argTypes := #[63, 38] }, type := 2, pos := "l15_assignment.go:213", after := #[{ on := 3, ground := Go.Ground.data }, { on := 4, ground := Go.Ground.data }], guard := none }) rfl (fun Kn hK => ?_) AllReadyH.nil
            have KQ := Lib.hid (pick_some V1 s g4 3 3 [-2, 1000000000000, 1000000000001] HR.out.src rfl (by omega) (by decide) (by decide) (fun j hj => bn4.cell j (match j, hj with | 0, _ => rfl | 1, _ => rfl | 2, _ => rfl)) bn4.lt)
            first | go_at_call 97 | (go_simp; go_at_call 97)
            refine KQ.out.mono ?_
            rintro e V2 ⟨z, rfl, hs, hg⟩
            try dsimp only
            try simp only [Act.put, List.setIfInBounds_toArray, List.set_cons_zero, List.set_cons_succ]
            replace HR := Lib.hid (HR.out.draw hlt hs hg)
            replace hcG : V2.cell? ⟨G, 0, none⟩ = some (.slice (some ⟨g0, 0, none⟩) n0 d0) := by rw [HR.out.cellAt (by omega), HE0.out, HN0.out]
            replace HBT : Hid (Below V2.heap.size V2 V2) := Lib.hid (Below.refl _ _)
            clear bn4 KQ hs hg
            refine hK.out _ _ (HSp.out _ hcG) (fun _ => ?_)
            clear hK Kn
            have hS := HSp.out _ hcG
            refine wpAnyH_take (i := 6) (oi := { dst := some 64, op := Go.Op.indexAddr 38 (Go.Operand.tmp 60) (Go.Operand.const (Go.Value.int Go.IntKind.i64 0)), type := 0, pos := "l15_assignment.go:213", after := #[{ on := 2, ground := Go.Ground.data }, { on := 0, ground := Go.Ground.phase }, { on := 1, ground := Go.Ground.phase }, { on := 2, ground := Go.Ground.phase }, { on := 3, ground := Go.Ground.phase }, { on := 4, ground := Go.Ground.phase }, { on := 5, ground := Go.Ground.phase }], guard := none }) (v := ?_) rfl (by kernel_rfl) (by kernel_rfl) (by kernel_rfl) (fun _ _ _ h => h) (Or.inl ⟨by rfl, ?_⟩) hS ?_
            rotate_left
            · (intro w hSw; have hSw := (HSd.out w).1 hSw; go_split_ands; go_simp) <;> with_reducible rfl
            clear hS
            try simp only [Act.put, List.setIfInBounds_toArray, List.set_cons_zero, List.set_cons_succ]
            refine wpAnyH_ready (rs := [7]) (by kernel_rfl) (by simp) ?_
            refine AllReadyH.cons (o := { dst := none, op := Go.Op.store 2 (Go.Operand.tmp 64) (Go.Operand.tmp 63), type := 0, pos := "l15_assignment.go:213", after := #[{ on := 6, ground := Go.Ground.data }, { on := 5, ground := Go.Ground.data }, { on := 5, ground := Go.Ground.chain }, { on := 0, ground := Go.Ground.phase }, { on := 1, ground := Go.Ground.phase }, { on := 2, ground := Go.Ground.phase }, { on := 3, ground := Go.Ground.phase }, { on := 4, ground := Go.Ground.phase }, { on := 5, ground := Go.Ground.phase }], guard := none }) rfl (fun Kn hK => ?_) AllReadyH.nil
            obtain ⟨gx, dx, ex, hox⟩ := HR.out.inn 0 (by omega)
            rw [HE0.out] at ex
            simp only [Option.some.injEq, Value.slice.injEq, Addr.mk.injEq, and_true] at ex
            obtain ⟨ex1, -, ex2⟩ := ex
            subst ex1 ex2
            have hq0 : V2.cell? ⟨g0, 0, none⟩ = some (.int .i64 ((gR L 0).getD 0 0)) := by
              obtain ⟨bq, oq, eq, -, hcq⟩ := hox.ints.at_ (j := 0) (by have := HN0.out; omega)
              simp only [Option.some.injEq, Addr.mk.injEq, and_true] at eq
              obtain ⟨eq1, eq2⟩ := eq
              subst eq1 eq2
              exact hcq
            have hf0 : V2.frozen? ⟨g0, 0, none⟩ = false := hox.own.frozenAt 0
            have hl0 : g0 < V2.heap.size := (hox.own.lt g0 rfl).2
            go_simp
            generalize hX : World.setCell _ _ _ = V3
            replace HR : Hid (RwS w s G c vs (L.set 0 ((gR L 0).set 0 z)) V3) := Lib.hid (by rw [← hX]; exact HR.out.set0 hlt HE0.out (by omega) z)
            replace hcG : V3.cell? ⟨G, 0, none⟩ = some (.slice (some ⟨g0, 0, none⟩) n0 d0) := by rw [HR.out.cellAt (by rw [List.length_set]; omega), HE0.out, HN0.out]
            clear hq0 hf0 hl0 hox hX
            refine hK.out _ _ (HSp.out _ hcG) (fun _ => ?_)
            clear hK Kn
            refine wpAnyH_done (by kernel_rfl) ?_ _
            go_wp2_with fail
            go_ret
            exact ⟨G, c, L.set 0 ((gR L 0).set 0 z), by rw [List.length_set]; rfl, by rw [List.length_set]; omega, fun j hj => by
              rw [List.length_set] at hj
              have := rows_8 HLC.out (by omega) j hj
              rw [gR_set0 (by omega)]
              split
              · rename_i e; rw [List.length_set, ← e]; exact this
              · exact this, own_caps HR.out.row, HR.out.done⟩
          · have hd1 : (t == 1) = false := by simpa using ht1
            by_cases ht2 : t = 2
            rotate_left
            · have hd2 : (t == 2) = false := by simpa using ht2
              go_wp2_with fail
              go_ret
              exact ⟨G, c, L, rfl, by omega, rows_8 HLC.out (by omega), own_caps HR.out.row, HR.out.done⟩
            subst ht2
            have hmk : ∀ w, (Instr.makeSlice 38 (.int .i64 4) (.int .i64 4)).run Try.prog w = .ok (.slice (some ⟨w.heap.size, 0, none⟩) (4 : Int).toNat (4 : Int).toNat) (w.alloc (.cells (madeCells #[.int .i64 0] (4 : Int).toNat) 2)) := fun w => by have := run_make_row' (P := Try.prog) 38 2 (.int .i64 0) 8 Try.underlying38 info_i64 rfl .i64 .i64 (4 : Int).toNat (by omega) (by omega) w; rwa [show (((4 : Int).toNat : Nat) : Int) = 4 by omega] at this
            have HMK := Lib.hid hmk
            clear hmk
            go_wp2_with fail
            go_loopw [5] (fun o wr => ∃ (G c : Nat) (vs : List Value) (L : List (List Int)), o = .slice (some ⟨G, 0, none⟩) L.length c ∧ L.length ≤ 7 ∧ (∀ j, j < L.length → ((gR L j).length : Int) = 4) ∧ RwS w s G c vs L wr) (fun o _ => 8 - lnV o)
            case atStart => exact ⟨G, c, vs, L, rfl, by omega, HLC.out, HR.out⟩
            case round =>
              clear HR HLC hLE hlt1 hLR
              obtain ⟨G, c, vs, L, rfl, hL7, hLC, hR⟩ := hrel
              have HR := Lib.hid hR
              have HLC := Lib.hid hLC
              clear hR hLC
              go_wp2_with fail
              refine (nxt_any _ s 2 HR.out.src).mono ?_
              rintro e w5 ⟨x, rfl, hx0, hx1, -, hs, hg⟩
              have hx2 := hx1 (by omega)
              replace HR := Lib.hid (HR.out.draw hlt hs hg)
              clear hs hg hx1
              by_cases hlx : (L.length : Int) < 6 + x
              · have hmk := HMK.out
                obtain ⟨W7, hW7⟩ : ∃ u, w5.alloc (.cells (madeCells #[.int .i64 0] (4 : Int).toNat) 2) = u := ⟨_, rfl⟩
                have HR7 : Hid (RwS w s G c vs L W7) := Lib.hid (by rw [← hW7]; exact HR.out.al _)
                have HD7 : Hid (D1 w5 s w5.heap.size (4 : Int).toNat (4 : Int).toNat (List.replicate (4 : Int).toNat 0) W7) := Lib.hid (by rw [← hW7]; exact D1.zeros HR.out.src (grown_refl _ _) _ (by unfold maxLen; omega))
                have HO7 := Lib.hid (HD7.out.ownA (lo := w.heap.size) HR.out.grw.size)
                have e7 : w5.heap.size + 1 = W7.heap.size := by rw [← hW7]; simp
                have HF : Hid (∀ j, j < L.length → ∀ g' l' d' : Nat, vs[j]? = some (.slice (some ⟨g', 0, none⟩) l' d') → g' ≠ w5.heap.size) := Lib.hid (fun j hj g' l' d' e => by have := (HR.out.rlt hj e).2; omega)
                obtain ⟨cn, hcn⟩ : ∃ n, (4 : Int).toNat = n := ⟨_, rfl⟩
                have HCN := Lib.hid hcn
                rw [hcn] at hmk hW7 HO7
                clear hcn HD7
                have HRL : Hid ((List.replicate cn (0 : Int)).length = cn) := Lib.hid (by simp)
                obtain ⟨Z, hZ⟩ : ∃ Z, List.replicate cn (0 : Int) = Z := ⟨_, rfl⟩
                rw [hZ] at HO7 HRL
                clear hZ
                go_wp2_with (at_builtin; refine wpList_append_lies _ rfl _ _ 28 rfl w.heap.size 38 j0 (.slice none 0 0) 1 24 Try.underlying28 hj hy0 hy1 hy2 rfl (by decide) (.slice (some ⟨G, 0, none⟩) L.length c) L.length vs rfl (HR7.out.row.alloc _) ⟨W7.heap.size, 0, none⟩ 1 1 [.slice (some ⟨w5.heap.size, 0, none⟩) cn cn] rfl rfl (World.news_of_block (cs := #[.slice (some ⟨w5.heap.size, 0, none⟩) cn cn]) (t := 38) (fr := (0, 0)) (heap_alloc_new W7 _)) (by simp [Value.oneCell']) (by decide) (by unfold maxLen; omega) (by omega) (by have := HR7.out.grw.size; simp; omega) (W7.heap.size + 1) (by simp) ?_; intro g2 cp2 w9 hown hgrow hat hlt9; have HP9 := Lib.hid (HR7.out.snoc (zs := Z) hlt HO7.out HF.out (by rw [HRL.out]; exact hown) hgrow); clear hown hgrow hat hlt9)
                go_roundw
                case rel => exact ⟨g2, cp2, _, L ++ [Z], by rw [List.length_append]; rfl, by rw [List.length_append]; simp; omega, row_lens HLC.out (by have := HRL.out; have := HCN.out; omega), HP9.out⟩
                case measure => simp [lnV] <;> omega
              · have h6L : 6 ≤ L.length := by omega
                by_cases hC2 : 2 < 4
                rotate_left
                · exact absurd (by omega) hC2
                · have hcap : L.length ≤ c := own_caps HR.out.row
                  go_wp2_with fail
                  go_ret
                  have ht3 : (L.take 3).length = 3 := by rw [List.length_take]; omega
                  exact ⟨G, c, L.take 3, by rw [ht3]; rfl, by omega, fun j hj => by
                    have e : gR (L.take 3) j = gR L j := by unfold gR; rw [List.getD_eq_getElem?_getD, List.getElem?_take, if_pos (by omega), List.getD_eq_getElem?_getD]
                    rw [e]; exact rows_8 HLC.out (by omega) j (by omega), by rw [ht3]; omega, HR.out.done.take 3⟩
  · have hdt : (t0 == 0) = false := by simpa using ht0
    go_wp2_with fail
    have HR0 : Hid (RwS w s w3.heap.size 0 [] [] (w3.alloc (.cells #[] 38))) := Lib.hid (RwS.lit HS3.out HG3.out)
    go_loopw [5, 6] (fun o i wr => ∃ (G c : Nat) (vs : List Value) (L : List (List Int)), o = .slice (some ⟨G, 0, none⟩) L.length c ∧ i = .int .i64 (L.length : Int) ∧ (L.length : Int) ≤ x1 ∧ (∀ j, j < L.length → ((gR L j).length : Int) = x2) ∧ RwS w s G c vs L wr) (fun _ i _ => (x1 - intOf i).toNat)
    case atStart => exact ⟨w3.heap.size, 0, [], [], rfl, rfl, by first | (simp; done) | (simp; omega), fun j hj => by simp at hj, HR0.out⟩
    case round =>
      obtain ⟨G, c, vs, L, rfl, rfl, hLR, hLC, hR⟩ := hrel
      obtain ⟨wo, rfl⟩ : ∃ u, u = wr := ⟨wr, rfl⟩
      have HR := Lib.hid hR
      have HLC := Lib.hid hLC
      clear hR hLC HR0
      have hlo : s < wo.heap.size := HR.out.src.lt
      by_cases hlt1 : (L.length : Int) < x1
      · go_wp2_with fail
        have HD0 : Hid (D1 wo s wo.heap.size 0 0 [] (wo.alloc (.cells #[] 2))) := Lib.hid (D1.lit HR.out.src)
        go_loopw [7, 8] (fun v y wx => ∃ (ge ce : Nat) (Z : List Int), v = .slice (some ⟨ge, 0, none⟩) Z.length ce ∧ y = .int .i64 (Z.length : Int) ∧ (Z.length : Int) ≤ x2 ∧ D1 wo s ge ce Z.length Z wx) (fun _ y _ => (x2 - intOf y).toNat)
        case atStart => exact ⟨wo.heap.size, 0, [], rfl, rfl, by first | (simp; done) | (simp; omega), HD0.out⟩
        case round =>
          obtain ⟨ge, ce, Z, rfl, rfl, hZC, hD⟩ := hrel
          have HD := Lib.hid hD
          clear hD HD0
          by_cases hlt2 : (Z.length : Int) < x2
          · go_wp2_with fail
            refine (nxt_any _ s 20 HD.out.src).mono ?_
            rintro e v1 ⟨x, rfl, -, -, -, hs, hg⟩
            replace HD := Lib.hid (HD.out.draw hlo hs hg)
            clear hs hg
            go_wp2_with fail
            refine (nxt_any _ s 8 HD.out.src).mono ?_
            rintro e v2 ⟨y, rfl, -, -, -, hs, hg⟩
            replace HD := Lib.hid (HD.out.draw hlo hs hg)
            clear hs hg
            go_wp2_with fail
            refine (pick_newS v2 s 6 6 [-1, 1, 2, 3, x, y] _ HD.out.src rfl (by decide) (by decide) ?hc).mono ?_
            case hc => intro j hj; match j, hj with
              | 0, _ => rfl
              | 1, _ => rfl
              | 2, _ => rfl
              | 3, _ => rfl
              | 4, _ => rfl
              | 5, _ => rfl
            rintro e v3 ⟨z, rfl, hs, hg⟩
            replace HD := Lib.hid ((HD.out.al _).draw hlo hs hg)
            clear hs hg
            go_wp2_with (at_builtin; refine wpList_append_lies _ rfl _ _ 38 rfl _ 2 i0 (.int .i64 0) 1 8 Try.underlying38 hi hz0 hz1 hz2 rfl (by decide) (.slice (some ⟨ge, 0, none⟩) Z.length ce) Z.length ((Z).map iv4) rfl (HD.out.row.alloc _) ⟨v3.heap.size, 0, none⟩ 1 1 [.int .i64 z] rfl rfl (World.news_of_block (cs := #[.int .i64 z]) (t := 2) (fr := (0, 0)) (heap_alloc_new v3 _)) (by simp [Value.oneCell']) (by decide) (by unfold maxLen; omega) (by omega) (by have := HD.out.grw.size; simp; omega) (v3.heap.size + 1) (by simp) ?_; intro g2 cp2 w9 hown hgrow hat hlt9; have HD9 := Lib.hid (HD.out.put hlo hown hgrow); clear hown hgrow hat hlt9)
            go_roundw
            case rel => exact ⟨g2, cp2, Z ++ [z], by rw [List.length_append]; rfl, by rw [len_snocI], by rw [len_snocI]; omega, by rw [List.length_append]; exact HD9.out⟩
            case measure => simp [intOf] <;> omega
          · have HRX := Lib.hid (HR.out.draw hlt HD.out.src HD.out.grw)
            have HO := Lib.hid (HD.out.ownA (lo := w.heap.size) (HR.out.grw.size))
            have hgl := HD.out.lo.1
            have HF : Hid (∀ j, j < L.length → ∀ g' l' d' : Nat, vs[j]? = some (.slice (some ⟨g', 0, none⟩) l' d') → g' ≠ ge) := Lib.hid (fun j hj g' l' d' e => by have := (HR.out.rlt hj e).2; omega)
            obtain ⟨wi, rfl⟩ : ∃ u, u = wr := ⟨wr, rfl⟩
            go_wp2_with (at_builtin; refine wpList_append_lies _ rfl _ _ 28 rfl w.heap.size 38 j0 (.slice none 0 0) 1 24 Try.underlying28 hj hy0 hy1 hy2 rfl (by decide) (.slice (some ⟨G, 0, none⟩) L.length c) L.length vs rfl (HRX.out.row.alloc _) ⟨wi.heap.size, 0, none⟩ 1 1 [.slice (some ⟨ge, 0, none⟩) Z.length ce] rfl rfl (World.news_of_block (cs := #[.slice (some ⟨ge, 0, none⟩) Z.length ce]) (t := 38) (fr := (0, 0)) (heap_alloc_new wi _)) (by simp [Value.oneCell']) (by decide) (by unfold maxLen; omega) (by omega) (by have := HRX.out.grw.size; simp; omega) (wi.heap.size + 1) (by simp) ?_; intro g2 cp2 w9 hown hgrow hat hlt9; have HP9 := Lib.hid (HRX.out.snoc hlt HO.out HF.out hown hgrow); clear hown hgrow hat hlt9)
            go_roundw
            case rel => exact ⟨g2, cp2, _, L ++ [Z], by rw [List.length_append]; rfl, by rw [len_snoc], by rw [len_snoc]; omega, row_lens HLC.out (by omega), HP9.out⟩
            case measure => simp [intOf] <;> omega
      · go_wp2_with fail
        have hLE : (L.length : Int) = x1 := by omega
        refine (nxt_any _ s 24 HR.out.src).mono ?_
        rintro e w4 ⟨t, rfl, -, -, -, hs, hg⟩
        replace HR := Lib.hid (HR.out.draw hlt hs hg)
        clear hs hg
        by_cases ht : t = 0
        · subst ht
          obtain ⟨W7, hW7⟩ : ∃ u, w4.alloc (.cells #[.int .i64 1, .int .i64 2, .int .i64 3, .int .i64 4, .int .i64 5, .int .i64 6, .int .i64 7] 2) = u := ⟨_, rfl⟩
          have HR7 : Hid (RwS w s G c vs L W7) := Lib.hid (by rw [← hW7]; exact HR.out.al _)
          have b7 : Bk W7 w4.heap.size ([1, 2, 3, 4, 5, 6, 7].map iv4).toArray 2 := by rw [← hW7]; exact Bk.new w4 _ _
          have HO7 := Lib.hid (ownA_bk (lo := w.heap.size) b7 HR.out.grw.size (by decide))
          have e7 : w4.heap.size + 1 = W7.heap.size := by rw [← hW7]; simp
          clear b7
          have HF : Hid (∀ j, j < L.length → ∀ g' l' d' : Nat, vs[j]? = some (.slice (some ⟨g', 0, none⟩) l' d') → g' ≠ w4.heap.size) := Lib.hid (fun j hj g' l' d' e => by have := (HR.out.rlt hj e).2; omega)
          go_wp2_with (at_builtin; refine wpList_append_lies _ rfl _ _ 28 rfl w.heap.size 38 j0 (.slice none 0 0) 1 24 Try.underlying28 hj hy0 hy1 hy2 rfl (by decide) (.slice (some ⟨G, 0, none⟩) L.length c) L.length vs rfl (HR7.out.row.alloc _) ⟨W7.heap.size, 0, none⟩ 1 1 [.slice (some ⟨w4.heap.size, 0, none⟩) 7 7] rfl rfl (World.news_of_block (cs := #[.slice (some ⟨w4.heap.size, 0, none⟩) 7 7]) (t := 38) (fr := (0, 0)) (heap_alloc_new W7 _)) (by simp [Value.oneCell']) (by decide) (by unfold maxLen; omega) (by omega) (by have := HR7.out.grw.size; simp; omega) (W7.heap.size + 1) (by simp) ?_; intro g2 cp2 w9 hown hgrow hat hlt9; have HP9 := Lib.hid (HR7.out.snoc hlt HO7.out HF.out hown hgrow); clear hown hgrow hat hlt9)
          go_wp2_with fail
          go_ret
          exact ⟨g2, cp2, L ++ [[1, 2, 3, 4, 5, 6, 7]], by rw [List.length_append]; rfl, by rw [List.length_append]; simp; omega, rows_s8 (rows_8 HLC.out (by omega)) (by decide), own_caps HP9.out.row, HP9.out.done⟩
        · have hd0 : (t == 0) = false := by simpa using ht
          by_cases ht1 : t = 1
          · subst ht1
            by_cases hRC : 0 < x1 ∧ 0 < x2
            rotate_left
            · by_cases hR0 : 0 < x1
              · have hC0 : ¬ 0 < x2 := fun h => hRC ⟨hR0, h⟩
                go_wp2_with fail
                go_ret
                exact ⟨G, c, L, rfl, by omega, rows_8 HLC.out (by omega), own_caps HR.out.row, HR.out.done⟩
              · skip
                go_wp2_with fail
                go_ret
                exact ⟨G, c, L, rfl, by omega, rows_8 HLC.out (by omega), own_caps HR.out.row, HR.out.done⟩
            obtain ⟨hR0, hC0⟩ := hRC
            obtain ⟨g0, d0, e0, ho⟩ := HR.out.inn 0 (by omega)
            have hL0 := HLC.out 0 (by omega)
            have HO0 := Lib.hid ho
            have hcG : w4.cell? ⟨G, 0, none⟩ = some (.slice (some ⟨g0, 0, none⟩) (gR L 0).length d0) := by rw [HR.out.cellAt (by omega), e0]
            have HE0 := Lib.hid e0
            clear ho e0
            obtain ⟨n0, hn0⟩ : ∃ n, (gR L 0).length = n := ⟨_, rfl⟩
            have HN0 := Lib.hid hn0
            rw [hn0] at hcG hL0
            clear hn0
            have hL1 : (0 : Int) < (L.length : Int) := by omega
            have hn1 : (0 : Int) < (n0 : Int) := by omega
            go_upto_region 19 with fail
            have hs4 : s < w4.heap.size := HR.out.src.lt
            have HBT : Hid (Below w4.heap.size w4 w4) := Lib.hid (Below.refl _ _)
            obtain ⟨S, hSd⟩ : ∃ S : World → Prop, ∀ w', S w' ↔ (w'.cell? ⟨G, 0, none⟩ = some (.slice (some ⟨g0, 0, none⟩) n0 d0)) := ⟨_, fun _ => Iff.rfl⟩
            have HSp : Hid (∀ w' : World, w'.cell? ⟨G, 0, none⟩ = some (.slice (some ⟨g0, 0, none⟩) n0 d0) → S w') := Lib.hid (fun w' y0 => (hSd w').2 y0)
            have HSd := Lib.hid hSd
            clear hSd
            refine wp_region_held_drew (S := S) (by kernel_rfl) ?_ (fun hH => ?_)
            · exact (HSp.out _ hcG : S (World.drew w4))
            clear hH
            generalize hX : World.drew w4 = V0
            have hb : Below w4.heap.size w4 V0 := by rw [← hX]; exact (Below.refl _ _).drew
            clear hX
            replace HR := Lib.hid (HR.out.bel hb)
            replace hcG : V0.cell? ⟨G, 0, none⟩ = some (.slice (some ⟨g0, 0, none⟩) n0 d0) := by rw [HR.out.cellAt (by omega), HE0.out, HN0.out]
            replace HBT := Lib.hid (bel_end HBT.out hb)
            clear hb
            have hS := HSp.out _ hcG
            refine wpAnyH_take (i := 0) (oi := { dst := some 58, op := Go.Op.move (Go.Operand.tmp 5), type := 28, pos := "l15_assignment.go:213", after := #[], guard := none }) (v := ?_) rfl (by kernel_rfl) (by kernel_rfl) (by kernel_rfl) (fun _ _ _ h => h) (Or.inl ⟨by rfl, ?_⟩) hS ?_
            rotate_left
            · (intro w hSw; have hSw := (HSd.out w).1 hSw; go_split_ands; go_simp) <;> with_reducible rfl
            clear hS
            try simp only [Act.put, List.setIfInBounds_toArray, List.set_cons_zero, List.set_cons_succ]
            have hS := HSp.out _ hcG
            refine wpAnyH_take (i := 1) (oi := { dst := some 59, op := Go.Op.indexAddr 28 (Go.Operand.tmp 58) (Go.Operand.const (Go.Value.int Go.IntKind.i64 0)), type := 0, pos := "l15_assignment.go:213", after := #[{ on := 0, ground := Go.Ground.data }], guard := none }) (v := ?_) rfl (by kernel_rfl) (by kernel_rfl) (by kernel_rfl) (fun _ _ _ h => h) (Or.inl ⟨by rfl, ?_⟩) hS ?_
            rotate_left
            · (intro w hSw; have hSw := (HSd.out w).1 hSw; go_split_ands; go_simp) <;> with_reducible rfl
            clear hS
            try simp only [Act.put, List.setIfInBounds_toArray, List.set_cons_zero, List.set_cons_succ]
            have hS := HSp.out _ hcG
            refine wpAnyH_take (i := 2) (oi := { dst := some 60, op := Go.Op.load 38 (Go.Operand.tmp 59), type := 38, pos := "l15_assignment.go:213", after := #[{ on := 1, ground := Go.Ground.data }], guard := none }) (v := ?_) rfl (by kernel_rfl) (by kernel_rfl) (by kernel_rfl) (fun _ _ _ h => h) (Or.inl ⟨by rfl, ?_⟩) hS ?_
            rotate_left
            · (intro w hSw; have hSw := (HSd.out w).1 hSw; go_split_ands; go_simp) <;> with_reducible rfl
            clear hS
            try simp only [Act.put, List.setIfInBounds_toArray, List.set_cons_zero, List.set_cons_succ]
            have hS := HSp.out _ hcG
            refine wpAnyH_take (i := 3) (oi := { dst := some 61, op := Go.Op.move (Go.Operand.tmp 0), type := 63, pos := "l15_assignment.go:213", after := #[], guard := none }) (v := ?_) rfl (by kernel_rfl) (by kernel_rfl) (by kernel_rfl) (fun _ _ _ h => h) (Or.inl ⟨by rfl, ?_⟩) hS ?_
            rotate_left
            · (intro w hSw; have hSw := (HSd.out w).1 hSw; go_split_ands; go_simp) <;> with_reducible rfl
            clear hS
            try simp only [Act.put, List.setIfInBounds_toArray, List.set_cons_zero, List.set_cons_succ]
            refine wpAnyH_ready (rs := [4]) (by kernel_rfl) (by simp) ?_
            refine AllReadyH.cons (o := { dst := some 62, op := Go.Op.buildSlice 38 3 #[(0, Go.Operand.const (Go.Value.int Go.IntKind.i64 (-2))), (1, Go.Operand.const (Go.Value.int Go.IntKind.i64 1000000000000)), (2, Go.Operand.const (Go.Value.int Go.IntKind.i64 1000000000001))], type := 38, pos := "l15_assignment.go:213", after := #[], guard := none }) rfl (fun Kn hK => ?_) AllReadyH.nil
            go_simp
            generalize hX : World.alloc V0 _ = V1
            obtain ⟨g4, hg⟩ : ∃ g, g = V0.heap.size := ⟨_, rfl⟩
            have bn4 : Bk V1 g4 #[.int .i64 (-2), .int .i64 1000000000000, .int .i64 1000000000001] 2 := by rw [← hX]; exact Bk.new' hg
            have le4 : w4.heap.size ≤ g4 := by rw [hg]; exact HBT.out.size
            try rw [← hg]
            have hb : Below V0.heap.size V0 V1 := by rw [← hX]; exact (Below.refl _ _).alloc (Nat.le_refl _) _
            clear hX hg
            replace HR := Lib.hid (HR.out.bel hb)
            replace hcG : V1.cell? ⟨G, 0, none⟩ = some (.slice (some ⟨g0, 0, none⟩) n0 d0) := by rw [HR.out.cellAt (by omega), HE0.out, HN0.out]
            replace HBT := Lib.hid (bel_end HBT.out hb)
            clear hb
            refine hK.out _ _ (HSp.out _ hcG) (fun _ => ?_)
            clear hK Kn
            refine wpAnyH_ready (rs := [5]) (by kernel_rfl) (by simp) ?_
            refine AllReadyH.cons (o := { dst := some 63, op := Go.Op.call { callee := Go.Callee.value (Go.Operand.func 97), args := #[Go.Operand.tmp 61, Go.Operand.tmp 62], argTypes := #[63, 38] }, type := 2, pos := "l15_assignment.go:213", after := #[{ on := 3, ground := Go.Ground.data }, { on := 4, ground := Go.Ground.data }], guard := none }) rfl (fun Kn hK => ?_) AllReadyH.nil
            have KQ := Lib.hid (pick_some V1 s g4 3 3 [-2, 1000000000000, 1000000000001] HR.out.src rfl (by omega) (by decide) (by decide) (fun j hj => bn4.cell j (match j, hj with | 0, _ => rfl | 1, _ => rfl | 2, _ => rfl)) bn4.lt)
            first | go_at_call 97 | (go_simp; go_at_call 97)
            refine KQ.out.mono ?_
            rintro e V2 ⟨z, rfl, hs, hg⟩
            try dsimp only
            try simp only [Act.put, List.setIfInBounds_toArray, List.set_cons_zero, List.set_cons_succ]
            replace HR := Lib.hid (HR.out.draw hlt hs hg)
            replace hcG : V2.cell? ⟨G, 0, none⟩ = some (.slice (some ⟨g0, 0, none⟩) n0 d0) := by rw [HR.out.cellAt (by omega), HE0.out, HN0.out]
            replace HBT : Hid (Below V2.heap.size V2 V2) := Lib.hid (Below.refl _ _)
            clear bn4 KQ hs hg
            refine hK.out _ _ (HSp.out _ hcG) (fun _ => ?_)
            clear hK Kn
            have hS := HSp.out _ hcG
            refine wpAnyH_take (i := 6) (oi := { dst := some 64, op := Go.Op.indexAddr 38 (Go.Operand.tmp 60) (Go.Operand.const (Go.Value.int Go.IntKind.i64 0)), type := 0, pos := "l15_assignment.go:213", after := #[{ on := 2, ground := Go.Ground.data }, { on := 0, ground := Go.Ground.phase }, { on := 1, ground := Go.Ground.phase }, { on := 2, ground := Go.Ground.phase }, { on := 3, ground := Go.Ground.phase }, { on := 4, ground := Go.Ground.phase }, { on := 5, ground := Go.Ground.phase }], guard := none }) (v := ?_) rfl (by kernel_rfl) (by kernel_rfl) (by kernel_rfl) (fun _ _ _ h => h) (Or.inl ⟨by rfl, ?_⟩) hS ?_
            rotate_left
            · (intro w hSw; have hSw := (HSd.out w).1 hSw; go_split_ands; go_simp) <;> with_reducible rfl
            clear hS
            try simp only [Act.put, List.setIfInBounds_toArray, List.set_cons_zero, List.set_cons_succ]
            refine wpAnyH_ready (rs := [7]) (by kernel_rfl) (by simp) ?_
            refine AllReadyH.cons (o := { dst := none, op := Go.Op.store 2 (Go.Operand.tmp 64) (Go.Operand.tmp 63), type := 0, pos := "l15_assignment.go:213", after := #[{ on := 6, ground := Go.Ground.data }, { on := 5, ground := Go.Ground.data }, { on := 5, ground := Go.Ground.chain }, { on := 0, ground := Go.Ground.phase }, { on := 1, ground := Go.Ground.phase }, { on := 2, ground := Go.Ground.phase }, { on := 3, ground := Go.Ground.phase }, { on := 4, ground := Go.Ground.phase }, { on := 5, ground := Go.Ground.phase }], guard := none }) rfl (fun Kn hK => ?_) AllReadyH.nil
            obtain ⟨gx, dx, ex, hox⟩ := HR.out.inn 0 (by omega)
            rw [HE0.out] at ex
            simp only [Option.some.injEq, Value.slice.injEq, Addr.mk.injEq, and_true] at ex
            obtain ⟨ex1, -, ex2⟩ := ex
            subst ex1 ex2
            have hq0 : V2.cell? ⟨g0, 0, none⟩ = some (.int .i64 ((gR L 0).getD 0 0)) := by
              obtain ⟨bq, oq, eq, -, hcq⟩ := hox.ints.at_ (j := 0) (by have := HN0.out; omega)
              simp only [Option.some.injEq, Addr.mk.injEq, and_true] at eq
              obtain ⟨eq1, eq2⟩ := eq
              subst eq1 eq2
              exact hcq
            have hf0 : V2.frozen? ⟨g0, 0, none⟩ = false := hox.own.frozenAt 0
            have hl0 : g0 < V2.heap.size := (hox.own.lt g0 rfl).2
            go_simp
            generalize hX : World.setCell _ _ _ = V3
            replace HR : Hid (RwS w s G c vs (L.set 0 ((gR L 0).set 0 z)) V3) := Lib.hid (by rw [← hX]; exact HR.out.set0 hlt HE0.out (by omega) z)
            replace hcG : V3.cell? ⟨G, 0, none⟩ = some (.slice (some ⟨g0, 0, none⟩) n0 d0) := by rw [HR.out.cellAt (by rw [List.length_set]; omega), HE0.out, HN0.out]
            clear hq0 hf0 hl0 hox hX
            refine hK.out _ _ (HSp.out _ hcG) (fun _ => ?_)
            clear hK Kn
            refine wpAnyH_done (by kernel_rfl) ?_ _
            go_wp2_with fail
            go_ret
            exact ⟨G, c, L.set 0 ((gR L 0).set 0 z), by rw [List.length_set]; rfl, by rw [List.length_set]; omega, fun j hj => by
              rw [List.length_set] at hj
              have := rows_8 HLC.out (by omega) j hj
              rw [gR_set0 (by omega)]
              split
              · rename_i e; rw [List.length_set, ← e]; exact this
              · exact this, own_caps HR.out.row, HR.out.done⟩
          · have hd1 : (t == 1) = false := by simpa using ht1
            by_cases ht2 : t = 2
            rotate_left
            · have hd2 : (t == 2) = false := by simpa using ht2
              go_wp2_with fail
              go_ret
              exact ⟨G, c, L, rfl, by omega, rows_8 HLC.out (by omega), own_caps HR.out.row, HR.out.done⟩
            subst ht2
            have hmk : ∀ w, (Instr.makeSlice 38 (.int .i64 x2) (.int .i64 x2)).run Try.prog w = .ok (.slice (some ⟨w.heap.size, 0, none⟩) (x2 : Int).toNat (x2 : Int).toNat) (w.alloc (.cells (madeCells #[.int .i64 0] (x2 : Int).toNat) 2)) := fun w => by have := run_make_row' (P := Try.prog) 38 2 (.int .i64 0) 8 Try.underlying38 info_i64 rfl .i64 .i64 (x2 : Int).toNat (by omega) (by omega) w; rwa [show (((x2 : Int).toNat : Nat) : Int) = x2 by omega] at this
            have HMK := Lib.hid hmk
            clear hmk
            go_wp2_with fail
            go_loopw [5] (fun o wr => ∃ (G c : Nat) (vs : List Value) (L : List (List Int)), o = .slice (some ⟨G, 0, none⟩) L.length c ∧ L.length ≤ 7 ∧ (∀ j, j < L.length → ((gR L j).length : Int) = x2) ∧ RwS w s G c vs L wr) (fun o _ => 8 - lnV o)
            case atStart => exact ⟨G, c, vs, L, rfl, by omega, HLC.out, HR.out⟩
            case round =>
              clear HR HLC hLE hlt1 hLR
              obtain ⟨G, c, vs, L, rfl, hL7, hLC, hR⟩ := hrel
              have HR := Lib.hid hR
              have HLC := Lib.hid hLC
              clear hR hLC
              go_wp2_with fail
              refine (nxt_any _ s 2 HR.out.src).mono ?_
              rintro e w5 ⟨x, rfl, hx0, hx1, -, hs, hg⟩
              have hx2 := hx1 (by omega)
              replace HR := Lib.hid (HR.out.draw hlt hs hg)
              clear hs hg hx1
              by_cases hlx : (L.length : Int) < 6 + x
              · have hmk := HMK.out
                obtain ⟨W7, hW7⟩ : ∃ u, w5.alloc (.cells (madeCells #[.int .i64 0] (x2 : Int).toNat) 2) = u := ⟨_, rfl⟩
                have HR7 : Hid (RwS w s G c vs L W7) := Lib.hid (by rw [← hW7]; exact HR.out.al _)
                have HD7 : Hid (D1 w5 s w5.heap.size (x2 : Int).toNat (x2 : Int).toNat (List.replicate (x2 : Int).toNat 0) W7) := Lib.hid (by rw [← hW7]; exact D1.zeros HR.out.src (grown_refl _ _) _ (by unfold maxLen; omega))
                have HO7 := Lib.hid (HD7.out.ownA (lo := w.heap.size) HR.out.grw.size)
                have e7 : w5.heap.size + 1 = W7.heap.size := by rw [← hW7]; simp
                have HF : Hid (∀ j, j < L.length → ∀ g' l' d' : Nat, vs[j]? = some (.slice (some ⟨g', 0, none⟩) l' d') → g' ≠ w5.heap.size) := Lib.hid (fun j hj g' l' d' e => by have := (HR.out.rlt hj e).2; omega)
                obtain ⟨cn, hcn⟩ : ∃ n, (x2 : Int).toNat = n := ⟨_, rfl⟩
                have HCN := Lib.hid hcn
                rw [hcn] at hmk hW7 HO7
                clear hcn HD7
                have HRL : Hid ((List.replicate cn (0 : Int)).length = cn) := Lib.hid (by simp)
                obtain ⟨Z, hZ⟩ : ∃ Z, List.replicate cn (0 : Int) = Z := ⟨_, rfl⟩
                rw [hZ] at HO7 HRL
                clear hZ
                go_wp2_with (at_builtin; refine wpList_append_lies _ rfl _ _ 28 rfl w.heap.size 38 j0 (.slice none 0 0) 1 24 Try.underlying28 hj hy0 hy1 hy2 rfl (by decide) (.slice (some ⟨G, 0, none⟩) L.length c) L.length vs rfl (HR7.out.row.alloc _) ⟨W7.heap.size, 0, none⟩ 1 1 [.slice (some ⟨w5.heap.size, 0, none⟩) cn cn] rfl rfl (World.news_of_block (cs := #[.slice (some ⟨w5.heap.size, 0, none⟩) cn cn]) (t := 38) (fr := (0, 0)) (heap_alloc_new W7 _)) (by simp [Value.oneCell']) (by decide) (by unfold maxLen; omega) (by omega) (by have := HR7.out.grw.size; simp; omega) (W7.heap.size + 1) (by simp) ?_; intro g2 cp2 w9 hown hgrow hat hlt9; have HP9 := Lib.hid (HR7.out.snoc (zs := Z) hlt HO7.out HF.out (by rw [HRL.out]; exact hown) hgrow); clear hown hgrow hat hlt9)
                go_roundw
                case rel => exact ⟨g2, cp2, _, L ++ [Z], by rw [List.length_append]; rfl, by rw [List.length_append]; simp; omega, row_lens HLC.out (by have := HRL.out; have := HCN.out; omega), HP9.out⟩
                case measure => simp [lnV] <;> omega
              · have h6L : 6 ≤ L.length := by omega
                by_cases hC2 : 2 < x2
                · have hcap : L.length ≤ c := own_caps HR.out.row
                  go_wp2_with fail
                  go_ret
                  have ht3 : (L.take 3).length = 3 := by rw [List.length_take]; omega
                  exact ⟨G, c, L.take 3, by rw [ht3]; rfl, by omega, fun j hj => by
                    have e : gR (L.take 3) j = gR L j := by unfold gR; rw [List.getD_eq_getElem?_getD, List.getElem?_take, if_pos (by omega), List.getD_eq_getElem?_getD]
                    rw [e]; exact rows_8 HLC.out (by omega) j (by omega), by rw [ht3]; omega, HR.out.done.take 3⟩
                · skip
                  go_wp2_with fail
                  go_ret
                  exact ⟨G, c, L, rfl, by omega, rows_8 HLC.out (by omega), own_caps HR.out.row, HR.out.done⟩
end Go.Proofs.Ytlahgdhofakinaa
