/- Contracts of the model's tables of costs. -/
import Derived.Test.YtlahgdhofakinaaGtI
import Derived.Deep.RegionHeld3
import Derived.Deep.DeepCutAuto
import Derived.Deep.DrawnRows
import Derived.Deep.RegionWith
namespace Go.Proofs.Ytlahgdhofakinaa
open Go.ChangeShapes Go.WideShapes Go.ChangeAt Go.RowKit Go.Shelf Num
set_option linter.unusedVariables false
set_option linter.unusedSimpArgs false

set_option maxRecDepth 100000 in
set_option maxHeartbeats 8000000 in
theorem lct_any2 (w : World) (b a : Option Addr) (d cap : Nat) (ms : List Mo) (ps : List (Int × Int)) (n6 : ms.length ≤ 6) (h6 : ps.length ≤ 6) (hm : allM ms = true) (ha : allC ps = true) (hy : Mts w w.heap.size b ms) (hz : Cts w w.heap.size a ps) :
    Calls Try.prog 66 #[.slice b ms.length d, .slice a ps.length cap] w fun e w' => ∃ (g c : Nat) (qs : Nat → Option Addr × Nat), e = .returned (.slice (some ⟨g, 0, none⟩) ms.length c) ∧ OwnR w' w.heap.size w'.heap.size (some ⟨g, 0, none⟩) c qs (tbL ms ps ms.length) ∧ Below w.heap.size w w' := by
  obtain ⟨i0, hi, hz0, hz1, hz2⟩ := info_parts info_i64
  obtain ⟨j0, hj, hy0, hy1, hy2⟩ := info_parts info_sl
  have HZ := Lib.hid hz
  have HY := Lib.hid hy
  have HA := Lib.hid ha
  have HMM := Lib.hid hm
  clear hz hy ha hm
  obtain ⟨f, hf⟩ : ∃ f : Nat → List Int, f = fun j => rwM ps (ms.getD j mo0) := ⟨_, rfl⟩
  have HFF : Hid (∀ j, f j = rwM ps (ms.getD j mo0)) := Lib.hid (fun j => by rw [hf])
  have HFL : Hid (∀ j, (f j).length = ps.length) := Lib.hid (fun j => by rw [HFF.out]; exact rwM_len _ _)
  clear hf
  go_enter Try.func66, Try.ntmps66
  go_wp2_with fail
  have HP0 : Hid (PwS w w.heap.size 0 0 (vsl f (fun _ => (none, 0)) 0) 0 (fun _ => (none, 0)) f (w.alloc (.cells #[] 38))) := Lib.hid ⟨RowG.lit (Bk.new' rfl) (Nat.le_refl _) ((Below.refl _ _).alloc (Nat.le_refl _) _), fun j hj => by omega, fun i j hi hj => by omega⟩
  go_loopw [5, 6] (fun u i wr => ∃ (k ge ce : Nat) (qs : Nat → Option Addr × Nat), k ≤ ms.length ∧ u = .slice (some ⟨ge, 0, none⟩) k ce ∧ i = .int .i64 k ∧ PwS w ge ce k (vsl f qs k) k qs f wr) (fun _ i _ => ms.length - (intOf i).toNat)
  case atStart => exact ⟨0, w.heap.size, 0, fun _ => (none, 0), by omega, rfl, rfl, HP0.out⟩
  case round =>
    obtain ⟨k, ge, ce, qs, hk, rfl, rfl, hP⟩ := hrel
    rename World => wo
    have HP := Lib.hid hP
    have HW := Lib.hid hP.row.bel
    clear hP HP0
    by_cases hlt : k < ms.length
    case pos =>
      obtain ⟨b, off, x, y, u, v, s, rfl, hBk, hpq, hc0, hc1, hc2, hc3, hc4⟩ := (HY.out.below (HW.out)).at_ hlt
      have hv := allM_at HMM.out hlt
      rw [hpq] at hv
      obtain ⟨hxy, -, -, s0, s1⟩ := mtB_t (show mtB x y u v s = true from hv)
      have HFK : Hid (f k = cstL x y s ps ps.length) := Lib.hid (by rw [HFF.out, hpq]; rfl)
      have HMC : Hid (∀ W : World, Below wo.heap.size wo W → W.cell? ⟨b, off + k * 5, none⟩ = some (.int .i64 x) ∧ W.cell? ⟨b, off + k * 5 + 1, none⟩ = some (.int .i64 y) ∧ W.cell? ⟨b, off + k * 5 + 2, none⟩ = some (.int .i64 u) ∧ W.cell? ⟨b, off + k * 5 + 3, none⟩ = some (.int .i64 v) ∧ W.cell? ⟨b, off + k * 5 + 4, none⟩ = some (.int .i64 s)) := Lib.hid (fun W hb => ⟨kcG hc0 hb, kcG hc1 hb, kcG hc2 hb, kcG hc3 hb, kcG hc4 hb⟩)
      have HXY := Lib.hid hxy
      have HSP := Lib.hid (And.intro s0 s1)
      have hkl : (k : Int) < (ms.length : Int) := by omega
      clear hv hpq hxy s0 s1 hBk hc0 hc1 hc2 hc3 hc4
      go_wp2_with fail
      have HR0 := Lib.hid (RowG.lit (w1 := wo) (t := 2) (m := 1) (W := wo.alloc (.cells #[] 2)) (Bk.new' rfl) (Nat.le_refl _) ((Below.refl _ _).alloc (Nat.le_refl _) _))
      go_loopw [7, 8] (fun u i wr => ∃ j gi ci : Nat, j ≤ ps.length ∧ u = .slice (some ⟨gi, 0, none⟩) j ci ∧ i = .int .i64 j ∧ RowG wo 2 1 gi ci j ((cstL x y s ps j).map iv4) wr) (fun _ i _ => ps.length - (intOf i).toNat)
      case atStart => exact ⟨0, wo.heap.size, 0, by omega, rfl, rfl, HR0.out⟩
      case round =>
        obtain ⟨j, gi, ci, hj6, rfl, rfl, hR⟩ := hrel
        have HR := Lib.hid hR
        clear hR HR0
        by_cases hjt : j < ps.length
        case pos =>
          obtain ⟨b2, off2, p, q, rfl, hBk2, hpq2, hd0, hd1⟩ := (HZ.out.below HW.out).at_ hjt
          have HDC : Hid (∀ W : World, Below wo.heap.size wo W → W.cell? ⟨b2, off2 + j * 2, none⟩ = some (.int .i64 p) ∧ W.cell? ⟨b2, off2 + j * 2 + 1, none⟩ = some (.int .i64 q)) := Lib.hid (fun W hb => ⟨kcG hd0 hb, kcG hd1 hb⟩)
          clear hd0 hd1
          have hcq := allC_at HA.out hjt
          rw [hpq2] at hcq
          have HV : Hid (cK x y s ps j = if gin x y s p q then gc x y p q else -1) := Lib.hid (by unfold cK iK gK pX pY; rw [hpq2])
          have K1 : Hid (∀ W : World, Calls Try.prog 107 #[.agg #[.int .i64 x, .int .i64 y, .int .i64 u, .int .i64 v, .int .i64 s], .agg #[.int .i64 p, .int .i64 q]] W fun e w' => e = .returned (.bool (gin x y s p q)) ∧ Below W.heap.size W w') := Lib.hid (fun W => lgi_any W x y u v s p q HXY.out hcq HSP.out.1 HSP.out.2)
          have K2 : Hid (∀ W : World, Calls Try.prog 70 #[.agg #[.int .i64 x, .int .i64 y, .int .i64 u, .int .i64 v, .int .i64 s], .agg #[.int .i64 p, .int .i64 q]] W fun e w' => e = .returned (.int .i64 (gc x y p q)) ∧ Below W.heap.size W w') := Lib.hid (fun W => lco_any W x y u v s p q HXY.out hcq)
          obtain ⟨V, hV⟩ : ∃ qq, gin x y s p q = qq := ⟨_, rfl⟩
          obtain ⟨G, hG⟩ : ∃ qq, gc x y p q = qq := ⟨_, rfl⟩
          rw [hV] at K1 HV
          rw [hG] at K2 HV
          clear hV hG hpq2 hcq hBk2
          have hjl : (j : Int) < (ps.length : Int) := by omega
          have HSN := Lib.hid (cstL_succ x y s ps j)
          obtain ⟨m0, m1, m2, m3, m4⟩ := HMC.out _ HR.out.bel
          obtain ⟨hd0, hd1⟩ := HDC.out _ HR.out.bel
          go_wp2_with fail
          go_still_tail 8, (by kernel_rfl)
          go_wp2_with fail
          clear m0 m1 m2 m3 m4 hd0 hd1
          (with_reducible refine Calls.mono (K1.out _) ?_)
          rintro e w2 ⟨rfl, hb⟩
          replace HR := Lib.hid (HR.out.on ((Below.refl _ _).drew.trans hb))
          clear hb
          cases V
          case false =>
            rw [if_neg (by simp)] at HV
            have HSN2 : Hid ((cstL x y s ps j).map iv4 ++ [.int .i64 (-1)] = (cstL x y s ps (j + 1)).map iv4) := Lib.hid (by rw [HSN.out, HV.out, List.map_append]; rfl)
            go_wp2_with (at_builtin; refine wpList_append_lies _ rfl _ _ 38 rfl wo.heap.size 2 i0 (.int .i64 0) 1 8 Try.underlying38 hi hz0 hz1 hz2 rfl (by decide) (.slice (some ⟨gi, 0, none⟩) j ci) j ((cstL x y s ps j).map iv4) rfl (HR.out.own.alloc _) ⟨w2.heap.size, 0, none⟩ 1 1 [.int .i64 (-1)] rfl rfl (World.news_of_block (cs := #[.int .i64 (-1)]) (t := 2) (fr := (0, 0)) (heap_alloc_new w2 _)) (by simp [Value.oneCell']) (by decide) (by unfold maxLen; omega) (by omega) (by simp; exact Nat.le_succ_of_le HR.out.bel.size) (w2.heap.size + 1) (by simp) ?_; intro g2 cp2 w9 hown hgrow hat hlt9; have HR9 := Lib.hid ((HR.out.on ((Below.refl _ _).alloc (Nat.le_refl _) _)).snoc hown hgrow); clear hown hgrow hat hlt9)
            rw [HSN2.out] at HR9
            go_wp2_with fail
            go_roundw
            case rel => exact ⟨j + 1, g2, cp2, by omega, rfl, by go_num, HR9.out⟩
            case measure => simp [intOf]; omega
          case true =>
            rw [if_pos rfl] at HV
            have HSN2 : Hid ((cstL x y s ps j).map iv4 ++ [.int .i64 G] = (cstL x y s ps (j + 1)).map iv4) := Lib.hid (by rw [HSN.out, HV.out, List.map_append]; rfl)
            obtain ⟨m0, m1, m2, m3, m4⟩ := HMC.out _ HR.out.bel
            obtain ⟨hd0, hd1⟩ := HDC.out _ HR.out.bel
            have HBW : Hid (Below wo.heap.size wo w2) := Lib.hid HR.out.bel
            go_upto_region 10 with fail
            obtain ⟨S, hSd⟩ : ∃ S : World → Prop, ∀ w', S w' ↔ (w'.cell? ⟨b, off + k * 5, none⟩ = some (.int .i64 x) ∧ w'.cell? ⟨b, off + k * 5 + 1, none⟩ = some (.int .i64 y) ∧ w'.cell? ⟨b, off + k * 5 + 2, none⟩ = some (.int .i64 u) ∧ w'.cell? ⟨b, off + k * 5 + 3, none⟩ = some (.int .i64 v) ∧ w'.cell? ⟨b, off + k * 5 + 4, none⟩ = some (.int .i64 s) ∧ w'.cell? ⟨b2, off2 + j * 2, none⟩ = some (.int .i64 p) ∧ w'.cell? ⟨b2, off2 + j * 2 + 1, none⟩ = some (.int .i64 q)) := ⟨_, fun _ => Iff.rfl⟩
            have HSp : Hid (∀ w' : World, w'.cell? ⟨b, off + k * 5, none⟩ = some (.int .i64 x) → w'.cell? ⟨b, off + k * 5 + 1, none⟩ = some (.int .i64 y) → w'.cell? ⟨b, off + k * 5 + 2, none⟩ = some (.int .i64 u) → w'.cell? ⟨b, off + k * 5 + 3, none⟩ = some (.int .i64 v) → w'.cell? ⟨b, off + k * 5 + 4, none⟩ = some (.int .i64 s) → w'.cell? ⟨b2, off2 + j * 2, none⟩ = some (.int .i64 p) → w'.cell? ⟨b2, off2 + j * 2 + 1, none⟩ = some (.int .i64 q) → S w') := Lib.hid (fun w' y0 y1 y2 y3 y4 y5 y6 => (hSd w').2 ⟨y0, y1, y2, y3, y4, y5, y6⟩)
            have HSd := Lib.hid hSd
            clear hSd
            refine wp_region_held_drew (S := S) (by kernel_rfl) ?_ (fun hH => ?_)
            · exact (HSp.out _ m0 m1 m2 m3 m4 hd0 hd1 : S (World.drew w2))
            clear hH
            generalize hX : World.drew w2 = V0
            have hb : Below w2.heap.size w2 V0 := by rw [← hX]; exact (Below.refl _ _).drew
            clear hX
            replace HR := Lib.hid (HR.out.on hb)
            replace m0 := kcG m0 hb
            replace m1 := kcG m1 hb
            replace m2 := kcG m2 hb
            replace m3 := kcG m3 hb
            replace m4 := kcG m4 hb
            replace hd0 := kcG hd0 hb
            replace hd1 := kcG hd1 hb
            replace HBW := Lib.hid (bel_end HBW.out hb)
            clear hb
            have hS := HSp.out _ m0 m1 m2 m3 m4 hd0 hd1
            refine wpAnyH_take (i := 0) (oi := { dst := some 32, op := Go.Op.move (Go.Operand.tmp 7), type := 38, pos := "l14_gating.go:116", after := #[], guard := none }) (v := ?_) rfl (by kernel_rfl) (by kernel_rfl) (by kernel_rfl) (fun _ _ _ h => h) (Or.inl ⟨by rfl, ?_⟩) hS ?_
            rotate_left
            · (intro w hSw; have hSw := (HSd.out w).1 hSw; go_split_ands; go_simp) <;> with_reducible rfl
            clear hS
            try simp only [Act.put, List.setIfInBounds_toArray, List.set_cons_zero, List.set_cons_succ]
            have hS := HSp.out _ m0 m1 m2 m3 m4 hd0 hd1
            refine wpAnyH_take (i := 1) (oi := { dst := some 33, op := Go.Op.move (Go.Operand.tmp 0), type := 24, pos := "l14_gating.go:116", after := #[], guard := none }) (v := ?_) rfl (by kernel_rfl) (by kernel_rfl) (by kernel_rfl) (fun _ _ _ h => h) (Or.inl ⟨by rfl, ?_⟩) hS ?_
            rotate_left
            · (intro w hSw; have hSw := (HSd.out w).1 hSw; go_split_ands; go_simp) <;> with_reducible rfl
            clear hS
            try simp only [Act.put, List.setIfInBounds_toArray, List.set_cons_zero, List.set_cons_succ]
            have hS := HSp.out _ m0 m1 m2 m3 m4 hd0 hd1
            refine wpAnyH_take (i := 2) (oi := { dst := some 34, op := Go.Op.move (Go.Operand.tmp 6), type := 3, pos := "l14_gating.go:116", after := #[], guard := none }) (v := ?_) rfl (by kernel_rfl) (by kernel_rfl) (by kernel_rfl) (fun _ _ _ h => h) (Or.inl ⟨by rfl, ?_⟩) hS ?_
            rotate_left
            · (intro w hSw; have hSw := (HSd.out w).1 hSw; go_split_ands; go_simp) <;> with_reducible rfl
            clear hS
            try simp only [Act.put, List.setIfInBounds_toArray, List.set_cons_zero, List.set_cons_succ]
            have hS := HSp.out _ m0 m1 m2 m3 m4 hd0 hd1
            refine wpAnyH_take (i := 3) (oi := { dst := some 35, op := Go.Op.indexAddr 24 (Go.Operand.tmp 33) (Go.Operand.tmp 34), type := 0, pos := "l14_gating.go:116", after := #[{ on := 1, ground := Go.Ground.data }, { on := 2, ground := Go.Ground.data }], guard := none }) (v := ?_) rfl (by kernel_rfl) (by kernel_rfl) (by kernel_rfl) (fun _ _ _ h => h) (Or.inl ⟨by rfl, ?_⟩) hS ?_
            rotate_left
            · (intro w hSw; have hSw := (HSd.out w).1 hSw; go_split_ands; go_simp) <;> with_reducible rfl
            clear hS
            try simp only [Act.put, List.setIfInBounds_toArray, List.set_cons_zero, List.set_cons_succ]
            have hS := HSp.out _ m0 m1 m2 m3 m4 hd0 hd1
            refine wpAnyH_take (i := 4) (oi := { dst := some 36, op := Go.Op.load 32 (Go.Operand.tmp 35), type := 32, pos := "l14_gating.go:116", after := #[{ on := 3, ground := Go.Ground.data }], guard := none }) (v := ?_) rfl (by kernel_rfl) (by kernel_rfl) (by kernel_rfl) (fun _ _ _ h => h) (Or.inl ⟨by rfl, ?_⟩) hS ?_
            rotate_left
            · (intro w hSw; have hSw := (HSd.out w).1 hSw; go_split_ands; go_simp) <;> with_reducible rfl
            clear hS
            try simp only [Act.put, List.setIfInBounds_toArray, List.set_cons_zero, List.set_cons_succ]
            have hS := HSp.out _ m0 m1 m2 m3 m4 hd0 hd1
            refine wpAnyH_take (i := 5) (oi := { dst := some 37, op := Go.Op.move (Go.Operand.tmp 1), type := 25, pos := "l14_gating.go:116", after := #[], guard := none }) (v := ?_) rfl (by kernel_rfl) (by kernel_rfl) (by kernel_rfl) (fun _ _ _ h => h) (Or.inl ⟨by rfl, ?_⟩) hS ?_
            rotate_left
            · (intro w hSw; have hSw := (HSd.out w).1 hSw; go_split_ands; go_simp) <;> with_reducible rfl
            clear hS
            try simp only [Act.put, List.setIfInBounds_toArray, List.set_cons_zero, List.set_cons_succ]
            have hS := HSp.out _ m0 m1 m2 m3 m4 hd0 hd1
            refine wpAnyH_take (i := 6) (oi := { dst := some 38, op := Go.Op.move (Go.Operand.tmp 8), type := 3, pos := "l14_gating.go:116", after := #[], guard := none }) (v := ?_) rfl (by kernel_rfl) (by kernel_rfl) (by kernel_rfl) (fun _ _ _ h => h) (Or.inl ⟨by rfl, ?_⟩) hS ?_
            rotate_left
            · (intro w hSw; have hSw := (HSd.out w).1 hSw; go_split_ands; go_simp) <;> with_reducible rfl
            clear hS
            try simp only [Act.put, List.setIfInBounds_toArray, List.set_cons_zero, List.set_cons_succ]
            have hS := HSp.out _ m0 m1 m2 m3 m4 hd0 hd1
            refine wpAnyH_take (i := 7) (oi := { dst := some 39, op := Go.Op.indexAddr 25 (Go.Operand.tmp 37) (Go.Operand.tmp 38), type := 0, pos := "l14_gating.go:116", after := #[{ on := 5, ground := Go.Ground.data }, { on := 6, ground := Go.Ground.data }], guard := none }) (v := ?_) rfl (by kernel_rfl) (by kernel_rfl) (by kernel_rfl) (fun _ _ _ h => h) (Or.inl ⟨by rfl, ?_⟩) hS ?_
            rotate_left
            · (intro w hSw; have hSw := (HSd.out w).1 hSw; go_split_ands; go_simp) <;> with_reducible rfl
            clear hS
            try simp only [Act.put, List.setIfInBounds_toArray, List.set_cons_zero, List.set_cons_succ]
            have hS := HSp.out _ m0 m1 m2 m3 m4 hd0 hd1
            refine wpAnyH_take (i := 8) (oi := { dst := some 40, op := Go.Op.load 79 (Go.Operand.tmp 39), type := 79, pos := "l14_gating.go:116", after := #[{ on := 7, ground := Go.Ground.data }], guard := none }) (v := ?_) rfl (by kernel_rfl) (by kernel_rfl) (by kernel_rfl) (fun _ _ _ h => h) (Or.inl ⟨by rfl, ?_⟩) hS ?_
            rotate_left
            · (intro w hSw; have hSw := (HSd.out w).1 hSw; go_split_ands; go_simp) <;> with_reducible rfl
            clear hS
            try simp only [Act.put, List.setIfInBounds_toArray, List.set_cons_zero, List.set_cons_succ]
            refine wpAnyH_ready (rs := [9]) (by kernel_rfl) (by simp) ?_
            refine AllReadyH.cons (o := { dst := some 41, op := Go.Op.call { callee := Go.Callee.value (Go.Operand.func 70), args := #[Go.Operand.tmp 36, Go.Operand.tmp 40], argTypes := #[32, 79] }, type := 2, pos := "l14_gating.go:116", after := #[{ on := 4, ground := Go.Ground.data }, { on := 8, ground := Go.Ground.data }], guard := none }) rfl (fun Kn hK => ?_) AllReadyH.nil
            first | go_at_call 70 | (go_simp; go_at_call 70)
            (with_reducible refine Calls.mono (K2.out  _) ?_)
            rintro e V1 ⟨rfl, hb⟩
            try dsimp only
            try simp only [Act.put, List.setIfInBounds_toArray, List.set_cons_zero, List.set_cons_succ]
            replace HR := Lib.hid (HR.out.on hb)
            replace m0 := kcG m0 hb
            replace m1 := kcG m1 hb
            replace m2 := kcG m2 hb
            replace m3 := kcG m3 hb
            replace m4 := kcG m4 hb
            replace hd0 := kcG hd0 hb
            replace hd1 := kcG hd1 hb
            replace HBW := Lib.hid (bel_end HBW.out hb)
            clear hb
            refine hK.out _ _ (HSp.out _ m0 m1 m2 m3 m4 hd0 hd1) (fun _ => ?_)
            clear hK Kn
            refine wpAnyH_ready (rs := [10]) (by kernel_rfl) (by simp) ?_
            refine AllReadyH.cons (o := { dst := some 42, op := Go.Op.buildSlice 38 1 #[(0, Go.Operand.tmp 41)], type := 38, pos := "l14_gating.go:116", after := #[{ on := 9, ground := Go.Ground.data }], guard := none }) rfl (fun Kn hK => ?_) AllReadyH.nil
            go_simp
            generalize hX : World.alloc V1 _ = V2
            obtain ⟨g10, hg⟩ : ∃ g, g = V1.heap.size := ⟨_, rfl⟩
            have bn10 : Bk V2 g10 #[.int .i64 G] 2 := by rw [← hX]; exact Bk.new' hg
            have le10 : wo.heap.size ≤ g10 := by rw [hg]; exact HBW.out.size
            try rw [← hg]
            have hb : Below V1.heap.size V1 V2 := by rw [← hX]; exact (Below.refl _ _).alloc (Nat.le_refl _) _
            clear hX hg
            replace HR := Lib.hid (HR.out.on hb)
            replace m0 := kcG m0 hb
            replace m1 := kcG m1 hb
            replace m2 := kcG m2 hb
            replace m3 := kcG m3 hb
            replace m4 := kcG m4 hb
            replace hd0 := kcG hd0 hb
            replace hd1 := kcG hd1 hb
            replace HBW := Lib.hid (bel_end HBW.out hb)
            clear hb
            refine hK.out _ _ (HSp.out _ m0 m1 m2 m3 m4 hd0 hd1) (fun _ => ?_)
            clear hK Kn
            refine wpAnyH_ready (rs := [11]) (by kernel_rfl) (by simp) ?_
            refine AllReadyH.cons (o := { dst := some 43, op := Go.Op.call { callee := Go.Callee.builtin Go.Builtin.append, args := #[Go.Operand.tmp 32, Go.Operand.tmp 42], argTypes := #[38, 38] }, type := 38, pos := "l14_gating.go:116", after := #[{ on := 0, ground := Go.Ground.data }, { on := 10, ground := Go.Ground.data }, { on := 9, ground := Go.Ground.chain }], guard := none }) rfl (fun Kn hK => ?_) AllReadyH.nil
            refine step_append_lies _ rfl _ _ 38 rfl wo.heap.size 2 i0 (.int .i64 0) 1 8 Try.underlying38 hi hz0 hz1 hz2 rfl (by decide) (.slice (some ⟨gi, 0, none⟩) j ci) j ((cstL x y s ps j).map iv4) rfl HR.out.own ⟨g10, 0, none⟩ 1 1 [.int .i64 G] rfl rfl (World.news_of_block (cs := #[.int .i64 G]) (t := 2) (fr := (0, 0)) bn10) (by simp [Value.oneCell']) (by decide) (by unfold maxLen; omega) (by omega) (HR.out.bel.size) V2.heap.size rfl ?_
            intro g2 cp2 V3 hown hgrow hat hlt9
            replace hgrow : V2.grownBy V3 (some gi) := hgrow
            replace HR := Lib.hid (HR.out.snoc hown hgrow)
            replace HBW := Lib.hid HR.out.bel
            clear hown hgrow hat hlt9 bn10
            clear m0 m1 m2 m3 m4 hd0 hd1
            obtain ⟨m0, m1, m2, m3, m4⟩ := HMC.out _ HR.out.bel
            obtain ⟨hd0, hd1⟩ := HDC.out _ HR.out.bel
            try simp only [Act.put, List.setIfInBounds_toArray, List.set_cons_zero, List.set_cons_succ]
            refine hK.out _ _ (HSp.out _ m0 m1 m2 m3 m4 hd0 hd1) (fun _ => ?_)
            clear hK Kn
            have hS := HSp.out _ m0 m1 m2 m3 m4 hd0 hd1
            refine wpAnyH_take (i := 12) (oi := { dst := some 7, op := Go.Op.assign (Go.Operand.tmp 43), type := 38, pos := "l14_gating.go:116", after := #[{ on := 11, ground := Go.Ground.data }, { on := 11, ground := Go.Ground.chain }, { on := 0, ground := Go.Ground.phase }, { on := 1, ground := Go.Ground.phase }, { on := 2, ground := Go.Ground.phase }, { on := 3, ground := Go.Ground.phase }, { on := 4, ground := Go.Ground.phase }, { on := 5, ground := Go.Ground.phase }, { on := 6, ground := Go.Ground.phase }, { on := 7, ground := Go.Ground.phase }, { on := 8, ground := Go.Ground.phase }, { on := 9, ground := Go.Ground.phase }, { on := 10, ground := Go.Ground.phase }, { on := 11, ground := Go.Ground.phase }], guard := none }) (v := ?_) rfl (by kernel_rfl) (by kernel_rfl) (by kernel_rfl) (fun _ _ _ h => h) (Or.inl ⟨by rfl, ?_⟩) hS ?_
            rotate_left
            · (intro w hSw; have hSw := (HSd.out w).1 hSw; go_split_ands; go_simp) <;> with_reducible rfl
            clear hS
            try simp only [Act.put, List.setIfInBounds_toArray, List.set_cons_zero, List.set_cons_succ]
            refine wpAnyH_done (by kernel_rfl) ?_ _
            rw [HSN2.out] at HR
            go_wp2_with fail
            go_roundw
            (case rel => exact ⟨j + 1, g2, cp2, by omega, rfl, by go_num, HR.out⟩)
            (case measure => simp [intOf]; omega)
        case neg =>
          obtain rfl : j = ps.length := by omega
          have HNE : Hid (∀ i, i < k → ∀ x : Addr, (qs i).1 = some x → x.block ≠ gi) := Lib.hid (fun i hi x ex => by have := HP.out.lt hi ex; have := HR.out.lo; omega)
          have HOA : Hid (OwnA wr w.heap.size wr.heap.size (some ⟨gi, 0, none⟩) ci (f k)) := Lib.hid (by rw [HFK.out]; exact ownA_row HR.out (cstL_len _ _ _ _ _) HW.out.size)
          have HP2 := Lib.hid ((HP.out.on HR.out.bel).add HOA.out HNE.out)
          have HVS := Lib.hid (vsl_succ f qs k gi ci (HFL.out k))
          clear HP HR
          go_wp2_with (at_builtin; refine wpList_append_lies _ rfl _ _ 28 rfl w.heap.size 38 j0 (.slice none 0 0) 1 24 Try.underlying28 hj hy0 hy1 hy2 rfl (by decide) (.slice (some ⟨ge, 0, none⟩) k ce) k (vsl f qs k) rfl (HP2.out.row.own.alloc _) ⟨wr.heap.size, 0, none⟩ 1 1 [.slice (some ⟨gi, 0, none⟩) ps.length ci] rfl rfl (World.news_of_block (cs := #[.slice (some ⟨gi, 0, none⟩) ps.length ci]) (t := 38) (fr := (0, 0)) (heap_alloc_new wr _)) (by simp [Value.oneCell']) (by decide) (by unfold maxLen; omega) (by omega) (by simp; exact Nat.le_succ_of_le HP2.out.row.bel.size) (wr.heap.size + 1) (by simp) ?_; intro g2 cp2 w9 hown hgrow hat hlt9; have HP9 := Lib.hid ((HP2.out.on ((Below.refl _ _).alloc (Nat.le_refl _) _)).snoc hown hgrow); clear hown hgrow hat hlt9)
          rw [← HVS.out] at HP9
          go_wp2_with fail
          go_roundw
          case rel => exact ⟨k + 1, g2, cp2, _, by omega, rfl, by go_num, HP9.out⟩
          case measure => simp [intOf]; omega
    case neg =>
      obtain rfl : k = ms.length := by omega
      go_wp2
      go_ret
      exact ⟨ge, ce, qs, rfl, HP.out.all rfl (tbL_len _ _ _) (fun j hj => by rw [tbL_at _ _ hj, HFF.out]) rfl (Nat.le_refl _), HW.out⟩

set_option maxRecDepth 100000 in
set_option maxHeartbeats 8000000 in
theorem sgcs_any (w : World) (b a : Option Addr) (d cap : Nat) (ms : List Mo) (ps : List (Int × Int)) (hl : ps.length ≤ 9223372036854775807) (hl2 : ms.length ≤ 9223372036854775807) (hy : Mts w w.heap.size b ms) (hz : Cts w w.heap.size a ps) :
    Calls Try.prog 19 #[.slice b ms.length d, .slice a ps.length cap] w fun e w' => ∃ (q : Option Addr) (c : Nat) (qs : Nat → Option Addr × Nat), e = .returned (.tuple #[.slice q (tbR ms ps).length c, .int .i64 (ewC ms ps)]) ∧ OwnR w' w.heap.size w'.heap.size q c qs (tbR ms ps) ∧ Below w.heap.size w w' := by
  have HZ := Lib.hid hz
  have HY := Lib.hid hy
  clear hz hy
  obtain ⟨C, hC⟩ : ∃ qq, csC ps = qq := ⟨_, rfl⟩
  have KC : Hid (∀ W : World, Below w.heap.size w W → Calls Try.prog 65 #[.slice a ps.length cap] W fun e w' => e = .returned (.int .i64 C) ∧ Below W.heap.size W w') := Lib.hid (fun W hb => by have := lcs_any W a cap ps hl (HZ.out.on hb); rwa [hC] at this)
  have HCC := Lib.hid hC
  clear hC
  go_enter Try.func19, Try.ntmps19
  go_wp2_with fail
  go_loopw [6] (fun i wr => ∃ k : Nat, k ≤ ms.length ∧ i = .int .i64 k ∧ Below w.heap.size w wr ∧ ∀ j, j < k → moB (ms.getD j mo0) = true) (fun i _ => ms.length - (intOf i).toNat)
  case atStart => exact ⟨0, by omega, rfl, Below.refl _ _, fun j hj => by omega⟩
  case round =>
    obtain ⟨k, hk, rfl, hb, hr⟩ := hrel
    have HB := Lib.hid hb
    have HRR := Lib.hid hr
    clear hb hr
    by_cases hlt : k < ms.length
    case pos =>
      obtain ⟨b, off, x, y, u, v, s, rfl, hBk, hpq, hc0, hc1, hc2, hc3, hc4⟩ := (HY.out.below HB.out).at_ hlt
      have HX := Lib.hid hpq
      clear hpq
      have hkl : (k : Int) < (ms.length : Int) := by omega
      cases hh : mtB x y u v s
      case false =>
        have K : Hid (∀ W : World, Calls Try.prog 64 #[.agg #[.int .i64 x, .int .i64 y, .int .i64 u, .int .i64 v, .int .i64 s]] W fun e w' => e = .returned (.bool false) ∧ Below W.heap.size W w') := Lib.hid (fun W => by have := smo_any W x y u v s; rwa [hh] at this)
        have H2 : Hid (ewC ms ps = 1) := Lib.hid (by unfold ewC; rw [allM_f hlt (by rw [HX.out]; exact hh)]; rfl)
        have H1 : Hid (tbR ms ps = []) := Lib.hid (by unfold tbR; rw [H2.out]; rfl)
        go_wp2_with (go_at_call 64; (with_reducible refine Calls.mono (K.out _) ?_); rintro e w' ⟨rfl, hb⟩)
        go_ret2
        exact ⟨none, 0, fun _ => (none, 0), ret_li (by rw [H1.out]; rfl) H2.out, by rw [H1.out]; exact ownR_nil _ _ (bel_end HB.out hb).size, bel_end HB.out hb⟩
      case true =>
        have K : Hid (∀ W : World, Calls Try.prog 64 #[.agg #[.int .i64 x, .int .i64 y, .int .i64 u, .int .i64 v, .int .i64 s]] W fun e w' => e = .returned (.bool true) ∧ Below W.heap.size W w') := Lib.hid (fun W => by have := smo_any W x y u v s; rwa [hh] at this)
        go_wp2_with (go_at_call 64; (with_reducible refine Calls.mono (K.out _) ?_); rintro e w' ⟨rfl, hb⟩)
        go_roundw
        case rel => exact ⟨k + 1, by omega, by go_num, bel_end HB.out hb, fun j hj => by
          by_cases hjk : j < k
          · exact HRR.out j hjk
          · obtain rfl : j = k := by omega
            rw [HX.out]; exact hh⟩
        case measure => simp [intOf]; omega
    case neg =>
      obtain rfl : k = ms.length := by omega
      have hall := allM_t (fun j hj => HRR.out j (by omega))
      have hew := ewC_split ms ps hall
      rw [HCC.out] at hew
      have HMM := Lib.hid hall
      clear hall HRR
      go_wp2_with fail
      (with_reducible refine Calls.mono (KC.out _ HB.out) ?_)
      rintro e w1 ⟨rfl, hb⟩
      replace HB := Lib.hid (bel_end HB.out hb)
      clear hb KC
      by_cases hc : C = 0
      case neg =>
        rw [if_neg (by omega)] at hew
        have H1 : Hid (tbR ms ps = []) := Lib.hid (by unfold tbR; rw [hew]; exact if_neg (by omega))
        have HC := Lib.hid hew
        have hc2 : (C != 0) = true := by simpa using hc
        have hc3 : (C == 0) = false := by simpa using hc
        clear hew hc
        go_wp2
        go_ret2
        exact ⟨none, 0, fun _ => (none, 0), ret_li (by rw [H1.out]; rfl) HC.out, by rw [H1.out]; exact ownR_nil _ _ HB.out.size, HB.out⟩
      case pos =>
        subst hc
        by_cases h6 : 6 < ms.length
        case pos =>
          rw [if_pos ⟨rfl, h6⟩] at hew
          have H1 : Hid (tbR ms ps = []) := Lib.hid (by unfold tbR; rw [hew]; exact if_neg (by omega))
          have HC := Lib.hid hew
          have h7 : (6 : Int) < (ms.length : Int) := by omega
          clear hew h6
          go_wp2
          go_ret2
          exact ⟨none, 0, fun _ => (none, 0), ret_li (by rw [H1.out]; rfl) HC.out, by rw [H1.out]; exact ownR_nil _ _ HB.out.size, HB.out⟩
        case neg =>
          rw [if_neg (by omega)] at hew
          have H1 : Hid (tbR ms ps = tbL ms ps ms.length) := Lib.hid (by unfold tbR; rw [if_pos hew])
          have HC := Lib.hid hew
          have h7 : ¬ (6 : Int) < (ms.length : Int) := by omega
          obtain ⟨hac, hp6⟩ := csC_0 HCC.out
          have KT : Hid (∀ W : World, Below w.heap.size w W → Calls Try.prog 66 #[.slice b ms.length d, .slice a ps.length cap] W fun e w' => ∃ (g c : Nat) (qs : Nat → Option Addr × Nat), e = .returned (.slice (some ⟨g, 0, none⟩) ms.length c) ∧ OwnR w' W.heap.size w'.heap.size (some ⟨g, 0, none⟩) c qs (tbL ms ps ms.length) ∧ Below W.heap.size W w') := Lib.hid (fun W hb => lct_any2 W b a d cap ms ps (by omega) hp6 HMM.out hac (HY.out.on hb) (HZ.out.on hb))
          clear hew h6 hac hp6
          go_wp2_with fail
          (with_reducible refine Calls.mono (KT.out _ HB.out) ?_)
          rintro e w2 ⟨g, c, qs, rfl, ho, hb⟩
          have HO := Lib.hid (ho.less HB.out.size)
          replace HB := Lib.hid (bel_end HB.out hb)
          clear ho hb
          go_wp2
          go_ret2
          exact ⟨some ⟨g, 0, none⟩, c, qs, ret_li (by rw [H1.out, tbL_len]) HC.out, by rw [H1.out]; exact HO.out, HB.out⟩
end Go.Proofs.Ytlahgdhofakinaa
