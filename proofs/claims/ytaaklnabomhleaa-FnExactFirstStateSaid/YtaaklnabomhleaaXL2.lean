/- The walk of the exact law of FirstState: it returns true and writes nothing that was there. -/
import Derived.Test.YtaaklnabomhleaaXSt
import Derived.Test.YtaaklnabomhleaaRyR
import Derived.Test.YtaaklnabomhleaaRyV
import Derived.Deep.RegionHeld3
import Derived.Deep.DeepCutAuto
import Derived.Deep.DrawnRows
import Derived.Deep.RegionWith
import Derived.Outline
import Derived.Handy
namespace Go.Proofs.Ytaaklnabomhleaa
open Go.ChangeShapes Go.WideShapes Go.ChangeAt Go.RowKit Go.Shelf Num
set_option linter.unusedVariables false
set_option linter.unusedSimpArgs false
attribute [local go_sem ↓] Go.wp_at_zero Go.wp_at_succ

set_option maxRecDepth 100000 in
set_option maxHeartbeats 8000000 in
theorem lfst0 (a0 : Option Addr) (len0 cap0 : Nat) (z0 : List Int) (b0 : Option Addr) (len1 cap1 : Nat) (y0 : List Int) (src c s h : Int) (w : World) (w0 : IsRow .i64 w a0 len0 cap0 z0) (v0 : IsRow .i64 w b0 len1 cap1 y0) (w1 : (Lit.int .i64 src).wf = true) :
    Calls Try.prog 12 #[.agg #[.slice a0 len0 cap0, .slice b0 len1 cap1], .int .i64 src, .agg #[.int .i64 c, .int .i64 s, .int .i64 h]] w fun e w' => e = .returned (.bool true) ∧ Below w.heap.size w w' := by
  obtain ⟨hm, hn, e1, e2, hp⟩ := Prof.of_in w0 v0
  clear w0 v0 w1
  obtain ⟨zs, hzs⟩ : ∃ zs, z0.take len0 = zs := ⟨_, rfl⟩
  obtain ⟨ys, hys⟩ : ∃ ys, y0.take len1 = ys := ⟨_, rfl⟩
  rw [hzs] at e1 hp
  rw [hys] at e2 hp
  subst e1 e2
  clear hzs hys
  by_cases hbig : 1048576 < zs.length + ys.length
  case pos =>
    have HZ := Lib.hid (szP_big hbig)
    clear hp
    go_enter Try.func12, Try.ntmps12
    go_wp2_with fail
    refine (szp_any _ _ _ _ _ _ _ hm hn).mono ?_
    rw [HZ.out]
    rintro e w1 ⟨rfl, hb⟩
    have HB : Hid (Below w.heap.size w w1) := Lib.hid (bel_end (by repeat (first | exact Below.refl _ _ | (refine Below.alloc ?_ (by simp <;> omega) _) | (refine Below.setCell ?_ (by simp <;> omega) _) | (refine Below.drew ?_) | (refine bel_drewN ?_ _))) hb)
    clear hb
    go_wp2
    go_ret
    exact ⟨rfl, HB.out⟩
  case neg =>
    have hz := szP_fit hbig
    have HP := Lib.hid (hp (by omega))
    have lz := HP.out.lz
    have ly := HP.out.ly
    clear hp
    obtain ⟨q, hq⟩ : ∃ q, szP zs.length ys.length = q := ⟨_, rfl⟩
    have hq0 : 0 ≤ q := hq ▸ hz
    have HQ := Lib.hid hq
    clear hz hq
    have KS : Hid (∀ (W : World) (a b : Option Addr) (ca cb : Nat), Prof W W.heap.size a b zs ys → Calls Try.prog 53 #[.agg #[.slice a zs.length ca, .slice b ys.length cb], .int .i64 src, .agg #[.int .i64 c, .int .i64 s, .int .i64 h]] W fun e w' => e = .returned (.tuple #[.agg #[.int .i64 (fsT zs ys src c s h).1, .bool (fsT zs ys src c s h).2.1, .int .i64 (fsT zs ys src c s h).2.2.1, .int .i64 (fsT zs ys src c s h).2.2.2.1], .int .i64 (fsT zs ys src c s h).2.2.2.2]) ∧ Below W.heap.size W w') := Lib.hid (fun W a b ca cb hp => sfs_st W a b ca cb zs ys src c s h hp)
    have KI : Hid (∀ (W : World) (a b : Option Addr) (ca cb : Nat), Prof W W.heap.size a b zs ys → Calls Try.prog 47 #[.agg #[.slice a zs.length ca, .slice b ys.length cb], .int .i64 src, .agg #[.int .i64 c, .int .i64 s, .int .i64 h]] W fun e w' => e = .returned (.tuple #[.agg #[.int .i64 (fsT zs ys src c s h).1, .bool (fsT zs ys src c s h).2.1, .int .i64 (fsT zs ys src c s h).2.2.1, .int .i64 (fsT zs ys src c s h).2.2.2.1], .int .i64 (fsT zs ys src c s h).2.2.2.2]) ∧ Below W.heap.size W w') := Lib.hid (fun W a b ca cb hp => ifs_st W a b ca cb zs ys src c s h hp)
    obtain ⟨⟨r00, r01, r02, r03, r1⟩, hT⟩ : ∃ x, fsT zs ys src c s h = x := ⟨_, rfl⟩
    rw [hT] at KS KI
    clear hT
    go_enter Try.func12, Try.ntmps12
    go_wp2_with fail
    generalize hW : World.alloc _ _ = W0
    have bX : Bk W0 (w.heap.size) #[.slice a0 zs.length cap0, .slice b0 ys.length cap1] 45 := by rw [← hW]; repeat (first | (refine Bk.new' ?_; (simp; done)) | refine Bk.alloc ?_ _)
    have bD : Bk W0 (w.heap.size + 1) #[.int .i64 c, .int .i64 s, .int .i64 h] 30 := by rw [← hW]; repeat (first | (refine Bk.new' ?_; (simp; done)) | refine Bk.alloc ?_ _)
    have hb : Below w.heap.size w W0 := by rw [← hW]; exact (by repeat (first | exact Below.refl _ _ | (refine Below.alloc ?_ (by simp <;> omega) _) | (refine Below.setCell ?_ (by simp <;> omega) _) | (refine Below.drew ?_) | (refine bel_drewN ?_ _)))
    replace HP := Lib.hid (HP.out.on hb)
    have HB := Lib.hid hb
    clear hW hb
    refine (szp_any _ _ _ _ _ _ _ hm hn).mono ?_
    rw [HQ.out]
    rintro e W ⟨rfl, hb⟩
    replace bX := bX.on hb
    replace bD := bD.on hb
    replace HP := Lib.hid (HP.out.on hb)
    replace HB := Lib.hid (bel_end HB.out hb)
    clear hb
    go_upto_region 5 with fail
    go_cut [8, 9] (fun s8 s9 wx => ∃ g : Nat, s8 = .pointer (some ⟨g, 0, none⟩) ∧ Bk wx g #[.int .i64 r00, .bool r01, .int .i64 r02, .int .i64 r03] 61 ∧ W.heap.size ≤ g ∧ s9 = .int .i64 r1 ∧ Below W.heap.size W wx)
    case first =>
      have HW : Hid (Below W.heap.size W W) := Lib.hid (Below.refl _ _)
      obtain ⟨S, hSd⟩ : ∃ S : World → Prop, ∀ w', S w' ↔ (w'.cell? ⟨w.heap.size, 0, none⟩ = some (.slice a0 zs.length cap0) ∧ w'.cell? ⟨w.heap.size, 1, none⟩ = some (.slice b0 ys.length cap1) ∧ w'.cell? ⟨w.heap.size + 1, 0, none⟩ = some (.int .i64 c) ∧ w'.cell? ⟨w.heap.size + 1, 1, none⟩ = some (.int .i64 s) ∧ w'.cell? ⟨w.heap.size + 1, 2, none⟩ = some (.int .i64 h)) := ⟨_, fun _ => Iff.rfl⟩
      have HSp : Hid (∀ w' : World, Bk w' (w.heap.size) #[.slice a0 zs.length cap0, .slice b0 ys.length cap1] 45 → Bk w' (w.heap.size + 1) #[.int .i64 c, .int .i64 s, .int .i64 h] 30 → S w') := Lib.hid (fun w' bX bD => (hSd w').2 ⟨bX.cell 0 rfl, bX.cell 1 rfl, bD.cell 0 rfl, bD.cell 1 rfl, bD.cell 2 rfl⟩)
      have HSd := Lib.hid hSd
      clear hSd
      refine wp_region_held_drew (S := S) (by kernel_rfl) ?_ (fun hH => ?_)
      · exact (HSp.out _ bX bD : S (World.drew W))
      clear hH
      generalize hX : World.drew W = V0
      replace bX : Bk V0 (w.heap.size) #[.slice a0 zs.length cap0, .slice b0 ys.length cap1] 45 := by rw [← hX]; exact bX
      replace bD : Bk V0 (w.heap.size + 1) #[.int .i64 c, .int .i64 s, .int .i64 h] 30 := by rw [← hX]; exact bD
      have hb : Below W.heap.size W V0 := by rw [← hX]; exact (Below.refl _ _).drew
      clear hX
      try replace HR := Lib.hid (HR.out.on hb)
      replace HW := Lib.hid (bel_end HW.out hb)
      clear hb
      have hS := HSp.out _ bX bD
      refine wpAnyH_take (i := 0) (oi := { dst := some 19, op := Go.Op.load 45 (Go.Operand.tmp 3), type := 45, pos := "exact.go:2792", after := #[], guard := none }) (v := ?_) rfl (by kernel_rfl) (by kernel_rfl) (by kernel_rfl) (fun _ _ _ h => h) (Or.inl ⟨by rfl, ?_⟩) hS ?_
      rotate_left
      · (intro w hSw; have hSw := (HSd.out w).1 hSw; go_split_ands; go_simp) <;> with_reducible rfl
      clear hS
      try simp only [Act.put, List.setIfInBounds_toArray, List.set_cons_zero, List.set_cons_succ]
      have hS := HSp.out _ bX bD
      refine wpAnyH_take (i := 2) (oi := { dst := some 21, op := Go.Op.move (Go.Operand.tmp 1), type := 2, pos := "exact.go:2792", after := #[], guard := none }) (v := ?_) rfl (by kernel_rfl) (by kernel_rfl) (by kernel_rfl) (fun _ _ _ h => h) (Or.inl ⟨by rfl, ?_⟩) hS ?_
      rotate_left
      · (intro w hSw; have hSw := (HSd.out w).1 hSw; go_split_ands; go_simp) <;> with_reducible rfl
      clear hS
      try simp only [Act.put, List.setIfInBounds_toArray, List.set_cons_zero, List.set_cons_succ]
      have hS := HSp.out _ bX bD
      refine wpAnyH_take (i := 3) (oi := { dst := some 22, op := Go.Op.load 30 (Go.Operand.tmp 5), type := 30, pos := "exact.go:2792", after := #[], guard := none }) (v := ?_) rfl (by kernel_rfl) (by kernel_rfl) (by kernel_rfl) (fun _ _ _ h => h) (Or.inl ⟨by rfl, ?_⟩) hS ?_
      rotate_left
      · (intro w hSw; have hSw := (HSd.out w).1 hSw; go_split_ands; go_simp) <;> with_reducible rfl
      clear hS
      try simp only [Act.put, List.setIfInBounds_toArray, List.set_cons_zero, List.set_cons_succ]
      refine wpAnyH_ready (rs := [1, 9]) (by kernel_rfl) (by simp) ?_
      refine AllReadyH.cons (o := { dst := some 20, op := Go.Op.call { callee := Go.Callee.value (Go.Operand.func 34), args := #[Go.Operand.tmp 19], argTypes := #[45] }, type := 51, pos := "exact.go:2792", after := #[{ on := 0, ground := Go.Ground.data }], guard := none }) rfl (fun Kn hK => ?_) ?_
      · first | go_at_call 34 | (go_simp; go_at_call 34)
        (refine Calls.mono (top_any _ _ _ _ _ zs ys (HP.out.on HW.out)) ?_)
        rintro e V1 ⟨g1, g2, rfl, hg1, hg2, hr1, hr2, hb⟩
        have HR := Lib.hid (Prof.of_rows hr1 hr2 lz ly)
        clear hr1 hr2
        try dsimp only
        try simp only [Act.put, List.setIfInBounds_toArray, List.set_cons_zero, List.set_cons_succ]
        replace bX := bX.on hb
        replace bD := bD.on hb
        try replace HR := Lib.hid (HR.out.on hb)
        replace HW := Lib.hid (bel_end HW.out hb)
        clear hb
        refine hK.out _ _ (HSp.out _ bX bD) (fun _ => ?_)
        clear hK Kn
        refine wpAnyH_ready (rs := [4, 9]) (by kernel_rfl) (by simp) ?_
        refine AllReadyH.cons (o := { dst := some 23, op := Go.Op.call { callee := Go.Callee.value (Go.Operand.func 25), args := #[Go.Operand.tmp 22], argTypes := #[30] }, type := 32, pos := "exact.go:2792", after := #[{ on := 3, ground := Go.Ground.data }, { on := 1, ground := Go.Ground.chain }], guard := none }) rfl (fun Kn hK => ?_) ?_
        · first | go_at_call 25 | (go_simp; go_at_call 25)
          refine (tod_any _ _ _ _).mono ?_
          rintro e V2 ⟨rfl, hb⟩
          try dsimp only
          try simp only [Act.put, List.setIfInBounds_toArray, List.set_cons_zero, List.set_cons_succ]
          replace bX := bX.on hb
          replace bD := bD.on hb
          try replace HR := Lib.hid (HR.out.on hb)
          replace HW := Lib.hid (bel_end HW.out hb)
          clear hb
          refine hK.out _ _ (HSp.out _ bX bD) (fun _ => ?_)
          clear hK Kn
          refine wpAnyH_ready (rs := [5, 9]) (by kernel_rfl) (by simp) ?_
          refine AllReadyH.cons (o := { dst := some 24, op := Go.Op.call { callee := Go.Callee.value (Go.Operand.func 53), args := #[Go.Operand.tmp 20, Go.Operand.tmp 21, Go.Operand.tmp 23], argTypes := #[51, 2, 32] }, type := 69, pos := "exact.go:2792", after := #[{ on := 1, ground := Go.Ground.data }, { on := 2, ground := Go.Ground.data }, { on := 4, ground := Go.Ground.data }, { on := 4, ground := Go.Ground.chain }], guard := none }) rfl (fun Kn hK => ?_) ?_
          · first | go_at_call 53 | (go_simp; go_at_call 53)
            (with_reducible refine Calls.mono (KS.out _ _ _ _ _ HR.out) ?_)
            rintro e V3 ⟨rfl, hb⟩
            try dsimp only
            try simp only [Act.put, List.setIfInBounds_toArray, List.set_cons_zero, List.set_cons_succ]
            replace bX := bX.on hb
            replace bD := bD.on hb
            try replace HR := Lib.hid (HR.out.on hb)
            replace HW := Lib.hid (bel_end HW.out hb)
            clear hb
            refine hK.out _ _ (HSp.out _ bX bD) (fun _ => ?_)
            clear hK Kn
            have hS := HSp.out _ bX bD
            refine wpAnyH_take (i := 6) (oi := { dst := some 18, op := Go.Op.move (Go.Operand.tmp 24), type := 69, pos := "exact.go:2792", after := #[{ on := 5, ground := Go.Ground.data }], guard := none }) (v := ?_) rfl (by kernel_rfl) (by kernel_rfl) (by kernel_rfl) (fun _ _ _ h => h) (Or.inl ⟨by rfl, ?_⟩) hS ?_
            rotate_left
            · (intro w hSw; have hSw := (HSd.out w).1 hSw; go_split_ands; go_simp) <;> with_reducible rfl
            clear hS
            try simp only [Act.put, List.setIfInBounds_toArray, List.set_cons_zero, List.set_cons_succ]
            have hS := HSp.out _ bX bD
            refine wpAnyH_take (i := 7) (oi := { dst := some 25, op := Go.Op.extract (Go.Operand.tmp 18) 0, type := 61, pos := "exact.go:2792", after := #[{ on := 6, ground := Go.Ground.data }], guard := none }) (v := ?_) rfl (by kernel_rfl) (by kernel_rfl) (by kernel_rfl) (fun _ _ _ h => h) (Or.inl ⟨by rfl, ?_⟩) hS ?_
            rotate_left
            · (intro w hSw; have hSw := (HSd.out w).1 hSw; go_split_ands; go_simp) <;> with_reducible rfl
            clear hS
            try simp only [Act.put, List.setIfInBounds_toArray, List.set_cons_zero, List.set_cons_succ]
            have hS := HSp.out _ bX bD
            refine wpAnyH_take (i := 8) (oi := { dst := some 26, op := Go.Op.extract (Go.Operand.tmp 18) 1, type := 2, pos := "exact.go:2792", after := #[{ on := 6, ground := Go.Ground.data }, { on := 10, ground := Go.Ground.gcOnly Go.Departure.lateStores }], guard := none }) (v := ?_) rfl (by kernel_rfl) (by kernel_rfl) (by kernel_rfl) (fun _ _ _ h => h) (Or.inl ⟨by rfl, ?_⟩) hS ?_
            rotate_left
            · (intro w hSw; have hSw := (HSd.out w).1 hSw; go_split_ands; go_simp) <;> with_reducible rfl
            clear hS
            try simp only [Act.put, List.setIfInBounds_toArray, List.set_cons_zero, List.set_cons_succ]
            refine wpAnyH_ready (rs := [9]) (by kernel_rfl) (by simp) ?_
            refine AllReadyH.cons (o := { dst := some 8, op := Go.Op.alloc 61, type := 0, pos := "exact.go:2792", after := #[], guard := none }) rfl (fun Kn hK => ?_) AllReadyH.nil
            go_simp
            generalize hX : World.alloc V3 _ = V4
            obtain ⟨g9, hg⟩ : ∃ g, g = V3.heap.size := ⟨_, rfl⟩
            have bn9 : Bk V4 g9 #[.int .i64 0, .bool false, .int .i64 0, .int .i64 0] 61 := by rw [← hX]; exact Bk.new' hg
            have le9 : W.heap.size ≤ g9 := by rw [hg]; exact HW.out.size
            have nebX_9 : w.heap.size ≠ g9 := by have := bX.lt; omega
            replace bX : Bk V4 (w.heap.size) #[.slice a0 zs.length cap0, .slice b0 ys.length cap1] 45 := by rw [← hX]; exact bX.alloc _
            have nebD_9 : w.heap.size + 1 ≠ g9 := by have := bD.lt; omega
            replace bD : Bk V4 (w.heap.size + 1) #[.int .i64 c, .int .i64 s, .int .i64 h] 30 := by rw [← hX]; exact bD.alloc _
            try rw [← hg]
            have hb : Below V3.heap.size V3 V4 := by rw [← hX]; exact (Below.refl _ _).alloc (Nat.le_refl _) _
            clear hX hg
            try replace HR := Lib.hid (HR.out.on hb)
            replace HW := Lib.hid (bel_end HW.out hb)
            clear hb
            refine hK.out _ _ (HSp.out _ bX bD) (fun _ => ?_)
            clear hK Kn
            refine wpAnyH_ready (rs := [10]) (by kernel_rfl) (by simp) ?_
            refine AllReadyH.cons (o := { dst := none, op := Go.Op.store 61 (Go.Operand.tmp 8) (Go.Operand.tmp 25), type := 0, pos := "exact.go:2792", after := #[{ on := 9, ground := Go.Ground.data }, { on := 7, ground := Go.Ground.data }, { on := 5, ground := Go.Ground.chain }, { on := 0, ground := Go.Ground.phase }, { on := 1, ground := Go.Ground.phase }, { on := 2, ground := Go.Ground.phase }, { on := 3, ground := Go.Ground.phase }, { on := 4, ground := Go.Ground.phase }, { on := 5, ground := Go.Ground.phase }, { on := 6, ground := Go.Ground.phase }, { on := 7, ground := Go.Ground.phase }, { on := 8, ground := Go.Ground.textOnly Go.Departure.lateStores }, { on := 9, ground := Go.Ground.phase }], guard := none }) rfl (fun Kn hK => ?_) AllReadyH.nil
            have bn9_0 := bn9.cell 0 rfl
            have bn9_1 := bn9.cell 1 rfl
            have bn9_2 := bn9.cell 2 rfl
            have bn9_3 := bn9.cell 3 rfl
            have bn9_f0 := bn9.frozen 0
            have bn9_f1 := bn9.frozen 1
            have bn9_f2 := bn9.frozen 2
            have bn9_f3 := bn9.frozen 3
            have bn9_l := bn9.lt
            go_simp
            clear bn9_0 bn9_f0 bn9_1 bn9_f1 bn9_2 bn9_f2 bn9_3 bn9_f3 bn9_l
            generalize hX : World.setCell _ _ _ = V5
            have hb : Below W.heap.size W V5 := by rw [← hX]; exact ((((HW.out.setCell (p := ⟨g9, 0, none⟩) le9 _).setCell (p := ⟨g9, 1, none⟩) le9 _).setCell (p := ⟨g9, 2, none⟩) le9 _).setCell (p := ⟨g9, 3, none⟩) le9 _)
            replace bX : Bk V5 (w.heap.size) #[.slice a0 zs.length cap0, .slice b0 ys.length cap1] 45 := by rw [← hX]; exact (Bk.other (Bk.other (Bk.other (Bk.other bX nebX_9 0 _) nebX_9 1 _) nebX_9 2 _) nebX_9 3 _)
            replace bD : Bk V5 (w.heap.size + 1) #[.int .i64 c, .int .i64 s, .int .i64 h] 30 := by rw [← hX]; exact (Bk.other (Bk.other (Bk.other (Bk.other bD nebD_9 0 _) nebD_9 1 _) nebD_9 2 _) nebD_9 3 _)
            replace bn9 : Bk V5 (g9) #[.int .i64 r00, .bool r01, .int .i64 r02, .int .i64 r03] 61 := by rw [← hX]; exact (Bk.set (Bk.set (Bk.set (Bk.set bn9 0 _ rfl) 1 _ rfl) 2 _ rfl) 3 _ rfl)
            clear hX
            replace HW := Lib.hid hb
            clear hb
            refine hK.out _ _ (HSp.out _ bX bD) (fun _ => ?_)
            clear hK Kn
            have hS := HSp.out _ bX bD
            refine wpAnyH_take (i := 11) (oi := { dst := some 9, op := Go.Op.assign (Go.Operand.tmp 26), type := 2, pos := "exact.go:2792", after := #[{ on := 8, ground := Go.Ground.data }, { on := 10, ground := Go.Ground.chain }, { on := 0, ground := Go.Ground.phase }, { on := 1, ground := Go.Ground.phase }, { on := 2, ground := Go.Ground.phase }, { on := 3, ground := Go.Ground.phase }, { on := 4, ground := Go.Ground.phase }, { on := 5, ground := Go.Ground.phase }, { on := 6, ground := Go.Ground.phase }, { on := 7, ground := Go.Ground.phase }, { on := 8, ground := Go.Ground.phase }, { on := 9, ground := Go.Ground.phase }, { on := 10, ground := Go.Ground.phase }], guard := none }) (v := ?_) rfl (by kernel_rfl) (by kernel_rfl) (by kernel_rfl) (fun _ _ _ h => h) (Or.inl ⟨by rfl, ?_⟩) hS ?_
            rotate_left
            · (intro w hSw; have hSw := (HSd.out w).1 hSw; go_split_ands; go_simp) <;> with_reducible rfl
            clear hS
            try simp only [Act.put, List.setIfInBounds_toArray, List.set_cons_zero, List.set_cons_succ]
            refine wpAnyH_done (by kernel_rfl) ?_ _
            go_wp2_with fail
            go_meet
            exact ⟨_, rfl, bn9, le9, rfl, HW.out⟩
          refine AllReadyH.cons (o := { dst := some 8, op := Go.Op.alloc 61, type := 0, pos := "exact.go:2792", after := #[], guard := none }) rfl (fun Kn hK => ?_) AllReadyH.nil
          go_simp
          generalize hX : World.alloc V2 _ = V6
          obtain ⟨g9, hg⟩ : ∃ g, g = V2.heap.size := ⟨_, rfl⟩
          have bn9 : Bk V6 g9 #[.int .i64 0, .bool false, .int .i64 0, .int .i64 0] 61 := by rw [← hX]; exact Bk.new' hg
          have le9 : W.heap.size ≤ g9 := by rw [hg]; exact HW.out.size
          have nebX_9 : w.heap.size ≠ g9 := by have := bX.lt; omega
          replace bX : Bk V6 (w.heap.size) #[.slice a0 zs.length cap0, .slice b0 ys.length cap1] 45 := by rw [← hX]; exact bX.alloc _
          have nebD_9 : w.heap.size + 1 ≠ g9 := by have := bD.lt; omega
          replace bD : Bk V6 (w.heap.size + 1) #[.int .i64 c, .int .i64 s, .int .i64 h] 30 := by rw [← hX]; exact bD.alloc _
          try rw [← hg]
          have hb : Below V2.heap.size V2 V6 := by rw [← hX]; exact (Below.refl _ _).alloc (Nat.le_refl _) _
          clear hX hg
          try replace HR := Lib.hid (HR.out.on hb)
          replace HW := Lib.hid (bel_end HW.out hb)
          clear hb
          refine hK.out _ _ (HSp.out _ bX bD) (fun _ => ?_)
          clear hK Kn
          refine wpAnyH_ready (rs := [5]) (by kernel_rfl) (by simp) ?_
          refine AllReadyH.cons (o := { dst := some 24, op := Go.Op.call { callee := Go.Callee.value (Go.Operand.func 53), args := #[Go.Operand.tmp 20, Go.Operand.tmp 21, Go.Operand.tmp 23], argTypes := #[51, 2, 32] }, type := 69, pos := "exact.go:2792", after := #[{ on := 1, ground := Go.Ground.data }, { on := 2, ground := Go.Ground.data }, { on := 4, ground := Go.Ground.data }, { on := 4, ground := Go.Ground.chain }], guard := none }) rfl (fun Kn hK => ?_) AllReadyH.nil
          first | go_at_call 53 | (go_simp; go_at_call 53)
          (with_reducible refine Calls.mono (KS.out _ _ _ _ _ HR.out) ?_)
          rintro e V7 ⟨rfl, hb⟩
          try dsimp only
          try simp only [Act.put, List.setIfInBounds_toArray, List.set_cons_zero, List.set_cons_succ]
          replace bX := bX.on hb
          replace bD := bD.on hb
          replace bn9 := bn9.on hb
          try replace HR := Lib.hid (HR.out.on hb)
          replace HW := Lib.hid (bel_end HW.out hb)
          clear hb
          refine hK.out _ _ (HSp.out _ bX bD) (fun _ => ?_)
          clear hK Kn
          have hS := HSp.out _ bX bD
          refine wpAnyH_take (i := 6) (oi := { dst := some 18, op := Go.Op.move (Go.Operand.tmp 24), type := 69, pos := "exact.go:2792", after := #[{ on := 5, ground := Go.Ground.data }], guard := none }) (v := ?_) rfl (by kernel_rfl) (by kernel_rfl) (by kernel_rfl) (fun _ _ _ h => h) (Or.inl ⟨by rfl, ?_⟩) hS ?_
          rotate_left
          · (intro w hSw; have hSw := (HSd.out w).1 hSw; go_split_ands; go_simp) <;> with_reducible rfl
          clear hS
          try simp only [Act.put, List.setIfInBounds_toArray, List.set_cons_zero, List.set_cons_succ]
          have hS := HSp.out _ bX bD
          refine wpAnyH_take (i := 7) (oi := { dst := some 25, op := Go.Op.extract (Go.Operand.tmp 18) 0, type := 61, pos := "exact.go:2792", after := #[{ on := 6, ground := Go.Ground.data }], guard := none }) (v := ?_) rfl (by kernel_rfl) (by kernel_rfl) (by kernel_rfl) (fun _ _ _ h => h) (Or.inl ⟨by rfl, ?_⟩) hS ?_
          rotate_left
          · (intro w hSw; have hSw := (HSd.out w).1 hSw; go_split_ands; go_simp) <;> with_reducible rfl
          clear hS
          try simp only [Act.put, List.setIfInBounds_toArray, List.set_cons_zero, List.set_cons_succ]
          have hS := HSp.out _ bX bD
          refine wpAnyH_take (i := 8) (oi := { dst := some 26, op := Go.Op.extract (Go.Operand.tmp 18) 1, type := 2, pos := "exact.go:2792", after := #[{ on := 6, ground := Go.Ground.data }, { on := 10, ground := Go.Ground.gcOnly Go.Departure.lateStores }], guard := none }) (v := ?_) rfl (by kernel_rfl) (by kernel_rfl) (by kernel_rfl) (fun _ _ _ h => h) (Or.inl ⟨by rfl, ?_⟩) hS ?_
          rotate_left
          · (intro w hSw; have hSw := (HSd.out w).1 hSw; go_split_ands; go_simp) <;> with_reducible rfl
          clear hS
          try simp only [Act.put, List.setIfInBounds_toArray, List.set_cons_zero, List.set_cons_succ]
          refine wpAnyH_ready (rs := [10]) (by kernel_rfl) (by simp) ?_
          refine AllReadyH.cons (o := { dst := none, op := Go.Op.store 61 (Go.Operand.tmp 8) (Go.Operand.tmp 25), type := 0, pos := "exact.go:2792", after := #[{ on := 9, ground := Go.Ground.data }, { on := 7, ground := Go.Ground.data }, { on := 5, ground := Go.Ground.chain }, { on := 0, ground := Go.Ground.phase }, { on := 1, ground := Go.Ground.phase }, { on := 2, ground := Go.Ground.phase }, { on := 3, ground := Go.Ground.phase }, { on := 4, ground := Go.Ground.phase }, { on := 5, ground := Go.Ground.phase }, { on := 6, ground := Go.Ground.phase }, { on := 7, ground := Go.Ground.phase }, { on := 8, ground := Go.Ground.textOnly Go.Departure.lateStores }, { on := 9, ground := Go.Ground.phase }], guard := none }) rfl (fun Kn hK => ?_) AllReadyH.nil
          have bn9_0 := bn9.cell 0 rfl
          have bn9_1 := bn9.cell 1 rfl
          have bn9_2 := bn9.cell 2 rfl
          have bn9_3 := bn9.cell 3 rfl
          have bn9_f0 := bn9.frozen 0
          have bn9_f1 := bn9.frozen 1
          have bn9_f2 := bn9.frozen 2
          have bn9_f3 := bn9.frozen 3
          have bn9_l := bn9.lt
          go_simp
          clear bn9_0 bn9_f0 bn9_1 bn9_f1 bn9_2 bn9_f2 bn9_3 bn9_f3 bn9_l
          generalize hX : World.setCell _ _ _ = V8
          have hb : Below W.heap.size W V8 := by rw [← hX]; exact ((((HW.out.setCell (p := ⟨g9, 0, none⟩) le9 _).setCell (p := ⟨g9, 1, none⟩) le9 _).setCell (p := ⟨g9, 2, none⟩) le9 _).setCell (p := ⟨g9, 3, none⟩) le9 _)
          replace bX : Bk V8 (w.heap.size) #[.slice a0 zs.length cap0, .slice b0 ys.length cap1] 45 := by rw [← hX]; exact (Bk.other (Bk.other (Bk.other (Bk.other bX nebX_9 0 _) nebX_9 1 _) nebX_9 2 _) nebX_9 3 _)
          replace bD : Bk V8 (w.heap.size + 1) #[.int .i64 c, .int .i64 s, .int .i64 h] 30 := by rw [← hX]; exact (Bk.other (Bk.other (Bk.other (Bk.other bD nebD_9 0 _) nebD_9 1 _) nebD_9 2 _) nebD_9 3 _)
          replace bn9 : Bk V8 (g9) #[.int .i64 r00, .bool r01, .int .i64 r02, .int .i64 r03] 61 := by rw [← hX]; exact (Bk.set (Bk.set (Bk.set (Bk.set bn9 0 _ rfl) 1 _ rfl) 2 _ rfl) 3 _ rfl)
          clear hX
          replace HW := Lib.hid hb
          clear hb
          refine hK.out _ _ (HSp.out _ bX bD) (fun _ => ?_)
          clear hK Kn
          have hS := HSp.out _ bX bD
          refine wpAnyH_take (i := 11) (oi := { dst := some 9, op := Go.Op.assign (Go.Operand.tmp 26), type := 2, pos := "exact.go:2792", after := #[{ on := 8, ground := Go.Ground.data }, { on := 10, ground := Go.Ground.chain }, { on := 0, ground := Go.Ground.phase }, { on := 1, ground := Go.Ground.phase }, { on := 2, ground := Go.Ground.phase }, { on := 3, ground := Go.Ground.phase }, { on := 4, ground := Go.Ground.phase }, { on := 5, ground := Go.Ground.phase }, { on := 6, ground := Go.Ground.phase }, { on := 7, ground := Go.Ground.phase }, { on := 8, ground := Go.Ground.phase }, { on := 9, ground := Go.Ground.phase }, { on := 10, ground := Go.Ground.phase }], guard := none }) (v := ?_) rfl (by kernel_rfl) (by kernel_rfl) (by kernel_rfl) (fun _ _ _ h => h) (Or.inl ⟨by rfl, ?_⟩) hS ?_
          rotate_left
          · (intro w hSw; have hSw := (HSd.out w).1 hSw; go_split_ands; go_simp) <;> with_reducible rfl
          clear hS
          try simp only [Act.put, List.setIfInBounds_toArray, List.set_cons_zero, List.set_cons_succ]
          refine wpAnyH_done (by kernel_rfl) ?_ _
          go_wp2_with fail
          go_meet
          exact ⟨_, rfl, bn9, le9, rfl, HW.out⟩
        refine AllReadyH.cons (o := { dst := some 8, op := Go.Op.alloc 61, type := 0, pos := "exact.go:2792", after := #[], guard := none }) rfl (fun Kn hK => ?_) AllReadyH.nil
        go_simp
        generalize hX : World.alloc V1 _ = V9
        obtain ⟨g9, hg⟩ : ∃ g, g = V1.heap.size := ⟨_, rfl⟩
        have bn9 : Bk V9 g9 #[.int .i64 0, .bool false, .int .i64 0, .int .i64 0] 61 := by rw [← hX]; exact Bk.new' hg
        have le9 : W.heap.size ≤ g9 := by rw [hg]; exact HW.out.size
        have nebX_9 : w.heap.size ≠ g9 := by have := bX.lt; omega
        replace bX : Bk V9 (w.heap.size) #[.slice a0 zs.length cap0, .slice b0 ys.length cap1] 45 := by rw [← hX]; exact bX.alloc _
        have nebD_9 : w.heap.size + 1 ≠ g9 := by have := bD.lt; omega
        replace bD : Bk V9 (w.heap.size + 1) #[.int .i64 c, .int .i64 s, .int .i64 h] 30 := by rw [← hX]; exact bD.alloc _
        try rw [← hg]
        have hb : Below V1.heap.size V1 V9 := by rw [← hX]; exact (Below.refl _ _).alloc (Nat.le_refl _) _
        clear hX hg
        try replace HR := Lib.hid (HR.out.on hb)
        replace HW := Lib.hid (bel_end HW.out hb)
        clear hb
        refine hK.out _ _ (HSp.out _ bX bD) (fun _ => ?_)
        clear hK Kn
        refine wpAnyH_ready (rs := [4]) (by kernel_rfl) (by simp) ?_
        refine AllReadyH.cons (o := { dst := some 23, op := Go.Op.call { callee := Go.Callee.value (Go.Operand.func 25), args := #[Go.Operand.tmp 22], argTypes := #[30] }, type := 32, pos := "exact.go:2792", after := #[{ on := 3, ground := Go.Ground.data }, { on := 1, ground := Go.Ground.chain }], guard := none }) rfl (fun Kn hK => ?_) AllReadyH.nil
        first | go_at_call 25 | (go_simp; go_at_call 25)
        refine (tod_any _ _ _ _).mono ?_
        rintro e V10 ⟨rfl, hb⟩
        try dsimp only
        try simp only [Act.put, List.setIfInBounds_toArray, List.set_cons_zero, List.set_cons_succ]
        replace bX := bX.on hb
        replace bD := bD.on hb
        replace bn9 := bn9.on hb
        try replace HR := Lib.hid (HR.out.on hb)
        replace HW := Lib.hid (bel_end HW.out hb)
        clear hb
        refine hK.out _ _ (HSp.out _ bX bD) (fun _ => ?_)
        clear hK Kn
        refine wpAnyH_ready (rs := [5]) (by kernel_rfl) (by simp) ?_
        refine AllReadyH.cons (o := { dst := some 24, op := Go.Op.call { callee := Go.Callee.value (Go.Operand.func 53), args := #[Go.Operand.tmp 20, Go.Operand.tmp 21, Go.Operand.tmp 23], argTypes := #[51, 2, 32] }, type := 69, pos := "exact.go:2792", after := #[{ on := 1, ground := Go.Ground.data }, { on := 2, ground := Go.Ground.data }, { on := 4, ground := Go.Ground.data }, { on := 4, ground := Go.Ground.chain }], guard := none }) rfl (fun Kn hK => ?_) AllReadyH.nil
        first | go_at_call 53 | (go_simp; go_at_call 53)
        (with_reducible refine Calls.mono (KS.out _ _ _ _ _ HR.out) ?_)
        rintro e V11 ⟨rfl, hb⟩
        try dsimp only
        try simp only [Act.put, List.setIfInBounds_toArray, List.set_cons_zero, List.set_cons_succ]
        replace bX := bX.on hb
        replace bD := bD.on hb
        replace bn9 := bn9.on hb
        try replace HR := Lib.hid (HR.out.on hb)
        replace HW := Lib.hid (bel_end HW.out hb)
        clear hb
        refine hK.out _ _ (HSp.out _ bX bD) (fun _ => ?_)
        clear hK Kn
        have hS := HSp.out _ bX bD
        refine wpAnyH_take (i := 6) (oi := { dst := some 18, op := Go.Op.move (Go.Operand.tmp 24), type := 69, pos := "exact.go:2792", after := #[{ on := 5, ground := Go.Ground.data }], guard := none }) (v := ?_) rfl (by kernel_rfl) (by kernel_rfl) (by kernel_rfl) (fun _ _ _ h => h) (Or.inl ⟨by rfl, ?_⟩) hS ?_
        rotate_left
        · (intro w hSw; have hSw := (HSd.out w).1 hSw; go_split_ands; go_simp) <;> with_reducible rfl
        clear hS
        try simp only [Act.put, List.setIfInBounds_toArray, List.set_cons_zero, List.set_cons_succ]
        have hS := HSp.out _ bX bD
        refine wpAnyH_take (i := 7) (oi := { dst := some 25, op := Go.Op.extract (Go.Operand.tmp 18) 0, type := 61, pos := "exact.go:2792", after := #[{ on := 6, ground := Go.Ground.data }], guard := none }) (v := ?_) rfl (by kernel_rfl) (by kernel_rfl) (by kernel_rfl) (fun _ _ _ h => h) (Or.inl ⟨by rfl, ?_⟩) hS ?_
        rotate_left
        · (intro w hSw; have hSw := (HSd.out w).1 hSw; go_split_ands; go_simp) <;> with_reducible rfl
        clear hS
        try simp only [Act.put, List.setIfInBounds_toArray, List.set_cons_zero, List.set_cons_succ]
        have hS := HSp.out _ bX bD
        refine wpAnyH_take (i := 8) (oi := { dst := some 26, op := Go.Op.extract (Go.Operand.tmp 18) 1, type := 2, pos := "exact.go:2792", after := #[{ on := 6, ground := Go.Ground.data }, { on := 10, ground := Go.Ground.gcOnly Go.Departure.lateStores }], guard := none }) (v := ?_) rfl (by kernel_rfl) (by kernel_rfl) (by kernel_rfl) (fun _ _ _ h => h) (Or.inl ⟨by rfl, ?_⟩) hS ?_
        rotate_left
        · (intro w hSw; have hSw := (HSd.out w).1 hSw; go_split_ands; go_simp) <;> with_reducible rfl
        clear hS
        try simp only [Act.put, List.setIfInBounds_toArray, List.set_cons_zero, List.set_cons_succ]
        refine wpAnyH_ready (rs := [10]) (by kernel_rfl) (by simp) ?_
        refine AllReadyH.cons (o := { dst := none, op := Go.Op.store 61 (Go.Operand.tmp 8) (Go.Operand.tmp 25), type := 0, pos := "exact.go:2792", after := #[{ on := 9, ground := Go.Ground.data }, { on := 7, ground := Go.Ground.data }, { on := 5, ground := Go.Ground.chain }, { on := 0, ground := Go.Ground.phase }, { on := 1, ground := Go.Ground.phase }, { on := 2, ground := Go.Ground.phase }, { on := 3, ground := Go.Ground.phase }, { on := 4, ground := Go.Ground.phase }, { on := 5, ground := Go.Ground.phase }, { on := 6, ground := Go.Ground.phase }, { on := 7, ground := Go.Ground.phase }, { on := 8, ground := Go.Ground.textOnly Go.Departure.lateStores }, { on := 9, ground := Go.Ground.phase }], guard := none }) rfl (fun Kn hK => ?_) AllReadyH.nil
        have bn9_0 := bn9.cell 0 rfl
        have bn9_1 := bn9.cell 1 rfl
        have bn9_2 := bn9.cell 2 rfl
        have bn9_3 := bn9.cell 3 rfl
        have bn9_f0 := bn9.frozen 0
        have bn9_f1 := bn9.frozen 1
        have bn9_f2 := bn9.frozen 2
        have bn9_f3 := bn9.frozen 3
        have bn9_l := bn9.lt
        go_simp
        clear bn9_0 bn9_f0 bn9_1 bn9_f1 bn9_2 bn9_f2 bn9_3 bn9_f3 bn9_l
        generalize hX : World.setCell _ _ _ = V12
        have hb : Below W.heap.size W V12 := by rw [← hX]; exact ((((HW.out.setCell (p := ⟨g9, 0, none⟩) le9 _).setCell (p := ⟨g9, 1, none⟩) le9 _).setCell (p := ⟨g9, 2, none⟩) le9 _).setCell (p := ⟨g9, 3, none⟩) le9 _)
        replace bX : Bk V12 (w.heap.size) #[.slice a0 zs.length cap0, .slice b0 ys.length cap1] 45 := by rw [← hX]; exact (Bk.other (Bk.other (Bk.other (Bk.other bX nebX_9 0 _) nebX_9 1 _) nebX_9 2 _) nebX_9 3 _)
        replace bD : Bk V12 (w.heap.size + 1) #[.int .i64 c, .int .i64 s, .int .i64 h] 30 := by rw [← hX]; exact (Bk.other (Bk.other (Bk.other (Bk.other bD nebD_9 0 _) nebD_9 1 _) nebD_9 2 _) nebD_9 3 _)
        replace bn9 : Bk V12 (g9) #[.int .i64 r00, .bool r01, .int .i64 r02, .int .i64 r03] 61 := by rw [← hX]; exact (Bk.set (Bk.set (Bk.set (Bk.set bn9 0 _ rfl) 1 _ rfl) 2 _ rfl) 3 _ rfl)
        clear hX
        replace HW := Lib.hid hb
        clear hb
        refine hK.out _ _ (HSp.out _ bX bD) (fun _ => ?_)
        clear hK Kn
        have hS := HSp.out _ bX bD
        refine wpAnyH_take (i := 11) (oi := { dst := some 9, op := Go.Op.assign (Go.Operand.tmp 26), type := 2, pos := "exact.go:2792", after := #[{ on := 8, ground := Go.Ground.data }, { on := 10, ground := Go.Ground.chain }, { on := 0, ground := Go.Ground.phase }, { on := 1, ground := Go.Ground.phase }, { on := 2, ground := Go.Ground.phase }, { on := 3, ground := Go.Ground.phase }, { on := 4, ground := Go.Ground.phase }, { on := 5, ground := Go.Ground.phase }, { on := 6, ground := Go.Ground.phase }, { on := 7, ground := Go.Ground.phase }, { on := 8, ground := Go.Ground.phase }, { on := 9, ground := Go.Ground.phase }, { on := 10, ground := Go.Ground.phase }], guard := none }) (v := ?_) rfl (by kernel_rfl) (by kernel_rfl) (by kernel_rfl) (fun _ _ _ h => h) (Or.inl ⟨by rfl, ?_⟩) hS ?_
        rotate_left
        · (intro w hSw; have hSw := (HSd.out w).1 hSw; go_split_ands; go_simp) <;> with_reducible rfl
        clear hS
        try simp only [Act.put, List.setIfInBounds_toArray, List.set_cons_zero, List.set_cons_succ]
        refine wpAnyH_done (by kernel_rfl) ?_ _
        go_wp2_with fail
        go_meet
        exact ⟨_, rfl, bn9, le9, rfl, HW.out⟩
      refine AllReadyH.cons (o := { dst := some 8, op := Go.Op.alloc 61, type := 0, pos := "exact.go:2792", after := #[], guard := none }) rfl (fun Kn hK => ?_) AllReadyH.nil
      go_simp
      generalize hX : World.alloc V0 _ = V13
      obtain ⟨g9, hg⟩ : ∃ g, g = V0.heap.size := ⟨_, rfl⟩
      have bn9 : Bk V13 g9 #[.int .i64 0, .bool false, .int .i64 0, .int .i64 0] 61 := by rw [← hX]; exact Bk.new' hg
      have le9 : W.heap.size ≤ g9 := by rw [hg]; exact HW.out.size
      have nebX_9 : w.heap.size ≠ g9 := by have := bX.lt; omega
      replace bX : Bk V13 (w.heap.size) #[.slice a0 zs.length cap0, .slice b0 ys.length cap1] 45 := by rw [← hX]; exact bX.alloc _
      have nebD_9 : w.heap.size + 1 ≠ g9 := by have := bD.lt; omega
      replace bD : Bk V13 (w.heap.size + 1) #[.int .i64 c, .int .i64 s, .int .i64 h] 30 := by rw [← hX]; exact bD.alloc _
      try rw [← hg]
      have hb : Below V0.heap.size V0 V13 := by rw [← hX]; exact (Below.refl _ _).alloc (Nat.le_refl _) _
      clear hX hg
      try replace HR := Lib.hid (HR.out.on hb)
      replace HW := Lib.hid (bel_end HW.out hb)
      clear hb
      refine hK.out _ _ (HSp.out _ bX bD) (fun _ => ?_)
      clear hK Kn
      refine wpAnyH_ready (rs := [1]) (by kernel_rfl) (by simp) ?_
      refine AllReadyH.cons (o := { dst := some 20, op := Go.Op.call { callee := Go.Callee.value (Go.Operand.func 34), args := #[Go.Operand.tmp 19], argTypes := #[45] }, type := 51, pos := "exact.go:2792", after := #[{ on := 0, ground := Go.Ground.data }], guard := none }) rfl (fun Kn hK => ?_) AllReadyH.nil
      first | go_at_call 34 | (go_simp; go_at_call 34)
      (refine Calls.mono (top_any _ _ _ _ _ zs ys (HP.out.on HW.out)) ?_)
      rintro e V14 ⟨g1, g2, rfl, hg1, hg2, hr1, hr2, hb⟩
      have HR := Lib.hid (Prof.of_rows hr1 hr2 lz ly)
      clear hr1 hr2
      try dsimp only
      try simp only [Act.put, List.setIfInBounds_toArray, List.set_cons_zero, List.set_cons_succ]
      replace bX := bX.on hb
      replace bD := bD.on hb
      replace bn9 := bn9.on hb
      try replace HR := Lib.hid (HR.out.on hb)
      replace HW := Lib.hid (bel_end HW.out hb)
      clear hb
      refine hK.out _ _ (HSp.out _ bX bD) (fun _ => ?_)
      clear hK Kn
      refine wpAnyH_ready (rs := [4]) (by kernel_rfl) (by simp) ?_
      refine AllReadyH.cons (o := { dst := some 23, op := Go.Op.call { callee := Go.Callee.value (Go.Operand.func 25), args := #[Go.Operand.tmp 22], argTypes := #[30] }, type := 32, pos := "exact.go:2792", after := #[{ on := 3, ground := Go.Ground.data }, { on := 1, ground := Go.Ground.chain }], guard := none }) rfl (fun Kn hK => ?_) AllReadyH.nil
      first | go_at_call 25 | (go_simp; go_at_call 25)
      refine (tod_any _ _ _ _).mono ?_
      rintro e V15 ⟨rfl, hb⟩
      try dsimp only
      try simp only [Act.put, List.setIfInBounds_toArray, List.set_cons_zero, List.set_cons_succ]
      replace bX := bX.on hb
      replace bD := bD.on hb
      replace bn9 := bn9.on hb
      try replace HR := Lib.hid (HR.out.on hb)
      replace HW := Lib.hid (bel_end HW.out hb)
      clear hb
      refine hK.out _ _ (HSp.out _ bX bD) (fun _ => ?_)
      clear hK Kn
      refine wpAnyH_ready (rs := [5]) (by kernel_rfl) (by simp) ?_
      refine AllReadyH.cons (o := { dst := some 24, op := Go.Op.call { callee := Go.Callee.value (Go.Operand.func 53), args := #[Go.Operand.tmp 20, Go.Operand.tmp 21, Go.Operand.tmp 23], argTypes := #[51, 2, 32] }, type := 69, pos := "exact.go:2792", after := #[{ on := 1, ground := Go.Ground.data }, { on := 2, ground := Go.Ground.data }, { on := 4, ground := Go.Ground.data }, { on := 4, ground := Go.Ground.chain }], guard := none }) rfl (fun Kn hK => ?_) AllReadyH.nil
      first | go_at_call 53 | (go_simp; go_at_call 53)
      (with_reducible refine Calls.mono (KS.out _ _ _ _ _ HR.out) ?_)
      rintro e V16 ⟨rfl, hb⟩
      try dsimp only
      try simp only [Act.put, List.setIfInBounds_toArray, List.set_cons_zero, List.set_cons_succ]
      replace bX := bX.on hb
      replace bD := bD.on hb
      replace bn9 := bn9.on hb
      try replace HR := Lib.hid (HR.out.on hb)
      replace HW := Lib.hid (bel_end HW.out hb)
      clear hb
      refine hK.out _ _ (HSp.out _ bX bD) (fun _ => ?_)
      clear hK Kn
      have hS := HSp.out _ bX bD
      refine wpAnyH_take (i := 6) (oi := { dst := some 18, op := Go.Op.move (Go.Operand.tmp 24), type := 69, pos := "exact.go:2792", after := #[{ on := 5, ground := Go.Ground.data }], guard := none }) (v := ?_) rfl (by kernel_rfl) (by kernel_rfl) (by kernel_rfl) (fun _ _ _ h => h) (Or.inl ⟨by rfl, ?_⟩) hS ?_
      rotate_left
      · (intro w hSw; have hSw := (HSd.out w).1 hSw; go_split_ands; go_simp) <;> with_reducible rfl
      clear hS
      try simp only [Act.put, List.setIfInBounds_toArray, List.set_cons_zero, List.set_cons_succ]
      have hS := HSp.out _ bX bD
      refine wpAnyH_take (i := 7) (oi := { dst := some 25, op := Go.Op.extract (Go.Operand.tmp 18) 0, type := 61, pos := "exact.go:2792", after := #[{ on := 6, ground := Go.Ground.data }], guard := none }) (v := ?_) rfl (by kernel_rfl) (by kernel_rfl) (by kernel_rfl) (fun _ _ _ h => h) (Or.inl ⟨by rfl, ?_⟩) hS ?_
      rotate_left
      · (intro w hSw; have hSw := (HSd.out w).1 hSw; go_split_ands; go_simp) <;> with_reducible rfl
      clear hS
      try simp only [Act.put, List.setIfInBounds_toArray, List.set_cons_zero, List.set_cons_succ]
      have hS := HSp.out _ bX bD
      refine wpAnyH_take (i := 8) (oi := { dst := some 26, op := Go.Op.extract (Go.Operand.tmp 18) 1, type := 2, pos := "exact.go:2792", after := #[{ on := 6, ground := Go.Ground.data }, { on := 10, ground := Go.Ground.gcOnly Go.Departure.lateStores }], guard := none }) (v := ?_) rfl (by kernel_rfl) (by kernel_rfl) (by kernel_rfl) (fun _ _ _ h => h) (Or.inl ⟨by rfl, ?_⟩) hS ?_
      rotate_left
      · (intro w hSw; have hSw := (HSd.out w).1 hSw; go_split_ands; go_simp) <;> with_reducible rfl
      clear hS
      try simp only [Act.put, List.setIfInBounds_toArray, List.set_cons_zero, List.set_cons_succ]
      refine wpAnyH_ready (rs := [10]) (by kernel_rfl) (by simp) ?_
      refine AllReadyH.cons (o := { dst := none, op := Go.Op.store 61 (Go.Operand.tmp 8) (Go.Operand.tmp 25), type := 0, pos := "exact.go:2792", after := #[{ on := 9, ground := Go.Ground.data }, { on := 7, ground := Go.Ground.data }, { on := 5, ground := Go.Ground.chain }, { on := 0, ground := Go.Ground.phase }, { on := 1, ground := Go.Ground.phase }, { on := 2, ground := Go.Ground.phase }, { on := 3, ground := Go.Ground.phase }, { on := 4, ground := Go.Ground.phase }, { on := 5, ground := Go.Ground.phase }, { on := 6, ground := Go.Ground.phase }, { on := 7, ground := Go.Ground.phase }, { on := 8, ground := Go.Ground.textOnly Go.Departure.lateStores }, { on := 9, ground := Go.Ground.phase }], guard := none }) rfl (fun Kn hK => ?_) AllReadyH.nil
      have bn9_0 := bn9.cell 0 rfl
      have bn9_1 := bn9.cell 1 rfl
      have bn9_2 := bn9.cell 2 rfl
      have bn9_3 := bn9.cell 3 rfl
      have bn9_f0 := bn9.frozen 0
      have bn9_f1 := bn9.frozen 1
      have bn9_f2 := bn9.frozen 2
      have bn9_f3 := bn9.frozen 3
      have bn9_l := bn9.lt
      go_simp
      clear bn9_0 bn9_f0 bn9_1 bn9_f1 bn9_2 bn9_f2 bn9_3 bn9_f3 bn9_l
      generalize hX : World.setCell _ _ _ = V17
      have hb : Below W.heap.size W V17 := by rw [← hX]; exact ((((HW.out.setCell (p := ⟨g9, 0, none⟩) le9 _).setCell (p := ⟨g9, 1, none⟩) le9 _).setCell (p := ⟨g9, 2, none⟩) le9 _).setCell (p := ⟨g9, 3, none⟩) le9 _)
      replace bX : Bk V17 (w.heap.size) #[.slice a0 zs.length cap0, .slice b0 ys.length cap1] 45 := by rw [← hX]; exact (Bk.other (Bk.other (Bk.other (Bk.other bX nebX_9 0 _) nebX_9 1 _) nebX_9 2 _) nebX_9 3 _)
      replace bD : Bk V17 (w.heap.size + 1) #[.int .i64 c, .int .i64 s, .int .i64 h] 30 := by rw [← hX]; exact (Bk.other (Bk.other (Bk.other (Bk.other bD nebD_9 0 _) nebD_9 1 _) nebD_9 2 _) nebD_9 3 _)
      replace bn9 : Bk V17 (g9) #[.int .i64 r00, .bool r01, .int .i64 r02, .int .i64 r03] 61 := by rw [← hX]; exact (Bk.set (Bk.set (Bk.set (Bk.set bn9 0 _ rfl) 1 _ rfl) 2 _ rfl) 3 _ rfl)
      clear hX
      replace HW := Lib.hid hb
      clear hb
      refine hK.out _ _ (HSp.out _ bX bD) (fun _ => ?_)
      clear hK Kn
      have hS := HSp.out _ bX bD
      refine wpAnyH_take (i := 11) (oi := { dst := some 9, op := Go.Op.assign (Go.Operand.tmp 26), type := 2, pos := "exact.go:2792", after := #[{ on := 8, ground := Go.Ground.data }, { on := 10, ground := Go.Ground.chain }, { on := 0, ground := Go.Ground.phase }, { on := 1, ground := Go.Ground.phase }, { on := 2, ground := Go.Ground.phase }, { on := 3, ground := Go.Ground.phase }, { on := 4, ground := Go.Ground.phase }, { on := 5, ground := Go.Ground.phase }, { on := 6, ground := Go.Ground.phase }, { on := 7, ground := Go.Ground.phase }, { on := 8, ground := Go.Ground.phase }, { on := 9, ground := Go.Ground.phase }, { on := 10, ground := Go.Ground.phase }], guard := none }) (v := ?_) rfl (by kernel_rfl) (by kernel_rfl) (by kernel_rfl) (fun _ _ _ h => h) (Or.inl ⟨by rfl, ?_⟩) hS ?_
      rotate_left
      · (intro w hSw; have hSw := (HSd.out w).1 hSw; go_split_ands; go_simp) <;> with_reducible rfl
      clear hS
      try simp only [Act.put, List.setIfInBounds_toArray, List.set_cons_zero, List.set_cons_succ]
      refine wpAnyH_done (by kernel_rfl) ?_ _
      go_wp2_with fail
      go_meet
      exact ⟨_, rfl, bn9, le9, rfl, HW.out⟩
    case rest =>
      obtain ⟨gS, rfl, bS, hgS, rfl, hB⟩ := hcut
      replace bX := bX.on hB
      replace bD := bD.on hB
      replace HP := Lib.hid (HP.out.on hB)
      replace HB := Lib.hid (bel_end HB.out hB)
      clear hB
      have x0 := bX.cell 0 rfl
      have x1 := bX.cell 1 rfl
      have xl := bX.lt
      go_wp2_with fail
      refine (top_any _ _ _ _ _ zs ys HP.out).mono ?_
      rintro e w2 ⟨g3, g4, rfl, hg3, hg4, hr1, hr2, hb⟩
      replace bX := bX.on hb
      replace bD := bD.on hb
      replace bS := bS.on hb
      replace HP := Lib.hid (HP.out.on hb)
      replace HB := Lib.hid (bel_end HB.out hb)
      have HR := Lib.hid (Prof.of_rows hr1 hr2 lz ly)
      clear hr1 hr2 hg3 hg4 hb x0 x1 xl hgS
      go_upto_region 7 with fail
      generalize hW : World.alloc _ _ = W3
      obtain ⟨gy, hgy⟩ : ∃ g, g = w2.heap.size := ⟨_, rfl⟩
      have hb : Below w2.heap.size w2 W3 := by rw [← hW]; exact (Below.refl _ _).alloc (Nat.le_refl _) _
      have bY : Bk W3 gy #[.slice (some ⟨g3, 0, none⟩) zs.length zs.length, .slice (some ⟨g4, 0, none⟩) ys.length ys.length] 51 := by rw [← hW]; exact Bk.new' hgy
      try rw [← hgy]
      replace bX := bX.on hb
      replace bD := bD.on hb
      replace bS := bS.on hb
      replace HP := Lib.hid (HP.out.on hb)
      replace HR := Lib.hid (HR.out.on hb)
      replace HB := Lib.hid (bel_end HB.out hb)
      clear hW hb hgy
      go_wp2_with fail
      go_cut [11, 12] (fun s11 s12 wx => ∃ g : Nat, s11 = .pointer (some ⟨g, 0, none⟩) ∧ Bk wx g #[.int .i64 r00, .bool r01, .int .i64 r02, .int .i64 r03] 61 ∧ W3.heap.size ≤ g ∧ s12 = .int .i64 r1 ∧ Below W3.heap.size W3 wx)
      case first =>
        have HW : Hid (Below W3.heap.size W3 W3) := Lib.hid (Below.refl _ _)
        obtain ⟨S, hSd⟩ : ∃ S : World → Prop, ∀ w', S w' ↔ (w'.cell? ⟨gy, 0, none⟩ = some (.slice (some ⟨g3, 0, none⟩) zs.length zs.length) ∧ w'.cell? ⟨gy, 1, none⟩ = some (.slice (some ⟨g4, 0, none⟩) ys.length ys.length) ∧ w'.cell? ⟨w.heap.size + 1, 0, none⟩ = some (.int .i64 c) ∧ w'.cell? ⟨w.heap.size + 1, 1, none⟩ = some (.int .i64 s) ∧ w'.cell? ⟨w.heap.size + 1, 2, none⟩ = some (.int .i64 h)) := ⟨_, fun _ => Iff.rfl⟩
        have HSp : Hid (∀ w' : World, Bk w' (gy) #[.slice (some ⟨g3, 0, none⟩) zs.length zs.length, .slice (some ⟨g4, 0, none⟩) ys.length ys.length] 51 → Bk w' (w.heap.size + 1) #[.int .i64 c, .int .i64 s, .int .i64 h] 30 → S w') := Lib.hid (fun w' bY bD => (hSd w').2 ⟨bY.cell 0 rfl, bY.cell 1 rfl, bD.cell 0 rfl, bD.cell 1 rfl, bD.cell 2 rfl⟩)
        have HSd := Lib.hid hSd
        clear hSd
        refine wp_region_held_drew (S := S) (by kernel_rfl) ?_ (fun hH => ?_)
        · exact (HSp.out _ bY bD : S (World.drew W3))
        clear hH
        generalize hX : World.drew W3 = V0
        replace bY : Bk V0 (gy) #[.slice (some ⟨g3, 0, none⟩) zs.length zs.length, .slice (some ⟨g4, 0, none⟩) ys.length ys.length] 51 := by rw [← hX]; exact bY
        replace bD : Bk V0 (w.heap.size + 1) #[.int .i64 c, .int .i64 s, .int .i64 h] 30 := by rw [← hX]; exact bD
        have hb : Below W3.heap.size W3 V0 := by rw [← hX]; exact (Below.refl _ _).drew
        clear hX
        replace HW := Lib.hid (bel_end HW.out hb)
        clear hb
        have hS := HSp.out _ bY bD
        refine wpAnyH_take (i := 0) (oi := { dst := some 30, op := Go.Op.load 51 (Go.Operand.tmp 10), type := 51, pos := "exact.go:2794", after := #[], guard := none }) (v := ?_) rfl (by kernel_rfl) (by kernel_rfl) (by kernel_rfl) (fun _ _ _ h => h) (Or.inl ⟨by rfl, ?_⟩) hS ?_
        rotate_left
        · (intro w hSw; have hSw := (HSd.out w).1 hSw; go_split_ands; go_simp) <;> with_reducible rfl
        clear hS
        try simp only [Act.put, List.setIfInBounds_toArray, List.set_cons_zero, List.set_cons_succ]
        have hS := HSp.out _ bY bD
        refine wpAnyH_take (i := 1) (oi := { dst := some 31, op := Go.Op.move (Go.Operand.tmp 1), type := 2, pos := "exact.go:2794", after := #[], guard := none }) (v := ?_) rfl (by kernel_rfl) (by kernel_rfl) (by kernel_rfl) (fun _ _ _ h => h) (Or.inl ⟨by rfl, ?_⟩) hS ?_
        rotate_left
        · (intro w hSw; have hSw := (HSd.out w).1 hSw; go_split_ands; go_simp) <;> with_reducible rfl
        clear hS
        try simp only [Act.put, List.setIfInBounds_toArray, List.set_cons_zero, List.set_cons_succ]
        have hS := HSp.out _ bY bD
        refine wpAnyH_take (i := 2) (oi := { dst := some 32, op := Go.Op.load 30 (Go.Operand.tmp 5), type := 30, pos := "exact.go:2794", after := #[], guard := none }) (v := ?_) rfl (by kernel_rfl) (by kernel_rfl) (by kernel_rfl) (fun _ _ _ h => h) (Or.inl ⟨by rfl, ?_⟩) hS ?_
        rotate_left
        · (intro w hSw; have hSw := (HSd.out w).1 hSw; go_split_ands; go_simp) <;> with_reducible rfl
        clear hS
        try simp only [Act.put, List.setIfInBounds_toArray, List.set_cons_zero, List.set_cons_succ]
        refine wpAnyH_ready (rs := [3, 8]) (by kernel_rfl) (by simp) ?_
        refine AllReadyH.cons (o := { dst := some 33, op := Go.Op.call { callee := Go.Callee.value (Go.Operand.func 25), args := #[Go.Operand.tmp 32], argTypes := #[30] }, type := 32, pos := "exact.go:2794", after := #[{ on := 2, ground := Go.Ground.data }], guard := none }) rfl (fun Kn hK => ?_) ?_
        · first | go_at_call 25 | (go_simp; go_at_call 25)
          refine (tod_any _ _ _ _).mono ?_
          rintro e V1 ⟨rfl, hb⟩
          try dsimp only
          try simp only [Act.put, List.setIfInBounds_toArray, List.set_cons_zero, List.set_cons_succ]
          replace bY := bY.on hb
          replace bD := bD.on hb
          replace HW := Lib.hid (bel_end HW.out hb)
          clear hb
          refine hK.out _ _ (HSp.out _ bY bD) (fun _ => ?_)
          clear hK Kn
          refine wpAnyH_ready (rs := [4, 8]) (by kernel_rfl) (by simp) ?_
          refine AllReadyH.cons (o := { dst := some 34, op := Go.Op.call { callee := Go.Callee.value (Go.Operand.func 47), args := #[Go.Operand.tmp 30, Go.Operand.tmp 31, Go.Operand.tmp 33], argTypes := #[51, 2, 32] }, type := 69, pos := "exact.go:2794", after := #[{ on := 0, ground := Go.Ground.data }, { on := 1, ground := Go.Ground.data }, { on := 3, ground := Go.Ground.data }, { on := 3, ground := Go.Ground.chain }], guard := none }) rfl (fun Kn hK => ?_) ?_
          · first | go_at_call 47 | (go_simp; go_at_call 47)
            (with_reducible refine Calls.mono (KI.out _ _ _ _ _ (HR.out.on HW.out)) ?_)
            rintro e V2 ⟨rfl, hb⟩
            try dsimp only
            try simp only [Act.put, List.setIfInBounds_toArray, List.set_cons_zero, List.set_cons_succ]
            replace bY := bY.on hb
            replace bD := bD.on hb
            replace HW := Lib.hid (bel_end HW.out hb)
            clear hb
            refine hK.out _ _ (HSp.out _ bY bD) (fun _ => ?_)
            clear hK Kn
            have hS := HSp.out _ bY bD
            refine wpAnyH_take (i := 5) (oi := { dst := some 29, op := Go.Op.move (Go.Operand.tmp 34), type := 69, pos := "exact.go:2794", after := #[{ on := 4, ground := Go.Ground.data }], guard := none }) (v := ?_) rfl (by kernel_rfl) (by kernel_rfl) (by kernel_rfl) (fun _ _ _ h => h) (Or.inl ⟨by rfl, ?_⟩) hS ?_
            rotate_left
            · (intro w hSw; have hSw := (HSd.out w).1 hSw; go_split_ands; go_simp) <;> with_reducible rfl
            clear hS
            try simp only [Act.put, List.setIfInBounds_toArray, List.set_cons_zero, List.set_cons_succ]
            have hS := HSp.out _ bY bD
            refine wpAnyH_take (i := 6) (oi := { dst := some 35, op := Go.Op.extract (Go.Operand.tmp 29) 0, type := 61, pos := "exact.go:2794", after := #[{ on := 5, ground := Go.Ground.data }], guard := none }) (v := ?_) rfl (by kernel_rfl) (by kernel_rfl) (by kernel_rfl) (fun _ _ _ h => h) (Or.inl ⟨by rfl, ?_⟩) hS ?_
            rotate_left
            · (intro w hSw; have hSw := (HSd.out w).1 hSw; go_split_ands; go_simp) <;> with_reducible rfl
            clear hS
            try simp only [Act.put, List.setIfInBounds_toArray, List.set_cons_zero, List.set_cons_succ]
            have hS := HSp.out _ bY bD
            refine wpAnyH_take (i := 7) (oi := { dst := some 36, op := Go.Op.extract (Go.Operand.tmp 29) 1, type := 2, pos := "exact.go:2794", after := #[{ on := 5, ground := Go.Ground.data }, { on := 9, ground := Go.Ground.gcOnly Go.Departure.lateStores }], guard := none }) (v := ?_) rfl (by kernel_rfl) (by kernel_rfl) (by kernel_rfl) (fun _ _ _ h => h) (Or.inl ⟨by rfl, ?_⟩) hS ?_
            rotate_left
            · (intro w hSw; have hSw := (HSd.out w).1 hSw; go_split_ands; go_simp) <;> with_reducible rfl
            clear hS
            try simp only [Act.put, List.setIfInBounds_toArray, List.set_cons_zero, List.set_cons_succ]
            refine wpAnyH_ready (rs := [8]) (by kernel_rfl) (by simp) ?_
            refine AllReadyH.cons (o := { dst := some 11, op := Go.Op.alloc 61, type := 0, pos := "exact.go:2794", after := #[], guard := none }) rfl (fun Kn hK => ?_) AllReadyH.nil
            go_simp
            generalize hX : World.alloc V2 _ = V3
            obtain ⟨g8, hg⟩ : ∃ g, g = V2.heap.size := ⟨_, rfl⟩
            have bn8 : Bk V3 g8 #[.int .i64 0, .bool false, .int .i64 0, .int .i64 0] 61 := by rw [← hX]; exact Bk.new' hg
            have le8 : W3.heap.size ≤ g8 := by rw [hg]; exact HW.out.size
            have nebY_8 : gy ≠ g8 := by have := bY.lt; omega
            replace bY : Bk V3 (gy) #[.slice (some ⟨g3, 0, none⟩) zs.length zs.length, .slice (some ⟨g4, 0, none⟩) ys.length ys.length] 51 := by rw [← hX]; exact bY.alloc _
            have nebD_8 : w.heap.size + 1 ≠ g8 := by have := bD.lt; omega
            replace bD : Bk V3 (w.heap.size + 1) #[.int .i64 c, .int .i64 s, .int .i64 h] 30 := by rw [← hX]; exact bD.alloc _
            try rw [← hg]
            have hb : Below V2.heap.size V2 V3 := by rw [← hX]; exact (Below.refl _ _).alloc (Nat.le_refl _) _
            clear hX hg
            replace HW := Lib.hid (bel_end HW.out hb)
            clear hb
            refine hK.out _ _ (HSp.out _ bY bD) (fun _ => ?_)
            clear hK Kn
            refine wpAnyH_ready (rs := [9]) (by kernel_rfl) (by simp) ?_
            refine AllReadyH.cons (o := { dst := none, op := Go.Op.store 61 (Go.Operand.tmp 11) (Go.Operand.tmp 35), type := 0, pos := "exact.go:2794", after := #[{ on := 8, ground := Go.Ground.data }, { on := 6, ground := Go.Ground.data }, { on := 4, ground := Go.Ground.chain }, { on := 0, ground := Go.Ground.phase }, { on := 1, ground := Go.Ground.phase }, { on := 2, ground := Go.Ground.phase }, { on := 3, ground := Go.Ground.phase }, { on := 4, ground := Go.Ground.phase }, { on := 5, ground := Go.Ground.phase }, { on := 6, ground := Go.Ground.phase }, { on := 7, ground := Go.Ground.textOnly Go.Departure.lateStores }, { on := 8, ground := Go.Ground.phase }], guard := none }) rfl (fun Kn hK => ?_) AllReadyH.nil
            have bn8_0 := bn8.cell 0 rfl
            have bn8_1 := bn8.cell 1 rfl
            have bn8_2 := bn8.cell 2 rfl
            have bn8_3 := bn8.cell 3 rfl
            have bn8_f0 := bn8.frozen 0
            have bn8_f1 := bn8.frozen 1
            have bn8_f2 := bn8.frozen 2
            have bn8_f3 := bn8.frozen 3
            have bn8_l := bn8.lt
            go_simp
            clear bn8_0 bn8_f0 bn8_1 bn8_f1 bn8_2 bn8_f2 bn8_3 bn8_f3 bn8_l
            generalize hX : World.setCell _ _ _ = V4
            have hb : Below W3.heap.size W3 V4 := by rw [← hX]; exact ((((HW.out.setCell (p := ⟨g8, 0, none⟩) le8 _).setCell (p := ⟨g8, 1, none⟩) le8 _).setCell (p := ⟨g8, 2, none⟩) le8 _).setCell (p := ⟨g8, 3, none⟩) le8 _)
            replace bY : Bk V4 (gy) #[.slice (some ⟨g3, 0, none⟩) zs.length zs.length, .slice (some ⟨g4, 0, none⟩) ys.length ys.length] 51 := by rw [← hX]; exact (Bk.other (Bk.other (Bk.other (Bk.other bY nebY_8 0 _) nebY_8 1 _) nebY_8 2 _) nebY_8 3 _)
            replace bD : Bk V4 (w.heap.size + 1) #[.int .i64 c, .int .i64 s, .int .i64 h] 30 := by rw [← hX]; exact (Bk.other (Bk.other (Bk.other (Bk.other bD nebD_8 0 _) nebD_8 1 _) nebD_8 2 _) nebD_8 3 _)
            replace bn8 : Bk V4 (g8) #[.int .i64 r00, .bool r01, .int .i64 r02, .int .i64 r03] 61 := by rw [← hX]; exact (Bk.set (Bk.set (Bk.set (Bk.set bn8 0 _ rfl) 1 _ rfl) 2 _ rfl) 3 _ rfl)
            clear hX
            replace HW := Lib.hid hb
            clear hb
            refine hK.out _ _ (HSp.out _ bY bD) (fun _ => ?_)
            clear hK Kn
            have hS := HSp.out _ bY bD
            refine wpAnyH_take (i := 10) (oi := { dst := some 12, op := Go.Op.assign (Go.Operand.tmp 36), type := 2, pos := "exact.go:2794", after := #[{ on := 7, ground := Go.Ground.data }, { on := 9, ground := Go.Ground.chain }, { on := 0, ground := Go.Ground.phase }, { on := 1, ground := Go.Ground.phase }, { on := 2, ground := Go.Ground.phase }, { on := 3, ground := Go.Ground.phase }, { on := 4, ground := Go.Ground.phase }, { on := 5, ground := Go.Ground.phase }, { on := 6, ground := Go.Ground.phase }, { on := 7, ground := Go.Ground.phase }, { on := 8, ground := Go.Ground.phase }, { on := 9, ground := Go.Ground.phase }], guard := none }) (v := ?_) rfl (by kernel_rfl) (by kernel_rfl) (by kernel_rfl) (fun _ _ _ h => h) (Or.inl ⟨by rfl, ?_⟩) hS ?_
            rotate_left
            · (intro w hSw; have hSw := (HSd.out w).1 hSw; go_split_ands; go_simp) <;> with_reducible rfl
            clear hS
            try simp only [Act.put, List.setIfInBounds_toArray, List.set_cons_zero, List.set_cons_succ]
            refine wpAnyH_done (by kernel_rfl) ?_ _
            go_wp2_with fail
            go_meet
            exact ⟨_, rfl, bn8, le8, rfl, HW.out⟩
          refine AllReadyH.cons (o := { dst := some 11, op := Go.Op.alloc 61, type := 0, pos := "exact.go:2794", after := #[], guard := none }) rfl (fun Kn hK => ?_) AllReadyH.nil
          go_simp
          generalize hX : World.alloc V1 _ = V5
          obtain ⟨g8, hg⟩ : ∃ g, g = V1.heap.size := ⟨_, rfl⟩
          have bn8 : Bk V5 g8 #[.int .i64 0, .bool false, .int .i64 0, .int .i64 0] 61 := by rw [← hX]; exact Bk.new' hg
          have le8 : W3.heap.size ≤ g8 := by rw [hg]; exact HW.out.size
          have nebY_8 : gy ≠ g8 := by have := bY.lt; omega
          replace bY : Bk V5 (gy) #[.slice (some ⟨g3, 0, none⟩) zs.length zs.length, .slice (some ⟨g4, 0, none⟩) ys.length ys.length] 51 := by rw [← hX]; exact bY.alloc _
          have nebD_8 : w.heap.size + 1 ≠ g8 := by have := bD.lt; omega
          replace bD : Bk V5 (w.heap.size + 1) #[.int .i64 c, .int .i64 s, .int .i64 h] 30 := by rw [← hX]; exact bD.alloc _
          try rw [← hg]
          have hb : Below V1.heap.size V1 V5 := by rw [← hX]; exact (Below.refl _ _).alloc (Nat.le_refl _) _
          clear hX hg
          replace HW := Lib.hid (bel_end HW.out hb)
          clear hb
          refine hK.out _ _ (HSp.out _ bY bD) (fun _ => ?_)
          clear hK Kn
          refine wpAnyH_ready (rs := [4]) (by kernel_rfl) (by simp) ?_
          refine AllReadyH.cons (o := { dst := some 34, op := Go.Op.call { callee := Go.Callee.value (Go.Operand.func 47), args := #[Go.Operand.tmp 30, Go.Operand.tmp 31, Go.Operand.tmp 33], argTypes := #[51, 2, 32] }, type := 69, pos := "exact.go:2794", after := #[{ on := 0, ground := Go.Ground.data }, { on := 1, ground := Go.Ground.data }, { on := 3, ground := Go.Ground.data }, { on := 3, ground := Go.Ground.chain }], guard := none }) rfl (fun Kn hK => ?_) AllReadyH.nil
          first | go_at_call 47 | (go_simp; go_at_call 47)
          (with_reducible refine Calls.mono (KI.out _ _ _ _ _ (HR.out.on HW.out)) ?_)
          rintro e V6 ⟨rfl, hb⟩
          try dsimp only
          try simp only [Act.put, List.setIfInBounds_toArray, List.set_cons_zero, List.set_cons_succ]
          replace bY := bY.on hb
          replace bD := bD.on hb
          replace bn8 := bn8.on hb
          replace HW := Lib.hid (bel_end HW.out hb)
          clear hb
          refine hK.out _ _ (HSp.out _ bY bD) (fun _ => ?_)
          clear hK Kn
          have hS := HSp.out _ bY bD
          refine wpAnyH_take (i := 5) (oi := { dst := some 29, op := Go.Op.move (Go.Operand.tmp 34), type := 69, pos := "exact.go:2794", after := #[{ on := 4, ground := Go.Ground.data }], guard := none }) (v := ?_) rfl (by kernel_rfl) (by kernel_rfl) (by kernel_rfl) (fun _ _ _ h => h) (Or.inl ⟨by rfl, ?_⟩) hS ?_
          rotate_left
          · (intro w hSw; have hSw := (HSd.out w).1 hSw; go_split_ands; go_simp) <;> with_reducible rfl
          clear hS
          try simp only [Act.put, List.setIfInBounds_toArray, List.set_cons_zero, List.set_cons_succ]
          have hS := HSp.out _ bY bD
          refine wpAnyH_take (i := 6) (oi := { dst := some 35, op := Go.Op.extract (Go.Operand.tmp 29) 0, type := 61, pos := "exact.go:2794", after := #[{ on := 5, ground := Go.Ground.data }], guard := none }) (v := ?_) rfl (by kernel_rfl) (by kernel_rfl) (by kernel_rfl) (fun _ _ _ h => h) (Or.inl ⟨by rfl, ?_⟩) hS ?_
          rotate_left
          · (intro w hSw; have hSw := (HSd.out w).1 hSw; go_split_ands; go_simp) <;> with_reducible rfl
          clear hS
          try simp only [Act.put, List.setIfInBounds_toArray, List.set_cons_zero, List.set_cons_succ]
          have hS := HSp.out _ bY bD
          refine wpAnyH_take (i := 7) (oi := { dst := some 36, op := Go.Op.extract (Go.Operand.tmp 29) 1, type := 2, pos := "exact.go:2794", after := #[{ on := 5, ground := Go.Ground.data }, { on := 9, ground := Go.Ground.gcOnly Go.Departure.lateStores }], guard := none }) (v := ?_) rfl (by kernel_rfl) (by kernel_rfl) (by kernel_rfl) (fun _ _ _ h => h) (Or.inl ⟨by rfl, ?_⟩) hS ?_
          rotate_left
          · (intro w hSw; have hSw := (HSd.out w).1 hSw; go_split_ands; go_simp) <;> with_reducible rfl
          clear hS
          try simp only [Act.put, List.setIfInBounds_toArray, List.set_cons_zero, List.set_cons_succ]
          refine wpAnyH_ready (rs := [9]) (by kernel_rfl) (by simp) ?_
          refine AllReadyH.cons (o := { dst := none, op := Go.Op.store 61 (Go.Operand.tmp 11) (Go.Operand.tmp 35), type := 0, pos := "exact.go:2794", after := #[{ on := 8, ground := Go.Ground.data }, { on := 6, ground := Go.Ground.data }, { on := 4, ground := Go.Ground.chain }, { on := 0, ground := Go.Ground.phase }, { on := 1, ground := Go.Ground.phase }, { on := 2, ground := Go.Ground.phase }, { on := 3, ground := Go.Ground.phase }, { on := 4, ground := Go.Ground.phase }, { on := 5, ground := Go.Ground.phase }, { on := 6, ground := Go.Ground.phase }, { on := 7, ground := Go.Ground.textOnly Go.Departure.lateStores }, { on := 8, ground := Go.Ground.phase }], guard := none }) rfl (fun Kn hK => ?_) AllReadyH.nil
          have bn8_0 := bn8.cell 0 rfl
          have bn8_1 := bn8.cell 1 rfl
          have bn8_2 := bn8.cell 2 rfl
          have bn8_3 := bn8.cell 3 rfl
          have bn8_f0 := bn8.frozen 0
          have bn8_f1 := bn8.frozen 1
          have bn8_f2 := bn8.frozen 2
          have bn8_f3 := bn8.frozen 3
          have bn8_l := bn8.lt
          go_simp
          clear bn8_0 bn8_f0 bn8_1 bn8_f1 bn8_2 bn8_f2 bn8_3 bn8_f3 bn8_l
          generalize hX : World.setCell _ _ _ = V7
          have hb : Below W3.heap.size W3 V7 := by rw [← hX]; exact ((((HW.out.setCell (p := ⟨g8, 0, none⟩) le8 _).setCell (p := ⟨g8, 1, none⟩) le8 _).setCell (p := ⟨g8, 2, none⟩) le8 _).setCell (p := ⟨g8, 3, none⟩) le8 _)
          replace bY : Bk V7 (gy) #[.slice (some ⟨g3, 0, none⟩) zs.length zs.length, .slice (some ⟨g4, 0, none⟩) ys.length ys.length] 51 := by rw [← hX]; exact (Bk.other (Bk.other (Bk.other (Bk.other bY nebY_8 0 _) nebY_8 1 _) nebY_8 2 _) nebY_8 3 _)
          replace bD : Bk V7 (w.heap.size + 1) #[.int .i64 c, .int .i64 s, .int .i64 h] 30 := by rw [← hX]; exact (Bk.other (Bk.other (Bk.other (Bk.other bD nebD_8 0 _) nebD_8 1 _) nebD_8 2 _) nebD_8 3 _)
          replace bn8 : Bk V7 (g8) #[.int .i64 r00, .bool r01, .int .i64 r02, .int .i64 r03] 61 := by rw [← hX]; exact (Bk.set (Bk.set (Bk.set (Bk.set bn8 0 _ rfl) 1 _ rfl) 2 _ rfl) 3 _ rfl)
          clear hX
          replace HW := Lib.hid hb
          clear hb
          refine hK.out _ _ (HSp.out _ bY bD) (fun _ => ?_)
          clear hK Kn
          have hS := HSp.out _ bY bD
          refine wpAnyH_take (i := 10) (oi := { dst := some 12, op := Go.Op.assign (Go.Operand.tmp 36), type := 2, pos := "exact.go:2794", after := #[{ on := 7, ground := Go.Ground.data }, { on := 9, ground := Go.Ground.chain }, { on := 0, ground := Go.Ground.phase }, { on := 1, ground := Go.Ground.phase }, { on := 2, ground := Go.Ground.phase }, { on := 3, ground := Go.Ground.phase }, { on := 4, ground := Go.Ground.phase }, { on := 5, ground := Go.Ground.phase }, { on := 6, ground := Go.Ground.phase }, { on := 7, ground := Go.Ground.phase }, { on := 8, ground := Go.Ground.phase }, { on := 9, ground := Go.Ground.phase }], guard := none }) (v := ?_) rfl (by kernel_rfl) (by kernel_rfl) (by kernel_rfl) (fun _ _ _ h => h) (Or.inl ⟨by rfl, ?_⟩) hS ?_
          rotate_left
          · (intro w hSw; have hSw := (HSd.out w).1 hSw; go_split_ands; go_simp) <;> with_reducible rfl
          clear hS
          try simp only [Act.put, List.setIfInBounds_toArray, List.set_cons_zero, List.set_cons_succ]
          refine wpAnyH_done (by kernel_rfl) ?_ _
          go_wp2_with fail
          go_meet
          exact ⟨_, rfl, bn8, le8, rfl, HW.out⟩
        refine AllReadyH.cons (o := { dst := some 11, op := Go.Op.alloc 61, type := 0, pos := "exact.go:2794", after := #[], guard := none }) rfl (fun Kn hK => ?_) AllReadyH.nil
        go_simp
        generalize hX : World.alloc V0 _ = V8
        obtain ⟨g8, hg⟩ : ∃ g, g = V0.heap.size := ⟨_, rfl⟩
        have bn8 : Bk V8 g8 #[.int .i64 0, .bool false, .int .i64 0, .int .i64 0] 61 := by rw [← hX]; exact Bk.new' hg
        have le8 : W3.heap.size ≤ g8 := by rw [hg]; exact HW.out.size
        have nebY_8 : gy ≠ g8 := by have := bY.lt; omega
        replace bY : Bk V8 (gy) #[.slice (some ⟨g3, 0, none⟩) zs.length zs.length, .slice (some ⟨g4, 0, none⟩) ys.length ys.length] 51 := by rw [← hX]; exact bY.alloc _
        have nebD_8 : w.heap.size + 1 ≠ g8 := by have := bD.lt; omega
        replace bD : Bk V8 (w.heap.size + 1) #[.int .i64 c, .int .i64 s, .int .i64 h] 30 := by rw [← hX]; exact bD.alloc _
        try rw [← hg]
        have hb : Below V0.heap.size V0 V8 := by rw [← hX]; exact (Below.refl _ _).alloc (Nat.le_refl _) _
        clear hX hg
        replace HW := Lib.hid (bel_end HW.out hb)
        clear hb
        refine hK.out _ _ (HSp.out _ bY bD) (fun _ => ?_)
        clear hK Kn
        refine wpAnyH_ready (rs := [3]) (by kernel_rfl) (by simp) ?_
        refine AllReadyH.cons (o := { dst := some 33, op := Go.Op.call { callee := Go.Callee.value (Go.Operand.func 25), args := #[Go.Operand.tmp 32], argTypes := #[30] }, type := 32, pos := "exact.go:2794", after := #[{ on := 2, ground := Go.Ground.data }], guard := none }) rfl (fun Kn hK => ?_) AllReadyH.nil
        first | go_at_call 25 | (go_simp; go_at_call 25)
        refine (tod_any _ _ _ _).mono ?_
        rintro e V9 ⟨rfl, hb⟩
        try dsimp only
        try simp only [Act.put, List.setIfInBounds_toArray, List.set_cons_zero, List.set_cons_succ]
        replace bY := bY.on hb
        replace bD := bD.on hb
        replace bn8 := bn8.on hb
        replace HW := Lib.hid (bel_end HW.out hb)
        clear hb
        refine hK.out _ _ (HSp.out _ bY bD) (fun _ => ?_)
        clear hK Kn
        refine wpAnyH_ready (rs := [4]) (by kernel_rfl) (by simp) ?_
        refine AllReadyH.cons (o := { dst := some 34, op := Go.Op.call { callee := Go.Callee.value (Go.Operand.func 47), args := #[Go.Operand.tmp 30, Go.Operand.tmp 31, Go.Operand.tmp 33], argTypes := #[51, 2, 32] }, type := 69, pos := "exact.go:2794", after := #[{ on := 0, ground := Go.Ground.data }, { on := 1, ground := Go.Ground.data }, { on := 3, ground := Go.Ground.data }, { on := 3, ground := Go.Ground.chain }], guard := none }) rfl (fun Kn hK => ?_) AllReadyH.nil
        first | go_at_call 47 | (go_simp; go_at_call 47)
        (with_reducible refine Calls.mono (KI.out _ _ _ _ _ (HR.out.on HW.out)) ?_)
        rintro e V10 ⟨rfl, hb⟩
        try dsimp only
        try simp only [Act.put, List.setIfInBounds_toArray, List.set_cons_zero, List.set_cons_succ]
        replace bY := bY.on hb
        replace bD := bD.on hb
        replace bn8 := bn8.on hb
        replace HW := Lib.hid (bel_end HW.out hb)
        clear hb
        refine hK.out _ _ (HSp.out _ bY bD) (fun _ => ?_)
        clear hK Kn
        have hS := HSp.out _ bY bD
        refine wpAnyH_take (i := 5) (oi := { dst := some 29, op := Go.Op.move (Go.Operand.tmp 34), type := 69, pos := "exact.go:2794", after := #[{ on := 4, ground := Go.Ground.data }], guard := none }) (v := ?_) rfl (by kernel_rfl) (by kernel_rfl) (by kernel_rfl) (fun _ _ _ h => h) (Or.inl ⟨by rfl, ?_⟩) hS ?_
        rotate_left
        · (intro w hSw; have hSw := (HSd.out w).1 hSw; go_split_ands; go_simp) <;> with_reducible rfl
        clear hS
        try simp only [Act.put, List.setIfInBounds_toArray, List.set_cons_zero, List.set_cons_succ]
        have hS := HSp.out _ bY bD
        refine wpAnyH_take (i := 6) (oi := { dst := some 35, op := Go.Op.extract (Go.Operand.tmp 29) 0, type := 61, pos := "exact.go:2794", after := #[{ on := 5, ground := Go.Ground.data }], guard := none }) (v := ?_) rfl (by kernel_rfl) (by kernel_rfl) (by kernel_rfl) (fun _ _ _ h => h) (Or.inl ⟨by rfl, ?_⟩) hS ?_
        rotate_left
        · (intro w hSw; have hSw := (HSd.out w).1 hSw; go_split_ands; go_simp) <;> with_reducible rfl
        clear hS
        try simp only [Act.put, List.setIfInBounds_toArray, List.set_cons_zero, List.set_cons_succ]
        have hS := HSp.out _ bY bD
        refine wpAnyH_take (i := 7) (oi := { dst := some 36, op := Go.Op.extract (Go.Operand.tmp 29) 1, type := 2, pos := "exact.go:2794", after := #[{ on := 5, ground := Go.Ground.data }, { on := 9, ground := Go.Ground.gcOnly Go.Departure.lateStores }], guard := none }) (v := ?_) rfl (by kernel_rfl) (by kernel_rfl) (by kernel_rfl) (fun _ _ _ h => h) (Or.inl ⟨by rfl, ?_⟩) hS ?_
        rotate_left
        · (intro w hSw; have hSw := (HSd.out w).1 hSw; go_split_ands; go_simp) <;> with_reducible rfl
        clear hS
        try simp only [Act.put, List.setIfInBounds_toArray, List.set_cons_zero, List.set_cons_succ]
        refine wpAnyH_ready (rs := [9]) (by kernel_rfl) (by simp) ?_
        refine AllReadyH.cons (o := { dst := none, op := Go.Op.store 61 (Go.Operand.tmp 11) (Go.Operand.tmp 35), type := 0, pos := "exact.go:2794", after := #[{ on := 8, ground := Go.Ground.data }, { on := 6, ground := Go.Ground.data }, { on := 4, ground := Go.Ground.chain }, { on := 0, ground := Go.Ground.phase }, { on := 1, ground := Go.Ground.phase }, { on := 2, ground := Go.Ground.phase }, { on := 3, ground := Go.Ground.phase }, { on := 4, ground := Go.Ground.phase }, { on := 5, ground := Go.Ground.phase }, { on := 6, ground := Go.Ground.phase }, { on := 7, ground := Go.Ground.textOnly Go.Departure.lateStores }, { on := 8, ground := Go.Ground.phase }], guard := none }) rfl (fun Kn hK => ?_) AllReadyH.nil
        have bn8_0 := bn8.cell 0 rfl
        have bn8_1 := bn8.cell 1 rfl
        have bn8_2 := bn8.cell 2 rfl
        have bn8_3 := bn8.cell 3 rfl
        have bn8_f0 := bn8.frozen 0
        have bn8_f1 := bn8.frozen 1
        have bn8_f2 := bn8.frozen 2
        have bn8_f3 := bn8.frozen 3
        have bn8_l := bn8.lt
        go_simp
        clear bn8_0 bn8_f0 bn8_1 bn8_f1 bn8_2 bn8_f2 bn8_3 bn8_f3 bn8_l
        generalize hX : World.setCell _ _ _ = V11
        have hb : Below W3.heap.size W3 V11 := by rw [← hX]; exact ((((HW.out.setCell (p := ⟨g8, 0, none⟩) le8 _).setCell (p := ⟨g8, 1, none⟩) le8 _).setCell (p := ⟨g8, 2, none⟩) le8 _).setCell (p := ⟨g8, 3, none⟩) le8 _)
        replace bY : Bk V11 (gy) #[.slice (some ⟨g3, 0, none⟩) zs.length zs.length, .slice (some ⟨g4, 0, none⟩) ys.length ys.length] 51 := by rw [← hX]; exact (Bk.other (Bk.other (Bk.other (Bk.other bY nebY_8 0 _) nebY_8 1 _) nebY_8 2 _) nebY_8 3 _)
        replace bD : Bk V11 (w.heap.size + 1) #[.int .i64 c, .int .i64 s, .int .i64 h] 30 := by rw [← hX]; exact (Bk.other (Bk.other (Bk.other (Bk.other bD nebD_8 0 _) nebD_8 1 _) nebD_8 2 _) nebD_8 3 _)
        replace bn8 : Bk V11 (g8) #[.int .i64 r00, .bool r01, .int .i64 r02, .int .i64 r03] 61 := by rw [← hX]; exact (Bk.set (Bk.set (Bk.set (Bk.set bn8 0 _ rfl) 1 _ rfl) 2 _ rfl) 3 _ rfl)
        clear hX
        replace HW := Lib.hid hb
        clear hb
        refine hK.out _ _ (HSp.out _ bY bD) (fun _ => ?_)
        clear hK Kn
        have hS := HSp.out _ bY bD
        refine wpAnyH_take (i := 10) (oi := { dst := some 12, op := Go.Op.assign (Go.Operand.tmp 36), type := 2, pos := "exact.go:2794", after := #[{ on := 7, ground := Go.Ground.data }, { on := 9, ground := Go.Ground.chain }, { on := 0, ground := Go.Ground.phase }, { on := 1, ground := Go.Ground.phase }, { on := 2, ground := Go.Ground.phase }, { on := 3, ground := Go.Ground.phase }, { on := 4, ground := Go.Ground.phase }, { on := 5, ground := Go.Ground.phase }, { on := 6, ground := Go.Ground.phase }, { on := 7, ground := Go.Ground.phase }, { on := 8, ground := Go.Ground.phase }, { on := 9, ground := Go.Ground.phase }], guard := none }) (v := ?_) rfl (by kernel_rfl) (by kernel_rfl) (by kernel_rfl) (fun _ _ _ h => h) (Or.inl ⟨by rfl, ?_⟩) hS ?_
        rotate_left
        · (intro w hSw; have hSw := (HSd.out w).1 hSw; go_split_ands; go_simp) <;> with_reducible rfl
        clear hS
        try simp only [Act.put, List.setIfInBounds_toArray, List.set_cons_zero, List.set_cons_succ]
        refine wpAnyH_done (by kernel_rfl) ?_ _
        go_wp2_with fail
        go_meet
        exact ⟨_, rfl, bn8, le8, rfl, HW.out⟩
      case rest =>
        obtain ⟨gI, rfl, bI, hgI, rfl, hB⟩ := hcut
        replace bX := bX.on hB
        replace bD := bD.on hB
        replace bY := bY.on hB
        replace bS := bS.on hB
        replace HP := Lib.hid (HP.out.on hB)
        replace HR := Lib.hid (HR.out.on hB)
        replace HB := Lib.hid (bel_end HB.out hB)
        clear hB hgI
        have u0 := bS.cell 0 rfl
        have u1 := bS.cell 1 rfl
        have u2 := bS.cell 2 rfl
        have u3 := bS.cell 3 rfl
        have v0 := bI.cell 0 rfl
        have v1 := bI.cell 1 rfl
        have v2 := bI.cell 2 rfl
        have v3 := bI.cell 3 rfl
        go_wp2_with fail
        refine (eqrs_any _ _ _ _ _).mono ?_
        rintro e w4 ⟨rfl, hb⟩
        replace bX := bX.on hb
        replace bY := bY.on hb
        replace HP := Lib.hid (HP.out.on hb)
        replace HR := Lib.hid (HR.out.on hb)
        replace HB := Lib.hid (bel_end HB.out hb)
        clear hb u0 u1 u2 u3 v0 v1 v2 v3 bS bI
        go_upto_region 10 with fail
        clear bD
        have HW : Hid (Below w4.heap.size w4 w4) := Lib.hid (Below.refl _ _)
        obtain ⟨S, hSd⟩ : ∃ S : World → Prop, ∀ w', S w' ↔ (w'.cell? ⟨w.heap.size, 0, none⟩ = some (.slice a0 zs.length cap0) ∧ w'.cell? ⟨w.heap.size, 1, none⟩ = some (.slice b0 ys.length cap1) ∧ w'.cell? ⟨gy, 0, none⟩ = some (.slice (some ⟨g3, 0, none⟩) zs.length zs.length) ∧ w'.cell? ⟨gy, 1, none⟩ = some (.slice (some ⟨g4, 0, none⟩) ys.length ys.length)) := ⟨_, fun _ => Iff.rfl⟩
        have HSp : Hid (∀ w' : World, Bk w' (w.heap.size) #[.slice a0 zs.length cap0, .slice b0 ys.length cap1] 45 → Bk w' (gy) #[.slice (some ⟨g3, 0, none⟩) zs.length zs.length, .slice (some ⟨g4, 0, none⟩) ys.length ys.length] 51 → S w') := Lib.hid (fun w' bX bY => (hSd w').2 ⟨bX.cell 0 rfl, bX.cell 1 rfl, bY.cell 0 rfl, bY.cell 1 rfl⟩)
        have HSd := Lib.hid hSd
        clear hSd
        refine wp_region_held_drew (S := S) (by kernel_rfl) ?_ (fun hH => ?_)
        · exact (HSp.out _ bX bY : S (World.drew w4))
        clear hH
        generalize hX : World.drew w4 = V0
        replace bX : Bk V0 (w.heap.size) #[.slice a0 zs.length cap0, .slice b0 ys.length cap1] 45 := by rw [← hX]; exact bX
        replace bY : Bk V0 (gy) #[.slice (some ⟨g3, 0, none⟩) zs.length zs.length, .slice (some ⟨g4, 0, none⟩) ys.length ys.length] 51 := by rw [← hX]; exact bY
        have hb : Below w4.heap.size w4 V0 := by rw [← hX]; exact (Below.refl _ _).drew
        clear hX
        try replace HR5 := Lib.hid (HR5.out.on hb)
        replace HW := Lib.hid (bel_end HW.out hb)
        clear hb
        have hS := HSp.out _ bX bY
        refine wpAnyH_take (i := 0) (oi := { dst := some 46, op := Go.Op.load 51 (Go.Operand.tmp 10), type := 51, pos := "exact.go:2798", after := #[], guard := none }) (v := ?_) rfl (by kernel_rfl) (by kernel_rfl) (by kernel_rfl) (fun _ _ _ h => h) (Or.inl ⟨by rfl, ?_⟩) hS ?_
        rotate_left
        · (intro w hSw; have hSw := (HSd.out w).1 hSw; go_split_ands; go_simp) <;> with_reducible rfl
        clear hS
        try simp only [Act.put, List.setIfInBounds_toArray, List.set_cons_zero, List.set_cons_succ]
        have hS := HSp.out _ bX bY
        refine wpAnyH_take (i := 1) (oi := { dst := some 47, op := Go.Op.load 45 (Go.Operand.tmp 3), type := 45, pos := "exact.go:2798", after := #[], guard := none }) (v := ?_) rfl (by kernel_rfl) (by kernel_rfl) (by kernel_rfl) (fun _ _ _ h => h) (Or.inl ⟨by rfl, ?_⟩) hS ?_
        rotate_left
        · (intro w hSw; have hSw := (HSd.out w).1 hSw; go_split_ands; go_simp) <;> with_reducible rfl
        clear hS
        try simp only [Act.put, List.setIfInBounds_toArray, List.set_cons_zero, List.set_cons_succ]
        refine wpAnyH_ready (rs := [2]) (by kernel_rfl) (by simp) ?_
        refine AllReadyH.cons (o := { dst := some 48, op := Go.Op.call { callee := Go.Callee.value (Go.Operand.func 34), args := #[Go.Operand.tmp 47], argTypes := #[45] }, type := 51, pos := "exact.go:2798", after := #[{ on := 1, ground := Go.Ground.data }], guard := none }) rfl (fun Kn hK => ?_) AllReadyH.nil
        first | go_at_call 34 | (go_simp; go_at_call 34)
        (refine Calls.mono (top_any _ _ _ _ _ zs ys (HP.out.on HW.out)) ?_)
        rintro e V1 ⟨g5, g6, rfl, hg5, hg6, hr1, hr2, hb⟩
        have HR5 := Lib.hid (Prof.of_rows hr1 hr2 lz ly)
        clear hr1 hr2
        try dsimp only
        try simp only [Act.put, List.setIfInBounds_toArray, List.set_cons_zero, List.set_cons_succ]
        replace bX := bX.on hb
        replace bY := bY.on hb
        try replace HR5 := Lib.hid (HR5.out.on hb)
        replace HW := Lib.hid (bel_end HW.out hb)
        clear hb
        refine hK.out _ _ (HSp.out _ bX bY) (fun _ => ?_)
        clear hK Kn
        refine wpAnyH_ready (rs := [3]) (by kernel_rfl) (by simp) ?_
        refine AllReadyH.cons (o := { dst := some 49, op := Go.Op.call { callee := Go.Callee.value (Go.Operand.func 37), args := #[Go.Operand.tmp 46, Go.Operand.tmp 48], argTypes := #[51, 51] }, type := 4, pos := "exact.go:2798", after := #[{ on := 0, ground := Go.Ground.data }, { on := 2, ground := Go.Ground.data }, { on := 2, ground := Go.Ground.chain }], guard := none }) rfl (fun Kn hK => ?_) AllReadyH.nil
        first | go_at_call 37 | (go_simp; go_at_call 37)
        refine (eqp_any _ _ _ _ _ _ _ _ _ zs ys zs ys (HR.out.on HW.out) HR5.out).mono ?_
        rw [same_self]
        rintro e V2 ⟨rfl, hb⟩
        try dsimp only
        try simp only [Act.put, List.setIfInBounds_toArray, List.set_cons_zero, List.set_cons_succ]
        replace bX := bX.on hb
        replace bY := bY.on hb
        try replace HR5 := Lib.hid (HR5.out.on hb)
        replace HW := Lib.hid (bel_end HW.out hb)
        clear hb
        refine hK.out _ _ (HSp.out _ bX bY) (fun _ => ?_)
        clear hK Kn
        have hS := HSp.out _ bX bY
        refine wpAnyH_take (i := 4) (oi := { dst := some 50, op := Go.Op.unOp Go.UnOp.not 4 (Go.Operand.tmp 49), type := 4, pos := "exact.go:2798", after := #[{ on := 3, ground := Go.Ground.data }], guard := none }) (v := ?_) rfl (by kernel_rfl) (by kernel_rfl) (by kernel_rfl) (fun _ _ _ h => h) (Or.inl ⟨by rfl, ?_⟩) hS ?_
        rotate_left
        · (intro w hSw; have hSw := (HSd.out w).1 hSw; go_split_ands; go_simp) <;> with_reducible rfl
        clear hS
        try simp only [Act.put, List.setIfInBounds_toArray, List.set_cons_zero, List.set_cons_succ]
        refine wpAnyH_done (by kernel_rfl) ?_ _
        go_wp2
        go_ret
        exact ⟨rfl, bel_end HB.out HW.out⟩
end Go.Proofs.Ytaaklnabomhleaa
