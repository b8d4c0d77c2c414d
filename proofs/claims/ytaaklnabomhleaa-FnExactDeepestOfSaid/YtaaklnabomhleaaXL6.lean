/- The walk of the exact law of DeepestOf: it returns true and writes nothing that was there. -/
import Derived.Test.YtaaklnabomhleaaXSt
import Derived.Test.YtaaklnabomhleaaRyE
import Derived.Test.YtaaklnabomhleaaRyF
import Derived.Deep.RegionHeld3
import Derived.Deep.DeepCutAuto
import Derived.Deep.DrawnRows
import Derived.Deep.RegionWith
import Derived.Outline
import Derived.Handy
namespace Go.Proofs.Ytaaklnabomhleaa
open Go.ChangeShapes Go.WideShapes Go.ChangeAt Go.RowKit Go.Shelf Num
set_option linter.unusedVariables false
set_option linter.unusedSimpArgs false
attribute [local go_sem ↓] Go.wp_at_zero Go.wp_at_succ

set_option maxRecDepth 100000 in
set_option maxHeartbeats 8000000 in
theorem ldpo (a0 : Option Addr) (len0 cap0 : Nat) (z0 : List Int) (b0 : Option Addr) (len1 cap1 : Nat) (y0 : List Int) (src c s h n : Int) (w : World) (w0 : IsRow .i64 w a0 len0 cap0 z0) (v0 : IsRow .i64 w b0 len1 cap1 y0) (w1 : (Lit.int .i64 src).wf = true) (w3 : (Lit.int .i64 n).wf = true) :
    Calls Try.prog 15 #[.agg #[.slice a0 len0 cap0, .slice b0 len1 cap1], .int .i64 src, .agg #[.int .i64 c, .int .i64 s, .int .i64 h], .int .i64 n] w fun e w' => e = .returned (.bool true) ∧ Below w.heap.size w w' := by
  obtain ⟨hm, hn, e1, e2, hp⟩ := Prof.of_in w0 v0
  clear w0 v0 w1 w3
  obtain ⟨zs, hzs⟩ : ∃ zs, z0.take len0 = zs := ⟨_, rfl⟩
  obtain ⟨ys, hys⟩ : ∃ ys, y0.take len1 = ys := ⟨_, rfl⟩
  rw [hzs] at e1 hp
  rw [hys] at e2 hp
  subst e1 e2
  clear hzs hys
  by_cases hbig : 1048576 < zs.length + ys.length
  case pos =>
    have HZ := Lib.hid (szP_big hbig)
    clear hp
    go_enter Try.func15, Try.ntmps15
    go_wp2_with fail
    refine (szp_any _ _ _ _ _ _ _ hm hn).mono ?_
    rw [HZ.out]
    rintro e w1 ⟨rfl, hb⟩
    have HB : Hid (Below w.heap.size w w1) := Lib.hid (bel_end (by repeat (first | exact Below.refl _ _ | (refine Below.alloc ?_ (by simp <;> omega) _) | (refine Below.setCell ?_ (by simp <;> omega) _) | (refine Below.drew ?_) | (refine bel_drewN ?_ _))) hb)
    clear hb
    go_wp2
    go_ret
    exact ⟨rfl, HB.out⟩
  case neg =>
    have hz := szP_fit hbig
    have HP := Lib.hid (hp (by omega))
    have lz := HP.out.lz
    have ly := HP.out.ly
    clear hp
    obtain ⟨q, hq⟩ : ∃ q, szP zs.length ys.length = q := ⟨_, rfl⟩
    have hq0 : 0 ≤ q := hq ▸ hz
    have HQ := Lib.hid hq
    clear hz hq
    have KS : Hid (∀ (W : World) (a b : Option Addr) (ca cb : Nat), Prof W W.heap.size a b zs ys → Calls Try.prog 67 #[.agg #[.slice a zs.length ca, .slice b ys.length cb], .int .i64 src, .agg #[.int .i64 c, .int .i64 s, .int .i64 h], .int .i64 n] W fun e w' => e = .returned (.tuple #[.agg #[.int .i64 (dpT zs ys src c s h n).1, .int .i64 (dpT zs ys src c s h n).2], .int .i64 (tcod zs ys src c s h n)]) ∧ Below W.heap.size W w') := Lib.hid (fun W a b ca cb hp => sdp_any W a b ca cb zs ys src c s h n hp)
    have KI : Hid (∀ (W : World) (a b : Option Addr) (ca cb : Nat), Prof W W.heap.size a b zs ys → Calls Try.prog 68 #[.agg #[.slice a zs.length ca, .slice b ys.length cb], .int .i64 src, .agg #[.int .i64 c, .int .i64 s, .int .i64 h], .int .i64 n] W fun e w' => e = .returned (.tuple #[.agg #[.int .i64 (dpT zs ys src c s h n).1, .int .i64 (dpT zs ys src c s h n).2], .int .i64 (tcod zs ys src c s h n)]) ∧ Below W.heap.size W w') := Lib.hid (fun W a b ca cb hp => idp_any W a b ca cb zs ys src c s h n hp)
    obtain ⟨⟨r00, r01⟩, hT⟩ : ∃ x, dpT zs ys src c s h n = x := ⟨_, rfl⟩
    rw [hT] at KS KI
    obtain ⟨r1, hT1⟩ : ∃ x, tcod zs ys src c s h n = x := ⟨_, rfl⟩
    rw [hT1] at KS KI
    clear hT1
    have KE : Hid (∀ W : World, Calls Try.prog 36 #[.agg #[.int .i64 r00, .int .i64 r01], .agg #[.int .i64 r00, .int .i64 r01]] W fun e w' => e = .returned (.bool true) ∧ Below W.heap.size W w') := Lib.hid (fun W => by have := eqv_any r00 r01 r00 r01 W; simpa only [beq_self_eq_true, Bool.and_self] using this)
    clear hT
    go_enter Try.func15, Try.ntmps15
    go_wp2_with fail
    generalize hW : World.alloc _ _ = W0
    have bX : Bk W0 (w.heap.size) #[.slice a0 zs.length cap0, .slice b0 ys.length cap1] 45 := by rw [← hW]; repeat (first | (refine Bk.new' ?_; (simp; done)) | refine Bk.alloc ?_ _)
    have bD : Bk W0 (w.heap.size + 1) #[.int .i64 c, .int .i64 s, .int .i64 h] 30 := by rw [← hW]; repeat (first | (refine Bk.new' ?_; (simp; done)) | refine Bk.alloc ?_ _)
    have hb : Below w.heap.size w W0 := by rw [← hW]; exact (by repeat (first | exact Below.refl _ _ | (refine Below.alloc ?_ (by simp <;> omega) _) | (refine Below.setCell ?_ (by simp <;> omega) _) | (refine Below.drew ?_) | (refine bel_drewN ?_ _)))
    replace HP := Lib.hid (HP.out.on hb)
    have HB := Lib.hid hb
    clear hW hb
    refine (szp_any _ _ _ _ _ _ _ hm hn).mono ?_
    rw [HQ.out]
    rintro e W ⟨rfl, hb⟩
    replace bX := bX.on hb
    replace bD := bD.on hb
    replace HP := Lib.hid (HP.out.on hb)
    replace HB := Lib.hid (bel_end HB.out hb)
    clear hb
    go_upto_region 5 with fail
    go_cut [10, 11] (fun s10 s11 wx => ∃ g : Nat, s10 = .pointer (some ⟨g, 0, none⟩) ∧ Bk wx g #[.int .i64 r00, .int .i64 r01] 48 ∧ W.heap.size ≤ g ∧ s11 = .int .i64 r1 ∧ Below W.heap.size W wx)
    case first =>
      have HW : Hid (Below W.heap.size W W) := Lib.hid (Below.refl _ _)
      obtain ⟨S, hSd⟩ : ∃ S : World → Prop, ∀ w', S w' ↔ (w'.cell? ⟨w.heap.size, 0, none⟩ = some (.slice a0 zs.length cap0) ∧ w'.cell? ⟨w.heap.size, 1, none⟩ = some (.slice b0 ys.length cap1) ∧ w'.cell? ⟨w.heap.size + 1, 0, none⟩ = some (.int .i64 c) ∧ w'.cell? ⟨w.heap.size + 1, 1, none⟩ = some (.int .i64 s) ∧ w'.cell? ⟨w.heap.size + 1, 2, none⟩ = some (.int .i64 h)) := ⟨_, fun _ => Iff.rfl⟩
      have HSp : Hid (∀ w' : World, Bk w' (w.heap.size) #[.slice a0 zs.length cap0, .slice b0 ys.length cap1] 45 → Bk w' (w.heap.size + 1) #[.int .i64 c, .int .i64 s, .int .i64 h] 30 → S w') := Lib.hid (fun w' bX bD => (hSd w').2 ⟨bX.cell 0 rfl, bX.cell 1 rfl, bD.cell 0 rfl, bD.cell 1 rfl, bD.cell 2 rfl⟩)
      have HSd := Lib.hid hSd
      clear hSd
      refine wp_region_held_drew (S := S) (by kernel_rfl) ?_ (fun hH => ?_)
      · exact (HSp.out _ bX bD : S (World.drew W))
      clear hH
      generalize hX : World.drew W = V0
      replace bX : Bk V0 (w.heap.size) #[.slice a0 zs.length cap0, .slice b0 ys.length cap1] 45 := by rw [← hX]; exact bX
      replace bD : Bk V0 (w.heap.size + 1) #[.int .i64 c, .int .i64 s, .int .i64 h] 30 := by rw [← hX]; exact bD
      have hb : Below W.heap.size W V0 := by rw [← hX]; exact (Below.refl _ _).drew
      clear hX
      try replace HR := Lib.hid (HR.out.on hb)
      replace HW := Lib.hid (bel_end HW.out hb)
      clear hb
      have hS := HSp.out _ bX bD
      refine wpAnyH_take (i := 0) (oi := { dst := some 21, op := Go.Op.load 45 (Go.Operand.tmp 4), type := 45, pos := "exact.go:2922", after := #[], guard := none }) (v := ?_) rfl (by kernel_rfl) (by kernel_rfl) (by kernel_rfl) (fun _ _ _ h => h) (Or.inl ⟨by rfl, ?_⟩) hS ?_
      rotate_left
      · (intro w hSw; have hSw := (HSd.out w).1 hSw; go_split_ands; go_simp) <;> with_reducible rfl
      clear hS
      try simp only [Act.put, List.setIfInBounds_toArray, List.set_cons_zero, List.set_cons_succ]
      have hS := HSp.out _ bX bD
      refine wpAnyH_take (i := 2) (oi := { dst := some 23, op := Go.Op.move (Go.Operand.tmp 1), type := 2, pos := "exact.go:2922", after := #[], guard := none }) (v := ?_) rfl (by kernel_rfl) (by kernel_rfl) (by kernel_rfl) (fun _ _ _ h => h) (Or.inl ⟨by rfl, ?_⟩) hS ?_
      rotate_left
      · (intro w hSw; have hSw := (HSd.out w).1 hSw; go_split_ands; go_simp) <;> with_reducible rfl
      clear hS
      try simp only [Act.put, List.setIfInBounds_toArray, List.set_cons_zero, List.set_cons_succ]
      have hS := HSp.out _ bX bD
      refine wpAnyH_take (i := 3) (oi := { dst := some 24, op := Go.Op.load 30 (Go.Operand.tmp 6), type := 30, pos := "exact.go:2922", after := #[], guard := none }) (v := ?_) rfl (by kernel_rfl) (by kernel_rfl) (by kernel_rfl) (fun _ _ _ h => h) (Or.inl ⟨by rfl, ?_⟩) hS ?_
      rotate_left
      · (intro w hSw; have hSw := (HSd.out w).1 hSw; go_split_ands; go_simp) <;> with_reducible rfl
      clear hS
      try simp only [Act.put, List.setIfInBounds_toArray, List.set_cons_zero, List.set_cons_succ]
      have hS := HSp.out _ bX bD
      refine wpAnyH_take (i := 5) (oi := { dst := some 26, op := Go.Op.move (Go.Operand.tmp 3), type := 2, pos := "exact.go:2922", after := #[], guard := none }) (v := ?_) rfl (by kernel_rfl) (by kernel_rfl) (by kernel_rfl) (fun _ _ _ h => h) (Or.inl ⟨by rfl, ?_⟩) hS ?_
      rotate_left
      · (intro w hSw; have hSw := (HSd.out w).1 hSw; go_split_ands; go_simp) <;> with_reducible rfl
      clear hS
      try simp only [Act.put, List.setIfInBounds_toArray, List.set_cons_zero, List.set_cons_succ]
      refine wpAnyH_ready (rs := [1, 10]) (by kernel_rfl) (by simp) ?_
      refine AllReadyH.cons (o := { dst := some 22, op := Go.Op.call { callee := Go.Callee.value (Go.Operand.func 34), args := #[Go.Operand.tmp 21], argTypes := #[45] }, type := 51, pos := "exact.go:2922", after := #[{ on := 0, ground := Go.Ground.data }], guard := none }) rfl (fun Kn hK => ?_) ?_
      · first | go_at_call 34 | (go_simp; go_at_call 34)
        (refine Calls.mono (top_any _ _ _ _ _ zs ys (HP.out.on HW.out)) ?_)
        rintro e V1 ⟨g1, g2, rfl, hg1, hg2, hr1, hr2, hb⟩
        have HR := Lib.hid (Prof.of_rows hr1 hr2 lz ly)
        clear hr1 hr2
        try dsimp only
        try simp only [Act.put, List.setIfInBounds_toArray, List.set_cons_zero, List.set_cons_succ]
        replace bX := bX.on hb
        replace bD := bD.on hb
        try replace HR := Lib.hid (HR.out.on hb)
        replace HW := Lib.hid (bel_end HW.out hb)
        clear hb
        refine hK.out _ _ (HSp.out _ bX bD) (fun _ => ?_)
        clear hK Kn
        refine wpAnyH_ready (rs := [4, 10]) (by kernel_rfl) (by simp) ?_
        refine AllReadyH.cons (o := { dst := some 25, op := Go.Op.call { callee := Go.Callee.value (Go.Operand.func 25), args := #[Go.Operand.tmp 24], argTypes := #[30] }, type := 32, pos := "exact.go:2922", after := #[{ on := 3, ground := Go.Ground.data }, { on := 1, ground := Go.Ground.chain }], guard := none }) rfl (fun Kn hK => ?_) ?_
        · first | go_at_call 25 | (go_simp; go_at_call 25)
          refine (tod_any _ _ _ _).mono ?_
          rintro e V2 ⟨rfl, hb⟩
          try dsimp only
          try simp only [Act.put, List.setIfInBounds_toArray, List.set_cons_zero, List.set_cons_succ]
          replace bX := bX.on hb
          replace bD := bD.on hb
          try replace HR := Lib.hid (HR.out.on hb)
          replace HW := Lib.hid (bel_end HW.out hb)
          clear hb
          refine hK.out _ _ (HSp.out _ bX bD) (fun _ => ?_)
          clear hK Kn
          refine wpAnyH_ready (rs := [6, 10]) (by kernel_rfl) (by simp) ?_
          refine AllReadyH.cons (o := { dst := some 27, op := Go.Op.call { callee := Go.Callee.value (Go.Operand.func 67), args := #[Go.Operand.tmp 22, Go.Operand.tmp 23, Go.Operand.tmp 25, Go.Operand.tmp 26], argTypes := #[51, 2, 32, 2] }, type := 49, pos := "exact.go:2922", after := #[{ on := 1, ground := Go.Ground.data }, { on := 2, ground := Go.Ground.data }, { on := 4, ground := Go.Ground.data }, { on := 5, ground := Go.Ground.data }, { on := 4, ground := Go.Ground.chain }], guard := none }) rfl (fun Kn hK => ?_) ?_
          · first | go_at_call 67 | (go_simp; go_at_call 67)
            (with_reducible refine Calls.mono (KS.out _ _ _ _ _ HR.out) ?_)
            rintro e V3 ⟨rfl, hb⟩
            try dsimp only
            try simp only [Act.put, List.setIfInBounds_toArray, List.set_cons_zero, List.set_cons_succ]
            replace bX := bX.on hb
            replace bD := bD.on hb
            try replace HR := Lib.hid (HR.out.on hb)
            replace HW := Lib.hid (bel_end HW.out hb)
            clear hb
            refine hK.out _ _ (HSp.out _ bX bD) (fun _ => ?_)
            clear hK Kn
            have hS := HSp.out _ bX bD
            refine wpAnyH_take (i := 7) (oi := { dst := some 20, op := Go.Op.move (Go.Operand.tmp 27), type := 49, pos := "exact.go:2922", after := #[{ on := 6, ground := Go.Ground.data }], guard := none }) (v := ?_) rfl (by kernel_rfl) (by kernel_rfl) (by kernel_rfl) (fun _ _ _ h => h) (Or.inl ⟨by rfl, ?_⟩) hS ?_
            rotate_left
            · (intro w hSw; have hSw := (HSd.out w).1 hSw; go_split_ands; go_simp) <;> with_reducible rfl
            clear hS
            try simp only [Act.put, List.setIfInBounds_toArray, List.set_cons_zero, List.set_cons_succ]
            have hS := HSp.out _ bX bD
            refine wpAnyH_take (i := 8) (oi := { dst := some 28, op := Go.Op.extract (Go.Operand.tmp 20) 0, type := 48, pos := "exact.go:2922", after := #[{ on := 7, ground := Go.Ground.data }], guard := none }) (v := ?_) rfl (by kernel_rfl) (by kernel_rfl) (by kernel_rfl) (fun _ _ _ h => h) (Or.inl ⟨by rfl, ?_⟩) hS ?_
            rotate_left
            · (intro w hSw; have hSw := (HSd.out w).1 hSw; go_split_ands; go_simp) <;> with_reducible rfl
            clear hS
            try simp only [Act.put, List.setIfInBounds_toArray, List.set_cons_zero, List.set_cons_succ]
            have hS := HSp.out _ bX bD
            refine wpAnyH_take (i := 9) (oi := { dst := some 29, op := Go.Op.extract (Go.Operand.tmp 20) 1, type := 2, pos := "exact.go:2922", after := #[{ on := 7, ground := Go.Ground.data }, { on := 11, ground := Go.Ground.gcOnly Go.Departure.lateStores }], guard := none }) (v := ?_) rfl (by kernel_rfl) (by kernel_rfl) (by kernel_rfl) (fun _ _ _ h => h) (Or.inl ⟨by rfl, ?_⟩) hS ?_
            rotate_left
            · (intro w hSw; have hSw := (HSd.out w).1 hSw; go_split_ands; go_simp) <;> with_reducible rfl
            clear hS
            try simp only [Act.put, List.setIfInBounds_toArray, List.set_cons_zero, List.set_cons_succ]
            refine wpAnyH_ready (rs := [10]) (by kernel_rfl) (by simp) ?_
            refine AllReadyH.cons (o := { dst := some 10, op := Go.Op.alloc 48, type := 0, pos := "exact.go:2922", after := #[], guard := none }) rfl (fun Kn hK => ?_) AllReadyH.nil
            go_simp
            generalize hX : World.alloc V3 _ = V4
            obtain ⟨g10, hg⟩ : ∃ g, g = V3.heap.size := ⟨_, rfl⟩
            have bn10 : Bk V4 g10 #[.int .i64 0, .int .i64 0] 48 := by rw [← hX]; exact Bk.new' hg
            have le10 : W.heap.size ≤ g10 := by rw [hg]; exact HW.out.size
            have nebX_10 : w.heap.size ≠ g10 := by have := bX.lt; omega
            replace bX : Bk V4 (w.heap.size) #[.slice a0 zs.length cap0, .slice b0 ys.length cap1] 45 := by rw [← hX]; exact bX.alloc _
            have nebD_10 : w.heap.size + 1 ≠ g10 := by have := bD.lt; omega
            replace bD : Bk V4 (w.heap.size + 1) #[.int .i64 c, .int .i64 s, .int .i64 h] 30 := by rw [← hX]; exact bD.alloc _
            try rw [← hg]
            have hb : Below V3.heap.size V3 V4 := by rw [← hX]; exact (Below.refl _ _).alloc (Nat.le_refl _) _
            clear hX hg
            try replace HR := Lib.hid (HR.out.on hb)
            replace HW := Lib.hid (bel_end HW.out hb)
            clear hb
            refine hK.out _ _ (HSp.out _ bX bD) (fun _ => ?_)
            clear hK Kn
            refine wpAnyH_ready (rs := [11]) (by kernel_rfl) (by simp) ?_
            refine AllReadyH.cons (o := { dst := none, op := Go.Op.store 48 (Go.Operand.tmp 10) (Go.Operand.tmp 28), type := 0, pos := "exact.go:2922", after := #[{ on := 10, ground := Go.Ground.data }, { on := 8, ground := Go.Ground.data }, { on := 6, ground := Go.Ground.chain }, { on := 0, ground := Go.Ground.phase }, { on := 1, ground := Go.Ground.phase }, { on := 2, ground := Go.Ground.phase }, { on := 3, ground := Go.Ground.phase }, { on := 4, ground := Go.Ground.phase }, { on := 5, ground := Go.Ground.phase }, { on := 6, ground := Go.Ground.phase }, { on := 7, ground := Go.Ground.phase }, { on := 8, ground := Go.Ground.phase }, { on := 9, ground := Go.Ground.textOnly Go.Departure.lateStores }, { on := 10, ground := Go.Ground.phase }], guard := none }) rfl (fun Kn hK => ?_) AllReadyH.nil
            have bn10_0 := bn10.cell 0 rfl
            have bn10_1 := bn10.cell 1 rfl
            have bn10_f0 := bn10.frozen 0
            have bn10_f1 := bn10.frozen 1
            have bn10_l := bn10.lt
            go_simp
            clear bn10_0 bn10_f0 bn10_1 bn10_f1 bn10_l
            generalize hX : World.setCell _ _ _ = V5
            have hb : Below W.heap.size W V5 := by rw [← hX]; exact ((HW.out.setCell (p := ⟨g10, 0, none⟩) le10 _).setCell (p := ⟨g10, 1, none⟩) le10 _)
            replace bX : Bk V5 (w.heap.size) #[.slice a0 zs.length cap0, .slice b0 ys.length cap1] 45 := by rw [← hX]; exact (Bk.other (Bk.other bX nebX_10 0 _) nebX_10 1 _)
            replace bD : Bk V5 (w.heap.size + 1) #[.int .i64 c, .int .i64 s, .int .i64 h] 30 := by rw [← hX]; exact (Bk.other (Bk.other bD nebD_10 0 _) nebD_10 1 _)
            replace bn10 : Bk V5 (g10) #[.int .i64 r00, .int .i64 r01] 48 := by rw [← hX]; exact (Bk.set (Bk.set bn10 0 _ rfl) 1 _ rfl)
            clear hX
            replace HW := Lib.hid hb
            clear hb
            refine hK.out _ _ (HSp.out _ bX bD) (fun _ => ?_)
            clear hK Kn
            have hS := HSp.out _ bX bD
            refine wpAnyH_take (i := 12) (oi := { dst := some 11, op := Go.Op.assign (Go.Operand.tmp 29), type := 2, pos := "exact.go:2922", after := #[{ on := 9, ground := Go.Ground.data }, { on := 11, ground := Go.Ground.chain }, { on := 0, ground := Go.Ground.phase }, { on := 1, ground := Go.Ground.phase }, { on := 2, ground := Go.Ground.phase }, { on := 3, ground := Go.Ground.phase }, { on := 4, ground := Go.Ground.phase }, { on := 5, ground := Go.Ground.phase }, { on := 6, ground := Go.Ground.phase }, { on := 7, ground := Go.Ground.phase }, { on := 8, ground := Go.Ground.phase }, { on := 9, ground := Go.Ground.phase }, { on := 10, ground := Go.Ground.phase }, { on := 11, ground := Go.Ground.phase }], guard := none }) (v := ?_) rfl (by kernel_rfl) (by kernel_rfl) (by kernel_rfl) (fun _ _ _ h => h) (Or.inl ⟨by rfl, ?_⟩) hS ?_
            rotate_left
            · (intro w hSw; have hSw := (HSd.out w).1 hSw; go_split_ands; go_simp) <;> with_reducible rfl
            clear hS
            try simp only [Act.put, List.setIfInBounds_toArray, List.set_cons_zero, List.set_cons_succ]
            refine wpAnyH_done (by kernel_rfl) ?_ _
            go_wp2_with fail
            go_meet
            exact ⟨_, rfl, bn10, le10, rfl, HW.out⟩
          refine AllReadyH.cons (o := { dst := some 10, op := Go.Op.alloc 48, type := 0, pos := "exact.go:2922", after := #[], guard := none }) rfl (fun Kn hK => ?_) AllReadyH.nil
          go_simp
          generalize hX : World.alloc V2 _ = V6
          obtain ⟨g10, hg⟩ : ∃ g, g = V2.heap.size := ⟨_, rfl⟩
          have bn10 : Bk V6 g10 #[.int .i64 0, .int .i64 0] 48 := by rw [← hX]; exact Bk.new' hg
          have le10 : W.heap.size ≤ g10 := by rw [hg]; exact HW.out.size
          have nebX_10 : w.heap.size ≠ g10 := by have := bX.lt; omega
          replace bX : Bk V6 (w.heap.size) #[.slice a0 zs.length cap0, .slice b0 ys.length cap1] 45 := by rw [← hX]; exact bX.alloc _
          have nebD_10 : w.heap.size + 1 ≠ g10 := by have := bD.lt; omega
          replace bD : Bk V6 (w.heap.size + 1) #[.int .i64 c, .int .i64 s, .int .i64 h] 30 := by rw [← hX]; exact bD.alloc _
          try rw [← hg]
          have hb : Below V2.heap.size V2 V6 := by rw [← hX]; exact (Below.refl _ _).alloc (Nat.le_refl _) _
          clear hX hg
          try replace HR := Lib.hid (HR.out.on hb)
          replace HW := Lib.hid (bel_end HW.out hb)
          clear hb
          refine hK.out _ _ (HSp.out _ bX bD) (fun _ => ?_)
          clear hK Kn
          refine wpAnyH_ready (rs := [6]) (by kernel_rfl) (by simp) ?_
          refine AllReadyH.cons (o := { dst := some 27, op := Go.Op.call { callee := Go.Callee.value (Go.Operand.func 67), args := #[Go.Operand.tmp 22, Go.Operand.tmp 23, Go.Operand.tmp 25, Go.Operand.tmp 26], argTypes := #[51, 2, 32, 2] }, type := 49, pos := "exact.go:2922", after := #[{ on := 1, ground := Go.Ground.data }, { on := 2, ground := Go.Ground.data }, { on := 4, ground := Go.Ground.data }, { on := 5, ground := Go.Ground.data }, { on := 4, ground := Go.Ground.chain }], guard := none }) rfl (fun Kn hK => ?_) AllReadyH.nil
          first | go_at_call 67 | (go_simp; go_at_call 67)
          (with_reducible refine Calls.mono (KS.out _ _ _ _ _ HR.out) ?_)
          rintro e V7 ⟨rfl, hb⟩
          try dsimp only
          try simp only [Act.put, List.setIfInBounds_toArray, List.set_cons_zero, List.set_cons_succ]
          replace bX := bX.on hb
          replace bD := bD.on hb
          replace bn10 := bn10.on hb
          try replace HR := Lib.hid (HR.out.on hb)
          replace HW := Lib.hid (bel_end HW.out hb)
          clear hb
          refine hK.out _ _ (HSp.out _ bX bD) (fun _ => ?_)
          clear hK Kn
          have hS := HSp.out _ bX bD
          refine wpAnyH_take (i := 7) (oi := { dst := some 20, op := Go.Op.move (Go.Operand.tmp 27), type := 49, pos := "exact.go:2922", after := #[{ on := 6, ground := Go.Ground.data }], guard := none }) (v := ?_) rfl (by kernel_rfl) (by kernel_rfl) (by kernel_rfl) (fun _ _ _ h => h) (Or.inl ⟨by rfl, ?_⟩) hS ?_
          rotate_left
          · (intro w hSw; have hSw := (HSd.out w).1 hSw; go_split_ands; go_simp) <;> with_reducible rfl
          clear hS
          try simp only [Act.put, List.setIfInBounds_toArray, List.set_cons_zero, List.set_cons_succ]
          have hS := HSp.out _ bX bD
          refine wpAnyH_take (i := 8) (oi := { dst := some 28, op := Go.Op.extract (Go.Operand.tmp 20) 0, type := 48, pos := "exact.go:2922", after := #[{ on := 7, ground := Go.Ground.data }], guard := none }) (v := ?_) rfl (by kernel_rfl) (by kernel_rfl) (by kernel_rfl) (fun _ _ _ h => h) (Or.inl ⟨by rfl, ?_⟩) hS ?_
          rotate_left
          · (intro w hSw; have hSw := (HSd.out w).1 hSw; go_split_ands; go_simp) <;> with_reducible rfl
          clear hS
          try simp only [Act.put, List.setIfInBounds_toArray, List.set_cons_zero, List.set_cons_succ]
          have hS := HSp.out _ bX bD
          refine wpAnyH_take (i := 9) (oi := { dst := some 29, op := Go.Op.extract (Go.Operand.tmp 20) 1, type := 2, pos := "exact.go:2922", after := #[{ on := 7, ground := Go.Ground.data }, { on := 11, ground := Go.Ground.gcOnly Go.Departure.lateStores }], guard := none }) (v := ?_) rfl (by kernel_rfl) (by kernel_rfl) (by kernel_rfl) (fun _ _ _ h => h) (Or.inl ⟨by rfl, ?_⟩) hS ?_
          rotate_left
          · (intro w hSw; have hSw := (HSd.out w).1 hSw; go_split_ands; go_simp) <;> with_reducible rfl
          clear hS
          try simp only [Act.put, List.setIfInBounds_toArray, List.set_cons_zero, List.set_cons_succ]
          refine wpAnyH_ready (rs := [11]) (by kernel_rfl) (by simp) ?_
          refine AllReadyH.cons (o := { dst := none, op := Go.Op.store 48 (Go.Operand.tmp 10) (Go.Operand.tmp 28), type := 0, pos := "exact.go:2922", after := #[{ on := 10, ground := Go.Ground.data }, { on := 8, ground := Go.Ground.data }, { on := 6, ground := Go.Ground.chain }, { on := 0, ground := Go.Ground.phase }, { on := 1, ground := Go.Ground.phase }, { on := 2, ground := Go.Ground.phase }, { on := 3, ground := Go.Ground.phase }, { on := 4, ground := Go.Ground.phase }, { on := 5, ground := Go.Ground.phase }, { on := 6, ground := Go.Ground.phase }, { on := 7, ground := Go.Ground.phase }, { on := 8, ground := Go.Ground.phase }, { on := 9, ground := Go.Ground.textOnly Go.Departure.lateStores }, { on := 10, ground := Go.Ground.phase }], guard := none }) rfl (fun Kn hK => ?_) AllReadyH.nil
          have bn10_0 := bn10.cell 0 rfl
          have bn10_1 := bn10.cell 1 rfl
          have bn10_f0 := bn10.frozen 0
          have bn10_f1 := bn10.frozen 1
          have bn10_l := bn10.lt
          go_simp
          clear bn10_0 bn10_f0 bn10_1 bn10_f1 bn10_l
          generalize hX : World.setCell _ _ _ = V8
          have hb : Below W.heap.size W V8 := by rw [← hX]; exact ((HW.out.setCell (p := ⟨g10, 0, none⟩) le10 _).setCell (p := ⟨g10, 1, none⟩) le10 _)
          replace bX : Bk V8 (w.heap.size) #[.slice a0 zs.length cap0, .slice b0 ys.length cap1] 45 := by rw [← hX]; exact (Bk.other (Bk.other bX nebX_10 0 _) nebX_10 1 _)
          replace bD : Bk V8 (w.heap.size + 1) #[.int .i64 c, .int .i64 s, .int .i64 h] 30 := by rw [← hX]; exact (Bk.other (Bk.other bD nebD_10 0 _) nebD_10 1 _)
          replace bn10 : Bk V8 (g10) #[.int .i64 r00, .int .i64 r01] 48 := by rw [← hX]; exact (Bk.set (Bk.set bn10 0 _ rfl) 1 _ rfl)
          clear hX
          replace HW := Lib.hid hb
          clear hb
          refine hK.out _ _ (HSp.out _ bX bD) (fun _ => ?_)
          clear hK Kn
          have hS := HSp.out _ bX bD
          refine wpAnyH_take (i := 12) (oi := { dst := some 11, op := Go.Op.assign (Go.Operand.tmp 29), type := 2, pos := "exact.go:2922", after := #[{ on := 9, ground := Go.Ground.data }, { on := 11, ground := Go.Ground.chain }, { on := 0, ground := Go.Ground.phase }, { on := 1, ground := Go.Ground.phase }, { on := 2, ground := Go.Ground.phase }, { on := 3, ground := Go.Ground.phase }, { on := 4, ground := Go.Ground.phase }, { on := 5, ground := Go.Ground.phase }, { on := 6, ground := Go.Ground.phase }, { on := 7, ground := Go.Ground.phase }, { on := 8, ground := Go.Ground.phase }, { on := 9, ground := Go.Ground.phase }, { on := 10, ground := Go.Ground.phase }, { on := 11, ground := Go.Ground.phase }], guard := none }) (v := ?_) rfl (by kernel_rfl) (by kernel_rfl) (by kernel_rfl) (fun _ _ _ h => h) (Or.inl ⟨by rfl, ?_⟩) hS ?_
          rotate_left
          · (intro w hSw; have hSw := (HSd.out w).1 hSw; go_split_ands; go_simp) <;> with_reducible rfl
          clear hS
          try simp only [Act.put, List.setIfInBounds_toArray, List.set_cons_zero, List.set_cons_succ]
          refine wpAnyH_done (by kernel_rfl) ?_ _
          go_wp2_with fail
          go_meet
          exact ⟨_, rfl, bn10, le10, rfl, HW.out⟩
        refine AllReadyH.cons (o := { dst := some 10, op := Go.Op.alloc 48, type := 0, pos := "exact.go:2922", after := #[], guard := none }) rfl (fun Kn hK => ?_) AllReadyH.nil
        go_simp
        generalize hX : World.alloc V1 _ = V9
        obtain ⟨g10, hg⟩ : ∃ g, g = V1.heap.size := ⟨_, rfl⟩
        have bn10 : Bk V9 g10 #[.int .i64 0, .int .i64 0] 48 := by rw [← hX]; exact Bk.new' hg
        have le10 : W.heap.size ≤ g10 := by rw [hg]; exact HW.out.size
        have nebX_10 : w.heap.size ≠ g10 := by have := bX.lt; omega
        replace bX : Bk V9 (w.heap.size) #[.slice a0 zs.length cap0, .slice b0 ys.length cap1] 45 := by rw [← hX]; exact bX.alloc _
        have nebD_10 : w.heap.size + 1 ≠ g10 := by have := bD.lt; omega
        replace bD : Bk V9 (w.heap.size + 1) #[.int .i64 c, .int .i64 s, .int .i64 h] 30 := by rw [← hX]; exact bD.alloc _
        try rw [← hg]
        have hb : Below V1.heap.size V1 V9 := by rw [← hX]; exact (Below.refl _ _).alloc (Nat.le_refl _) _
        clear hX hg
        try replace HR := Lib.hid (HR.out.on hb)
        replace HW := Lib.hid (bel_end HW.out hb)
        clear hb
        refine hK.out _ _ (HSp.out _ bX bD) (fun _ => ?_)
        clear hK Kn
        refine wpAnyH_ready (rs := [4]) (by kernel_rfl) (by simp) ?_
        refine AllReadyH.cons (o := { dst := some 25, op := Go.Op.call { callee := Go.Callee.value (Go.Operand.func 25), args := #[Go.Operand.tmp 24], argTypes := #[30] }, type := 32, pos := "exact.go:2922", after := #[{ on := 3, ground := Go.Ground.data }, { on := 1, ground := Go.Ground.chain }], guard := none }) rfl (fun Kn hK => ?_) AllReadyH.nil
        first | go_at_call 25 | (go_simp; go_at_call 25)
        refine (tod_any _ _ _ _).mono ?_
        rintro e V10 ⟨rfl, hb⟩
        try dsimp only
        try simp only [Act.put, List.setIfInBounds_toArray, List.set_cons_zero, List.set_cons_succ]
        replace bX := bX.on hb
        replace bD := bD.on hb
        replace bn10 := bn10.on hb
        try replace HR := Lib.hid (HR.out.on hb)
        replace HW := Lib.hid (bel_end HW.out hb)
        clear hb
        refine hK.out _ _ (HSp.out _ bX bD) (fun _ => ?_)
        clear hK Kn
        refine wpAnyH_ready (rs := [6]) (by kernel_rfl) (by simp) ?_
        refine AllReadyH.cons (o := { dst := some 27, op := Go.Op.call { callee := Go.Callee.value (Go.Operand.func 67), args := #[Go.Operand.tmp 22, Go.Operand.tmp 23, Go.Operand.tmp 25, Go.Operand.tmp 26], argTypes := #[51, 2, 32, 2] }, type := 49, pos := "exact.go:2922", after := #[{ on := 1, ground := Go.Ground.data }, { on := 2, ground := Go.Ground.data }, { on := 4, ground := Go.Ground.data }, { on := 5, ground := Go.Ground.data }, { on := 4, ground := Go.Ground.chain }], guard := none }) rfl (fun Kn hK => ?_) AllReadyH.nil
        first | go_at_call 67 | (go_simp; go_at_call 67)
        (with_reducible refine Calls.mono (KS.out _ _ _ _ _ HR.out) ?_)
        rintro e V11 ⟨rfl, hb⟩
        try dsimp only
        try simp only [Act.put, List.setIfInBounds_toArray, List.set_cons_zero, List.set_cons_succ]
        replace bX := bX.on hb
        replace bD := bD.on hb
        replace bn10 := bn10.on hb
        try replace HR := Lib.hid (HR.out.on hb)
        replace HW := Lib.hid (bel_end HW.out hb)
        clear hb
        refine hK.out _ _ (HSp.out _ bX bD) (fun _ => ?_)
        clear hK Kn
        have hS := HSp.out _ bX bD
        refine wpAnyH_take (i := 7) (oi := { dst := some 20, op := Go.Op.move (Go.Operand.tmp 27), type := 49, pos := "exact.go:2922", after := #[{ on := 6, ground := Go.Ground.data }], guard := none }) (v := ?_) rfl (by kernel_rfl) (by kernel_rfl) (by kernel_rfl) (fun _ _ _ h => h) (Or.inl ⟨by rfl, ?_⟩) hS ?_
        rotate_left
        · (intro w hSw; have hSw := (HSd.out w).1 hSw; go_split_ands; go_simp) <;> with_reducible rfl
        clear hS
        try simp only [Act.put, List.setIfInBounds_toArray, List.set_cons_zero, List.set_cons_succ]
        have hS := HSp.out _ bX bD
        refine wpAnyH_take (i := 8) (oi := { dst := some 28, op := Go.Op.extract (Go.Operand.tmp 20) 0, type := 48, pos := "exact.go:2922", after := #[{ on := 7, ground := Go.Ground.data }], guard := none }) (v := ?_) rfl (by kernel_rfl) (by kernel_rfl) (by kernel_rfl) (fun _ _ _ h => h) (Or.inl ⟨by rfl, ?_⟩) hS ?_
        rotate_left
        · (intro w hSw; have hSw := (HSd.out w).1 hSw; go_split_ands; go_simp) <;> with_reducible rfl
        clear hS
        try simp only [Act.put, List.setIfInBounds_toArray, List.set_cons_zero, List.set_cons_succ]
        have hS := HSp.out _ bX bD
        refine wpAnyH_take (i := 9) (oi := { dst := some 29, op := Go.Op.extract (Go.Operand.tmp 20) 1, type := 2, pos := "exact.go:2922", after := #[{ on := 7, ground := Go.Ground.data }, { on := 11, ground := Go.Ground.gcOnly Go.Departure.lateStores }], guard := none }) (v := ?_) rfl (by kernel_rfl) (by kernel_rfl) (by kernel_rfl) (fun _ _ _ h => h) (Or.inl ⟨by rfl, ?_⟩) hS ?_
        rotate_left
        · (intro w hSw; have hSw := (HSd.out w).1 hSw; go_split_ands; go_simp) <;> with_reducible rfl
        clear hS
        try simp only [Act.put, List.setIfInBounds_toArray, List.set_cons_zero, List.set_cons_succ]
        refine wpAnyH_ready (rs := [11]) (by kernel_rfl) (by simp) ?_
        refine AllReadyH.cons (o := { dst := none, op := Go.Op.store 48 (Go.Operand.tmp 10) (Go.Operand.tmp 28), type := 0, pos := "exact.go:2922", after := #[{ on := 10, ground := Go.Ground.data }, { on := 8, ground := Go.Ground.data }, { on := 6, ground := Go.Ground.chain }, { on := 0, ground := Go.Ground.phase }, { on := 1, ground := Go.Ground.phase }, { on := 2, ground := Go.Ground.phase }, { on := 3, ground := Go.Ground.phase }, { on := 4, ground := Go.Ground.phase }, { on := 5, ground := Go.Ground.phase }, { on := 6, ground := Go.Ground.phase }, { on := 7, ground := Go.Ground.phase }, { on := 8, ground := Go.Ground.phase }, { on := 9, ground := Go.Ground.textOnly Go.Departure.lateStores }, { on := 10, ground := Go.Ground.phase }], guard := none }) rfl (fun Kn hK => ?_) AllReadyH.nil
        have bn10_0 := bn10.cell 0 rfl
        have bn10_1 := bn10.cell 1 rfl
        have bn10_f0 := bn10.frozen 0
        have bn10_f1 := bn10.frozen 1
        have bn10_l := bn10.lt
        go_simp
        clear bn10_0 bn10_f0 bn10_1 bn10_f1 bn10_l
        generalize hX : World.setCell _ _ _ = V12
        have hb : Below W.heap.size W V12 := by rw [← hX]; exact ((HW.out.setCell (p := ⟨g10, 0, none⟩) le10 _).setCell (p := ⟨g10, 1, none⟩) le10 _)
        replace bX : Bk V12 (w.heap.size) #[.slice a0 zs.length cap0, .slice b0 ys.length cap1] 45 := by rw [← hX]; exact (Bk.other (Bk.other bX nebX_10 0 _) nebX_10 1 _)
        replace bD : Bk V12 (w.heap.size + 1) #[.int .i64 c, .int .i64 s, .int .i64 h] 30 := by rw [← hX]; exact (Bk.other (Bk.other bD nebD_10 0 _) nebD_10 1 _)
        replace bn10 : Bk V12 (g10) #[.int .i64 r00, .int .i64 r01] 48 := by rw [← hX]; exact (Bk.set (Bk.set bn10 0 _ rfl) 1 _ rfl)
        clear hX
        replace HW := Lib.hid hb
        clear hb
        refine hK.out _ _ (HSp.out _ bX bD) (fun _ => ?_)
        clear hK Kn
        have hS := HSp.out _ bX bD
        refine wpAnyH_take (i := 12) (oi := { dst := some 11, op := Go.Op.assign (Go.Operand.tmp 29), type := 2, pos := "exact.go:2922", after := #[{ on := 9, ground := Go.Ground.data }, { on := 11, ground := Go.Ground.chain }, { on := 0, ground := Go.Ground.phase }, { on := 1, ground := Go.Ground.phase }, { on := 2, ground := Go.Ground.phase }, { on := 3, ground := Go.Ground.phase }, { on := 4, ground := Go.Ground.phase }, { on := 5, ground := Go.Ground.phase }, { on := 6, ground := Go.Ground.phase }, { on := 7, ground := Go.Ground.phase }, { on := 8, ground := Go.Ground.phase }, { on := 9, ground := Go.Ground.phase }, { on := 10, ground := Go.Ground.phase }, { on := 11, ground := Go.Ground.phase }], guard := none }) (v := ?_) rfl (by kernel_rfl) (by kernel_rfl) (by kernel_rfl) (fun _ _ _ h => h) (Or.inl ⟨by rfl, ?_⟩) hS ?_
        rotate_left
        · (intro w hSw; have hSw := (HSd.out w).1 hSw; go_split_ands; go_simp) <;> with_reducible rfl
        clear hS
        try simp only [Act.put, List.setIfInBounds_toArray, List.set_cons_zero, List.set_cons_succ]
        refine wpAnyH_done (by kernel_rfl) ?_ _
        go_wp2_with fail
        go_meet
        exact ⟨_, rfl, bn10, le10, rfl, HW.out⟩
      refine AllReadyH.cons (o := { dst := some 10, op := Go.Op.alloc 48, type := 0, pos := "exact.go:2922", after := #[], guard := none }) rfl (fun Kn hK => ?_) AllReadyH.nil
      go_simp
      generalize hX : World.alloc V0 _ = V13
      obtain ⟨g10, hg⟩ : ∃ g, g = V0.heap.size := ⟨_, rfl⟩
      have bn10 : Bk V13 g10 #[.int .i64 0, .int .i64 0] 48 := by rw [← hX]; exact Bk.new' hg
      have le10 : W.heap.size ≤ g10 := by rw [hg]; exact HW.out.size
      have nebX_10 : w.heap.size ≠ g10 := by have := bX.lt; omega
      replace bX : Bk V13 (w.heap.size) #[.slice a0 zs.length cap0, .slice b0 ys.length cap1] 45 := by rw [← hX]; exact bX.alloc _
      have nebD_10 : w.heap.size + 1 ≠ g10 := by have := bD.lt; omega
      replace bD : Bk V13 (w.heap.size + 1) #[.int .i64 c, .int .i64 s, .int .i64 h] 30 := by rw [← hX]; exact bD.alloc _
      try rw [← hg]
      have hb : Below V0.heap.size V0 V13 := by rw [← hX]; exact (Below.refl _ _).alloc (Nat.le_refl _) _
      clear hX hg
      try replace HR := Lib.hid (HR.out.on hb)
      replace HW := Lib.hid (bel_end HW.out hb)
      clear hb
      refine hK.out _ _ (HSp.out _ bX bD) (fun _ => ?_)
      clear hK Kn
      refine wpAnyH_ready (rs := [1]) (by kernel_rfl) (by simp) ?_
      refine AllReadyH.cons (o := { dst := some 22, op := Go.Op.call { callee := Go.Callee.value (Go.Operand.func 34), args := #[Go.Operand.tmp 21], argTypes := #[45] }, type := 51, pos := "exact.go:2922", after := #[{ on := 0, ground := Go.Ground.data }], guard := none }) rfl (fun Kn hK => ?_) AllReadyH.nil
      first | go_at_call 34 | (go_simp; go_at_call 34)
      (refine Calls.mono (top_any _ _ _ _ _ zs ys (HP.out.on HW.out)) ?_)
      rintro e V14 ⟨g1, g2, rfl, hg1, hg2, hr1, hr2, hb⟩
      have HR := Lib.hid (Prof.of_rows hr1 hr2 lz ly)
      clear hr1 hr2
      try dsimp only
      try simp only [Act.put, List.setIfInBounds_toArray, List.set_cons_zero, List.set_cons_succ]
      replace bX := bX.on hb
      replace bD := bD.on hb
      replace bn10 := bn10.on hb
      try replace HR := Lib.hid (HR.out.on hb)
      replace HW := Lib.hid (bel_end HW.out hb)
      clear hb
      refine hK.out _ _ (HSp.out _ bX bD) (fun _ => ?_)
      clear hK Kn
      refine wpAnyH_ready (rs := [4]) (by kernel_rfl) (by simp) ?_
      refine AllReadyH.cons (o := { dst := some 25, op := Go.Op.call { callee := Go.Callee.value (Go.Operand.func 25), args := #[Go.Operand.tmp 24], argTypes := #[30] }, type := 32, pos := "exact.go:2922", after := #[{ on := 3, ground := Go.Ground.data }, { on := 1, ground := Go.Ground.chain }], guard := none }) rfl (fun Kn hK => ?_) AllReadyH.nil
      first | go_at_call 25 | (go_simp; go_at_call 25)
      refine (tod_any _ _ _ _).mono ?_
      rintro e V15 ⟨rfl, hb⟩
      try dsimp only
      try simp only [Act.put, List.setIfInBounds_toArray, List.set_cons_zero, List.set_cons_succ]
      replace bX := bX.on hb
      replace bD := bD.on hb
      replace bn10 := bn10.on hb
      try replace HR := Lib.hid (HR.out.on hb)
      replace HW := Lib.hid (bel_end HW.out hb)
      clear hb
      refine hK.out _ _ (HSp.out _ bX bD) (fun _ => ?_)
      clear hK Kn
      refine wpAnyH_ready (rs := [6]) (by kernel_rfl) (by simp) ?_
      refine AllReadyH.cons (o := { dst := some 27, op := Go.Op.call { callee := Go.Callee.value (Go.Operand.func 67), args := #[Go.Operand.tmp 22, Go.Operand.tmp 23, Go.Operand.tmp 25, Go.Operand.tmp 26], argTypes := #[51, 2, 32, 2] }, type := 49, pos := "exact.go:2922", after := #[{ on := 1, ground := Go.Ground.data }, { on := 2, ground := Go.Ground.data }, { on := 4, ground := Go.Ground.data }, { on := 5, ground := Go.Ground.data }, { on := 4, ground := Go.Ground.chain }], guard := none }) rfl (fun Kn hK => ?_) AllReadyH.nil
      first | go_at_call 67 | (go_simp; go_at_call 67)
      (with_reducible refine Calls.mono (KS.out _ _ _ _ _ HR.out) ?_)
      rintro e V16 ⟨rfl, hb⟩
      try dsimp only
      try simp only [Act.put, List.setIfInBounds_toArray, List.set_cons_zero, List.set_cons_succ]
      replace bX := bX.on hb
      replace bD := bD.on hb
      replace bn10 := bn10.on hb
      try replace HR := Lib.hid (HR.out.on hb)
      replace HW := Lib.hid (bel_end HW.out hb)
      clear hb
      refine hK.out _ _ (HSp.out _ bX bD) (fun _ => ?_)
      clear hK Kn
      have hS := HSp.out _ bX bD
      refine wpAnyH_take (i := 7) (oi := { dst := some 20, op := Go.Op.move (Go.Operand.tmp 27), type := 49, pos := "exact.go:2922", after := #[{ on := 6, ground := Go.Ground.data }], guard := none }) (v := ?_) rfl (by kernel_rfl) (by kernel_rfl) (by kernel_rfl) (fun _ _ _ h => h) (Or.inl ⟨by rfl, ?_⟩) hS ?_
      rotate_left
      · (intro w hSw; have hSw := (HSd.out w).1 hSw; go_split_ands; go_simp) <;> with_reducible rfl
      clear hS
      try simp only [Act.put, List.setIfInBounds_toArray, List.set_cons_zero, List.set_cons_succ]
      have hS := HSp.out _ bX bD
      refine wpAnyH_take (i := 8) (oi := { dst := some 28, op := Go.Op.extract (Go.Operand.tmp 20) 0, type := 48, pos := "exact.go:2922", after := #[{ on := 7, ground := Go.Ground.data }], guard := none }) (v := ?_) rfl (by kernel_rfl) (by kernel_rfl) (by kernel_rfl) (fun _ _ _ h => h) (Or.inl ⟨by rfl, ?_⟩) hS ?_
      rotate_left
      · (intro w hSw; have hSw := (HSd.out w).1 hSw; go_split_ands; go_simp) <;> with_reducible rfl
      clear hS
      try simp only [Act.put, List.setIfInBounds_toArray, List.set_cons_zero, List.set_cons_succ]
      have hS := HSp.out _ bX bD
      refine wpAnyH_take (i := 9) (oi := { dst := some 29, op := Go.Op.extract (Go.Operand.tmp 20) 1, type := 2, pos := "exact.go:2922", after := #[{ on := 7, ground := Go.Ground.data }, { on := 11, ground := Go.Ground.gcOnly Go.Departure.lateStores }], guard := none }) (v := ?_) rfl (by kernel_rfl) (by kernel_rfl) (by kernel_rfl) (fun _ _ _ h => h) (Or.inl ⟨by rfl, ?_⟩) hS ?_
      rotate_left
      · (intro w hSw; have hSw := (HSd.out w).1 hSw; go_split_ands; go_simp) <;> with_reducible rfl
      clear hS
      try simp only [Act.put, List.setIfInBounds_toArray, List.set_cons_zero, List.set_cons_succ]
      refine wpAnyH_ready (rs := [11]) (by kernel_rfl) (by simp) ?_
      refine AllReadyH.cons (o := { dst := none, op := Go.Op.store 48 (Go.Operand.tmp 10) (Go.Operand.tmp 28), type := 0, pos := "exact.go:2922", after := #[{ on := 10, ground := Go.Ground.data }, { on := 8, ground := Go.Ground.data }, { on := 6, ground := Go.Ground.chain }, { on := 0, ground := Go.Ground.phase }, { on := 1, ground := Go.Ground.phase }, { on := 2, ground := Go.Ground.phase }, { on := 3, ground := Go.Ground.phase }, { on := 4, ground := Go.Ground.phase }, { on := 5, ground := Go.Ground.phase }, { on := 6, ground := Go.Ground.phase }, { on := 7, ground := Go.Ground.phase }, { on := 8, ground := Go.Ground.phase }, { on := 9, ground := Go.Ground.textOnly Go.Departure.lateStores }, { on := 10, ground := Go.Ground.phase }], guard := none }) rfl (fun Kn hK => ?_) AllReadyH.nil
      have bn10_0 := bn10.cell 0 rfl
      have bn10_1 := bn10.cell 1 rfl
      have bn10_f0 := bn10.frozen 0
      have bn10_f1 := bn10.frozen 1
      have bn10_l := bn10.lt
      go_simp
      clear bn10_0 bn10_f0 bn10_1 bn10_f1 bn10_l
      generalize hX : World.setCell _ _ _ = V17
      have hb : Below W.heap.size W V17 := by rw [← hX]; exact ((HW.out.setCell (p := ⟨g10, 0, none⟩) le10 _).setCell (p := ⟨g10, 1, none⟩) le10 _)
      replace bX : Bk V17 (w.heap.size) #[.slice a0 zs.length cap0, .slice b0 ys.length cap1] 45 := by rw [← hX]; exact (Bk.other (Bk.other bX nebX_10 0 _) nebX_10 1 _)
      replace bD : Bk V17 (w.heap.size + 1) #[.int .i64 c, .int .i64 s, .int .i64 h] 30 := by rw [← hX]; exact (Bk.other (Bk.other bD nebD_10 0 _) nebD_10 1 _)
      replace bn10 : Bk V17 (g10) #[.int .i64 r00, .int .i64 r01] 48 := by rw [← hX]; exact (Bk.set (Bk.set bn10 0 _ rfl) 1 _ rfl)
      clear hX
      replace HW := Lib.hid hb
      clear hb
      refine hK.out _ _ (HSp.out _ bX bD) (fun _ => ?_)
      clear hK Kn
      have hS := HSp.out _ bX bD
      refine wpAnyH_take (i := 12) (oi := { dst := some 11, op := Go.Op.assign (Go.Operand.tmp 29), type := 2, pos := "exact.go:2922", after := #[{ on := 9, ground := Go.Ground.data }, { on := 11, ground := Go.Ground.chain }, { on := 0, ground := Go.Ground.phase }, { on := 1, ground := Go.Ground.phase }, { on := 2, ground := Go.Ground.phase }, { on := 3, ground := Go.Ground.phase }, { on := 4, ground := Go.Ground.phase }, { on := 5, ground := Go.Ground.phase }, { on := 6, ground := Go.Ground.phase }, { on := 7, ground := Go.Ground.phase }, { on := 8, ground := Go.Ground.phase }, { on := 9, ground := Go.Ground.phase }, { on := 10, ground := Go.Ground.phase }, { on := 11, ground := Go.Ground.phase }], guard := none }) (v := ?_) rfl (by kernel_rfl) (by kernel_rfl) (by kernel_rfl) (fun _ _ _ h => h) (Or.inl ⟨by rfl, ?_⟩) hS ?_
      rotate_left
      · (intro w hSw; have hSw := (HSd.out w).1 hSw; go_split_ands; go_simp) <;> with_reducible rfl
      clear hS
      try simp only [Act.put, List.setIfInBounds_toArray, List.set_cons_zero, List.set_cons_succ]
      refine wpAnyH_done (by kernel_rfl) ?_ _
      go_wp2_with fail
      go_meet
      exact ⟨_, rfl, bn10, le10, rfl, HW.out⟩
    case rest =>
      obtain ⟨gS, rfl, bS, hgS, rfl, hB⟩ := hcut
      replace bX := bX.on hB
      replace bD := bD.on hB
      replace HP := Lib.hid (HP.out.on hB)
      replace HB := Lib.hid (bel_end HB.out hB)
      clear hB
      have x0 := bX.cell 0 rfl
      have x1 := bX.cell 1 rfl
      have xl := bX.lt
      go_wp2_with fail
      refine (top_any _ _ _ _ _ zs ys HP.out).mono ?_
      rintro e w2 ⟨g3, g4, rfl, hg3, hg4, hr1, hr2, hb⟩
      replace bX := bX.on hb
      replace bD := bD.on hb
      replace bS := bS.on hb
      replace HP := Lib.hid (HP.out.on hb)
      replace HB := Lib.hid (bel_end HB.out hb)
      have HR := Lib.hid (Prof.of_rows hr1 hr2 lz ly)
      clear hr1 hr2 hg3 hg4 hb x0 x1 xl hgS
      go_upto_region 7 with fail
      generalize hW : World.alloc _ _ = W3
      obtain ⟨gy, hgy⟩ : ∃ g, g = w2.heap.size := ⟨_, rfl⟩
      have hb : Below w2.heap.size w2 W3 := by rw [← hW]; exact (Below.refl _ _).alloc (Nat.le_refl _) _
      have bY : Bk W3 gy #[.slice (some ⟨g3, 0, none⟩) zs.length zs.length, .slice (some ⟨g4, 0, none⟩) ys.length ys.length] 51 := by rw [← hW]; exact Bk.new' hgy
      try rw [← hgy]
      replace bX := bX.on hb
      replace bD := bD.on hb
      replace bS := bS.on hb
      replace HP := Lib.hid (HP.out.on hb)
      replace HR := Lib.hid (HR.out.on hb)
      replace HB := Lib.hid (bel_end HB.out hb)
      clear hW hb hgy
      go_wp2_with fail
      go_cut [13, 14] (fun s13 s14 wx => ∃ g : Nat, s13 = .pointer (some ⟨g, 0, none⟩) ∧ Bk wx g #[.int .i64 r00, .int .i64 r01] 48 ∧ W3.heap.size ≤ g ∧ s14 = .int .i64 r1 ∧ Below W3.heap.size W3 wx)
      case first =>
        have HW : Hid (Below W3.heap.size W3 W3) := Lib.hid (Below.refl _ _)
        obtain ⟨S, hSd⟩ : ∃ S : World → Prop, ∀ w', S w' ↔ (w'.cell? ⟨gy, 0, none⟩ = some (.slice (some ⟨g3, 0, none⟩) zs.length zs.length) ∧ w'.cell? ⟨gy, 1, none⟩ = some (.slice (some ⟨g4, 0, none⟩) ys.length ys.length) ∧ w'.cell? ⟨w.heap.size + 1, 0, none⟩ = some (.int .i64 c) ∧ w'.cell? ⟨w.heap.size + 1, 1, none⟩ = some (.int .i64 s) ∧ w'.cell? ⟨w.heap.size + 1, 2, none⟩ = some (.int .i64 h)) := ⟨_, fun _ => Iff.rfl⟩
        have HSp : Hid (∀ w' : World, Bk w' (gy) #[.slice (some ⟨g3, 0, none⟩) zs.length zs.length, .slice (some ⟨g4, 0, none⟩) ys.length ys.length] 51 → Bk w' (w.heap.size + 1) #[.int .i64 c, .int .i64 s, .int .i64 h] 30 → S w') := Lib.hid (fun w' bY bD => (hSd w').2 ⟨bY.cell 0 rfl, bY.cell 1 rfl, bD.cell 0 rfl, bD.cell 1 rfl, bD.cell 2 rfl⟩)
        have HSd := Lib.hid hSd
        clear hSd
        refine wp_region_held_drew (S := S) (by kernel_rfl) ?_ (fun hH => ?_)
        · exact (HSp.out _ bY bD : S (World.drew W3))
        clear hH
        generalize hX : World.drew W3 = V0
        replace bY : Bk V0 (gy) #[.slice (some ⟨g3, 0, none⟩) zs.length zs.length, .slice (some ⟨g4, 0, none⟩) ys.length ys.length] 51 := by rw [← hX]; exact bY
        replace bD : Bk V0 (w.heap.size + 1) #[.int .i64 c, .int .i64 s, .int .i64 h] 30 := by rw [← hX]; exact bD
        have hb : Below W3.heap.size W3 V0 := by rw [← hX]; exact (Below.refl _ _).drew
        clear hX
        replace HW := Lib.hid (bel_end HW.out hb)
        clear hb
        have hS := HSp.out _ bY bD
        refine wpAnyH_take (i := 0) (oi := { dst := some 33, op := Go.Op.load 51 (Go.Operand.tmp 12), type := 51, pos := "exact.go:2924", after := #[], guard := none }) (v := ?_) rfl (by kernel_rfl) (by kernel_rfl) (by kernel_rfl) (fun _ _ _ h => h) (Or.inl ⟨by rfl, ?_⟩) hS ?_
        rotate_left
        · (intro w hSw; have hSw := (HSd.out w).1 hSw; go_split_ands; go_simp) <;> with_reducible rfl
        clear hS
        try simp only [Act.put, List.setIfInBounds_toArray, List.set_cons_zero, List.set_cons_succ]
        have hS := HSp.out _ bY bD
        refine wpAnyH_take (i := 1) (oi := { dst := some 34, op := Go.Op.move (Go.Operand.tmp 1), type := 2, pos := "exact.go:2924", after := #[], guard := none }) (v := ?_) rfl (by kernel_rfl) (by kernel_rfl) (by kernel_rfl) (fun _ _ _ h => h) (Or.inl ⟨by rfl, ?_⟩) hS ?_
        rotate_left
        · (intro w hSw; have hSw := (HSd.out w).1 hSw; go_split_ands; go_simp) <;> with_reducible rfl
        clear hS
        try simp only [Act.put, List.setIfInBounds_toArray, List.set_cons_zero, List.set_cons_succ]
        have hS := HSp.out _ bY bD
        refine wpAnyH_take (i := 2) (oi := { dst := some 35, op := Go.Op.load 30 (Go.Operand.tmp 6), type := 30, pos := "exact.go:2924", after := #[], guard := none }) (v := ?_) rfl (by kernel_rfl) (by kernel_rfl) (by kernel_rfl) (fun _ _ _ h => h) (Or.inl ⟨by rfl, ?_⟩) hS ?_
        rotate_left
        · (intro w hSw; have hSw := (HSd.out w).1 hSw; go_split_ands; go_simp) <;> with_reducible rfl
        clear hS
        try simp only [Act.put, List.setIfInBounds_toArray, List.set_cons_zero, List.set_cons_succ]
        have hS := HSp.out _ bY bD
        refine wpAnyH_take (i := 4) (oi := { dst := some 37, op := Go.Op.move (Go.Operand.tmp 3), type := 2, pos := "exact.go:2924", after := #[], guard := none }) (v := ?_) rfl (by kernel_rfl) (by kernel_rfl) (by kernel_rfl) (fun _ _ _ h => h) (Or.inl ⟨by rfl, ?_⟩) hS ?_
        rotate_left
        · (intro w hSw; have hSw := (HSd.out w).1 hSw; go_split_ands; go_simp) <;> with_reducible rfl
        clear hS
        try simp only [Act.put, List.setIfInBounds_toArray, List.set_cons_zero, List.set_cons_succ]
        refine wpAnyH_ready (rs := [3, 9]) (by kernel_rfl) (by simp) ?_
        refine AllReadyH.cons (o := { dst := some 36, op := Go.Op.call { callee := Go.Callee.value (Go.Operand.func 25), args := #[Go.Operand.tmp 35], argTypes := #[30] }, type := 32, pos := "exact.go:2924", after := #[{ on := 2, ground := Go.Ground.data }], guard := none }) rfl (fun Kn hK => ?_) ?_
        · first | go_at_call 25 | (go_simp; go_at_call 25)
          refine (tod_any _ _ _ _).mono ?_
          rintro e V1 ⟨rfl, hb⟩
          try dsimp only
          try simp only [Act.put, List.setIfInBounds_toArray, List.set_cons_zero, List.set_cons_succ]
          replace bY := bY.on hb
          replace bD := bD.on hb
          replace HW := Lib.hid (bel_end HW.out hb)
          clear hb
          refine hK.out _ _ (HSp.out _ bY bD) (fun _ => ?_)
          clear hK Kn
          refine wpAnyH_ready (rs := [5, 9]) (by kernel_rfl) (by simp) ?_
          refine AllReadyH.cons (o := { dst := some 38, op := Go.Op.call { callee := Go.Callee.value (Go.Operand.func 68), args := #[Go.Operand.tmp 33, Go.Operand.tmp 34, Go.Operand.tmp 36, Go.Operand.tmp 37], argTypes := #[51, 2, 32, 2] }, type := 49, pos := "exact.go:2924", after := #[{ on := 0, ground := Go.Ground.data }, { on := 1, ground := Go.Ground.data }, { on := 3, ground := Go.Ground.data }, { on := 4, ground := Go.Ground.data }, { on := 3, ground := Go.Ground.chain }], guard := none }) rfl (fun Kn hK => ?_) ?_
          · first | go_at_call 68 | (go_simp; go_at_call 68)
            (with_reducible refine Calls.mono (KI.out _ _ _ _ _ (HR.out.on HW.out)) ?_)
            rintro e V2 ⟨rfl, hb⟩
            try dsimp only
            try simp only [Act.put, List.setIfInBounds_toArray, List.set_cons_zero, List.set_cons_succ]
            replace bY := bY.on hb
            replace bD := bD.on hb
            replace HW := Lib.hid (bel_end HW.out hb)
            clear hb
            refine hK.out _ _ (HSp.out _ bY bD) (fun _ => ?_)
            clear hK Kn
            have hS := HSp.out _ bY bD
            refine wpAnyH_take (i := 6) (oi := { dst := some 32, op := Go.Op.move (Go.Operand.tmp 38), type := 49, pos := "exact.go:2924", after := #[{ on := 5, ground := Go.Ground.data }], guard := none }) (v := ?_) rfl (by kernel_rfl) (by kernel_rfl) (by kernel_rfl) (fun _ _ _ h => h) (Or.inl ⟨by rfl, ?_⟩) hS ?_
            rotate_left
            · (intro w hSw; have hSw := (HSd.out w).1 hSw; go_split_ands; go_simp) <;> with_reducible rfl
            clear hS
            try simp only [Act.put, List.setIfInBounds_toArray, List.set_cons_zero, List.set_cons_succ]
            have hS := HSp.out _ bY bD
            refine wpAnyH_take (i := 7) (oi := { dst := some 39, op := Go.Op.extract (Go.Operand.tmp 32) 0, type := 48, pos := "exact.go:2924", after := #[{ on := 6, ground := Go.Ground.data }], guard := none }) (v := ?_) rfl (by kernel_rfl) (by kernel_rfl) (by kernel_rfl) (fun _ _ _ h => h) (Or.inl ⟨by rfl, ?_⟩) hS ?_
            rotate_left
            · (intro w hSw; have hSw := (HSd.out w).1 hSw; go_split_ands; go_simp) <;> with_reducible rfl
            clear hS
            try simp only [Act.put, List.setIfInBounds_toArray, List.set_cons_zero, List.set_cons_succ]
            have hS := HSp.out _ bY bD
            refine wpAnyH_take (i := 8) (oi := { dst := some 40, op := Go.Op.extract (Go.Operand.tmp 32) 1, type := 2, pos := "exact.go:2924", after := #[{ on := 6, ground := Go.Ground.data }, { on := 10, ground := Go.Ground.gcOnly Go.Departure.lateStores }], guard := none }) (v := ?_) rfl (by kernel_rfl) (by kernel_rfl) (by kernel_rfl) (fun _ _ _ h => h) (Or.inl ⟨by rfl, ?_⟩) hS ?_
            rotate_left
            · (intro w hSw; have hSw := (HSd.out w).1 hSw; go_split_ands; go_simp) <;> with_reducible rfl
            clear hS
            try simp only [Act.put, List.setIfInBounds_toArray, List.set_cons_zero, List.set_cons_succ]
            refine wpAnyH_ready (rs := [9]) (by kernel_rfl) (by simp) ?_
            refine AllReadyH.cons (o := { dst := some 13, op := Go.Op.alloc 48, type := 0, pos := "exact.go:2924", after := #[], guard := none }) rfl (fun Kn hK => ?_) AllReadyH.nil
            go_simp
            generalize hX : World.alloc V2 _ = V3
            obtain ⟨g9, hg⟩ : ∃ g, g = V2.heap.size := ⟨_, rfl⟩
            have bn9 : Bk V3 g9 #[.int .i64 0, .int .i64 0] 48 := by rw [← hX]; exact Bk.new' hg
            have le9 : W3.heap.size ≤ g9 := by rw [hg]; exact HW.out.size
            have nebY_9 : gy ≠ g9 := by have := bY.lt; omega
            replace bY : Bk V3 (gy) #[.slice (some ⟨g3, 0, none⟩) zs.length zs.length, .slice (some ⟨g4, 0, none⟩) ys.length ys.length] 51 := by rw [← hX]; exact bY.alloc _
            have nebD_9 : w.heap.size + 1 ≠ g9 := by have := bD.lt; omega
            replace bD : Bk V3 (w.heap.size + 1) #[.int .i64 c, .int .i64 s, .int .i64 h] 30 := by rw [← hX]; exact bD.alloc _
            try rw [← hg]
            have hb : Below V2.heap.size V2 V3 := by rw [← hX]; exact (Below.refl _ _).alloc (Nat.le_refl _) _
            clear hX hg
            replace HW := Lib.hid (bel_end HW.out hb)
            clear hb
            refine hK.out _ _ (HSp.out _ bY bD) (fun _ => ?_)
            clear hK Kn
            refine wpAnyH_ready (rs := [10]) (by kernel_rfl) (by simp) ?_
            refine AllReadyH.cons (o := { dst := none, op := Go.Op.store 48 (Go.Operand.tmp 13) (Go.Operand.tmp 39), type := 0, pos := "exact.go:2924", after := #[{ on := 9, ground := Go.Ground.data }, { on := 7, ground := Go.Ground.data }, { on := 5, ground := Go.Ground.chain }, { on := 0, ground := Go.Ground.phase }, { on := 1, ground := Go.Ground.phase }, { on := 2, ground := Go.Ground.phase }, { on := 3, ground := Go.Ground.phase }, { on := 4, ground := Go.Ground.phase }, { on := 5, ground := Go.Ground.phase }, { on := 6, ground := Go.Ground.phase }, { on := 7, ground := Go.Ground.phase }, { on := 8, ground := Go.Ground.textOnly Go.Departure.lateStores }, { on := 9, ground := Go.Ground.phase }], guard := none }) rfl (fun Kn hK => ?_) AllReadyH.nil
            have bn9_0 := bn9.cell 0 rfl
            have bn9_1 := bn9.cell 1 rfl
            have bn9_f0 := bn9.frozen 0
            have bn9_f1 := bn9.frozen 1
            have bn9_l := bn9.lt
            go_simp
            clear bn9_0 bn9_f0 bn9_1 bn9_f1 bn9_l
            generalize hX : World.setCell _ _ _ = V4
            have hb : Below W3.heap.size W3 V4 := by rw [← hX]; exact ((HW.out.setCell (p := ⟨g9, 0, none⟩) le9 _).setCell (p := ⟨g9, 1, none⟩) le9 _)
            replace bY : Bk V4 (gy) #[.slice (some ⟨g3, 0, none⟩) zs.length zs.length, .slice (some ⟨g4, 0, none⟩) ys.length ys.length] 51 := by rw [← hX]; exact (Bk.other (Bk.other bY nebY_9 0 _) nebY_9 1 _)
            replace bD : Bk V4 (w.heap.size + 1) #[.int .i64 c, .int .i64 s, .int .i64 h] 30 := by rw [← hX]; exact (Bk.other (Bk.other bD nebD_9 0 _) nebD_9 1 _)
            replace bn9 : Bk V4 (g9) #[.int .i64 r00, .int .i64 r01] 48 := by rw [← hX]; exact (Bk.set (Bk.set bn9 0 _ rfl) 1 _ rfl)
            clear hX
            replace HW := Lib.hid hb
            clear hb
            refine hK.out _ _ (HSp.out _ bY bD) (fun _ => ?_)
            clear hK Kn
            have hS := HSp.out _ bY bD
            refine wpAnyH_take (i := 11) (oi := { dst := some 14, op := Go.Op.assign (Go.Operand.tmp 40), type := 2, pos := "exact.go:2924", after := #[{ on := 8, ground := Go.Ground.data }, { on := 10, ground := Go.Ground.chain }, { on := 0, ground := Go.Ground.phase }, { on := 1, ground := Go.Ground.phase }, { on := 2, ground := Go.Ground.phase }, { on := 3, ground := Go.Ground.phase }, { on := 4, ground := Go.Ground.phase }, { on := 5, ground := Go.Ground.phase }, { on := 6, ground := Go.Ground.phase }, { on := 7, ground := Go.Ground.phase }, { on := 8, ground := Go.Ground.phase }, { on := 9, ground := Go.Ground.phase }, { on := 10, ground := Go.Ground.phase }], guard := none }) (v := ?_) rfl (by kernel_rfl) (by kernel_rfl) (by kernel_rfl) (fun _ _ _ h => h) (Or.inl ⟨by rfl, ?_⟩) hS ?_
            rotate_left
            · (intro w hSw; have hSw := (HSd.out w).1 hSw; go_split_ands; go_simp) <;> with_reducible rfl
            clear hS
            try simp only [Act.put, List.setIfInBounds_toArray, List.set_cons_zero, List.set_cons_succ]
            refine wpAnyH_done (by kernel_rfl) ?_ _
            go_wp2_with fail
            go_meet
            exact ⟨_, rfl, bn9, le9, rfl, HW.out⟩
          refine AllReadyH.cons (o := { dst := some 13, op := Go.Op.alloc 48, type := 0, pos := "exact.go:2924", after := #[], guard := none }) rfl (fun Kn hK => ?_) AllReadyH.nil
          go_simp
          generalize hX : World.alloc V1 _ = V5
          obtain ⟨g9, hg⟩ : ∃ g, g = V1.heap.size := ⟨_, rfl⟩
          have bn9 : Bk V5 g9 #[.int .i64 0, .int .i64 0] 48 := by rw [← hX]; exact Bk.new' hg
          have le9 : W3.heap.size ≤ g9 := by rw [hg]; exact HW.out.size
          have nebY_9 : gy ≠ g9 := by have := bY.lt; omega
          replace bY : Bk V5 (gy) #[.slice (some ⟨g3, 0, none⟩) zs.length zs.length, .slice (some ⟨g4, 0, none⟩) ys.length ys.length] 51 := by rw [← hX]; exact bY.alloc _
          have nebD_9 : w.heap.size + 1 ≠ g9 := by have := bD.lt; omega
          replace bD : Bk V5 (w.heap.size + 1) #[.int .i64 c, .int .i64 s, .int .i64 h] 30 := by rw [← hX]; exact bD.alloc _
          try rw [← hg]
          have hb : Below V1.heap.size V1 V5 := by rw [← hX]; exact (Below.refl _ _).alloc (Nat.le_refl _) _
          clear hX hg
          replace HW := Lib.hid (bel_end HW.out hb)
          clear hb
          refine hK.out _ _ (HSp.out _ bY bD) (fun _ => ?_)
          clear hK Kn
          refine wpAnyH_ready (rs := [5]) (by kernel_rfl) (by simp) ?_
          refine AllReadyH.cons (o := { dst := some 38, op := Go.Op.call { callee := Go.Callee.value (Go.Operand.func 68), args := #[Go.Operand.tmp 33, Go.Operand.tmp 34, Go.Operand.tmp 36, Go.Operand.tmp 37], argTypes := #[51, 2, 32, 2] }, type := 49, pos := "exact.go:2924", after := #[{ on := 0, ground := Go.Ground.data }, { on := 1, ground := Go.Ground.data }, { on := 3, ground := Go.Ground.data }, { on := 4, ground := Go.Ground.data }, { on := 3, ground := Go.Ground.chain }], guard := none }) rfl (fun Kn hK => ?_) AllReadyH.nil
          first | go_at_call 68 | (go_simp; go_at_call 68)
          (with_reducible refine Calls.mono (KI.out _ _ _ _ _ (HR.out.on HW.out)) ?_)
          rintro e V6 ⟨rfl, hb⟩
          try dsimp only
          try simp only [Act.put, List.setIfInBounds_toArray, List.set_cons_zero, List.set_cons_succ]
          replace bY := bY.on hb
          replace bD := bD.on hb
          replace bn9 := bn9.on hb
          replace HW := Lib.hid (bel_end HW.out hb)
          clear hb
          refine hK.out _ _ (HSp.out _ bY bD) (fun _ => ?_)
          clear hK Kn
          have hS := HSp.out _ bY bD
          refine wpAnyH_take (i := 6) (oi := { dst := some 32, op := Go.Op.move (Go.Operand.tmp 38), type := 49, pos := "exact.go:2924", after := #[{ on := 5, ground := Go.Ground.data }], guard := none }) (v := ?_) rfl (by kernel_rfl) (by kernel_rfl) (by kernel_rfl) (fun _ _ _ h => h) (Or.inl ⟨by rfl, ?_⟩) hS ?_
          rotate_left
          · (intro w hSw; have hSw := (HSd.out w).1 hSw; go_split_ands; go_simp) <;> with_reducible rfl
          clear hS
          try simp only [Act.put, List.setIfInBounds_toArray, List.set_cons_zero, List.set_cons_succ]
          have hS := HSp.out _ bY bD
          refine wpAnyH_take (i := 7) (oi := { dst := some 39, op := Go.Op.extract (Go.Operand.tmp 32) 0, type := 48, pos := "exact.go:2924", after := #[{ on := 6, ground := Go.Ground.data }], guard := none }) (v := ?_) rfl (by kernel_rfl) (by kernel_rfl) (by kernel_rfl) (fun _ _ _ h => h) (Or.inl ⟨by rfl, ?_⟩) hS ?_
          rotate_left
          · (intro w hSw; have hSw := (HSd.out w).1 hSw; go_split_ands; go_simp) <;> with_reducible rfl
          clear hS
          try simp only [Act.put, List.setIfInBounds_toArray, List.set_cons_zero, List.set_cons_succ]
          have hS := HSp.out _ bY bD
          refine wpAnyH_take (i := 8) (oi := { dst := some 40, op := Go.Op.extract (Go.Operand.tmp 32) 1, type := 2, pos := "exact.go:2924", after := #[{ on := 6, ground := Go.Ground.data }, { on := 10, ground := Go.Ground.gcOnly Go.Departure.lateStores }], guard := none }) (v := ?_) rfl (by kernel_rfl) (by kernel_rfl) (by kernel_rfl) (fun _ _ _ h => h) (Or.inl ⟨by rfl, ?_⟩) hS ?_
          rotate_left
          · (intro w hSw; have hSw := (HSd.out w).1 hSw; go_split_ands; go_simp) <;> with_reducible rfl
          clear hS
          try simp only [Act.put, List.setIfInBounds_toArray, List.set_cons_zero, List.set_cons_succ]
          refine wpAnyH_ready (rs := [10]) (by kernel_rfl) (by simp) ?_
          refine AllReadyH.cons (o := { dst := none, op := Go.Op.store 48 (Go.Operand.tmp 13) (Go.Operand.tmp 39), type := 0, pos := "exact.go:2924", after := #[{ on := 9, ground := Go.Ground.data }, { on := 7, ground := Go.Ground.data }, { on := 5, ground := Go.Ground.chain }, { on := 0, ground := Go.Ground.phase }, { on := 1, ground := Go.Ground.phase }, { on := 2, ground := Go.Ground.phase }, { on := 3, ground := Go.Ground.phase }, { on := 4, ground := Go.Ground.phase }, { on := 5, ground := Go.Ground.phase }, { on := 6, ground := Go.Ground.phase }, { on := 7, ground := Go.Ground.phase }, { on := 8, ground := Go.Ground.textOnly Go.Departure.lateStores }, { on := 9, ground := Go.Ground.phase }], guard := none }) rfl (fun Kn hK => ?_) AllReadyH.nil
          have bn9_0 := bn9.cell 0 rfl
          have bn9_1 := bn9.cell 1 rfl
          have bn9_f0 := bn9.frozen 0
          have bn9_f1 := bn9.frozen 1
          have bn9_l := bn9.lt
          go_simp
          clear bn9_0 bn9_f0 bn9_1 bn9_f1 bn9_l
          generalize hX : World.setCell _ _ _ = V7
          have hb : Below W3.heap.size W3 V7 := by rw [← hX]; exact ((HW.out.setCell (p := ⟨g9, 0, none⟩) le9 _).setCell (p := ⟨g9, 1, none⟩) le9 _)
          replace bY : Bk V7 (gy) #[.slice (some ⟨g3, 0, none⟩) zs.length zs.length, .slice (some ⟨g4, 0, none⟩) ys.length ys.length] 51 := by rw [← hX]; exact (Bk.other (Bk.other bY nebY_9 0 _) nebY_9 1 _)
          replace bD : Bk V7 (w.heap.size + 1) #[.int .i64 c, .int .i64 s, .int .i64 h] 30 := by rw [← hX]; exact (Bk.other (Bk.other bD nebD_9 0 _) nebD_9 1 _)
          replace bn9 : Bk V7 (g9) #[.int .i64 r00, .int .i64 r01] 48 := by rw [← hX]; exact (Bk.set (Bk.set bn9 0 _ rfl) 1 _ rfl)
          clear hX
          replace HW := Lib.hid hb
          clear hb
          refine hK.out _ _ (HSp.out _ bY bD) (fun _ => ?_)
          clear hK Kn
          have hS := HSp.out _ bY bD
          refine wpAnyH_take (i := 11) (oi := { dst := some 14, op := Go.Op.assign (Go.Operand.tmp 40), type := 2, pos := "exact.go:2924", after := #[{ on := 8, ground := Go.Ground.data }, { on := 10, ground := Go.Ground.chain }, { on := 0, ground := Go.Ground.phase }, { on := 1, ground := Go.Ground.phase }, { on := 2, ground := Go.Ground.phase }, { on := 3, ground := Go.Ground.phase }, { on := 4, ground := Go.Ground.phase }, { on := 5, ground := Go.Ground.phase }, { on := 6, ground := Go.Ground.phase }, { on := 7, ground := Go.Ground.phase }, { on := 8, ground := Go.Ground.phase }, { on := 9, ground := Go.Ground.phase }, { on := 10, ground := Go.Ground.phase }], guard := none }) (v := ?_) rfl (by kernel_rfl) (by kernel_rfl) (by kernel_rfl) (fun _ _ _ h => h) (Or.inl ⟨by rfl, ?_⟩) hS ?_
          rotate_left
          · (intro w hSw; have hSw := (HSd.out w).1 hSw; go_split_ands; go_simp) <;> with_reducible rfl
          clear hS
          try simp only [Act.put, List.setIfInBounds_toArray, List.set_cons_zero, List.set_cons_succ]
          refine wpAnyH_done (by kernel_rfl) ?_ _
          go_wp2_with fail
          go_meet
          exact ⟨_, rfl, bn9, le9, rfl, HW.out⟩
        refine AllReadyH.cons (o := { dst := some 13, op := Go.Op.alloc 48, type := 0, pos := "exact.go:2924", after := #[], guard := none }) rfl (fun Kn hK => ?_) AllReadyH.nil
        go_simp
        generalize hX : World.alloc V0 _ = V8
        obtain ⟨g9, hg⟩ : ∃ g, g = V0.heap.size := ⟨_, rfl⟩
        have bn9 : Bk V8 g9 #[.int .i64 0, .int .i64 0] 48 := by rw [← hX]; exact Bk.new' hg
        have le9 : W3.heap.size ≤ g9 := by rw [hg]; exact HW.out.size
        have nebY_9 : gy ≠ g9 := by have := bY.lt; omega
        replace bY : Bk V8 (gy) #[.slice (some ⟨g3, 0, none⟩) zs.length zs.length, .slice (some ⟨g4, 0, none⟩) ys.length ys.length] 51 := by rw [← hX]; exact bY.alloc _
        have nebD_9 : w.heap.size + 1 ≠ g9 := by have := bD.lt; omega
        replace bD : Bk V8 (w.heap.size + 1) #[.int .i64 c, .int .i64 s, .int .i64 h] 30 := by rw [← hX]; exact bD.alloc _
        try rw [← hg]
        have hb : Below V0.heap.size V0 V8 := by rw [← hX]; exact (Below.refl _ _).alloc (Nat.le_refl _) _
        clear hX hg
        replace HW := Lib.hid (bel_end HW.out hb)
        clear hb
        refine hK.out _ _ (HSp.out _ bY bD) (fun _ => ?_)
        clear hK Kn
        refine wpAnyH_ready (rs := [3]) (by kernel_rfl) (by simp) ?_
        refine AllReadyH.cons (o := { dst := some 36, op := Go.Op.call { callee := Go.Callee.value (Go.Operand.func 25), args := #[Go.Operand.tmp 35], argTypes := #[30] }, type := 32, pos := "exact.go:2924", after := #[{ on := 2, ground := Go.Ground.data }], guard := none }) rfl (fun Kn hK => ?_) AllReadyH.nil
        first | go_at_call 25 | (go_simp; go_at_call 25)
        refine (tod_any _ _ _ _).mono ?_
        rintro e V9 ⟨rfl, hb⟩
        try dsimp only
        try simp only [Act.put, List.setIfInBounds_toArray, List.set_cons_zero, List.set_cons_succ]
        replace bY := bY.on hb
        replace bD := bD.on hb
        replace bn9 := bn9.on hb
        replace HW := Lib.hid (bel_end HW.out hb)
        clear hb
        refine hK.out _ _ (HSp.out _ bY bD) (fun _ => ?_)
        clear hK Kn
        refine wpAnyH_ready (rs := [5]) (by kernel_rfl) (by simp) ?_
        refine AllReadyH.cons (o := { dst := some 38, op := Go.Op.call { callee := Go.Callee.value (Go.Operand.func 68), args := #[Go.Operand.tmp 33, Go.Operand.tmp 34, Go.Operand.tmp 36, Go.Operand.tmp 37], argTypes := #[51, 2, 32, 2] }, type := 49, pos := "exact.go:2924", after := #[{ on := 0, ground := Go.Ground.data }, { on := 1, ground := Go.Ground.data }, { on := 3, ground := Go.Ground.data }, { on := 4, ground := Go.Ground.data }, { on := 3, ground := Go.Ground.chain }], guard := none }) rfl (fun Kn hK => ?_) AllReadyH.nil
        first | go_at_call 68 | (go_simp; go_at_call 68)
        (with_reducible refine Calls.mono (KI.out _ _ _ _ _ (HR.out.on HW.out)) ?_)
        rintro e V10 ⟨rfl, hb⟩
        try dsimp only
        try simp only [Act.put, List.setIfInBounds_toArray, List.set_cons_zero, List.set_cons_succ]
        replace bY := bY.on hb
        replace bD := bD.on hb
        replace bn9 := bn9.on hb
        replace HW := Lib.hid (bel_end HW.out hb)
        clear hb
        refine hK.out _ _ (HSp.out _ bY bD) (fun _ => ?_)
        clear hK Kn
        have hS := HSp.out _ bY bD
        refine wpAnyH_take (i := 6) (oi := { dst := some 32, op := Go.Op.move (Go.Operand.tmp 38), type := 49, pos := "exact.go:2924", after := #[{ on := 5, ground := Go.Ground.data }], guard := none }) (v := ?_) rfl (by kernel_rfl) (by kernel_rfl) (by kernel_rfl) (fun _ _ _ h => h) (Or.inl ⟨by rfl, ?_⟩) hS ?_
        rotate_left
        · (intro w hSw; have hSw := (HSd.out w).1 hSw; go_split_ands; go_simp) <;> with_reducible rfl
        clear hS
        try simp only [Act.put, List.setIfInBounds_toArray, List.set_cons_zero, List.set_cons_succ]
        have hS := HSp.out _ bY bD
        refine wpAnyH_take (i := 7) (oi := { dst := some 39, op := Go.Op.extract (Go.Operand.tmp 32) 0, type := 48, pos := "exact.go:2924", after := #[{ on := 6, ground := Go.Ground.data }], guard := none }) (v := ?_) rfl (by kernel_rfl) (by kernel_rfl) (by kernel_rfl) (fun _ _ _ h => h) (Or.inl ⟨by rfl, ?_⟩) hS ?_
        rotate_left
        · (intro w hSw; have hSw := (HSd.out w).1 hSw; go_split_ands; go_simp) <;> with_reducible rfl
        clear hS
        try simp only [Act.put, List.setIfInBounds_toArray, List.set_cons_zero, List.set_cons_succ]
        have hS := HSp.out _ bY bD
        refine wpAnyH_take (i := 8) (oi := { dst := some 40, op := Go.Op.extract (Go.Operand.tmp 32) 1, type := 2, pos := "exact.go:2924", after := #[{ on := 6, ground := Go.Ground.data }, { on := 10, ground := Go.Ground.gcOnly Go.Departure.lateStores }], guard := none }) (v := ?_) rfl (by kernel_rfl) (by kernel_rfl) (by kernel_rfl) (fun _ _ _ h => h) (Or.inl ⟨by rfl, ?_⟩) hS ?_
        rotate_left
        · (intro w hSw; have hSw := (HSd.out w).1 hSw; go_split_ands; go_simp) <;> with_reducible rfl
        clear hS
        try simp only [Act.put, List.setIfInBounds_toArray, List.set_cons_zero, List.set_cons_succ]
        refine wpAnyH_ready (rs := [10]) (by kernel_rfl) (by simp) ?_
        refine AllReadyH.cons (o := { dst := none, op := Go.Op.store 48 (Go.Operand.tmp 13) (Go.Operand.tmp 39), type := 0, pos := "exact.go:2924", after := #[{ on := 9, ground := Go.Ground.data }, { on := 7, ground := Go.Ground.data }, { on := 5, ground := Go.Ground.chain }, { on := 0, ground := Go.Ground.phase }, { on := 1, ground := Go.Ground.phase }, { on := 2, ground := Go.Ground.phase }, { on := 3, ground := Go.Ground.phase }, { on := 4, ground := Go.Ground.phase }, { on := 5, ground := Go.Ground.phase }, { on := 6, ground := Go.Ground.phase }, { on := 7, ground := Go.Ground.phase }, { on := 8, ground := Go.Ground.textOnly Go.Departure.lateStores }, { on := 9, ground := Go.Ground.phase }], guard := none }) rfl (fun Kn hK => ?_) AllReadyH.nil
        have bn9_0 := bn9.cell 0 rfl
        have bn9_1 := bn9.cell 1 rfl
        have bn9_f0 := bn9.frozen 0
        have bn9_f1 := bn9.frozen 1
        have bn9_l := bn9.lt
        go_simp
        clear bn9_0 bn9_f0 bn9_1 bn9_f1 bn9_l
        generalize hX : World.setCell _ _ _ = V11
        have hb : Below W3.heap.size W3 V11 := by rw [← hX]; exact ((HW.out.setCell (p := ⟨g9, 0, none⟩) le9 _).setCell (p := ⟨g9, 1, none⟩) le9 _)
        replace bY : Bk V11 (gy) #[.slice (some ⟨g3, 0, none⟩) zs.length zs.length, .slice (some ⟨g4, 0, none⟩) ys.length ys.length] 51 := by rw [← hX]; exact (Bk.other (Bk.other bY nebY_9 0 _) nebY_9 1 _)
        replace bD : Bk V11 (w.heap.size + 1) #[.int .i64 c, .int .i64 s, .int .i64 h] 30 := by rw [← hX]; exact (Bk.other (Bk.other bD nebD_9 0 _) nebD_9 1 _)
        replace bn9 : Bk V11 (g9) #[.int .i64 r00, .int .i64 r01] 48 := by rw [← hX]; exact (Bk.set (Bk.set bn9 0 _ rfl) 1 _ rfl)
        clear hX
        replace HW := Lib.hid hb
        clear hb
        refine hK.out _ _ (HSp.out _ bY bD) (fun _ => ?_)
        clear hK Kn
        have hS := HSp.out _ bY bD
        refine wpAnyH_take (i := 11) (oi := { dst := some 14, op := Go.Op.assign (Go.Operand.tmp 40), type := 2, pos := "exact.go:2924", after := #[{ on := 8, ground := Go.Ground.data }, { on := 10, ground := Go.Ground.chain }, { on := 0, ground := Go.Ground.phase }, { on := 1, ground := Go.Ground.phase }, { on := 2, ground := Go.Ground.phase }, { on := 3, ground := Go.Ground.phase }, { on := 4, ground := Go.Ground.phase }, { on := 5, ground := Go.Ground.phase }, { on := 6, ground := Go.Ground.phase }, { on := 7, ground := Go.Ground.phase }, { on := 8, ground := Go.Ground.phase }, { on := 9, ground := Go.Ground.phase }, { on := 10, ground := Go.Ground.phase }], guard := none }) (v := ?_) rfl (by kernel_rfl) (by kernel_rfl) (by kernel_rfl) (fun _ _ _ h => h) (Or.inl ⟨by rfl, ?_⟩) hS ?_
        rotate_left
        · (intro w hSw; have hSw := (HSd.out w).1 hSw; go_split_ands; go_simp) <;> with_reducible rfl
        clear hS
        try simp only [Act.put, List.setIfInBounds_toArray, List.set_cons_zero, List.set_cons_succ]
        refine wpAnyH_done (by kernel_rfl) ?_ _
        go_wp2_with fail
        go_meet
        exact ⟨_, rfl, bn9, le9, rfl, HW.out⟩
      case rest =>
        obtain ⟨gI, rfl, bI, hgI, rfl, hB⟩ := hcut
        replace bX := bX.on hB
        replace bD := bD.on hB
        replace bY := bY.on hB
        replace bS := bS.on hB
        replace HP := Lib.hid (HP.out.on hB)
        replace HR := Lib.hid (HR.out.on hB)
        replace HB := Lib.hid (bel_end HB.out hB)
        clear hB hgI
        have u0 := bS.cell 0 rfl
        have u1 := bS.cell 1 rfl
        have v0 := bI.cell 0 rfl
        have v1 := bI.cell 1 rfl
        go_wp2_with fail
        (with_reducible refine Calls.mono (KE.out _) ?_)
        rintro e w4 ⟨rfl, hb⟩
        replace bX := bX.on hb
        replace bY := bY.on hb
        replace HP := Lib.hid (HP.out.on hb)
        replace HR := Lib.hid (HR.out.on hb)
        replace HB := Lib.hid (bel_end HB.out hb)
        clear hb u0 u1 v0 v1 bS bI
        go_upto_region 10 with fail
        clear bD
        have HW : Hid (Below w4.heap.size w4 w4) := Lib.hid (Below.refl _ _)
        obtain ⟨S, hSd⟩ : ∃ S : World → Prop, ∀ w', S w' ↔ (w'.cell? ⟨w.heap.size, 0, none⟩ = some (.slice a0 zs.length cap0) ∧ w'.cell? ⟨w.heap.size, 1, none⟩ = some (.slice b0 ys.length cap1) ∧ w'.cell? ⟨gy, 0, none⟩ = some (.slice (some ⟨g3, 0, none⟩) zs.length zs.length) ∧ w'.cell? ⟨gy, 1, none⟩ = some (.slice (some ⟨g4, 0, none⟩) ys.length ys.length)) := ⟨_, fun _ => Iff.rfl⟩
        have HSp : Hid (∀ w' : World, Bk w' (w.heap.size) #[.slice a0 zs.length cap0, .slice b0 ys.length cap1] 45 → Bk w' (gy) #[.slice (some ⟨g3, 0, none⟩) zs.length zs.length, .slice (some ⟨g4, 0, none⟩) ys.length ys.length] 51 → S w') := Lib.hid (fun w' bX bY => (hSd w').2 ⟨bX.cell 0 rfl, bX.cell 1 rfl, bY.cell 0 rfl, bY.cell 1 rfl⟩)
        have HSd := Lib.hid hSd
        clear hSd
        refine wp_region_held_drew (S := S) (by kernel_rfl) ?_ (fun hH => ?_)
        · exact (HSp.out _ bX bY : S (World.drew w4))
        clear hH
        generalize hX : World.drew w4 = V0
        replace bX : Bk V0 (w.heap.size) #[.slice a0 zs.length cap0, .slice b0 ys.length cap1] 45 := by rw [← hX]; exact bX
        replace bY : Bk V0 (gy) #[.slice (some ⟨g3, 0, none⟩) zs.length zs.length, .slice (some ⟨g4, 0, none⟩) ys.length ys.length] 51 := by rw [← hX]; exact bY
        have hb : Below w4.heap.size w4 V0 := by rw [← hX]; exact (Below.refl _ _).drew
        clear hX
        try replace HR5 := Lib.hid (HR5.out.on hb)
        replace HW := Lib.hid (bel_end HW.out hb)
        clear hb
        have hS := HSp.out _ bX bY
        refine wpAnyH_take (i := 0) (oi := { dst := some 50, op := Go.Op.load 51 (Go.Operand.tmp 12), type := 51, pos := "exact.go:2928", after := #[], guard := none }) (v := ?_) rfl (by kernel_rfl) (by kernel_rfl) (by kernel_rfl) (fun _ _ _ h => h) (Or.inl ⟨by rfl, ?_⟩) hS ?_
        rotate_left
        · (intro w hSw; have hSw := (HSd.out w).1 hSw; go_split_ands; go_simp) <;> with_reducible rfl
        clear hS
        try simp only [Act.put, List.setIfInBounds_toArray, List.set_cons_zero, List.set_cons_succ]
        have hS := HSp.out _ bX bY
        refine wpAnyH_take (i := 1) (oi := { dst := some 51, op := Go.Op.load 45 (Go.Operand.tmp 4), type := 45, pos := "exact.go:2928", after := #[], guard := none }) (v := ?_) rfl (by kernel_rfl) (by kernel_rfl) (by kernel_rfl) (fun _ _ _ h => h) (Or.inl ⟨by rfl, ?_⟩) hS ?_
        rotate_left
        · (intro w hSw; have hSw := (HSd.out w).1 hSw; go_split_ands; go_simp) <;> with_reducible rfl
        clear hS
        try simp only [Act.put, List.setIfInBounds_toArray, List.set_cons_zero, List.set_cons_succ]
        refine wpAnyH_ready (rs := [2]) (by kernel_rfl) (by simp) ?_
        refine AllReadyH.cons (o := { dst := some 52, op := Go.Op.call { callee := Go.Callee.value (Go.Operand.func 34), args := #[Go.Operand.tmp 51], argTypes := #[45] }, type := 51, pos := "exact.go:2928", after := #[{ on := 1, ground := Go.Ground.data }], guard := none }) rfl (fun Kn hK => ?_) AllReadyH.nil
        first | go_at_call 34 | (go_simp; go_at_call 34)
        (refine Calls.mono (top_any _ _ _ _ _ zs ys (HP.out.on HW.out)) ?_)
        rintro e V1 ⟨g5, g6, rfl, hg5, hg6, hr1, hr2, hb⟩
        have HR5 := Lib.hid (Prof.of_rows hr1 hr2 lz ly)
        clear hr1 hr2
        try dsimp only
        try simp only [Act.put, List.setIfInBounds_toArray, List.set_cons_zero, List.set_cons_succ]
        replace bX := bX.on hb
        replace bY := bY.on hb
        try replace HR5 := Lib.hid (HR5.out.on hb)
        replace HW := Lib.hid (bel_end HW.out hb)
        clear hb
        refine hK.out _ _ (HSp.out _ bX bY) (fun _ => ?_)
        clear hK Kn
        refine wpAnyH_ready (rs := [3]) (by kernel_rfl) (by simp) ?_
        refine AllReadyH.cons (o := { dst := some 53, op := Go.Op.call { callee := Go.Callee.value (Go.Operand.func 37), args := #[Go.Operand.tmp 50, Go.Operand.tmp 52], argTypes := #[51, 51] }, type := 4, pos := "exact.go:2928", after := #[{ on := 0, ground := Go.Ground.data }, { on := 2, ground := Go.Ground.data }, { on := 2, ground := Go.Ground.chain }], guard := none }) rfl (fun Kn hK => ?_) AllReadyH.nil
        first | go_at_call 37 | (go_simp; go_at_call 37)
        refine (eqp_any _ _ _ _ _ _ _ _ _ zs ys zs ys (HR.out.on HW.out) HR5.out).mono ?_
        rw [same_self]
        rintro e V2 ⟨rfl, hb⟩
        try dsimp only
        try simp only [Act.put, List.setIfInBounds_toArray, List.set_cons_zero, List.set_cons_succ]
        replace bX := bX.on hb
        replace bY := bY.on hb
        try replace HR5 := Lib.hid (HR5.out.on hb)
        replace HW := Lib.hid (bel_end HW.out hb)
        clear hb
        refine hK.out _ _ (HSp.out _ bX bY) (fun _ => ?_)
        clear hK Kn
        have hS := HSp.out _ bX bY
        refine wpAnyH_take (i := 4) (oi := { dst := some 54, op := Go.Op.unOp Go.UnOp.not 4 (Go.Operand.tmp 53), type := 4, pos := "exact.go:2928", after := #[{ on := 3, ground := Go.Ground.data }], guard := none }) (v := ?_) rfl (by kernel_rfl) (by kernel_rfl) (by kernel_rfl) (fun _ _ _ h => h) (Or.inl ⟨by rfl, ?_⟩) hS ?_
        rotate_left
        · (intro w hSw; have hSw := (HSd.out w).1 hSw; go_split_ands; go_simp) <;> with_reducible rfl
        clear hS
        try simp only [Act.put, List.setIfInBounds_toArray, List.set_cons_zero, List.set_cons_succ]
        refine wpAnyH_done (by kernel_rfl) ?_ _
        go_wp2
        go_ret
        exact ⟨rfl, bel_end HB.out HW.out⟩
end Go.Proofs.Ytaaklnabomhleaa
