/- The walk of the exact law of RangesOf: it returns true and writes nothing that was there. -/
import Derived.Test.YtaaklnabomhleaaXSt
import Derived.Test.YtaaklnabomhleaaRyZ
import Derived.Test.YtaaklnabomhleaaOwI
import Derived.Deep.RegionHeld3
import Derived.Deep.DeepCutAuto
import Derived.Deep.DrawnRows
import Derived.Deep.RegionWith
import Derived.Outline
import Derived.Handy
namespace Go.Proofs.Ytaaklnabomhleaa
open Go.ChangeShapes Go.WideShapes Go.ChangeAt Go.RowKit Go.Shelf Num
set_option linter.unusedVariables false
set_option linter.unusedSimpArgs false
attribute [local go_sem ↓] Go.wp_at_zero Go.wp_at_succ

set_option maxRecDepth 100000 in
set_option maxHeartbeats 16000000 in
theorem lrgo (a0 : Option Addr) (len0 cap0 : Nat) (z0 : List Int) (b0 : Option Addr) (len1 cap1 : Nat) (y0 : List Int) (src c s h n : Int) (w : World) (w0 : IsRow .i64 w a0 len0 cap0 z0) (v0 : IsRow .i64 w b0 len1 cap1 y0) (w1 : (Lit.int .i64 src).wf = true) (w3 : (Lit.int .i64 n).wf = true) :
    Calls Try.prog 14 #[.agg #[.slice a0 len0 cap0, .slice b0 len1 cap1], .int .i64 src, .agg #[.int .i64 c, .int .i64 s, .int .i64 h], .int .i64 n] w fun e w' => e = .returned (.bool true) ∧ Below w.heap.size w w' := by
  obtain ⟨hm, hn, e1, e2, hp⟩ := Prof.of_in w0 v0
  clear w0 v0 w1 w3
  obtain ⟨zs, hzs⟩ : ∃ zs, z0.take len0 = zs := ⟨_, rfl⟩
  obtain ⟨ys, hys⟩ : ∃ ys, y0.take len1 = ys := ⟨_, rfl⟩
  rw [hzs] at e1 hp
  rw [hys] at e2 hp
  subst e1 e2
  clear hzs hys
  by_cases hbig : 1048576 < zs.length + ys.length
  · have hz := szP_big hbig
    have HZ := Lib.hid hz
    clear hz hp
    go_enter Try.func14, Try.ntmps14
    go_wp2_with fail
    refine (szp_any _ _ _ _ _ _ _ hm hn).mono ?_
    rw [HZ.out]
    rintro e w1 ⟨rfl, hb⟩
    have HB : Hid (Below w.heap.size w w1) := Lib.hid (bel_end (by repeat (first | exact Below.refl _ _ | (refine Below.alloc ?_ (by simp <;> omega) _) | (refine Below.setCell ?_ (by simp <;> omega) _) | (refine Below.drew ?_) | (refine bel_drewN ?_ _))) hb)
    clear hb
    go_wp2
    go_ret
    exact ⟨rfl, HB.out⟩
  have hz := szP_fit hbig
  have HP := Lib.hid (ProfL.of (hp (by omega)))
  have lz := HP.out.at_.lz
  have ly := HP.out.at_.ly
  clear hp
  obtain ⟨q, hq⟩ : ∃ q, szP zs.length ys.length = q := ⟨_, rfl⟩
  have hq0 : 0 ≤ q := hq ▸ hz
  have HQ := Lib.hid hq
  clear hz hq
  have l12 := trR_len zs ys src c s h n
  obtain ⟨LL, hL⟩ : ∃ x, trR zs ys src c s h n = x := ⟨_, rfl⟩
  obtain ⟨qq, hq2⟩ : ∃ x, tcod zs ys src c s h n = x := ⟨_, rfl⟩
  rw [hL] at l12
  have S1 : Hid (∀ (w : World) (a b : Option Addr) (c_ d_ : Nat), Prof w w.heap.size a b zs ys → Calls Try.prog 44 #[.agg #[.slice a zs.length c_, .slice b ys.length d_], .int .i64 src, .agg #[.int .i64 c, .int .i64 s, .int .i64 h], .int .i64 n] w fun e w' => ∃ a' c', e = .returned (.tuple #[.slice a' LL.length c', .int .i64 qq]) ∧ OwnI w' w.heap.size w'.heap.size a' c' LL ∧ Below w.heap.size w w') := Lib.hid (fun w a b c_ d_ hp => by have := srg_any w a b c_ d_ zs ys src c s h n hp; rw [hL, hq2] at this; exact this)
  have S2 : Hid (∀ (w : World) (a b : Option Addr) (c_ d_ : Nat), Prof w w.heap.size a b zs ys → Calls Try.prog 43 #[.agg #[.slice a zs.length c_, .slice b ys.length d_], .int .i64 src, .agg #[.int .i64 c, .int .i64 s, .int .i64 h], .int .i64 n] w fun e w' => ∃ a' c', e = .returned (.tuple #[.slice a' LL.length c', .int .i64 qq]) ∧ OwnI w' w.heap.size w'.heap.size a' c' LL ∧ Below w.heap.size w w') := Lib.hid (fun w a b c_ d_ hp => by have := irg_any w a b c_ d_ zs ys src c s h n hp; rw [hL, hq2] at this; exact this)
  clear hL hq2
  go_enter Try.func14, Try.ntmps14
  go_wp2_with fail
  obtain ⟨W1, hW⟩ : ∃ W, W = ((w.alloc (.cells #[.slice a0 zs.length cap0, .slice b0 ys.length cap1] 45)).alloc (.cells #[.int .i64 c, .int .i64 s, .int .i64 h] 30)) := ⟨_, rfl⟩
  have hb : Below w.heap.size w W1 := by rw [hW]; exact (by repeat (first | exact Below.refl _ _ | (refine Below.alloc ?_ (by simp <;> omega) _) | (refine Below.setCell ?_ (by simp <;> omega) _) | (refine Below.drew ?_) | (refine bel_drewN ?_ _)))
  have bX : Bk W1 (w.heap.size) #[.slice a0 zs.length cap0, .slice b0 ys.length cap1] 45 := by rw [hW]; exact ((Bk.new' (by simp)).alloc _)
  have bD : Bk W1 (w.heap.size + 1) #[.int .i64 c, .int .i64 s, .int .i64 h] 30 := by rw [hW]; exact (Bk.new' (by simp))
  replace HP := Lib.hid (HP.out.on hb)
  have HB := Lib.hid hb
  rw [← hW]
  clear hW hb
  have bX_0 := bX.cell 0 rfl
  have bX_1 := bX.cell 1 rfl
  have bX_l := bX.lt
  have bD_0 := bD.cell 0 rfl
  have bD_1 := bD.cell 1 rfl
  have bD_2 := bD.cell 2 rfl
  have bD_l := bD.lt
  refine (szp_any _ _ _ _ _ _ _ hm hn).mono ?_
  rw [HQ.out]
  rintro e w2 ⟨rfl, hb⟩
  replace bX := bX.on hb
  replace bD := bD.on hb
  replace HP := Lib.hid (HP.out.on hb)
  replace HB := Lib.hid (bel_end HB.out hb)
  clear hb
  clear bX_0 bX_1 bX_l bD_0 bD_1 bD_2 bD_l
  go_upto_region 5 with fail
  go_cut [10, 11] (fun s10 s11 wx => ∃ (a' : Option Addr) (c' : Nat), s10 = .slice a' LL.length c' ∧ s11 = .int .i64 qq ∧ OwnI wx w2.heap.size wx.heap.size a' c' LL ∧ Below w2.heap.size w2 wx)
  case first =>
    have HW : Hid (Below w2.heap.size w2 w2) := Lib.hid (Below.refl _ _)
    obtain ⟨S, hSd⟩ : ∃ S : World → Prop, ∀ w', S w' ↔ (w'.cell? ⟨w.heap.size, 0, none⟩ = some (.slice a0 zs.length cap0) ∧ w'.cell? ⟨w.heap.size, 1, none⟩ = some (.slice b0 ys.length cap1) ∧ w'.cell? ⟨w.heap.size + 1, 0, none⟩ = some (.int .i64 c) ∧ w'.cell? ⟨w.heap.size + 1, 1, none⟩ = some (.int .i64 s) ∧ w'.cell? ⟨w.heap.size + 1, 2, none⟩ = some (.int .i64 h)) := ⟨_, fun _ => Iff.rfl⟩
    have HSp : Hid (∀ w' : World, Bk w' (w.heap.size) #[.slice a0 zs.length cap0, .slice b0 ys.length cap1] 45 → Bk w' (w.heap.size + 1) #[.int .i64 c, .int .i64 s, .int .i64 h] 30 → S w') := Lib.hid (fun w' bX bD => (hSd w').2 ⟨bX.cell 0 rfl, bX.cell 1 rfl, bD.cell 0 rfl, bD.cell 1 rfl, bD.cell 2 rfl⟩)
    have HSd := Lib.hid hSd
    clear hSd
    refine wp_region_held_drew (S := S) (by kernel_rfl) ?_ (fun hH => ?_)
    · exact (HSp.out _ bX bD : S (World.drew w2))
    clear hH
    generalize hX : World.drew w2 = V0
    replace bX : Bk V0 (w.heap.size) #[.slice a0 zs.length cap0, .slice b0 ys.length cap1] 45 := by rw [← hX]; exact bX
    replace bD : Bk V0 (w.heap.size + 1) #[.int .i64 c, .int .i64 s, .int .i64 h] 30 := by rw [← hX]; exact bD
    have hb : Below w2.heap.size w2 V0 := by rw [← hX]; exact (Below.refl _ _).drew
    clear hX
    try replace HR := Lib.hid (HR.out.on hb)
    try replace HA := Lib.hid (HA.out.on hb)
    replace HW := Lib.hid (bel_end HW.out hb)
    clear hb
    have hS := HSp.out _ bX bD
    refine wpAnyH_take (i := 0) (oi := { dst := some 26, op := Go.Op.load 45 (Go.Operand.tmp 4), type := 45, pos := "exact.go:2876", after := #[], guard := none }) (v := ?_) rfl (by kernel_rfl) (by kernel_rfl) (by kernel_rfl) (fun _ _ _ h => h) (Or.inl ⟨by rfl, ?_⟩) hS ?_
    rotate_left
    · (intro w hSw; have hSw := (HSd.out w).1 hSw; go_split_ands; go_simp) <;> with_reducible rfl
    clear hS
    try simp only [Act.put, List.setIfInBounds_toArray, List.set_cons_zero, List.set_cons_succ]
    have hS := HSp.out _ bX bD
    refine wpAnyH_take (i := 2) (oi := { dst := some 28, op := Go.Op.move (Go.Operand.tmp 1), type := 2, pos := "exact.go:2876", after := #[], guard := none }) (v := ?_) rfl (by kernel_rfl) (by kernel_rfl) (by kernel_rfl) (fun _ _ _ h => h) (Or.inl ⟨by rfl, ?_⟩) hS ?_
    rotate_left
    · (intro w hSw; have hSw := (HSd.out w).1 hSw; go_split_ands; go_simp) <;> with_reducible rfl
    clear hS
    try simp only [Act.put, List.setIfInBounds_toArray, List.set_cons_zero, List.set_cons_succ]
    have hS := HSp.out _ bX bD
    refine wpAnyH_take (i := 3) (oi := { dst := some 29, op := Go.Op.load 30 (Go.Operand.tmp 6), type := 30, pos := "exact.go:2876", after := #[], guard := none }) (v := ?_) rfl (by kernel_rfl) (by kernel_rfl) (by kernel_rfl) (fun _ _ _ h => h) (Or.inl ⟨by rfl, ?_⟩) hS ?_
    rotate_left
    · (intro w hSw; have hSw := (HSd.out w).1 hSw; go_split_ands; go_simp) <;> with_reducible rfl
    clear hS
    try simp only [Act.put, List.setIfInBounds_toArray, List.set_cons_zero, List.set_cons_succ]
    have hS := HSp.out _ bX bD
    refine wpAnyH_take (i := 5) (oi := { dst := some 31, op := Go.Op.move (Go.Operand.tmp 3), type := 2, pos := "exact.go:2876", after := #[], guard := none }) (v := ?_) rfl (by kernel_rfl) (by kernel_rfl) (by kernel_rfl) (fun _ _ _ h => h) (Or.inl ⟨by rfl, ?_⟩) hS ?_
    rotate_left
    · (intro w hSw; have hSw := (HSd.out w).1 hSw; go_split_ands; go_simp) <;> with_reducible rfl
    clear hS
    try simp only [Act.put, List.setIfInBounds_toArray, List.set_cons_zero, List.set_cons_succ]
    refine wpAnyH_ready (rs := [1]) (by kernel_rfl) (by simp) ?_
    refine AllReadyH.cons (o := { dst := some 27, op := Go.Op.call { callee := Go.Callee.value (Go.Operand.func 34), args := #[Go.Operand.tmp 26], argTypes := #[45] }, type := 51, pos := "exact.go:2876", after := #[{ on := 0, ground := Go.Ground.data }], guard := none }) rfl (fun Kn hK => ?_) AllReadyH.nil
    first | go_at_call 34 | (go_simp; go_at_call 34)
    (refine Calls.mono (top_any _ _ _ _ _ zs ys (HP.out.on HW.out).prof) ?_)
    rintro e V1 ⟨g1, g2, rfl, hg1, hg2, hr1, hr2, hb⟩
    have HR := Lib.hid (Prof.of_rows hr1 hr2 lz ly)
    clear hr1 hr2
    try dsimp only
    try simp only [Act.put, List.setIfInBounds_toArray, List.set_cons_zero, List.set_cons_succ]
    replace bX := bX.on hb
    replace bD := bD.on hb
    try replace HR := Lib.hid (HR.out.on hb)
    try replace HA := Lib.hid (HA.out.on hb)
    replace HW := Lib.hid (bel_end HW.out hb)
    clear hb
    refine hK.out _ _ (HSp.out _ bX bD) (fun _ => ?_)
    clear hK Kn
    refine wpAnyH_ready (rs := [4]) (by kernel_rfl) (by simp) ?_
    refine AllReadyH.cons (o := { dst := some 30, op := Go.Op.call { callee := Go.Callee.value (Go.Operand.func 25), args := #[Go.Operand.tmp 29], argTypes := #[30] }, type := 32, pos := "exact.go:2876", after := #[{ on := 3, ground := Go.Ground.data }, { on := 1, ground := Go.Ground.chain }], guard := none }) rfl (fun Kn hK => ?_) AllReadyH.nil
    first | go_at_call 25 | (go_simp; go_at_call 25)
    refine (tod_any _ _ _ _).mono ?_
    rintro e V2 ⟨rfl, hb⟩
    try dsimp only
    try simp only [Act.put, List.setIfInBounds_toArray, List.set_cons_zero, List.set_cons_succ]
    replace bX := bX.on hb
    replace bD := bD.on hb
    try replace HR := Lib.hid (HR.out.on hb)
    try replace HA := Lib.hid (HA.out.on hb)
    replace HW := Lib.hid (bel_end HW.out hb)
    clear hb
    refine hK.out _ _ (HSp.out _ bX bD) (fun _ => ?_)
    clear hK Kn
    refine wpAnyH_ready (rs := [6]) (by kernel_rfl) (by simp) ?_
    refine AllReadyH.cons (o := { dst := some 32, op := Go.Op.call { callee := Go.Callee.value (Go.Operand.func 44), args := #[Go.Operand.tmp 27, Go.Operand.tmp 28, Go.Operand.tmp 30, Go.Operand.tmp 31], argTypes := #[51, 2, 32, 2] }, type := 65, pos := "exact.go:2876", after := #[{ on := 1, ground := Go.Ground.data }, { on := 2, ground := Go.Ground.data }, { on := 4, ground := Go.Ground.data }, { on := 5, ground := Go.Ground.data }, { on := 4, ground := Go.Ground.chain }], guard := none }) rfl (fun Kn hK => ?_) AllReadyH.nil
    first | go_at_call 44 | (go_simp; go_at_call 44)
    (with_reducible refine Calls.mono (S1.out _ _ _ _ _ (HR.out)) ?_)
    rintro e V3 ⟨ra, rc, rfl, hs, hb⟩
    have HA := Lib.hid (hs.less (HW.out.size))
    clear hs
    try dsimp only
    try simp only [Act.put, List.setIfInBounds_toArray, List.set_cons_zero, List.set_cons_succ]
    replace bX := bX.on hb
    replace bD := bD.on hb
    try replace HR := Lib.hid (HR.out.on hb)
    try replace HA := Lib.hid (HA.out.on hb)
    replace HW := Lib.hid (bel_end HW.out hb)
    clear hb
    refine hK.out _ _ (HSp.out _ bX bD) (fun _ => ?_)
    clear hK Kn
    have hS := HSp.out _ bX bD
    refine wpAnyH_take (i := 7) (oi := { dst := some 25, op := Go.Op.move (Go.Operand.tmp 32), type := 65, pos := "exact.go:2876", after := #[{ on := 6, ground := Go.Ground.data }], guard := none }) (v := ?_) rfl (by kernel_rfl) (by kernel_rfl) (by kernel_rfl) (fun _ _ _ h => h) (Or.inl ⟨by rfl, ?_⟩) hS ?_
    rotate_left
    · (intro w hSw; have hSw := (HSd.out w).1 hSw; go_split_ands; go_simp) <;> with_reducible rfl
    clear hS
    try simp only [Act.put, List.setIfInBounds_toArray, List.set_cons_zero, List.set_cons_succ]
    have hS := HSp.out _ bX bD
    refine wpAnyH_take (i := 8) (oi := { dst := some 33, op := Go.Op.extract (Go.Operand.tmp 25) 0, type := 64, pos := "exact.go:2876", after := #[{ on := 7, ground := Go.Ground.data }], guard := none }) (v := ?_) rfl (by kernel_rfl) (by kernel_rfl) (by kernel_rfl) (fun _ _ _ h => h) (Or.inl ⟨by rfl, ?_⟩) hS ?_
    rotate_left
    · (intro w hSw; have hSw := (HSd.out w).1 hSw; go_split_ands; go_simp) <;> with_reducible rfl
    clear hS
    try simp only [Act.put, List.setIfInBounds_toArray, List.set_cons_zero, List.set_cons_succ]
    have hS := HSp.out _ bX bD
    refine wpAnyH_take (i := 9) (oi := { dst := some 34, op := Go.Op.extract (Go.Operand.tmp 25) 1, type := 2, pos := "exact.go:2876", after := #[{ on := 7, ground := Go.Ground.data }, { on := 10, ground := Go.Ground.gcOnly Go.Departure.lateStores }], guard := none }) (v := ?_) rfl (by kernel_rfl) (by kernel_rfl) (by kernel_rfl) (fun _ _ _ h => h) (Or.inl ⟨by rfl, ?_⟩) hS ?_
    rotate_left
    · (intro w hSw; have hSw := (HSd.out w).1 hSw; go_split_ands; go_simp) <;> with_reducible rfl
    clear hS
    try simp only [Act.put, List.setIfInBounds_toArray, List.set_cons_zero, List.set_cons_succ]
    have hS := HSp.out _ bX bD
    refine wpAnyH_take (i := 10) (oi := { dst := some 10, op := Go.Op.assign (Go.Operand.tmp 33), type := 64, pos := "exact.go:2876", after := #[{ on := 8, ground := Go.Ground.data }, { on := 6, ground := Go.Ground.chain }, { on := 0, ground := Go.Ground.phase }, { on := 1, ground := Go.Ground.phase }, { on := 2, ground := Go.Ground.phase }, { on := 3, ground := Go.Ground.phase }, { on := 4, ground := Go.Ground.phase }, { on := 5, ground := Go.Ground.phase }, { on := 6, ground := Go.Ground.phase }, { on := 7, ground := Go.Ground.phase }, { on := 8, ground := Go.Ground.phase }, { on := 9, ground := Go.Ground.textOnly Go.Departure.lateStores }], guard := none }) (v := ?_) rfl (by kernel_rfl) (by kernel_rfl) (by kernel_rfl) (fun _ _ _ h => h) (Or.inl ⟨by rfl, ?_⟩) hS ?_
    rotate_left
    · (intro w hSw; have hSw := (HSd.out w).1 hSw; go_split_ands; go_simp) <;> with_reducible rfl
    clear hS
    try simp only [Act.put, List.setIfInBounds_toArray, List.set_cons_zero, List.set_cons_succ]
    have hS := HSp.out _ bX bD
    refine wpAnyH_take (i := 11) (oi := { dst := some 11, op := Go.Op.assign (Go.Operand.tmp 34), type := 2, pos := "exact.go:2876", after := #[{ on := 9, ground := Go.Ground.data }, { on := 10, ground := Go.Ground.chain }, { on := 0, ground := Go.Ground.phase }, { on := 1, ground := Go.Ground.phase }, { on := 2, ground := Go.Ground.phase }, { on := 3, ground := Go.Ground.phase }, { on := 4, ground := Go.Ground.phase }, { on := 5, ground := Go.Ground.phase }, { on := 6, ground := Go.Ground.phase }, { on := 7, ground := Go.Ground.phase }, { on := 8, ground := Go.Ground.phase }, { on := 9, ground := Go.Ground.phase }, { on := 10, ground := Go.Ground.phase }], guard := none }) (v := ?_) rfl (by kernel_rfl) (by kernel_rfl) (by kernel_rfl) (fun _ _ _ h => h) (Or.inl ⟨by rfl, ?_⟩) hS ?_
    rotate_left
    · (intro w hSw; have hSw := (HSd.out w).1 hSw; go_split_ands; go_simp) <;> with_reducible rfl
    clear hS
    try simp only [Act.put, List.setIfInBounds_toArray, List.set_cons_zero, List.set_cons_succ]
    refine wpAnyH_done (by kernel_rfl) ?_ _
    go_wp2_with fail
    go_meet
    exact ⟨ra, rc, rfl, rfl, HA.out.grow HA.out.up (Nat.le_refl _), HW.out⟩
  case rest =>
    obtain ⟨sa, sc, rfl, rfl, hs, hb⟩ := hcut
    have q_s := hb.size
    obtain ⟨w4, hwc⟩ : ∃ X, X = wc := ⟨_, rfl⟩
    rw [← hwc] at hs hb q_s ⊢
    clear hwc
    replace bX := bX.on hb
    replace bD := bD.on hb
    replace HP := Lib.hid (HP.out.on hb)
    replace HB := Lib.hid (bel_end HB.out hb)
    have HS := Lib.hid (IvsL.of hs.ivs)
    clear hs hb
    have bX_0 := bX.cell 0 rfl
    have bX_1 := bX.cell 1 rfl
    have bX_l := bX.lt
    have bD_0 := bD.cell 0 rfl
    have bD_1 := bD.cell 1 rfl
    have bD_2 := bD.cell 2 rfl
    have bD_l := bD.lt
    go_wp2_with fail
    have p1 := bX.lt
    have p2 := bD.lt
    have p3 := HS.out.le
    have p4 := HB.out.size
    refine (top_any _ _ _ _ _ zs ys HP.out.prof).mono ?_
    rintro e w5 ⟨g3, g4, rfl, hg3, hg4, hr1, hr2, hb⟩
    replace bX := bX.on hb
    replace bD := bD.on hb
    replace HP := Lib.hid (HP.out.on hb)
    replace HS := Lib.hid (HS.out.on hb)
    replace HB := Lib.hid (bel_end HB.out hb)
    have q1 := hb.size
    have HX := Lib.hid (OwnP.new2 hg3 hg4 hr1 hr2 lz ly)
    clear hr1 hr2 hg3 hg4
    clear hb
    clear bX_0 bX_1 bX_l bD_0 bD_1 bD_2 bD_l
    go_upto_region 7 with fail
    obtain ⟨W6, hW⟩ : ∃ W, W = (w5.alloc (.cells #[.slice (some ⟨g3, 0, none⟩) zs.length zs.length, .slice (some ⟨g4, 0, none⟩) ys.length ys.length] 51)) := ⟨_, rfl⟩
    have hb : Below w5.heap.size w5 W6 := by rw [hW]; exact (by repeat (first | exact Below.refl _ _ | (refine Below.alloc ?_ (by simp <;> omega) _) | (refine Below.setCell ?_ (by simp <;> omega) _) | (refine Below.drew ?_) | (refine bel_drewN ?_ _)))
    have bY : Bk W6 (w5.heap.size) #[.slice (some ⟨g3, 0, none⟩) zs.length zs.length, .slice (some ⟨g4, 0, none⟩) ys.length ys.length] 51 := by rw [hW]; exact (Bk.new' (by simp))
    replace bX := bX.on hb
    replace bD := bD.on hb
    replace HP := Lib.hid (HP.out.on hb)
    replace HS := Lib.hid (HS.out.on hb)
    replace HX := Lib.hid (HX.out.on hb)
    replace HB := Lib.hid (bel_end HB.out hb)
    rw [← hW]
    clear hW hb
    have p5 := bY.lt
    have p6 := HX.out.up
    have p7 := HS.out.le
    have p8 := HB.out.size
    go_upto_region 7 with fail
    go_cut [13, 14] (fun s13 s14 wx => ∃ (a' : Option Addr) (c' : Nat), s13 = .slice a' LL.length c' ∧ s14 = .int .i64 qq ∧ OwnI wx W6.heap.size wx.heap.size a' c' LL ∧ Below W6.heap.size W6 wx)
    case first =>
      have HW : Hid (Below W6.heap.size W6 W6) := Lib.hid (Below.refl _ _)
      obtain ⟨S, hSd⟩ : ∃ S : World → Prop, ∀ w', S w' ↔ (w'.cell? ⟨w5.heap.size, 0, none⟩ = some (.slice (some ⟨g3, 0, none⟩) zs.length zs.length) ∧ w'.cell? ⟨w5.heap.size, 1, none⟩ = some (.slice (some ⟨g4, 0, none⟩) ys.length ys.length) ∧ w'.cell? ⟨w.heap.size + 1, 0, none⟩ = some (.int .i64 c) ∧ w'.cell? ⟨w.heap.size + 1, 1, none⟩ = some (.int .i64 s) ∧ w'.cell? ⟨w.heap.size + 1, 2, none⟩ = some (.int .i64 h)) := ⟨_, fun _ => Iff.rfl⟩
      have HSp : Hid (∀ w' : World, Bk w' (w5.heap.size) #[.slice (some ⟨g3, 0, none⟩) zs.length zs.length, .slice (some ⟨g4, 0, none⟩) ys.length ys.length] 51 → Bk w' (w.heap.size + 1) #[.int .i64 c, .int .i64 s, .int .i64 h] 30 → S w') := Lib.hid (fun w' bY bD => (hSd w').2 ⟨bY.cell 0 rfl, bY.cell 1 rfl, bD.cell 0 rfl, bD.cell 1 rfl, bD.cell 2 rfl⟩)
      have HSd := Lib.hid hSd
      clear hSd
      refine wp_region_held_drew (S := S) (by kernel_rfl) ?_ (fun hH => ?_)
      · exact (HSp.out _ bY bD : S (World.drew W6))
      clear hH
      generalize hX : World.drew W6 = V0
      replace bY : Bk V0 (w5.heap.size) #[.slice (some ⟨g3, 0, none⟩) zs.length zs.length, .slice (some ⟨g4, 0, none⟩) ys.length ys.length] 51 := by rw [← hX]; exact bY
      replace bD : Bk V0 (w.heap.size + 1) #[.int .i64 c, .int .i64 s, .int .i64 h] 30 := by rw [← hX]; exact bD
      have hb : Below W6.heap.size W6 V0 := by rw [← hX]; exact (Below.refl _ _).drew
      clear hX
      try replace HR := Lib.hid (HR.out.on hb)
      try replace HA := Lib.hid (HA.out.on hb)
      replace HW := Lib.hid (bel_end HW.out hb)
      clear hb
      have hS := HSp.out _ bY bD
      refine wpAnyH_take (i := 0) (oi := { dst := some 38, op := Go.Op.load 51 (Go.Operand.tmp 12), type := 51, pos := "exact.go:2878", after := #[], guard := none }) (v := ?_) rfl (by kernel_rfl) (by kernel_rfl) (by kernel_rfl) (fun _ _ _ h => h) (Or.inl ⟨by rfl, ?_⟩) hS ?_
      rotate_left
      · (intro w hSw; have hSw := (HSd.out w).1 hSw; go_split_ands; go_simp) <;> with_reducible rfl
      clear hS
      try simp only [Act.put, List.setIfInBounds_toArray, List.set_cons_zero, List.set_cons_succ]
      have hS := HSp.out _ bY bD
      refine wpAnyH_take (i := 1) (oi := { dst := some 39, op := Go.Op.move (Go.Operand.tmp 1), type := 2, pos := "exact.go:2878", after := #[], guard := none }) (v := ?_) rfl (by kernel_rfl) (by kernel_rfl) (by kernel_rfl) (fun _ _ _ h => h) (Or.inl ⟨by rfl, ?_⟩) hS ?_
      rotate_left
      · (intro w hSw; have hSw := (HSd.out w).1 hSw; go_split_ands; go_simp) <;> with_reducible rfl
      clear hS
      try simp only [Act.put, List.setIfInBounds_toArray, List.set_cons_zero, List.set_cons_succ]
      have hS := HSp.out _ bY bD
      refine wpAnyH_take (i := 2) (oi := { dst := some 40, op := Go.Op.load 30 (Go.Operand.tmp 6), type := 30, pos := "exact.go:2878", after := #[], guard := none }) (v := ?_) rfl (by kernel_rfl) (by kernel_rfl) (by kernel_rfl) (fun _ _ _ h => h) (Or.inl ⟨by rfl, ?_⟩) hS ?_
      rotate_left
      · (intro w hSw; have hSw := (HSd.out w).1 hSw; go_split_ands; go_simp) <;> with_reducible rfl
      clear hS
      try simp only [Act.put, List.setIfInBounds_toArray, List.set_cons_zero, List.set_cons_succ]
      have hS := HSp.out _ bY bD
      refine wpAnyH_take (i := 4) (oi := { dst := some 42, op := Go.Op.move (Go.Operand.tmp 3), type := 2, pos := "exact.go:2878", after := #[], guard := none }) (v := ?_) rfl (by kernel_rfl) (by kernel_rfl) (by kernel_rfl) (fun _ _ _ h => h) (Or.inl ⟨by rfl, ?_⟩) hS ?_
      rotate_left
      · (intro w hSw; have hSw := (HSd.out w).1 hSw; go_split_ands; go_simp) <;> with_reducible rfl
      clear hS
      try simp only [Act.put, List.setIfInBounds_toArray, List.set_cons_zero, List.set_cons_succ]
      refine wpAnyH_ready (rs := [3]) (by kernel_rfl) (by simp) ?_
      refine AllReadyH.cons (o := { dst := some 41, op := Go.Op.call { callee := Go.Callee.value (Go.Operand.func 25), args := #[Go.Operand.tmp 40], argTypes := #[30] }, type := 32, pos := "exact.go:2878", after := #[{ on := 2, ground := Go.Ground.data }], guard := none }) rfl (fun Kn hK => ?_) AllReadyH.nil
      first | go_at_call 25 | (go_simp; go_at_call 25)
      refine (tod_any _ _ _ _).mono ?_
      rintro e V1 ⟨rfl, hb⟩
      try dsimp only
      try simp only [Act.put, List.setIfInBounds_toArray, List.set_cons_zero, List.set_cons_succ]
      replace bY := bY.on hb
      replace bD := bD.on hb
      try replace HR := Lib.hid (HR.out.on hb)
      try replace HA := Lib.hid (HA.out.on hb)
      replace HW := Lib.hid (bel_end HW.out hb)
      clear hb
      refine hK.out _ _ (HSp.out _ bY bD) (fun _ => ?_)
      clear hK Kn
      refine wpAnyH_ready (rs := [5]) (by kernel_rfl) (by simp) ?_
      refine AllReadyH.cons (o := { dst := some 43, op := Go.Op.call { callee := Go.Callee.value (Go.Operand.func 43), args := #[Go.Operand.tmp 38, Go.Operand.tmp 39, Go.Operand.tmp 41, Go.Operand.tmp 42], argTypes := #[51, 2, 32, 2] }, type := 65, pos := "exact.go:2878", after := #[{ on := 0, ground := Go.Ground.data }, { on := 1, ground := Go.Ground.data }, { on := 3, ground := Go.Ground.data }, { on := 4, ground := Go.Ground.data }, { on := 3, ground := Go.Ground.chain }], guard := none }) rfl (fun Kn hK => ?_) AllReadyH.nil
      first | go_at_call 43 | (go_simp; go_at_call 43)
      (with_reducible refine Calls.mono (S2.out _ _ _ _ _ ((HX.out.on HW.out).prof)) ?_)
      rintro e V2 ⟨ra, rc, rfl, hs, hb⟩
      have HA := Lib.hid (hs.less (HW.out.size))
      clear hs
      try dsimp only
      try simp only [Act.put, List.setIfInBounds_toArray, List.set_cons_zero, List.set_cons_succ]
      replace bY := bY.on hb
      replace bD := bD.on hb
      try replace HR := Lib.hid (HR.out.on hb)
      try replace HA := Lib.hid (HA.out.on hb)
      replace HW := Lib.hid (bel_end HW.out hb)
      clear hb
      refine hK.out _ _ (HSp.out _ bY bD) (fun _ => ?_)
      clear hK Kn
      have hS := HSp.out _ bY bD
      refine wpAnyH_take (i := 6) (oi := { dst := some 37, op := Go.Op.move (Go.Operand.tmp 43), type := 65, pos := "exact.go:2878", after := #[{ on := 5, ground := Go.Ground.data }], guard := none }) (v := ?_) rfl (by kernel_rfl) (by kernel_rfl) (by kernel_rfl) (fun _ _ _ h => h) (Or.inl ⟨by rfl, ?_⟩) hS ?_
      rotate_left
      · (intro w hSw; have hSw := (HSd.out w).1 hSw; go_split_ands; go_simp) <;> with_reducible rfl
      clear hS
      try simp only [Act.put, List.setIfInBounds_toArray, List.set_cons_zero, List.set_cons_succ]
      have hS := HSp.out _ bY bD
      refine wpAnyH_take (i := 7) (oi := { dst := some 44, op := Go.Op.extract (Go.Operand.tmp 37) 0, type := 64, pos := "exact.go:2878", after := #[{ on := 6, ground := Go.Ground.data }], guard := none }) (v := ?_) rfl (by kernel_rfl) (by kernel_rfl) (by kernel_rfl) (fun _ _ _ h => h) (Or.inl ⟨by rfl, ?_⟩) hS ?_
      rotate_left
      · (intro w hSw; have hSw := (HSd.out w).1 hSw; go_split_ands; go_simp) <;> with_reducible rfl
      clear hS
      try simp only [Act.put, List.setIfInBounds_toArray, List.set_cons_zero, List.set_cons_succ]
      have hS := HSp.out _ bY bD
      refine wpAnyH_take (i := 8) (oi := { dst := some 45, op := Go.Op.extract (Go.Operand.tmp 37) 1, type := 2, pos := "exact.go:2878", after := #[{ on := 6, ground := Go.Ground.data }, { on := 9, ground := Go.Ground.gcOnly Go.Departure.lateStores }], guard := none }) (v := ?_) rfl (by kernel_rfl) (by kernel_rfl) (by kernel_rfl) (fun _ _ _ h => h) (Or.inl ⟨by rfl, ?_⟩) hS ?_
      rotate_left
      · (intro w hSw; have hSw := (HSd.out w).1 hSw; go_split_ands; go_simp) <;> with_reducible rfl
      clear hS
      try simp only [Act.put, List.setIfInBounds_toArray, List.set_cons_zero, List.set_cons_succ]
      have hS := HSp.out _ bY bD
      refine wpAnyH_take (i := 9) (oi := { dst := some 13, op := Go.Op.assign (Go.Operand.tmp 44), type := 64, pos := "exact.go:2878", after := #[{ on := 7, ground := Go.Ground.data }, { on := 5, ground := Go.Ground.chain }, { on := 0, ground := Go.Ground.phase }, { on := 1, ground := Go.Ground.phase }, { on := 2, ground := Go.Ground.phase }, { on := 3, ground := Go.Ground.phase }, { on := 4, ground := Go.Ground.phase }, { on := 5, ground := Go.Ground.phase }, { on := 6, ground := Go.Ground.phase }, { on := 7, ground := Go.Ground.phase }, { on := 8, ground := Go.Ground.textOnly Go.Departure.lateStores }], guard := none }) (v := ?_) rfl (by kernel_rfl) (by kernel_rfl) (by kernel_rfl) (fun _ _ _ h => h) (Or.inl ⟨by rfl, ?_⟩) hS ?_
      rotate_left
      · (intro w hSw; have hSw := (HSd.out w).1 hSw; go_split_ands; go_simp) <;> with_reducible rfl
      clear hS
      try simp only [Act.put, List.setIfInBounds_toArray, List.set_cons_zero, List.set_cons_succ]
      have hS := HSp.out _ bY bD
      refine wpAnyH_take (i := 10) (oi := { dst := some 14, op := Go.Op.assign (Go.Operand.tmp 45), type := 2, pos := "exact.go:2878", after := #[{ on := 8, ground := Go.Ground.data }, { on := 9, ground := Go.Ground.chain }, { on := 0, ground := Go.Ground.phase }, { on := 1, ground := Go.Ground.phase }, { on := 2, ground := Go.Ground.phase }, { on := 3, ground := Go.Ground.phase }, { on := 4, ground := Go.Ground.phase }, { on := 5, ground := Go.Ground.phase }, { on := 6, ground := Go.Ground.phase }, { on := 7, ground := Go.Ground.phase }, { on := 8, ground := Go.Ground.phase }, { on := 9, ground := Go.Ground.phase }], guard := none }) (v := ?_) rfl (by kernel_rfl) (by kernel_rfl) (by kernel_rfl) (fun _ _ _ h => h) (Or.inl ⟨by rfl, ?_⟩) hS ?_
      rotate_left
      · (intro w hSw; have hSw := (HSd.out w).1 hSw; go_split_ands; go_simp) <;> with_reducible rfl
      clear hS
      try simp only [Act.put, List.setIfInBounds_toArray, List.set_cons_zero, List.set_cons_succ]
      refine wpAnyH_done (by kernel_rfl) ?_ _
      go_wp2_with fail
      go_meet
      exact ⟨ra, rc, rfl, rfl, HA.out.grow HA.out.up (Nat.le_refl _), HW.out⟩
    case rest =>
      obtain ⟨ga, gc, rfl, rfl, hs, hb⟩ := hcut
      have q_g := hb.size
      obtain ⟨w7, hwc⟩ : ∃ X, X = wc := ⟨_, rfl⟩
      rw [← hwc] at hs hb q_g ⊢
      clear hwc
      replace bX := bX.on hb
      replace bD := bD.on hb
      replace bY := bY.on hb
      replace HP := Lib.hid (HP.out.on hb)
      replace HS := Lib.hid (HS.out.on hb)
      replace HX := Lib.hid (HX.out.on hb)
      replace HB := Lib.hid (bel_end HB.out hb)
      have HG := Lib.hid hs
      clear hs hb
      have p9 := HX.out.up
      have bX_0 := bX.cell 0 rfl
      have bX_1 := bX.cell 1 rfl
      have bX_l := bX.lt
      have bD_0 := bD.cell 0 rfl
      have bD_1 := bD.cell 1 rfl
      have bD_2 := bD.cell 2 rfl
      have bD_l := bD.lt
      have bY_0 := bY.cell 0 rfl
      have bY_1 := bY.cell 1 rfl
      have bY_l := bY.lt
      go_wp2_with fail
      refine (eqs_any _ _ _ _ _ _ LL (by omega) (Nat.le_refl _) HG.out.ivs HS.out.ivs).mono ?_
      rintro e w8 ⟨rfl, hb⟩
      replace bX := bX.on hb
      replace bD := bD.on hb
      replace bY := bY.on hb
      replace HP := Lib.hid (HP.out.on hb)
      replace HS := Lib.hid (HS.out.on hb)
      replace HX := Lib.hid (HX.out.on hb)
      replace HG := Lib.hid (HG.out.on hb)
      replace HB := Lib.hid (bel_end HB.out hb)
      clear hb
      clear bX_0 bX_1 bX_l bD_0 bD_1 bD_2 bD_l bY_0 bY_1 bY_l
      have bX_0 := bX.cell 0 rfl
      have bX_1 := bX.cell 1 rfl
      have bX_l := bX.lt
      have bD_0 := bD.cell 0 rfl
      have bD_1 := bD.cell 1 rfl
      have bD_2 := bD.cell 2 rfl
      have bD_l := bD.lt
      have bY_0 := bY.cell 0 rfl
      have bY_1 := bY.cell 1 rfl
      have bY_l := bY.lt
      clear bX_0 bX_1 bX_l bD_0 bD_1 bD_2 bD_l bY_0 bY_1 bY_l
      go_upto_region 10 with fail
      go_cut [59] (fun s wx => s = .bool false ∧ Below w8.heap.size w8 wx)
      case first =>
        have HW : Hid (Below w8.heap.size w8 w8) := Lib.hid (Below.refl _ _)
        obtain ⟨S, hSd⟩ : ∃ S : World → Prop, ∀ w', S w' ↔ (w'.cell? ⟨w.heap.size, 0, none⟩ = some (.slice a0 zs.length cap0) ∧ w'.cell? ⟨w.heap.size, 1, none⟩ = some (.slice b0 ys.length cap1) ∧ w'.cell? ⟨w5.heap.size, 0, none⟩ = some (.slice (some ⟨g3, 0, none⟩) zs.length zs.length) ∧ w'.cell? ⟨w5.heap.size, 1, none⟩ = some (.slice (some ⟨g4, 0, none⟩) ys.length ys.length)) := ⟨_, fun _ => Iff.rfl⟩
        have HSp : Hid (∀ w' : World, Bk w' (w.heap.size) #[.slice a0 zs.length cap0, .slice b0 ys.length cap1] 45 → Bk w' (w5.heap.size) #[.slice (some ⟨g3, 0, none⟩) zs.length zs.length, .slice (some ⟨g4, 0, none⟩) ys.length ys.length] 51 → S w') := Lib.hid (fun w' bX bY => (hSd w').2 ⟨bX.cell 0 rfl, bX.cell 1 rfl, bY.cell 0 rfl, bY.cell 1 rfl⟩)
        have HSd := Lib.hid hSd
        clear hSd
        refine wp_region_held_drew (S := S) (by kernel_rfl) ?_ (fun hH => ?_)
        · exact (HSp.out _ bX bY : S (World.drew w8))
        clear hH
        generalize hX : World.drew w8 = V0
        replace bX : Bk V0 (w.heap.size) #[.slice a0 zs.length cap0, .slice b0 ys.length cap1] 45 := by rw [← hX]; exact bX
        replace bY : Bk V0 (w5.heap.size) #[.slice (some ⟨g3, 0, none⟩) zs.length zs.length, .slice (some ⟨g4, 0, none⟩) ys.length ys.length] 51 := by rw [← hX]; exact bY
        have hb : Below w8.heap.size w8 V0 := by rw [← hX]; exact (Below.refl _ _).drew
        clear hX
        try replace HR5 := Lib.hid (HR5.out.on hb)
        replace HW := Lib.hid (bel_end HW.out hb)
        clear hb
        have hS := HSp.out _ bX bY
        refine wpAnyH_take (i := 0) (oi := { dst := some 55, op := Go.Op.load 51 (Go.Operand.tmp 12), type := 51, pos := "exact.go:2882", after := #[], guard := none }) (v := ?_) rfl (by kernel_rfl) (by kernel_rfl) (by kernel_rfl) (fun _ _ _ h => h) (Or.inl ⟨by rfl, ?_⟩) hS ?_
        rotate_left
        · (intro w hSw; have hSw := (HSd.out w).1 hSw; go_split_ands; go_simp) <;> with_reducible rfl
        clear hS
        try simp only [Act.put, List.setIfInBounds_toArray, List.set_cons_zero, List.set_cons_succ]
        have hS := HSp.out _ bX bY
        refine wpAnyH_take (i := 1) (oi := { dst := some 56, op := Go.Op.load 45 (Go.Operand.tmp 4), type := 45, pos := "exact.go:2882", after := #[], guard := none }) (v := ?_) rfl (by kernel_rfl) (by kernel_rfl) (by kernel_rfl) (fun _ _ _ h => h) (Or.inl ⟨by rfl, ?_⟩) hS ?_
        rotate_left
        · (intro w hSw; have hSw := (HSd.out w).1 hSw; go_split_ands; go_simp) <;> with_reducible rfl
        clear hS
        try simp only [Act.put, List.setIfInBounds_toArray, List.set_cons_zero, List.set_cons_succ]
        refine wpAnyH_ready (rs := [2]) (by kernel_rfl) (by simp) ?_
        refine AllReadyH.cons (o := { dst := some 57, op := Go.Op.call { callee := Go.Callee.value (Go.Operand.func 34), args := #[Go.Operand.tmp 56], argTypes := #[45] }, type := 51, pos := "exact.go:2882", after := #[{ on := 1, ground := Go.Ground.data }], guard := none }) rfl (fun Kn hK => ?_) AllReadyH.nil
        first | go_at_call 34 | (go_simp; go_at_call 34)
        (refine Calls.mono (top_any _ _ _ _ _ zs ys (HP.out.on HW.out).prof) ?_)
        rintro e V1 ⟨g5, g6, rfl, hg5, hg6, hr1, hr2, hb⟩
        have HR5 := Lib.hid (Prof.of_rows hr1 hr2 lz ly)
        clear hr1 hr2
        try dsimp only
        try simp only [Act.put, List.setIfInBounds_toArray, List.set_cons_zero, List.set_cons_succ]
        replace bX := bX.on hb
        replace bY := bY.on hb
        try replace HR5 := Lib.hid (HR5.out.on hb)
        replace HW := Lib.hid (bel_end HW.out hb)
        clear hb
        refine hK.out _ _ (HSp.out _ bX bY) (fun _ => ?_)
        clear hK Kn
        refine wpAnyH_ready (rs := [3]) (by kernel_rfl) (by simp) ?_
        refine AllReadyH.cons (o := { dst := some 58, op := Go.Op.call { callee := Go.Callee.value (Go.Operand.func 37), args := #[Go.Operand.tmp 55, Go.Operand.tmp 57], argTypes := #[51, 51] }, type := 4, pos := "exact.go:2882", after := #[{ on := 0, ground := Go.Ground.data }, { on := 2, ground := Go.Ground.data }, { on := 2, ground := Go.Ground.chain }], guard := none }) rfl (fun Kn hK => ?_) AllReadyH.nil
        first | go_at_call 37 | (go_simp; go_at_call 37)
        refine (eqp_any _ _ _ _ _ _ _ _ _ zs ys zs ys (HX.out.on HW.out).prof HR5.out).mono ?_
        rw [same_self]
        rintro e V2 ⟨rfl, hb⟩
        try dsimp only
        try simp only [Act.put, List.setIfInBounds_toArray, List.set_cons_zero, List.set_cons_succ]
        replace bX := bX.on hb
        replace bY := bY.on hb
        try replace HR5 := Lib.hid (HR5.out.on hb)
        replace HW := Lib.hid (bel_end HW.out hb)
        clear hb
        refine hK.out _ _ (HSp.out _ bX bY) (fun _ => ?_)
        clear hK Kn
        have hS := HSp.out _ bX bY
        refine wpAnyH_take (i := 4) (oi := { dst := some 59, op := Go.Op.unOp Go.UnOp.not 4 (Go.Operand.tmp 58), type := 4, pos := "exact.go:2882", after := #[{ on := 3, ground := Go.Ground.data }], guard := none }) (v := ?_) rfl (by kernel_rfl) (by kernel_rfl) (by kernel_rfl) (fun _ _ _ h => h) (Or.inl ⟨by rfl, ?_⟩) hS ?_
        rotate_left
        · (intro w hSw; have hSw := (HSd.out w).1 hSw; go_split_ands; go_simp) <;> with_reducible rfl
        clear hS
        try simp only [Act.put, List.setIfInBounds_toArray, List.set_cons_zero, List.set_cons_succ]
        refine wpAnyH_done (by kernel_rfl) ?_ _
        go_wp2_with fail
        go_meet
        exact ⟨rfl, HW.out⟩
      case rest =>
        obtain ⟨rfl, hb⟩ := hcut
        obtain ⟨w9, hwc⟩ : ∃ X, X = wc := ⟨_, rfl⟩
        rw [← hwc] at hb ⊢
        clear hwc
        replace bX := bX.on hb
        replace bD := bD.on hb
        replace bY := bY.on hb
        replace HP := Lib.hid (HP.out.on hb)
        replace HS := Lib.hid (HS.out.on hb)
        replace HX := Lib.hid (HX.out.on hb)
        replace HG := Lib.hid (HG.out.on hb)
        replace HB := Lib.hid (bel_end HB.out hb)
        clear hb
        have bX_0 := bX.cell 0 rfl
        have bX_1 := bX.cell 1 rfl
        have bX_l := bX.lt
        have bD_0 := bD.cell 0 rfl
        have bD_1 := bD.cell 1 rfl
        have bD_2 := bD.cell 2 rfl
        have bD_l := bD.lt
        have bY_0 := bY.cell 0 rfl
        have bY_1 := bY.cell 1 rfl
        have bY_l := bY.lt
        go_wp2_with fail
        clear bX_0 bX_1 bX_l bD_0 bD_1 bD_2 bD_l bY_0 bY_1 bY_l
        have p10 := HX.out.up
        refine (mkp_any _ _ _ _ _ _ _ zs ys 1 HX.out (by omega) (by omega)).mono ?_
        rintro e w10 ⟨rfl, ho, hk⟩
        replace bX := bX.keptP hk (by omega)
        replace bD := bD.keptP hk (by omega)
        replace bY := bY.keptP hk (by omega)
        have hl_HP := HP.out.le
        replace HP := Lib.hid (HP.out.kept hk (by omega) (by omega))
        clear hl_HP
        have hl_HS := HS.out.le
        replace HS := Lib.hid (HS.out.kept hk (by omega) (by omega))
        clear hl_HS
        replace HG := Lib.hid (HG.out.kept hk (by omega))
        replace HB := Lib.hid (HB.out.trans ((hk.below (by omega)).mono (by omega)))
        replace HX := Lib.hid ho
        clear ho hk
        have bX_0 := bX.cell 0 rfl
        have bX_1 := bX.cell 1 rfl
        have bX_l := bX.lt
        have bD_0 := bD.cell 0 rfl
        have bD_1 := bD.cell 1 rfl
        have bD_2 := bD.cell 2 rfl
        have bD_l := bD.lt
        have bY_0 := bY.cell 0 rfl
        have bY_1 := bY.cell 1 rfl
        have bY_l := bY.lt
        go_wp2_with fail
        refine (eqs_any _ _ _ _ _ _ LL (by omega) (Nat.le_refl _) HG.out.ivs HS.out.ivs).mono ?_
        rintro e w11 ⟨rfl, hb⟩
        replace bX := bX.on hb
        replace bD := bD.on hb
        replace bY := bY.on hb
        replace HP := Lib.hid (HP.out.on hb)
        replace HS := Lib.hid (HS.out.on hb)
        replace HX := Lib.hid (HX.out.on hb)
        replace HG := Lib.hid (HG.out.on hb)
        replace HB := Lib.hid (bel_end HB.out hb)
        clear hb
        clear bX_0 bX_1 bX_l bD_0 bD_1 bD_2 bD_l bY_0 bY_1 bY_l
        have bX_0 := bX.cell 0 rfl
        have bX_1 := bX.cell 1 rfl
        have bX_l := bX.lt
        have bD_0 := bD.cell 0 rfl
        have bD_1 := bD.cell 1 rfl
        have bD_2 := bD.cell 2 rfl
        have bD_l := bD.lt
        have bY_0 := bY.cell 0 rfl
        have bY_1 := bY.cell 1 rfl
        have bY_l := bY.lt
        go_wp2_with fail
        clear bX_0 bX_1 bX_l bD_0 bD_1 bD_2 bD_l bY_0 bY_1 bY_l
        have p11 := HG.out.up
        refine (mkI_any _ _ _ _ _ LL 1 HG.out (by omega) (by omega) (by omega)).mono ?_
        rintro e w12 ⟨rfl, ho, hk⟩
        replace bX := bX.keptP hk (by omega)
        replace bD := bD.keptP hk (by omega)
        replace bY := bY.keptP hk (by omega)
        have hl_HP := HP.out.le
        replace HP := Lib.hid (HP.out.kept hk (by omega) (by omega))
        clear hl_HP
        have hl_HS := HS.out.le
        replace HS := Lib.hid (HS.out.kept hk (by omega) (by omega))
        clear hl_HS
        replace HX := Lib.hid (HX.out.kept hk (by omega))
        replace HB := Lib.hid (HB.out.trans ((hk.below (by omega)).mono (by omega)))
        replace HG := Lib.hid ho
        clear ho hk
        have bX_0 := bX.cell 0 rfl
        have bX_1 := bX.cell 1 rfl
        have bX_l := bX.lt
        have bD_0 := bD.cell 0 rfl
        have bD_1 := bD.cell 1 rfl
        have bD_2 := bD.cell 2 rfl
        have bD_l := bD.lt
        have bY_0 := bY.cell 0 rfl
        have bY_1 := bY.cell 1 rfl
        have bY_l := bY.lt
        go_wp2_with fail
        refine (hdI_any _ _ _ _ LL.length 1 HG.out.ivs (by omega) (by omega) (by omega)).mono ?_
        rintro e w_ ⟨rfl, rfl⟩
        clear bX_0 bX_1 bX_l bD_0 bD_1 bD_2 bD_l bY_0 bY_1 bY_l
        have p12 := HG.out.up
        go_upto_region 24 with fail
        go_cut [18, 19] (fun s18 s19 wx => ∃ (a' : Option Addr) (c' : Nat), s18 = .slice a' LL.length c' ∧ s19 = .int .i64 qq ∧ OwnI wx w12.heap.size wx.heap.size a' c' LL ∧ Below w12.heap.size w12 wx)
        case first =>
          have HW : Hid (Below w12.heap.size w12 w12) := Lib.hid (Below.refl _ _)
          obtain ⟨S, hSd⟩ : ∃ S : World → Prop, ∀ w', S w' ↔ (w'.cell? ⟨w.heap.size, 0, none⟩ = some (.slice a0 zs.length cap0) ∧ w'.cell? ⟨w.heap.size, 1, none⟩ = some (.slice b0 ys.length cap1) ∧ w'.cell? ⟨w.heap.size + 1, 0, none⟩ = some (.int .i64 c) ∧ w'.cell? ⟨w.heap.size + 1, 1, none⟩ = some (.int .i64 s) ∧ w'.cell? ⟨w.heap.size + 1, 2, none⟩ = some (.int .i64 h)) := ⟨_, fun _ => Iff.rfl⟩
          have HSp : Hid (∀ w' : World, Bk w' (w.heap.size) #[.slice a0 zs.length cap0, .slice b0 ys.length cap1] 45 → Bk w' (w.heap.size + 1) #[.int .i64 c, .int .i64 s, .int .i64 h] 30 → S w') := Lib.hid (fun w' bX bD => (hSd w').2 ⟨bX.cell 0 rfl, bX.cell 1 rfl, bD.cell 0 rfl, bD.cell 1 rfl, bD.cell 2 rfl⟩)
          have HSd := Lib.hid hSd
          clear hSd
          refine wp_region_held_drew (S := S) (by kernel_rfl) ?_ (fun hH => ?_)
          · exact (HSp.out _ bX bD : S (World.drew w12))
          clear hH
          generalize hX : World.drew w12 = V0
          replace bX : Bk V0 (w.heap.size) #[.slice a0 zs.length cap0, .slice b0 ys.length cap1] 45 := by rw [← hX]; exact bX
          replace bD : Bk V0 (w.heap.size + 1) #[.int .i64 c, .int .i64 s, .int .i64 h] 30 := by rw [← hX]; exact bD
          have hb : Below w12.heap.size w12 V0 := by rw [← hX]; exact (Below.refl _ _).drew
          clear hX
          try replace HR := Lib.hid (HR.out.on hb)
          try replace HA := Lib.hid (HA.out.on hb)
          replace HW := Lib.hid (bel_end HW.out hb)
          clear hb
          have hS := HSp.out _ bX bD
          refine wpAnyH_take (i := 0) (oi := { dst := some 88, op := Go.Op.load 45 (Go.Operand.tmp 4), type := 45, pos := "exact.go:2900", after := #[], guard := none }) (v := ?_) rfl (by kernel_rfl) (by kernel_rfl) (by kernel_rfl) (fun _ _ _ h => h) (Or.inl ⟨by rfl, ?_⟩) hS ?_
          rotate_left
          · (intro w hSw; have hSw := (HSd.out w).1 hSw; go_split_ands; go_simp) <;> with_reducible rfl
          clear hS
          try simp only [Act.put, List.setIfInBounds_toArray, List.set_cons_zero, List.set_cons_succ]
          have hS := HSp.out _ bX bD
          refine wpAnyH_take (i := 2) (oi := { dst := some 90, op := Go.Op.move (Go.Operand.tmp 1), type := 2, pos := "exact.go:2900", after := #[], guard := none }) (v := ?_) rfl (by kernel_rfl) (by kernel_rfl) (by kernel_rfl) (fun _ _ _ h => h) (Or.inl ⟨by rfl, ?_⟩) hS ?_
          rotate_left
          · (intro w hSw; have hSw := (HSd.out w).1 hSw; go_split_ands; go_simp) <;> with_reducible rfl
          clear hS
          try simp only [Act.put, List.setIfInBounds_toArray, List.set_cons_zero, List.set_cons_succ]
          have hS := HSp.out _ bX bD
          refine wpAnyH_take (i := 3) (oi := { dst := some 91, op := Go.Op.load 30 (Go.Operand.tmp 6), type := 30, pos := "exact.go:2900", after := #[], guard := none }) (v := ?_) rfl (by kernel_rfl) (by kernel_rfl) (by kernel_rfl) (fun _ _ _ h => h) (Or.inl ⟨by rfl, ?_⟩) hS ?_
          rotate_left
          · (intro w hSw; have hSw := (HSd.out w).1 hSw; go_split_ands; go_simp) <;> with_reducible rfl
          clear hS
          try simp only [Act.put, List.setIfInBounds_toArray, List.set_cons_zero, List.set_cons_succ]
          have hS := HSp.out _ bX bD
          refine wpAnyH_take (i := 5) (oi := { dst := some 93, op := Go.Op.move (Go.Operand.tmp 3), type := 2, pos := "exact.go:2900", after := #[], guard := none }) (v := ?_) rfl (by kernel_rfl) (by kernel_rfl) (by kernel_rfl) (fun _ _ _ h => h) (Or.inl ⟨by rfl, ?_⟩) hS ?_
          rotate_left
          · (intro w hSw; have hSw := (HSd.out w).1 hSw; go_split_ands; go_simp) <;> with_reducible rfl
          clear hS
          try simp only [Act.put, List.setIfInBounds_toArray, List.set_cons_zero, List.set_cons_succ]
          refine wpAnyH_ready (rs := [1]) (by kernel_rfl) (by simp) ?_
          refine AllReadyH.cons (o := { dst := some 89, op := Go.Op.call { callee := Go.Callee.value (Go.Operand.func 34), args := #[Go.Operand.tmp 88], argTypes := #[45] }, type := 51, pos := "exact.go:2900", after := #[{ on := 0, ground := Go.Ground.data }], guard := none }) rfl (fun Kn hK => ?_) AllReadyH.nil
          first | go_at_call 34 | (go_simp; go_at_call 34)
          (refine Calls.mono (top_any _ _ _ _ _ zs ys (HP.out.on HW.out).prof) ?_)
          rintro e V1 ⟨g1, g2, rfl, hg1, hg2, hr1, hr2, hb⟩
          have HR := Lib.hid (Prof.of_rows hr1 hr2 lz ly)
          clear hr1 hr2
          try dsimp only
          try simp only [Act.put, List.setIfInBounds_toArray, List.set_cons_zero, List.set_cons_succ]
          replace bX := bX.on hb
          replace bD := bD.on hb
          try replace HR := Lib.hid (HR.out.on hb)
          try replace HA := Lib.hid (HA.out.on hb)
          replace HW := Lib.hid (bel_end HW.out hb)
          clear hb
          refine hK.out _ _ (HSp.out _ bX bD) (fun _ => ?_)
          clear hK Kn
          refine wpAnyH_ready (rs := [4]) (by kernel_rfl) (by simp) ?_
          refine AllReadyH.cons (o := { dst := some 92, op := Go.Op.call { callee := Go.Callee.value (Go.Operand.func 25), args := #[Go.Operand.tmp 91], argTypes := #[30] }, type := 32, pos := "exact.go:2900", after := #[{ on := 3, ground := Go.Ground.data }, { on := 1, ground := Go.Ground.chain }], guard := none }) rfl (fun Kn hK => ?_) AllReadyH.nil
          first | go_at_call 25 | (go_simp; go_at_call 25)
          refine (tod_any _ _ _ _).mono ?_
          rintro e V2 ⟨rfl, hb⟩
          try dsimp only
          try simp only [Act.put, List.setIfInBounds_toArray, List.set_cons_zero, List.set_cons_succ]
          replace bX := bX.on hb
          replace bD := bD.on hb
          try replace HR := Lib.hid (HR.out.on hb)
          try replace HA := Lib.hid (HA.out.on hb)
          replace HW := Lib.hid (bel_end HW.out hb)
          clear hb
          refine hK.out _ _ (HSp.out _ bX bD) (fun _ => ?_)
          clear hK Kn
          refine wpAnyH_ready (rs := [6]) (by kernel_rfl) (by simp) ?_
          refine AllReadyH.cons (o := { dst := some 94, op := Go.Op.call { callee := Go.Callee.value (Go.Operand.func 43), args := #[Go.Operand.tmp 89, Go.Operand.tmp 90, Go.Operand.tmp 92, Go.Operand.tmp 93], argTypes := #[51, 2, 32, 2] }, type := 65, pos := "exact.go:2900", after := #[{ on := 1, ground := Go.Ground.data }, { on := 2, ground := Go.Ground.data }, { on := 4, ground := Go.Ground.data }, { on := 5, ground := Go.Ground.data }, { on := 4, ground := Go.Ground.chain }], guard := none }) rfl (fun Kn hK => ?_) AllReadyH.nil
          first | go_at_call 43 | (go_simp; go_at_call 43)
          (with_reducible refine Calls.mono (S2.out _ _ _ _ _ (HR.out)) ?_)
          rintro e V3 ⟨ra, rc, rfl, hs, hb⟩
          have HA := Lib.hid (hs.less (HW.out.size))
          clear hs
          try dsimp only
          try simp only [Act.put, List.setIfInBounds_toArray, List.set_cons_zero, List.set_cons_succ]
          replace bX := bX.on hb
          replace bD := bD.on hb
          try replace HR := Lib.hid (HR.out.on hb)
          try replace HA := Lib.hid (HA.out.on hb)
          replace HW := Lib.hid (bel_end HW.out hb)
          clear hb
          refine hK.out _ _ (HSp.out _ bX bD) (fun _ => ?_)
          clear hK Kn
          have hS := HSp.out _ bX bD
          refine wpAnyH_take (i := 7) (oi := { dst := some 87, op := Go.Op.move (Go.Operand.tmp 94), type := 65, pos := "exact.go:2900", after := #[{ on := 6, ground := Go.Ground.data }], guard := none }) (v := ?_) rfl (by kernel_rfl) (by kernel_rfl) (by kernel_rfl) (fun _ _ _ h => h) (Or.inl ⟨by rfl, ?_⟩) hS ?_
          rotate_left
          · (intro w hSw; have hSw := (HSd.out w).1 hSw; go_split_ands; go_simp) <;> with_reducible rfl
          clear hS
          try simp only [Act.put, List.setIfInBounds_toArray, List.set_cons_zero, List.set_cons_succ]
          have hS := HSp.out _ bX bD
          refine wpAnyH_take (i := 8) (oi := { dst := some 95, op := Go.Op.extract (Go.Operand.tmp 87) 0, type := 64, pos := "exact.go:2900", after := #[{ on := 7, ground := Go.Ground.data }], guard := none }) (v := ?_) rfl (by kernel_rfl) (by kernel_rfl) (by kernel_rfl) (fun _ _ _ h => h) (Or.inl ⟨by rfl, ?_⟩) hS ?_
          rotate_left
          · (intro w hSw; have hSw := (HSd.out w).1 hSw; go_split_ands; go_simp) <;> with_reducible rfl
          clear hS
          try simp only [Act.put, List.setIfInBounds_toArray, List.set_cons_zero, List.set_cons_succ]
          have hS := HSp.out _ bX bD
          refine wpAnyH_take (i := 9) (oi := { dst := some 96, op := Go.Op.extract (Go.Operand.tmp 87) 1, type := 2, pos := "exact.go:2900", after := #[{ on := 7, ground := Go.Ground.data }, { on := 10, ground := Go.Ground.gcOnly Go.Departure.lateStores }], guard := none }) (v := ?_) rfl (by kernel_rfl) (by kernel_rfl) (by kernel_rfl) (fun _ _ _ h => h) (Or.inl ⟨by rfl, ?_⟩) hS ?_
          rotate_left
          · (intro w hSw; have hSw := (HSd.out w).1 hSw; go_split_ands; go_simp) <;> with_reducible rfl
          clear hS
          try simp only [Act.put, List.setIfInBounds_toArray, List.set_cons_zero, List.set_cons_succ]
          have hS := HSp.out _ bX bD
          refine wpAnyH_take (i := 10) (oi := { dst := some 18, op := Go.Op.assign (Go.Operand.tmp 95), type := 64, pos := "exact.go:2900", after := #[{ on := 8, ground := Go.Ground.data }, { on := 6, ground := Go.Ground.chain }, { on := 0, ground := Go.Ground.phase }, { on := 1, ground := Go.Ground.phase }, { on := 2, ground := Go.Ground.phase }, { on := 3, ground := Go.Ground.phase }, { on := 4, ground := Go.Ground.phase }, { on := 5, ground := Go.Ground.phase }, { on := 6, ground := Go.Ground.phase }, { on := 7, ground := Go.Ground.phase }, { on := 8, ground := Go.Ground.phase }, { on := 9, ground := Go.Ground.textOnly Go.Departure.lateStores }], guard := none }) (v := ?_) rfl (by kernel_rfl) (by kernel_rfl) (by kernel_rfl) (fun _ _ _ h => h) (Or.inl ⟨by rfl, ?_⟩) hS ?_
          rotate_left
          · (intro w hSw; have hSw := (HSd.out w).1 hSw; go_split_ands; go_simp) <;> with_reducible rfl
          clear hS
          try simp only [Act.put, List.setIfInBounds_toArray, List.set_cons_zero, List.set_cons_succ]
          have hS := HSp.out _ bX bD
          refine wpAnyH_take (i := 11) (oi := { dst := some 19, op := Go.Op.assign (Go.Operand.tmp 96), type := 2, pos := "exact.go:2900", after := #[{ on := 9, ground := Go.Ground.data }, { on := 10, ground := Go.Ground.chain }, { on := 0, ground := Go.Ground.phase }, { on := 1, ground := Go.Ground.phase }, { on := 2, ground := Go.Ground.phase }, { on := 3, ground := Go.Ground.phase }, { on := 4, ground := Go.Ground.phase }, { on := 5, ground := Go.Ground.phase }, { on := 6, ground := Go.Ground.phase }, { on := 7, ground := Go.Ground.phase }, { on := 8, ground := Go.Ground.phase }, { on := 9, ground := Go.Ground.phase }, { on := 10, ground := Go.Ground.phase }], guard := none }) (v := ?_) rfl (by kernel_rfl) (by kernel_rfl) (by kernel_rfl) (fun _ _ _ h => h) (Or.inl ⟨by rfl, ?_⟩) hS ?_
          rotate_left
          · (intro w hSw; have hSw := (HSd.out w).1 hSw; go_split_ands; go_simp) <;> with_reducible rfl
          clear hS
          try simp only [Act.put, List.setIfInBounds_toArray, List.set_cons_zero, List.set_cons_succ]
          refine wpAnyH_done (by kernel_rfl) ?_ _
          go_wp2_with fail
          go_meet
          exact ⟨ra, rc, rfl, rfl, HA.out.grow HA.out.up (Nat.le_refl _), HW.out⟩
        case rest =>
          obtain ⟨ha, hc, rfl, rfl, hs, hb⟩ := hcut
          have q_h := hb.size
          obtain ⟨w13, hwc⟩ : ∃ X, X = wc := ⟨_, rfl⟩
          rw [← hwc] at hs hb q_h ⊢
          clear hwc
          replace bX := bX.on hb
          replace bD := bD.on hb
          replace bY := bY.on hb
          replace HP := Lib.hid (HP.out.on hb)
          replace HS := Lib.hid (HS.out.on hb)
          replace HX := Lib.hid (HX.out.on hb)
          replace HG := Lib.hid (HG.out.on hb)
          replace HB := Lib.hid (bel_end HB.out hb)
          have HI := Lib.hid hs
          clear hs hb
          have bX_0 := bX.cell 0 rfl
          have bX_1 := bX.cell 1 rfl
          have bX_l := bX.lt
          have bD_0 := bD.cell 0 rfl
          have bD_1 := bD.cell 1 rfl
          have bD_2 := bD.cell 2 rfl
          have bD_l := bD.lt
          have bY_0 := bY.cell 0 rfl
          have bY_1 := bY.cell 1 rfl
          have bY_l := bY.lt
          go_wp2_with fail
          refine (eqs_any _ _ _ _ _ _ LL (by omega) (Nat.le_refl _) HI.out.ivs HS.out.ivs).mono ?_
          rintro e w14 ⟨rfl, hb⟩
          replace bX := bX.on hb
          replace bD := bD.on hb
          replace bY := bY.on hb
          replace HP := Lib.hid (HP.out.on hb)
          replace HS := Lib.hid (HS.out.on hb)
          replace HX := Lib.hid (HX.out.on hb)
          replace HG := Lib.hid (HG.out.on hb)
          replace HI := Lib.hid (HI.out.on hb)
          replace HB := Lib.hid (bel_end HB.out hb)
          clear hb
          clear bX_0 bX_1 bX_l bD_0 bD_1 bD_2 bD_l bY_0 bY_1 bY_l
          have bX_0 := bX.cell 0 rfl
          have bX_1 := bX.cell 1 rfl
          have bX_l := bX.lt
          have bD_0 := bD.cell 0 rfl
          have bD_1 := bD.cell 1 rfl
          have bD_2 := bD.cell 2 rfl
          have bD_l := bD.lt
          have bY_0 := bY.cell 0 rfl
          have bY_1 := bY.cell 1 rfl
          have bY_l := bY.lt
          go_wp2_with fail
          refine (hdI_any _ _ _ _ LL.length 1 HG.out.ivs (by omega) (by omega) (by omega)).mono ?_
          rintro e w_ ⟨rfl, rfl⟩
          clear bX_0 bX_1 bX_l bD_0 bD_1 bD_2 bD_l bY_0 bY_1 bY_l
          go_wp2
          go_ret
          exact ⟨rfl, HB.out⟩
end Go.Proofs.Ytaaklnabomhleaa
