/- The walk of the exact law of TraceRay: it returns true and writes nothing that was there. -/
import Derived.Test.YtaaklnabomhleaaXSt
import Derived.Test.YtaaklnabomhleaaRyZ
import Derived.Deep.RegionHeld3
import Derived.Deep.DeepCutAuto
import Derived.Deep.DrawnRows
import Derived.Deep.RegionWith
import Derived.Outline
import Derived.Handy
namespace Go.Proofs.Ytaaklnabomhleaa
open Go.ChangeShapes Go.WideShapes Go.ChangeAt Go.RowKit Go.Shelf Num
set_option linter.unusedVariables false
set_option linter.unusedSimpArgs false
attribute [local go_sem ↓] Go.wp_at_zero Go.wp_at_succ
theorem ownA_farB {W : World} {lo hi B : Nat} {a : Option Addr} {c : Nat} {L : List Int} {cs : Array Value} {t : TypeId} (h : OwnA W lo hi a c L) (b : Bk W B cs t) (ht : 2 ≠ t) (v0 v1 v2 v3 : Value) : OwnA ((((W.setCell ⟨B, 0, none⟩ v0).setCell ⟨B, 1, none⟩ v1).setCell ⟨B, 2, none⟩ v2).setCell ⟨B, 3, none⟩ v3) lo hi a c L := by
  refine ⟨?_, h.lt, by simpa [World.setCell] using h.up⟩
  refine own_atG h.own (fun g' e => heap_far4 ?_ _ _ _ _)
  rintro rfl
  rcases h.own.2 with ⟨hv, -⟩ | ⟨g, cap, cur, hv, _, hg, _⟩
  · rw [hv] at e; simp [Value.ownBlock] at e
  · rw [hv] at e
    simp only [Value.ownBlock, Option.some.injEq] at e
    subst e
    have := hg.symm.trans b
    simp only [Option.some.injEq, Obj.cells.injEq] at this
    exact ht this.2.1

set_option maxRecDepth 100000 in
set_option maxHeartbeats 16000000 in
theorem ltra (a0 : Option Addr) (len0 cap0 : Nat) (z0 : List Int) (b0 : Option Addr) (len1 cap1 : Nat) (y0 : List Int) (src c s h n : Int) (w : World) (w0 : IsRow .i64 w a0 len0 cap0 z0) (v0 : IsRow .i64 w b0 len1 cap1 y0) (w1 : (Lit.int .i64 src).wf = true) (w3 : (Lit.int .i64 n).wf = true) :
    Calls Try.prog 13 #[.agg #[.slice a0 len0 cap0, .slice b0 len1 cap1], .int .i64 src, .agg #[.int .i64 c, .int .i64 s, .int .i64 h], .int .i64 n] w fun e w' => e = .returned (.bool true) ∧ Below w.heap.size w w' := by
  obtain ⟨hm, hn, e1, e2, hp⟩ := Prof.of_in w0 v0
  clear w0 v0 w1 w3
  obtain ⟨zs, hzs⟩ : ∃ zs, z0.take len0 = zs := ⟨_, rfl⟩
  obtain ⟨ys, hys⟩ : ∃ ys, y0.take len1 = ys := ⟨_, rfl⟩
  rw [hzs] at e1 hp
  rw [hys] at e2 hp
  subst e1 e2
  clear hzs hys
  by_cases hbig : 1048576 < zs.length + ys.length
  · have hz := szP_big hbig
    have HZ := Lib.hid hz
    clear hz hp
    go_enter Try.func13, Try.ntmps13
    go_wp2_with fail
    refine (szp_any _ _ _ _ _ _ _ hm hn).mono ?_
    rw [HZ.out]
    rintro e w1 ⟨rfl, hb⟩
    have HB : Hid (Below w.heap.size w w1) := Lib.hid (bel_end (by repeat (first | exact Below.refl _ _ | (refine Below.alloc ?_ (by simp <;> omega) _) | (refine Below.setCell ?_ (by simp <;> omega) _) | (refine Below.drew ?_) | (refine bel_drewN ?_ _))) hb)
    clear hb
    go_wp2
    go_ret
    exact ⟨rfl, HB.out⟩
  have hz := szP_fit hbig
  have HP := Lib.hid (ProfL.of (hp (by omega)))
  have lz := HP.out.at_.lz
  have ly := HP.out.at_.ly
  clear hp
  obtain ⟨q, hq⟩ : ∃ q, szP zs.length ys.length = q := ⟨_, rfl⟩
  have hq0 : 0 ≤ q := hq ▸ hz
  have HQ := Lib.hid hq
  clear hz hq
  have l12 := trL_len zs ys src c s h n
  obtain ⟨LL, hL⟩ : ∃ x, trL zs ys src c s h n = x := ⟨_, rfl⟩
  obtain ⟨qq, hq2⟩ : ∃ x, tcod zs ys src c s h n = x := ⟨_, rfl⟩
  rw [hL] at l12
  obtain ⟨⟨s0, s1, s2, s3⟩, hS⟩ : ∃ x, trS zs ys src c s h n = x := ⟨_, rfl⟩
  have S1 : Hid (∀ (w : World) (a b : Option Addr) (c_ d_ : Nat), Prof w w.heap.size a b zs ys → Calls Try.prog 42 #[.agg #[.slice a zs.length c_, .slice b ys.length d_], .int .i64 src, .agg #[.int .i64 c, .int .i64 s, .int .i64 h], .int .i64 n] w fun e w' => ∃ a' c', e = .returned (.tuple #[.slice a' LL.length c', .agg #[.int .i64 s0, .bool s1, .int .i64 s2, .int .i64 s3], .int .i64 qq]) ∧ OwnA w' w.heap.size w'.heap.size a' c' LL ∧ Below w.heap.size w w') := Lib.hid (fun w a b c_ d_ hp => by have := str_any w a b c_ d_ zs ys src c s h n hp; rw [hL, hS, hq2] at this; exact this)
  have S2 : Hid (∀ (w : World) (a b : Option Addr) (c_ d_ : Nat), Prof w w.heap.size a b zs ys → Calls Try.prog 41 #[.agg #[.slice a zs.length c_, .slice b ys.length d_], .int .i64 src, .agg #[.int .i64 c, .int .i64 s, .int .i64 h], .int .i64 n] w fun e w' => ∃ a' c', e = .returned (.tuple #[.slice a' LL.length c', .agg #[.int .i64 s0, .bool s1, .int .i64 s2, .int .i64 s3], .int .i64 qq]) ∧ OwnA w' w.heap.size w'.heap.size a' c' LL ∧ Below w.heap.size w w') := Lib.hid (fun w a b c_ d_ hp => by have := itr_any w a b c_ d_ zs ys src c s h n hp; rw [hL, hS, hq2] at this; exact this)
  clear hL hq2 hS
  go_enter Try.func13, Try.ntmps13
  go_wp2_with fail
  obtain ⟨W1, hW⟩ : ∃ W, W = ((w.alloc (.cells #[.slice a0 zs.length cap0, .slice b0 ys.length cap1] 45)).alloc (.cells #[.int .i64 c, .int .i64 s, .int .i64 h] 30)) := ⟨_, rfl⟩
  have hb : Below w.heap.size w W1 := by rw [hW]; exact (by repeat (first | exact Below.refl _ _ | (refine Below.alloc ?_ (by simp <;> omega) _) | (refine Below.setCell ?_ (by simp <;> omega) _) | (refine Below.drew ?_) | (refine bel_drewN ?_ _)))
  have bX : Bk W1 (w.heap.size) #[.slice a0 zs.length cap0, .slice b0 ys.length cap1] 45 := by rw [hW]; exact ((Bk.new' (by simp)).alloc _)
  have bD : Bk W1 (w.heap.size + 1) #[.int .i64 c, .int .i64 s, .int .i64 h] 30 := by rw [hW]; exact (Bk.new' (by simp))
  replace HP := Lib.hid (HP.out.on hb)
  have HB := Lib.hid hb
  rw [← hW]
  clear hW hb
  have bX_0 := bX.cell 0 rfl
  have bX_1 := bX.cell 1 rfl
  have bX_l := bX.lt
  have bD_0 := bD.cell 0 rfl
  have bD_1 := bD.cell 1 rfl
  have bD_2 := bD.cell 2 rfl
  have bD_l := bD.lt
  refine (szp_any _ _ _ _ _ _ _ hm hn).mono ?_
  rw [HQ.out]
  rintro e w2 ⟨rfl, hb⟩
  replace bX := bX.on hb
  replace bD := bD.on hb
  replace HP := Lib.hid (HP.out.on hb)
  replace HB := Lib.hid (bel_end HB.out hb)
  clear hb
  clear bX_0 bX_1 bX_l bD_0 bD_1 bD_2 bD_l
  go_upto_region 5 with fail
  go_cut [10, 11, 12] (fun s10 s11 s12 wx => ∃ (a' : Option Addr) (c' g : Nat), s10 = .slice a' LL.length c' ∧ s11 = .pointer (some ⟨g, 0, none⟩) ∧ s12 = .int .i64 qq ∧ OwnA wx w2.heap.size wx.heap.size a' c' LL ∧ Bk wx g #[.int .i64 s0, .bool s1, .int .i64 s2, .int .i64 s3] 61 ∧ w2.heap.size ≤ g ∧ g < wx.heap.size ∧ Below w2.heap.size w2 wx)
  case first =>
    have HW : Hid (Below w2.heap.size w2 w2) := Lib.hid (Below.refl _ _)
    obtain ⟨S, hSd⟩ : ∃ S : World → Prop, ∀ w', S w' ↔ (w'.cell? ⟨w.heap.size, 0, none⟩ = some (.slice a0 zs.length cap0) ∧ w'.cell? ⟨w.heap.size, 1, none⟩ = some (.slice b0 ys.length cap1) ∧ w'.cell? ⟨w.heap.size + 1, 0, none⟩ = some (.int .i64 c) ∧ w'.cell? ⟨w.heap.size + 1, 1, none⟩ = some (.int .i64 s) ∧ w'.cell? ⟨w.heap.size + 1, 2, none⟩ = some (.int .i64 h)) := ⟨_, fun _ => Iff.rfl⟩
    have HSp : Hid (∀ w' : World, Bk w' (w.heap.size) #[.slice a0 zs.length cap0, .slice b0 ys.length cap1] 45 → Bk w' (w.heap.size + 1) #[.int .i64 c, .int .i64 s, .int .i64 h] 30 → S w') := Lib.hid (fun w' bX bD => (hSd w').2 ⟨bX.cell 0 rfl, bX.cell 1 rfl, bD.cell 0 rfl, bD.cell 1 rfl, bD.cell 2 rfl⟩)
    have HSd := Lib.hid hSd
    clear hSd
    refine wp_region_held_drew (S := S) (by kernel_rfl) ?_ (fun hH => ?_)
    · exact (HSp.out _ bX bD : S (World.drew w2))
    clear hH
    generalize hX : World.drew w2 = V0
    replace bX : Bk V0 (w.heap.size) #[.slice a0 zs.length cap0, .slice b0 ys.length cap1] 45 := by rw [← hX]; exact bX
    replace bD : Bk V0 (w.heap.size + 1) #[.int .i64 c, .int .i64 s, .int .i64 h] 30 := by rw [← hX]; exact bD
    have hb : Below w2.heap.size w2 V0 := by rw [← hX]; exact (Below.refl _ _).drew
    clear hX
    try replace HR := Lib.hid (HR.out.on hb)
    try replace HA := Lib.hid (HA.out.on hb)
    replace HW := Lib.hid (bel_end HW.out hb)
    clear hb
    have hS := HSp.out _ bX bD
    refine wpAnyH_take (i := 0) (oi := { dst := some 29, op := Go.Op.load 45 (Go.Operand.tmp 4), type := 45, pos := "exact.go:2830", after := #[], guard := none }) (v := ?_) rfl (by kernel_rfl) (by kernel_rfl) (by kernel_rfl) (fun _ _ _ h => h) (Or.inl ⟨by rfl, ?_⟩) hS ?_
    rotate_left
    · (intro w hSw; have hSw := (HSd.out w).1 hSw; go_split_ands; go_simp) <;> with_reducible rfl
    clear hS
    try simp only [Act.put, List.setIfInBounds_toArray, List.set_cons_zero, List.set_cons_succ]
    have hS := HSp.out _ bX bD
    refine wpAnyH_take (i := 2) (oi := { dst := some 31, op := Go.Op.move (Go.Operand.tmp 1), type := 2, pos := "exact.go:2830", after := #[], guard := none }) (v := ?_) rfl (by kernel_rfl) (by kernel_rfl) (by kernel_rfl) (fun _ _ _ h => h) (Or.inl ⟨by rfl, ?_⟩) hS ?_
    rotate_left
    · (intro w hSw; have hSw := (HSd.out w).1 hSw; go_split_ands; go_simp) <;> with_reducible rfl
    clear hS
    try simp only [Act.put, List.setIfInBounds_toArray, List.set_cons_zero, List.set_cons_succ]
    have hS := HSp.out _ bX bD
    refine wpAnyH_take (i := 3) (oi := { dst := some 32, op := Go.Op.load 30 (Go.Operand.tmp 6), type := 30, pos := "exact.go:2830", after := #[], guard := none }) (v := ?_) rfl (by kernel_rfl) (by kernel_rfl) (by kernel_rfl) (fun _ _ _ h => h) (Or.inl ⟨by rfl, ?_⟩) hS ?_
    rotate_left
    · (intro w hSw; have hSw := (HSd.out w).1 hSw; go_split_ands; go_simp) <;> with_reducible rfl
    clear hS
    try simp only [Act.put, List.setIfInBounds_toArray, List.set_cons_zero, List.set_cons_succ]
    have hS := HSp.out _ bX bD
    refine wpAnyH_take (i := 5) (oi := { dst := some 34, op := Go.Op.move (Go.Operand.tmp 3), type := 2, pos := "exact.go:2830", after := #[], guard := none }) (v := ?_) rfl (by kernel_rfl) (by kernel_rfl) (by kernel_rfl) (fun _ _ _ h => h) (Or.inl ⟨by rfl, ?_⟩) hS ?_
    rotate_left
    · (intro w hSw; have hSw := (HSd.out w).1 hSw; go_split_ands; go_simp) <;> with_reducible rfl
    clear hS
    try simp only [Act.put, List.setIfInBounds_toArray, List.set_cons_zero, List.set_cons_succ]
    refine wpAnyH_ready (rs := [1, 11]) (by kernel_rfl) (by simp) ?_
    refine AllReadyH.cons (o := { dst := some 30, op := Go.Op.call { callee := Go.Callee.value (Go.Operand.func 34), args := #[Go.Operand.tmp 29], argTypes := #[45] }, type := 51, pos := "exact.go:2830", after := #[{ on := 0, ground := Go.Ground.data }], guard := none }) rfl (fun Kn hK => ?_) ?_
    · first | go_at_call 34 | (go_simp; go_at_call 34)
      (refine Calls.mono (top_any _ _ _ _ _ zs ys (HP.out.on HW.out).prof) ?_)
      rintro e V1 ⟨g1, g2, rfl, hg1, hg2, hr1, hr2, hb⟩
      have HR := Lib.hid (Prof.of_rows hr1 hr2 lz ly)
      clear hr1 hr2
      try dsimp only
      try simp only [Act.put, List.setIfInBounds_toArray, List.set_cons_zero, List.set_cons_succ]
      replace bX := bX.on hb
      replace bD := bD.on hb
      try replace HR := Lib.hid (HR.out.on hb)
      try replace HA := Lib.hid (HA.out.on hb)
      replace HW := Lib.hid (bel_end HW.out hb)
      clear hb
      refine hK.out _ _ (HSp.out _ bX bD) (fun _ => ?_)
      clear hK Kn
      refine wpAnyH_ready (rs := [4, 11]) (by kernel_rfl) (by simp) ?_
      refine AllReadyH.cons (o := { dst := some 33, op := Go.Op.call { callee := Go.Callee.value (Go.Operand.func 25), args := #[Go.Operand.tmp 32], argTypes := #[30] }, type := 32, pos := "exact.go:2830", after := #[{ on := 3, ground := Go.Ground.data }, { on := 1, ground := Go.Ground.chain }], guard := none }) rfl (fun Kn hK => ?_) ?_
      · first | go_at_call 25 | (go_simp; go_at_call 25)
        refine (tod_any _ _ _ _).mono ?_
        rintro e V2 ⟨rfl, hb⟩
        try dsimp only
        try simp only [Act.put, List.setIfInBounds_toArray, List.set_cons_zero, List.set_cons_succ]
        replace bX := bX.on hb
        replace bD := bD.on hb
        try replace HR := Lib.hid (HR.out.on hb)
        try replace HA := Lib.hid (HA.out.on hb)
        replace HW := Lib.hid (bel_end HW.out hb)
        clear hb
        refine hK.out _ _ (HSp.out _ bX bD) (fun _ => ?_)
        clear hK Kn
        refine wpAnyH_ready (rs := [6, 11]) (by kernel_rfl) (by simp) ?_
        refine AllReadyH.cons (o := { dst := some 35, op := Go.Op.call { callee := Go.Callee.value (Go.Operand.func 42), args := #[Go.Operand.tmp 30, Go.Operand.tmp 31, Go.Operand.tmp 33, Go.Operand.tmp 34], argTypes := #[51, 2, 32, 2] }, type := 62, pos := "exact.go:2830", after := #[{ on := 1, ground := Go.Ground.data }, { on := 2, ground := Go.Ground.data }, { on := 4, ground := Go.Ground.data }, { on := 5, ground := Go.Ground.data }, { on := 4, ground := Go.Ground.chain }], guard := none }) rfl (fun Kn hK => ?_) ?_
        · first | go_at_call 42 | (go_simp; go_at_call 42)
          (with_reducible refine Calls.mono (S1.out _ _ _ _ _ (HR.out)) ?_)
          rintro e V3 ⟨ra, rc, rfl, hs, hb⟩
          have HA := Lib.hid (hs.less (HW.out.size))
          clear hs
          try dsimp only
          try simp only [Act.put, List.setIfInBounds_toArray, List.set_cons_zero, List.set_cons_succ]
          replace bX := bX.on hb
          replace bD := bD.on hb
          try replace HR := Lib.hid (HR.out.on hb)
          try replace HA := Lib.hid (HA.out.on hb)
          replace HW := Lib.hid (bel_end HW.out hb)
          clear hb
          refine hK.out _ _ (HSp.out _ bX bD) (fun _ => ?_)
          clear hK Kn
          have hS := HSp.out _ bX bD
          refine wpAnyH_take (i := 7) (oi := { dst := some 28, op := Go.Op.move (Go.Operand.tmp 35), type := 62, pos := "exact.go:2830", after := #[{ on := 6, ground := Go.Ground.data }], guard := none }) (v := ?_) rfl (by kernel_rfl) (by kernel_rfl) (by kernel_rfl) (fun _ _ _ h => h) (Or.inl ⟨by rfl, ?_⟩) hS ?_
          rotate_left
          · (intro w hSw; have hSw := (HSd.out w).1 hSw; go_split_ands; go_simp) <;> with_reducible rfl
          clear hS
          try simp only [Act.put, List.setIfInBounds_toArray, List.set_cons_zero, List.set_cons_succ]
          have hS := HSp.out _ bX bD
          refine wpAnyH_take (i := 8) (oi := { dst := some 36, op := Go.Op.extract (Go.Operand.tmp 28) 0, type := 43, pos := "exact.go:2830", after := #[{ on := 7, ground := Go.Ground.data }], guard := none }) (v := ?_) rfl (by kernel_rfl) (by kernel_rfl) (by kernel_rfl) (fun _ _ _ h => h) (Or.inl ⟨by rfl, ?_⟩) hS ?_
          rotate_left
          · (intro w hSw; have hSw := (HSd.out w).1 hSw; go_split_ands; go_simp) <;> with_reducible rfl
          clear hS
          try simp only [Act.put, List.setIfInBounds_toArray, List.set_cons_zero, List.set_cons_succ]
          have hS := HSp.out _ bX bD
          refine wpAnyH_take (i := 9) (oi := { dst := some 37, op := Go.Op.extract (Go.Operand.tmp 28) 1, type := 61, pos := "exact.go:2830", after := #[{ on := 7, ground := Go.Ground.data }, { on := 12, ground := Go.Ground.gcOnly Go.Departure.lateStores }], guard := none }) (v := ?_) rfl (by kernel_rfl) (by kernel_rfl) (by kernel_rfl) (fun _ _ _ h => h) (Or.inl ⟨by rfl, ?_⟩) hS ?_
          rotate_left
          · (intro w hSw; have hSw := (HSd.out w).1 hSw; go_split_ands; go_simp) <;> with_reducible rfl
          clear hS
          try simp only [Act.put, List.setIfInBounds_toArray, List.set_cons_zero, List.set_cons_succ]
          have hS := HSp.out _ bX bD
          refine wpAnyH_take (i := 10) (oi := { dst := some 38, op := Go.Op.extract (Go.Operand.tmp 28) 2, type := 2, pos := "exact.go:2830", after := #[{ on := 7, ground := Go.Ground.data }, { on := 13, ground := Go.Ground.gcOnly Go.Departure.lateStores }], guard := none }) (v := ?_) rfl (by kernel_rfl) (by kernel_rfl) (by kernel_rfl) (fun _ _ _ h => h) (Or.inl ⟨by rfl, ?_⟩) hS ?_
          rotate_left
          · (intro w hSw; have hSw := (HSd.out w).1 hSw; go_split_ands; go_simp) <;> with_reducible rfl
          clear hS
          try simp only [Act.put, List.setIfInBounds_toArray, List.set_cons_zero, List.set_cons_succ]
          refine wpAnyH_ready (rs := [11]) (by kernel_rfl) (by simp) ?_
          refine AllReadyH.cons (o := { dst := some 11, op := Go.Op.alloc 61, type := 0, pos := "exact.go:2830", after := #[], guard := none }) rfl (fun Kn hK => ?_) AllReadyH.nil
          go_simp
          generalize hX : World.alloc V3 _ = V4
          obtain ⟨g11, hg⟩ : ∃ g, g = V3.heap.size := ⟨_, rfl⟩
          have bn11 : Bk V4 g11 #[.int .i64 0, .bool false, .int .i64 0, .int .i64 0] 61 := by rw [← hX]; exact Bk.new' hg
          have le11 : w2.heap.size ≤ g11 := by rw [hg]; exact HW.out.size
          have nebX_11 : w.heap.size ≠ g11 := by have := bX.lt; omega
          replace bX : Bk V4 (w.heap.size) #[.slice a0 zs.length cap0, .slice b0 ys.length cap1] 45 := by rw [← hX]; exact bX.alloc _
          have nebD_11 : w.heap.size + 1 ≠ g11 := by have := bD.lt; omega
          replace bD : Bk V4 (w.heap.size + 1) #[.int .i64 c, .int .i64 s, .int .i64 h] 30 := by rw [← hX]; exact bD.alloc _
          try rw [← hg]
          have hb : Below V3.heap.size V3 V4 := by rw [← hX]; exact (Below.refl _ _).alloc (Nat.le_refl _) _
          clear hX hg
          try replace HR := Lib.hid (HR.out.on hb)
          try replace HA := Lib.hid (HA.out.on hb)
          replace HW := Lib.hid (bel_end HW.out hb)
          clear hb
          refine hK.out _ _ (HSp.out _ bX bD) (fun _ => ?_)
          clear hK Kn
          have hS := HSp.out _ bX bD
          refine wpAnyH_take (i := 12) (oi := { dst := some 10, op := Go.Op.assign (Go.Operand.tmp 36), type := 43, pos := "exact.go:2830", after := #[{ on := 8, ground := Go.Ground.data }, { on := 6, ground := Go.Ground.chain }, { on := 0, ground := Go.Ground.phase }, { on := 1, ground := Go.Ground.phase }, { on := 2, ground := Go.Ground.phase }, { on := 3, ground := Go.Ground.phase }, { on := 4, ground := Go.Ground.phase }, { on := 5, ground := Go.Ground.phase }, { on := 6, ground := Go.Ground.phase }, { on := 7, ground := Go.Ground.phase }, { on := 8, ground := Go.Ground.phase }, { on := 9, ground := Go.Ground.textOnly Go.Departure.lateStores }, { on := 10, ground := Go.Ground.textOnly Go.Departure.lateStores }, { on := 11, ground := Go.Ground.phase }], guard := none }) (v := ?_) rfl (by kernel_rfl) (by kernel_rfl) (by kernel_rfl) (fun _ _ _ h => h) (Or.inl ⟨by rfl, ?_⟩) hS ?_
          rotate_left
          · (intro w hSw; have hSw := (HSd.out w).1 hSw; go_split_ands; go_simp) <;> with_reducible rfl
          clear hS
          try simp only [Act.put, List.setIfInBounds_toArray, List.set_cons_zero, List.set_cons_succ]
          refine wpAnyH_ready (rs := [13]) (by kernel_rfl) (by simp) ?_
          refine AllReadyH.cons (o := { dst := none, op := Go.Op.store 61 (Go.Operand.tmp 11) (Go.Operand.tmp 37), type := 0, pos := "exact.go:2830", after := #[{ on := 11, ground := Go.Ground.data }, { on := 9, ground := Go.Ground.data }, { on := 12, ground := Go.Ground.chain }, { on := 0, ground := Go.Ground.phase }, { on := 1, ground := Go.Ground.phase }, { on := 2, ground := Go.Ground.phase }, { on := 3, ground := Go.Ground.phase }, { on := 4, ground := Go.Ground.phase }, { on := 5, ground := Go.Ground.phase }, { on := 6, ground := Go.Ground.phase }, { on := 7, ground := Go.Ground.phase }, { on := 8, ground := Go.Ground.phase }, { on := 9, ground := Go.Ground.phase }, { on := 10, ground := Go.Ground.textOnly Go.Departure.lateStores }, { on := 11, ground := Go.Ground.phase }, { on := 12, ground := Go.Ground.phase }], guard := none }) rfl (fun Kn hK => ?_) AllReadyH.nil
          have bn11_0 := bn11.cell 0 rfl
          have bn11_1 := bn11.cell 1 rfl
          have bn11_2 := bn11.cell 2 rfl
          have bn11_3 := bn11.cell 3 rfl
          have bn11_f0 := bn11.frozen 0
          have bn11_f1 := bn11.frozen 1
          have bn11_f2 := bn11.frozen 2
          have bn11_f3 := bn11.frozen 3
          have bn11_l := bn11.lt
          go_simp
          clear bn11_0 bn11_f0 bn11_1 bn11_f1 bn11_2 bn11_f2 bn11_3 bn11_f3 bn11_l
          generalize hX : World.setCell _ _ _ = V5
          have hb : Below w2.heap.size w2 V5 := by rw [← hX]; exact ((((HW.out.setCell (p := ⟨g11, 0, none⟩) le11 _).setCell (p := ⟨g11, 1, none⟩) le11 _).setCell (p := ⟨g11, 2, none⟩) le11 _).setCell (p := ⟨g11, 3, none⟩) le11 _)
          have HA2 := Lib.hid (show OwnA V5 _ _ _ _ _ from by rw [← hX]; exact ownA_farB HA.out bn11 (by decide) _ _ _ _)
          clear HA
          have HA := HA2
          clear HA2
          replace bX : Bk V5 (w.heap.size) #[.slice a0 zs.length cap0, .slice b0 ys.length cap1] 45 := by rw [← hX]; exact (Bk.other (Bk.other (Bk.other (Bk.other bX nebX_11 0 _) nebX_11 1 _) nebX_11 2 _) nebX_11 3 _)
          replace bD : Bk V5 (w.heap.size + 1) #[.int .i64 c, .int .i64 s, .int .i64 h] 30 := by rw [← hX]; exact (Bk.other (Bk.other (Bk.other (Bk.other bD nebD_11 0 _) nebD_11 1 _) nebD_11 2 _) nebD_11 3 _)
          replace bn11 : Bk V5 (g11) #[.int .i64 s0, .bool s1, .int .i64 s2, .int .i64 s3] 61 := by rw [← hX]; exact (Bk.set (Bk.set (Bk.set (Bk.set bn11 0 _ rfl) 1 _ rfl) 2 _ rfl) 3 _ rfl)
          clear hX
          replace HW := Lib.hid hb
          clear hb
          refine hK.out _ _ (HSp.out _ bX bD) (fun _ => ?_)
          clear hK Kn
          have hS := HSp.out _ bX bD
          refine wpAnyH_take (i := 14) (oi := { dst := some 12, op := Go.Op.assign (Go.Operand.tmp 38), type := 2, pos := "exact.go:2830", after := #[{ on := 10, ground := Go.Ground.data }, { on := 13, ground := Go.Ground.chain }, { on := 0, ground := Go.Ground.phase }, { on := 1, ground := Go.Ground.phase }, { on := 2, ground := Go.Ground.phase }, { on := 3, ground := Go.Ground.phase }, { on := 4, ground := Go.Ground.phase }, { on := 5, ground := Go.Ground.phase }, { on := 6, ground := Go.Ground.phase }, { on := 7, ground := Go.Ground.phase }, { on := 8, ground := Go.Ground.phase }, { on := 9, ground := Go.Ground.phase }, { on := 10, ground := Go.Ground.phase }, { on := 11, ground := Go.Ground.phase }, { on := 12, ground := Go.Ground.phase }, { on := 13, ground := Go.Ground.phase }], guard := none }) (v := ?_) rfl (by kernel_rfl) (by kernel_rfl) (by kernel_rfl) (fun _ _ _ h => h) (Or.inl ⟨by rfl, ?_⟩) hS ?_
          rotate_left
          · (intro w hSw; have hSw := (HSd.out w).1 hSw; go_split_ands; go_simp) <;> with_reducible rfl
          clear hS
          try simp only [Act.put, List.setIfInBounds_toArray, List.set_cons_zero, List.set_cons_succ]
          refine wpAnyH_done (by kernel_rfl) ?_ _
          go_wp2_with fail
          go_meet
          exact ⟨ra, rc, _, rfl, rfl, rfl, HA.out.grow HA.out.up (Nat.le_refl _), bn11, le11, bn11.lt, HW.out⟩
        refine AllReadyH.cons (o := { dst := some 11, op := Go.Op.alloc 61, type := 0, pos := "exact.go:2830", after := #[], guard := none }) rfl (fun Kn hK => ?_) AllReadyH.nil
        go_simp
        generalize hX : World.alloc V2 _ = V6
        obtain ⟨g11, hg⟩ : ∃ g, g = V2.heap.size := ⟨_, rfl⟩
        have bn11 : Bk V6 g11 #[.int .i64 0, .bool false, .int .i64 0, .int .i64 0] 61 := by rw [← hX]; exact Bk.new' hg
        have le11 : w2.heap.size ≤ g11 := by rw [hg]; exact HW.out.size
        have nebX_11 : w.heap.size ≠ g11 := by have := bX.lt; omega
        replace bX : Bk V6 (w.heap.size) #[.slice a0 zs.length cap0, .slice b0 ys.length cap1] 45 := by rw [← hX]; exact bX.alloc _
        have nebD_11 : w.heap.size + 1 ≠ g11 := by have := bD.lt; omega
        replace bD : Bk V6 (w.heap.size + 1) #[.int .i64 c, .int .i64 s, .int .i64 h] 30 := by rw [← hX]; exact bD.alloc _
        try rw [← hg]
        have hb : Below V2.heap.size V2 V6 := by rw [← hX]; exact (Below.refl _ _).alloc (Nat.le_refl _) _
        clear hX hg
        try replace HR := Lib.hid (HR.out.on hb)
        try replace HA := Lib.hid (HA.out.on hb)
        replace HW := Lib.hid (bel_end HW.out hb)
        clear hb
        refine hK.out _ _ (HSp.out _ bX bD) (fun _ => ?_)
        clear hK Kn
        refine wpAnyH_ready (rs := [6]) (by kernel_rfl) (by simp) ?_
        refine AllReadyH.cons (o := { dst := some 35, op := Go.Op.call { callee := Go.Callee.value (Go.Operand.func 42), args := #[Go.Operand.tmp 30, Go.Operand.tmp 31, Go.Operand.tmp 33, Go.Operand.tmp 34], argTypes := #[51, 2, 32, 2] }, type := 62, pos := "exact.go:2830", after := #[{ on := 1, ground := Go.Ground.data }, { on := 2, ground := Go.Ground.data }, { on := 4, ground := Go.Ground.data }, { on := 5, ground := Go.Ground.data }, { on := 4, ground := Go.Ground.chain }], guard := none }) rfl (fun Kn hK => ?_) AllReadyH.nil
        first | go_at_call 42 | (go_simp; go_at_call 42)
        (with_reducible refine Calls.mono (S1.out _ _ _ _ _ (HR.out)) ?_)
        rintro e V7 ⟨ra, rc, rfl, hs, hb⟩
        have HA := Lib.hid (hs.less (HW.out.size))
        clear hs
        try dsimp only
        try simp only [Act.put, List.setIfInBounds_toArray, List.set_cons_zero, List.set_cons_succ]
        replace bX := bX.on hb
        replace bD := bD.on hb
        replace bn11 := bn11.on hb
        try replace HR := Lib.hid (HR.out.on hb)
        try replace HA := Lib.hid (HA.out.on hb)
        replace HW := Lib.hid (bel_end HW.out hb)
        clear hb
        refine hK.out _ _ (HSp.out _ bX bD) (fun _ => ?_)
        clear hK Kn
        have hS := HSp.out _ bX bD
        refine wpAnyH_take (i := 7) (oi := { dst := some 28, op := Go.Op.move (Go.Operand.tmp 35), type := 62, pos := "exact.go:2830", after := #[{ on := 6, ground := Go.Ground.data }], guard := none }) (v := ?_) rfl (by kernel_rfl) (by kernel_rfl) (by kernel_rfl) (fun _ _ _ h => h) (Or.inl ⟨by rfl, ?_⟩) hS ?_
        rotate_left
        · (intro w hSw; have hSw := (HSd.out w).1 hSw; go_split_ands; go_simp) <;> with_reducible rfl
        clear hS
        try simp only [Act.put, List.setIfInBounds_toArray, List.set_cons_zero, List.set_cons_succ]
        have hS := HSp.out _ bX bD
        refine wpAnyH_take (i := 8) (oi := { dst := some 36, op := Go.Op.extract (Go.Operand.tmp 28) 0, type := 43, pos := "exact.go:2830", after := #[{ on := 7, ground := Go.Ground.data }], guard := none }) (v := ?_) rfl (by kernel_rfl) (by kernel_rfl) (by kernel_rfl) (fun _ _ _ h => h) (Or.inl ⟨by rfl, ?_⟩) hS ?_
        rotate_left
        · (intro w hSw; have hSw := (HSd.out w).1 hSw; go_split_ands; go_simp) <;> with_reducible rfl
        clear hS
        try simp only [Act.put, List.setIfInBounds_toArray, List.set_cons_zero, List.set_cons_succ]
        have hS := HSp.out _ bX bD
        refine wpAnyH_take (i := 9) (oi := { dst := some 37, op := Go.Op.extract (Go.Operand.tmp 28) 1, type := 61, pos := "exact.go:2830", after := #[{ on := 7, ground := Go.Ground.data }, { on := 12, ground := Go.Ground.gcOnly Go.Departure.lateStores }], guard := none }) (v := ?_) rfl (by kernel_rfl) (by kernel_rfl) (by kernel_rfl) (fun _ _ _ h => h) (Or.inl ⟨by rfl, ?_⟩) hS ?_
        rotate_left
        · (intro w hSw; have hSw := (HSd.out w).1 hSw; go_split_ands; go_simp) <;> with_reducible rfl
        clear hS
        try simp only [Act.put, List.setIfInBounds_toArray, List.set_cons_zero, List.set_cons_succ]
        have hS := HSp.out _ bX bD
        refine wpAnyH_take (i := 10) (oi := { dst := some 38, op := Go.Op.extract (Go.Operand.tmp 28) 2, type := 2, pos := "exact.go:2830", after := #[{ on := 7, ground := Go.Ground.data }, { on := 13, ground := Go.Ground.gcOnly Go.Departure.lateStores }], guard := none }) (v := ?_) rfl (by kernel_rfl) (by kernel_rfl) (by kernel_rfl) (fun _ _ _ h => h) (Or.inl ⟨by rfl, ?_⟩) hS ?_
        rotate_left
        · (intro w hSw; have hSw := (HSd.out w).1 hSw; go_split_ands; go_simp) <;> with_reducible rfl
        clear hS
        try simp only [Act.put, List.setIfInBounds_toArray, List.set_cons_zero, List.set_cons_succ]
        have hS := HSp.out _ bX bD
        refine wpAnyH_take (i := 12) (oi := { dst := some 10, op := Go.Op.assign (Go.Operand.tmp 36), type := 43, pos := "exact.go:2830", after := #[{ on := 8, ground := Go.Ground.data }, { on := 6, ground := Go.Ground.chain }, { on := 0, ground := Go.Ground.phase }, { on := 1, ground := Go.Ground.phase }, { on := 2, ground := Go.Ground.phase }, { on := 3, ground := Go.Ground.phase }, { on := 4, ground := Go.Ground.phase }, { on := 5, ground := Go.Ground.phase }, { on := 6, ground := Go.Ground.phase }, { on := 7, ground := Go.Ground.phase }, { on := 8, ground := Go.Ground.phase }, { on := 9, ground := Go.Ground.textOnly Go.Departure.lateStores }, { on := 10, ground := Go.Ground.textOnly Go.Departure.lateStores }, { on := 11, ground := Go.Ground.phase }], guard := none }) (v := ?_) rfl (by kernel_rfl) (by kernel_rfl) (by kernel_rfl) (fun _ _ _ h => h) (Or.inl ⟨by rfl, ?_⟩) hS ?_
        rotate_left
        · (intro w hSw; have hSw := (HSd.out w).1 hSw; go_split_ands; go_simp) <;> with_reducible rfl
        clear hS
        try simp only [Act.put, List.setIfInBounds_toArray, List.set_cons_zero, List.set_cons_succ]
        refine wpAnyH_ready (rs := [13]) (by kernel_rfl) (by simp) ?_
        refine AllReadyH.cons (o := { dst := none, op := Go.Op.store 61 (Go.Operand.tmp 11) (Go.Operand.tmp 37), type := 0, pos := "exact.go:2830", after := #[{ on := 11, ground := Go.Ground.data }, { on := 9, ground := Go.Ground.data }, { on := 12, ground := Go.Ground.chain }, { on := 0, ground := Go.Ground.phase }, { on := 1, ground := Go.Ground.phase }, { on := 2, ground := Go.Ground.phase }, { on := 3, ground := Go.Ground.phase }, { on := 4, ground := Go.Ground.phase }, { on := 5, ground := Go.Ground.phase }, { on := 6, ground := Go.Ground.phase }, { on := 7, ground := Go.Ground.phase }, { on := 8, ground := Go.Ground.phase }, { on := 9, ground := Go.Ground.phase }, { on := 10, ground := Go.Ground.textOnly Go.Departure.lateStores }, { on := 11, ground := Go.Ground.phase }, { on := 12, ground := Go.Ground.phase }], guard := none }) rfl (fun Kn hK => ?_) AllReadyH.nil
        have bn11_0 := bn11.cell 0 rfl
        have bn11_1 := bn11.cell 1 rfl
        have bn11_2 := bn11.cell 2 rfl
        have bn11_3 := bn11.cell 3 rfl
        have bn11_f0 := bn11.frozen 0
        have bn11_f1 := bn11.frozen 1
        have bn11_f2 := bn11.frozen 2
        have bn11_f3 := bn11.frozen 3
        have bn11_l := bn11.lt
        go_simp
        clear bn11_0 bn11_f0 bn11_1 bn11_f1 bn11_2 bn11_f2 bn11_3 bn11_f3 bn11_l
        generalize hX : World.setCell _ _ _ = V8
        have hb : Below w2.heap.size w2 V8 := by rw [← hX]; exact ((((HW.out.setCell (p := ⟨g11, 0, none⟩) le11 _).setCell (p := ⟨g11, 1, none⟩) le11 _).setCell (p := ⟨g11, 2, none⟩) le11 _).setCell (p := ⟨g11, 3, none⟩) le11 _)
        have HA2 := Lib.hid (show OwnA V8 _ _ _ _ _ from by rw [← hX]; exact ownA_farB HA.out bn11 (by decide) _ _ _ _)
        clear HA
        have HA := HA2
        clear HA2
        replace bX : Bk V8 (w.heap.size) #[.slice a0 zs.length cap0, .slice b0 ys.length cap1] 45 := by rw [← hX]; exact (Bk.other (Bk.other (Bk.other (Bk.other bX nebX_11 0 _) nebX_11 1 _) nebX_11 2 _) nebX_11 3 _)
        replace bD : Bk V8 (w.heap.size + 1) #[.int .i64 c, .int .i64 s, .int .i64 h] 30 := by rw [← hX]; exact (Bk.other (Bk.other (Bk.other (Bk.other bD nebD_11 0 _) nebD_11 1 _) nebD_11 2 _) nebD_11 3 _)
        replace bn11 : Bk V8 (g11) #[.int .i64 s0, .bool s1, .int .i64 s2, .int .i64 s3] 61 := by rw [← hX]; exact (Bk.set (Bk.set (Bk.set (Bk.set bn11 0 _ rfl) 1 _ rfl) 2 _ rfl) 3 _ rfl)
        clear hX
        replace HW := Lib.hid hb
        clear hb
        refine hK.out _ _ (HSp.out _ bX bD) (fun _ => ?_)
        clear hK Kn
        have hS := HSp.out _ bX bD
        refine wpAnyH_take (i := 14) (oi := { dst := some 12, op := Go.Op.assign (Go.Operand.tmp 38), type := 2, pos := "exact.go:2830", after := #[{ on := 10, ground := Go.Ground.data }, { on := 13, ground := Go.Ground.chain }, { on := 0, ground := Go.Ground.phase }, { on := 1, ground := Go.Ground.phase }, { on := 2, ground := Go.Ground.phase }, { on := 3, ground := Go.Ground.phase }, { on := 4, ground := Go.Ground.phase }, { on := 5, ground := Go.Ground.phase }, { on := 6, ground := Go.Ground.phase }, { on := 7, ground := Go.Ground.phase }, { on := 8, ground := Go.Ground.phase }, { on := 9, ground := Go.Ground.phase }, { on := 10, ground := Go.Ground.phase }, { on := 11, ground := Go.Ground.phase }, { on := 12, ground := Go.Ground.phase }, { on := 13, ground := Go.Ground.phase }], guard := none }) (v := ?_) rfl (by kernel_rfl) (by kernel_rfl) (by kernel_rfl) (fun _ _ _ h => h) (Or.inl ⟨by rfl, ?_⟩) hS ?_
        rotate_left
        · (intro w hSw; have hSw := (HSd.out w).1 hSw; go_split_ands; go_simp) <;> with_reducible rfl
        clear hS
        try simp only [Act.put, List.setIfInBounds_toArray, List.set_cons_zero, List.set_cons_succ]
        refine wpAnyH_done (by kernel_rfl) ?_ _
        go_wp2_with fail
        go_meet
        exact ⟨ra, rc, _, rfl, rfl, rfl, HA.out.grow HA.out.up (Nat.le_refl _), bn11, le11, bn11.lt, HW.out⟩
      refine AllReadyH.cons (o := { dst := some 11, op := Go.Op.alloc 61, type := 0, pos := "exact.go:2830", after := #[], guard := none }) rfl (fun Kn hK => ?_) AllReadyH.nil
      go_simp
      generalize hX : World.alloc V1 _ = V9
      obtain ⟨g11, hg⟩ : ∃ g, g = V1.heap.size := ⟨_, rfl⟩
      have bn11 : Bk V9 g11 #[.int .i64 0, .bool false, .int .i64 0, .int .i64 0] 61 := by rw [← hX]; exact Bk.new' hg
      have le11 : w2.heap.size ≤ g11 := by rw [hg]; exact HW.out.size
      have nebX_11 : w.heap.size ≠ g11 := by have := bX.lt; omega
      replace bX : Bk V9 (w.heap.size) #[.slice a0 zs.length cap0, .slice b0 ys.length cap1] 45 := by rw [← hX]; exact bX.alloc _
      have nebD_11 : w.heap.size + 1 ≠ g11 := by have := bD.lt; omega
      replace bD : Bk V9 (w.heap.size + 1) #[.int .i64 c, .int .i64 s, .int .i64 h] 30 := by rw [← hX]; exact bD.alloc _
      try rw [← hg]
      have hb : Below V1.heap.size V1 V9 := by rw [← hX]; exact (Below.refl _ _).alloc (Nat.le_refl _) _
      clear hX hg
      try replace HR := Lib.hid (HR.out.on hb)
      try replace HA := Lib.hid (HA.out.on hb)
      replace HW := Lib.hid (bel_end HW.out hb)
      clear hb
      refine hK.out _ _ (HSp.out _ bX bD) (fun _ => ?_)
      clear hK Kn
      refine wpAnyH_ready (rs := [4]) (by kernel_rfl) (by simp) ?_
      refine AllReadyH.cons (o := { dst := some 33, op := Go.Op.call { callee := Go.Callee.value (Go.Operand.func 25), args := #[Go.Operand.tmp 32], argTypes := #[30] }, type := 32, pos := "exact.go:2830", after := #[{ on := 3, ground := Go.Ground.data }, { on := 1, ground := Go.Ground.chain }], guard := none }) rfl (fun Kn hK => ?_) AllReadyH.nil
      first | go_at_call 25 | (go_simp; go_at_call 25)
      refine (tod_any _ _ _ _).mono ?_
      rintro e V10 ⟨rfl, hb⟩
      try dsimp only
      try simp only [Act.put, List.setIfInBounds_toArray, List.set_cons_zero, List.set_cons_succ]
      replace bX := bX.on hb
      replace bD := bD.on hb
      replace bn11 := bn11.on hb
      try replace HR := Lib.hid (HR.out.on hb)
      try replace HA := Lib.hid (HA.out.on hb)
      replace HW := Lib.hid (bel_end HW.out hb)
      clear hb
      refine hK.out _ _ (HSp.out _ bX bD) (fun _ => ?_)
      clear hK Kn
      refine wpAnyH_ready (rs := [6]) (by kernel_rfl) (by simp) ?_
      refine AllReadyH.cons (o := { dst := some 35, op := Go.Op.call { callee := Go.Callee.value (Go.Operand.func 42), args := #[Go.Operand.tmp 30, Go.Operand.tmp 31, Go.Operand.tmp 33, Go.Operand.tmp 34], argTypes := #[51, 2, 32, 2] }, type := 62, pos := "exact.go:2830", after := #[{ on := 1, ground := Go.Ground.data }, { on := 2, ground := Go.Ground.data }, { on := 4, ground := Go.Ground.data }, { on := 5, ground := Go.Ground.data }, { on := 4, ground := Go.Ground.chain }], guard := none }) rfl (fun Kn hK => ?_) AllReadyH.nil
      first | go_at_call 42 | (go_simp; go_at_call 42)
      (with_reducible refine Calls.mono (S1.out _ _ _ _ _ (HR.out)) ?_)
      rintro e V11 ⟨ra, rc, rfl, hs, hb⟩
      have HA := Lib.hid (hs.less (HW.out.size))
      clear hs
      try dsimp only
      try simp only [Act.put, List.setIfInBounds_toArray, List.set_cons_zero, List.set_cons_succ]
      replace bX := bX.on hb
      replace bD := bD.on hb
      replace bn11 := bn11.on hb
      try replace HR := Lib.hid (HR.out.on hb)
      try replace HA := Lib.hid (HA.out.on hb)
      replace HW := Lib.hid (bel_end HW.out hb)
      clear hb
      refine hK.out _ _ (HSp.out _ bX bD) (fun _ => ?_)
      clear hK Kn
      have hS := HSp.out _ bX bD
      refine wpAnyH_take (i := 7) (oi := { dst := some 28, op := Go.Op.move (Go.Operand.tmp 35), type := 62, pos := "exact.go:2830", after := #[{ on := 6, ground := Go.Ground.data }], guard := none }) (v := ?_) rfl (by kernel_rfl) (by kernel_rfl) (by kernel_rfl) (fun _ _ _ h => h) (Or.inl ⟨by rfl, ?_⟩) hS ?_
      rotate_left
      · (intro w hSw; have hSw := (HSd.out w).1 hSw; go_split_ands; go_simp) <;> with_reducible rfl
      clear hS
      try simp only [Act.put, List.setIfInBounds_toArray, List.set_cons_zero, List.set_cons_succ]
      have hS := HSp.out _ bX bD
      refine wpAnyH_take (i := 8) (oi := { dst := some 36, op := Go.Op.extract (Go.Operand.tmp 28) 0, type := 43, pos := "exact.go:2830", after := #[{ on := 7, ground := Go.Ground.data }], guard := none }) (v := ?_) rfl (by kernel_rfl) (by kernel_rfl) (by kernel_rfl) (fun _ _ _ h => h) (Or.inl ⟨by rfl, ?_⟩) hS ?_
      rotate_left
      · (intro w hSw; have hSw := (HSd.out w).1 hSw; go_split_ands; go_simp) <;> with_reducible rfl
      clear hS
      try simp only [Act.put, List.setIfInBounds_toArray, List.set_cons_zero, List.set_cons_succ]
      have hS := HSp.out _ bX bD
      refine wpAnyH_take (i := 9) (oi := { dst := some 37, op := Go.Op.extract (Go.Operand.tmp 28) 1, type := 61, pos := "exact.go:2830", after := #[{ on := 7, ground := Go.Ground.data }, { on := 12, ground := Go.Ground.gcOnly Go.Departure.lateStores }], guard := none }) (v := ?_) rfl (by kernel_rfl) (by kernel_rfl) (by kernel_rfl) (fun _ _ _ h => h) (Or.inl ⟨by rfl, ?_⟩) hS ?_
      rotate_left
      · (intro w hSw; have hSw := (HSd.out w).1 hSw; go_split_ands; go_simp) <;> with_reducible rfl
      clear hS
      try simp only [Act.put, List.setIfInBounds_toArray, List.set_cons_zero, List.set_cons_succ]
      have hS := HSp.out _ bX bD
      refine wpAnyH_take (i := 10) (oi := { dst := some 38, op := Go.Op.extract (Go.Operand.tmp 28) 2, type := 2, pos := "exact.go:2830", after := #[{ on := 7, ground := Go.Ground.data }, { on := 13, ground := Go.Ground.gcOnly Go.Departure.lateStores }], guard := none }) (v := ?_) rfl (by kernel_rfl) (by kernel_rfl) (by kernel_rfl) (fun _ _ _ h => h) (Or.inl ⟨by rfl, ?_⟩) hS ?_
      rotate_left
      · (intro w hSw; have hSw := (HSd.out w).1 hSw; go_split_ands; go_simp) <;> with_reducible rfl
      clear hS
      try simp only [Act.put, List.setIfInBounds_toArray, List.set_cons_zero, List.set_cons_succ]
      have hS := HSp.out _ bX bD
      refine wpAnyH_take (i := 12) (oi := { dst := some 10, op := Go.Op.assign (Go.Operand.tmp 36), type := 43, pos := "exact.go:2830", after := #[{ on := 8, ground := Go.Ground.data }, { on := 6, ground := Go.Ground.chain }, { on := 0, ground := Go.Ground.phase }, { on := 1, ground := Go.Ground.phase }, { on := 2, ground := Go.Ground.phase }, { on := 3, ground := Go.Ground.phase }, { on := 4, ground := Go.Ground.phase }, { on := 5, ground := Go.Ground.phase }, { on := 6, ground := Go.Ground.phase }, { on := 7, ground := Go.Ground.phase }, { on := 8, ground := Go.Ground.phase }, { on := 9, ground := Go.Ground.textOnly Go.Departure.lateStores }, { on := 10, ground := Go.Ground.textOnly Go.Departure.lateStores }, { on := 11, ground := Go.Ground.phase }], guard := none }) (v := ?_) rfl (by kernel_rfl) (by kernel_rfl) (by kernel_rfl) (fun _ _ _ h => h) (Or.inl ⟨by rfl, ?_⟩) hS ?_
      rotate_left
      · (intro w hSw; have hSw := (HSd.out w).1 hSw; go_split_ands; go_simp) <;> with_reducible rfl
      clear hS
      try simp only [Act.put, List.setIfInBounds_toArray, List.set_cons_zero, List.set_cons_succ]
      refine wpAnyH_ready (rs := [13]) (by kernel_rfl) (by simp) ?_
      refine AllReadyH.cons (o := { dst := none, op := Go.Op.store 61 (Go.Operand.tmp 11) (Go.Operand.tmp 37), type := 0, pos := "exact.go:2830", after := #[{ on := 11, ground := Go.Ground.data }, { on := 9, ground := Go.Ground.data }, { on := 12, ground := Go.Ground.chain }, { on := 0, ground := Go.Ground.phase }, { on := 1, ground := Go.Ground.phase }, { on := 2, ground := Go.Ground.phase }, { on := 3, ground := Go.Ground.phase }, { on := 4, ground := Go.Ground.phase }, { on := 5, ground := Go.Ground.phase }, { on := 6, ground := Go.Ground.phase }, { on := 7, ground := Go.Ground.phase }, { on := 8, ground := Go.Ground.phase }, { on := 9, ground := Go.Ground.phase }, { on := 10, ground := Go.Ground.textOnly Go.Departure.lateStores }, { on := 11, ground := Go.Ground.phase }, { on := 12, ground := Go.Ground.phase }], guard := none }) rfl (fun Kn hK => ?_) AllReadyH.nil
      have bn11_0 := bn11.cell 0 rfl
      have bn11_1 := bn11.cell 1 rfl
      have bn11_2 := bn11.cell 2 rfl
      have bn11_3 := bn11.cell 3 rfl
      have bn11_f0 := bn11.frozen 0
      have bn11_f1 := bn11.frozen 1
      have bn11_f2 := bn11.frozen 2
      have bn11_f3 := bn11.frozen 3
      have bn11_l := bn11.lt
      go_simp
      clear bn11_0 bn11_f0 bn11_1 bn11_f1 bn11_2 bn11_f2 bn11_3 bn11_f3 bn11_l
      generalize hX : World.setCell _ _ _ = V12
      have hb : Below w2.heap.size w2 V12 := by rw [← hX]; exact ((((HW.out.setCell (p := ⟨g11, 0, none⟩) le11 _).setCell (p := ⟨g11, 1, none⟩) le11 _).setCell (p := ⟨g11, 2, none⟩) le11 _).setCell (p := ⟨g11, 3, none⟩) le11 _)
      have HA2 := Lib.hid (show OwnA V12 _ _ _ _ _ from by rw [← hX]; exact ownA_farB HA.out bn11 (by decide) _ _ _ _)
      clear HA
      have HA := HA2
      clear HA2
      replace bX : Bk V12 (w.heap.size) #[.slice a0 zs.length cap0, .slice b0 ys.length cap1] 45 := by rw [← hX]; exact (Bk.other (Bk.other (Bk.other (Bk.other bX nebX_11 0 _) nebX_11 1 _) nebX_11 2 _) nebX_11 3 _)
      replace bD : Bk V12 (w.heap.size + 1) #[.int .i64 c, .int .i64 s, .int .i64 h] 30 := by rw [← hX]; exact (Bk.other (Bk.other (Bk.other (Bk.other bD nebD_11 0 _) nebD_11 1 _) nebD_11 2 _) nebD_11 3 _)
      replace bn11 : Bk V12 (g11) #[.int .i64 s0, .bool s1, .int .i64 s2, .int .i64 s3] 61 := by rw [← hX]; exact (Bk.set (Bk.set (Bk.set (Bk.set bn11 0 _ rfl) 1 _ rfl) 2 _ rfl) 3 _ rfl)
      clear hX
      replace HW := Lib.hid hb
      clear hb
      refine hK.out _ _ (HSp.out _ bX bD) (fun _ => ?_)
      clear hK Kn
      have hS := HSp.out _ bX bD
      refine wpAnyH_take (i := 14) (oi := { dst := some 12, op := Go.Op.assign (Go.Operand.tmp 38), type := 2, pos := "exact.go:2830", after := #[{ on := 10, ground := Go.Ground.data }, { on := 13, ground := Go.Ground.chain }, { on := 0, ground := Go.Ground.phase }, { on := 1, ground := Go.Ground.phase }, { on := 2, ground := Go.Ground.phase }, { on := 3, ground := Go.Ground.phase }, { on := 4, ground := Go.Ground.phase }, { on := 5, ground := Go.Ground.phase }, { on := 6, ground := Go.Ground.phase }, { on := 7, ground := Go.Ground.phase }, { on := 8, ground := Go.Ground.phase }, { on := 9, ground := Go.Ground.phase }, { on := 10, ground := Go.Ground.phase }, { on := 11, ground := Go.Ground.phase }, { on := 12, ground := Go.Ground.phase }, { on := 13, ground := Go.Ground.phase }], guard := none }) (v := ?_) rfl (by kernel_rfl) (by kernel_rfl) (by kernel_rfl) (fun _ _ _ h => h) (Or.inl ⟨by rfl, ?_⟩) hS ?_
      rotate_left
      · (intro w hSw; have hSw := (HSd.out w).1 hSw; go_split_ands; go_simp) <;> with_reducible rfl
      clear hS
      try simp only [Act.put, List.setIfInBounds_toArray, List.set_cons_zero, List.set_cons_succ]
      refine wpAnyH_done (by kernel_rfl) ?_ _
      go_wp2_with fail
      go_meet
      exact ⟨ra, rc, _, rfl, rfl, rfl, HA.out.grow HA.out.up (Nat.le_refl _), bn11, le11, bn11.lt, HW.out⟩
    refine AllReadyH.cons (o := { dst := some 11, op := Go.Op.alloc 61, type := 0, pos := "exact.go:2830", after := #[], guard := none }) rfl (fun Kn hK => ?_) AllReadyH.nil
    go_simp
    generalize hX : World.alloc V0 _ = V13
    obtain ⟨g11, hg⟩ : ∃ g, g = V0.heap.size := ⟨_, rfl⟩
    have bn11 : Bk V13 g11 #[.int .i64 0, .bool false, .int .i64 0, .int .i64 0] 61 := by rw [← hX]; exact Bk.new' hg
    have le11 : w2.heap.size ≤ g11 := by rw [hg]; exact HW.out.size
    have nebX_11 : w.heap.size ≠ g11 := by have := bX.lt; omega
    replace bX : Bk V13 (w.heap.size) #[.slice a0 zs.length cap0, .slice b0 ys.length cap1] 45 := by rw [← hX]; exact bX.alloc _
    have nebD_11 : w.heap.size + 1 ≠ g11 := by have := bD.lt; omega
    replace bD : Bk V13 (w.heap.size + 1) #[.int .i64 c, .int .i64 s, .int .i64 h] 30 := by rw [← hX]; exact bD.alloc _
    try rw [← hg]
    have hb : Below V0.heap.size V0 V13 := by rw [← hX]; exact (Below.refl _ _).alloc (Nat.le_refl _) _
    clear hX hg
    try replace HR := Lib.hid (HR.out.on hb)
    try replace HA := Lib.hid (HA.out.on hb)
    replace HW := Lib.hid (bel_end HW.out hb)
    clear hb
    refine hK.out _ _ (HSp.out _ bX bD) (fun _ => ?_)
    clear hK Kn
    refine wpAnyH_ready (rs := [1]) (by kernel_rfl) (by simp) ?_
    refine AllReadyH.cons (o := { dst := some 30, op := Go.Op.call { callee := Go.Callee.value (Go.Operand.func 34), args := #[Go.Operand.tmp 29], argTypes := #[45] }, type := 51, pos := "exact.go:2830", after := #[{ on := 0, ground := Go.Ground.data }], guard := none }) rfl (fun Kn hK => ?_) AllReadyH.nil
    first | go_at_call 34 | (go_simp; go_at_call 34)
    (refine Calls.mono (top_any _ _ _ _ _ zs ys (HP.out.on HW.out).prof) ?_)
    rintro e V14 ⟨g1, g2, rfl, hg1, hg2, hr1, hr2, hb⟩
    have HR := Lib.hid (Prof.of_rows hr1 hr2 lz ly)
    clear hr1 hr2
    try dsimp only
    try simp only [Act.put, List.setIfInBounds_toArray, List.set_cons_zero, List.set_cons_succ]
    replace bX := bX.on hb
    replace bD := bD.on hb
    replace bn11 := bn11.on hb
    try replace HR := Lib.hid (HR.out.on hb)
    try replace HA := Lib.hid (HA.out.on hb)
    replace HW := Lib.hid (bel_end HW.out hb)
    clear hb
    refine hK.out _ _ (HSp.out _ bX bD) (fun _ => ?_)
    clear hK Kn
    refine wpAnyH_ready (rs := [4]) (by kernel_rfl) (by simp) ?_
    refine AllReadyH.cons (o := { dst := some 33, op := Go.Op.call { callee := Go.Callee.value (Go.Operand.func 25), args := #[Go.Operand.tmp 32], argTypes := #[30] }, type := 32, pos := "exact.go:2830", after := #[{ on := 3, ground := Go.Ground.data }, { on := 1, ground := Go.Ground.chain }], guard := none }) rfl (fun Kn hK => ?_) AllReadyH.nil
    first | go_at_call 25 | (go_simp; go_at_call 25)
    refine (tod_any _ _ _ _).mono ?_
    rintro e V15 ⟨rfl, hb⟩
    try dsimp only
    try simp only [Act.put, List.setIfInBounds_toArray, List.set_cons_zero, List.set_cons_succ]
    replace bX := bX.on hb
    replace bD := bD.on hb
    replace bn11 := bn11.on hb
    try replace HR := Lib.hid (HR.out.on hb)
    try replace HA := Lib.hid (HA.out.on hb)
    replace HW := Lib.hid (bel_end HW.out hb)
    clear hb
    refine hK.out _ _ (HSp.out _ bX bD) (fun _ => ?_)
    clear hK Kn
    refine wpAnyH_ready (rs := [6]) (by kernel_rfl) (by simp) ?_
    refine AllReadyH.cons (o := { dst := some 35, op := Go.Op.call { callee := Go.Callee.value (Go.Operand.func 42), args := #[Go.Operand.tmp 30, Go.Operand.tmp 31, Go.Operand.tmp 33, Go.Operand.tmp 34], argTypes := #[51, 2, 32, 2] }, type := 62, pos := "exact.go:2830", after := #[{ on := 1, ground := Go.Ground.data }, { on := 2, ground := Go.Ground.data }, { on := 4, ground := Go.Ground.data }, { on := 5, ground := Go.Ground.data }, { on := 4, ground := Go.Ground.chain }], guard := none }) rfl (fun Kn hK => ?_) AllReadyH.nil
    first | go_at_call 42 | (go_simp; go_at_call 42)
    (with_reducible refine Calls.mono (S1.out _ _ _ _ _ (HR.out)) ?_)
    rintro e V16 ⟨ra, rc, rfl, hs, hb⟩
    have HA := Lib.hid (hs.less (HW.out.size))
    clear hs
    try dsimp only
    try simp only [Act.put, List.setIfInBounds_toArray, List.set_cons_zero, List.set_cons_succ]
    replace bX := bX.on hb
    replace bD := bD.on hb
    replace bn11 := bn11.on hb
    try replace HR := Lib.hid (HR.out.on hb)
    try replace HA := Lib.hid (HA.out.on hb)
    replace HW := Lib.hid (bel_end HW.out hb)
    clear hb
    refine hK.out _ _ (HSp.out _ bX bD) (fun _ => ?_)
    clear hK Kn
    have hS := HSp.out _ bX bD
    refine wpAnyH_take (i := 7) (oi := { dst := some 28, op := Go.Op.move (Go.Operand.tmp 35), type := 62, pos := "exact.go:2830", after := #[{ on := 6, ground := Go.Ground.data }], guard := none }) (v := ?_) rfl (by kernel_rfl) (by kernel_rfl) (by kernel_rfl) (fun _ _ _ h => h) (Or.inl ⟨by rfl, ?_⟩) hS ?_
    rotate_left
    · (intro w hSw; have hSw := (HSd.out w).1 hSw; go_split_ands; go_simp) <;> with_reducible rfl
    clear hS
    try simp only [Act.put, List.setIfInBounds_toArray, List.set_cons_zero, List.set_cons_succ]
    have hS := HSp.out _ bX bD
    refine wpAnyH_take (i := 8) (oi := { dst := some 36, op := Go.Op.extract (Go.Operand.tmp 28) 0, type := 43, pos := "exact.go:2830", after := #[{ on := 7, ground := Go.Ground.data }], guard := none }) (v := ?_) rfl (by kernel_rfl) (by kernel_rfl) (by kernel_rfl) (fun _ _ _ h => h) (Or.inl ⟨by rfl, ?_⟩) hS ?_
    rotate_left
    · (intro w hSw; have hSw := (HSd.out w).1 hSw; go_split_ands; go_simp) <;> with_reducible rfl
    clear hS
    try simp only [Act.put, List.setIfInBounds_toArray, List.set_cons_zero, List.set_cons_succ]
    have hS := HSp.out _ bX bD
    refine wpAnyH_take (i := 9) (oi := { dst := some 37, op := Go.Op.extract (Go.Operand.tmp 28) 1, type := 61, pos := "exact.go:2830", after := #[{ on := 7, ground := Go.Ground.data }, { on := 12, ground := Go.Ground.gcOnly Go.Departure.lateStores }], guard := none }) (v := ?_) rfl (by kernel_rfl) (by kernel_rfl) (by kernel_rfl) (fun _ _ _ h => h) (Or.inl ⟨by rfl, ?_⟩) hS ?_
    rotate_left
    · (intro w hSw; have hSw := (HSd.out w).1 hSw; go_split_ands; go_simp) <;> with_reducible rfl
    clear hS
    try simp only [Act.put, List.setIfInBounds_toArray, List.set_cons_zero, List.set_cons_succ]
    have hS := HSp.out _ bX bD
    refine wpAnyH_take (i := 10) (oi := { dst := some 38, op := Go.Op.extract (Go.Operand.tmp 28) 2, type := 2, pos := "exact.go:2830", after := #[{ on := 7, ground := Go.Ground.data }, { on := 13, ground := Go.Ground.gcOnly Go.Departure.lateStores }], guard := none }) (v := ?_) rfl (by kernel_rfl) (by kernel_rfl) (by kernel_rfl) (fun _ _ _ h => h) (Or.inl ⟨by rfl, ?_⟩) hS ?_
    rotate_left
    · (intro w hSw; have hSw := (HSd.out w).1 hSw; go_split_ands; go_simp) <;> with_reducible rfl
    clear hS
    try simp only [Act.put, List.setIfInBounds_toArray, List.set_cons_zero, List.set_cons_succ]
    have hS := HSp.out _ bX bD
    refine wpAnyH_take (i := 12) (oi := { dst := some 10, op := Go.Op.assign (Go.Operand.tmp 36), type := 43, pos := "exact.go:2830", after := #[{ on := 8, ground := Go.Ground.data }, { on := 6, ground := Go.Ground.chain }, { on := 0, ground := Go.Ground.phase }, { on := 1, ground := Go.Ground.phase }, { on := 2, ground := Go.Ground.phase }, { on := 3, ground := Go.Ground.phase }, { on := 4, ground := Go.Ground.phase }, { on := 5, ground := Go.Ground.phase }, { on := 6, ground := Go.Ground.phase }, { on := 7, ground := Go.Ground.phase }, { on := 8, ground := Go.Ground.phase }, { on := 9, ground := Go.Ground.textOnly Go.Departure.lateStores }, { on := 10, ground := Go.Ground.textOnly Go.Departure.lateStores }, { on := 11, ground := Go.Ground.phase }], guard := none }) (v := ?_) rfl (by kernel_rfl) (by kernel_rfl) (by kernel_rfl) (fun _ _ _ h => h) (Or.inl ⟨by rfl, ?_⟩) hS ?_
    rotate_left
    · (intro w hSw; have hSw := (HSd.out w).1 hSw; go_split_ands; go_simp) <;> with_reducible rfl
    clear hS
    try simp only [Act.put, List.setIfInBounds_toArray, List.set_cons_zero, List.set_cons_succ]
    refine wpAnyH_ready (rs := [13]) (by kernel_rfl) (by simp) ?_
    refine AllReadyH.cons (o := { dst := none, op := Go.Op.store 61 (Go.Operand.tmp 11) (Go.Operand.tmp 37), type := 0, pos := "exact.go:2830", after := #[{ on := 11, ground := Go.Ground.data }, { on := 9, ground := Go.Ground.data }, { on := 12, ground := Go.Ground.chain }, { on := 0, ground := Go.Ground.phase }, { on := 1, ground := Go.Ground.phase }, { on := 2, ground := Go.Ground.phase }, { on := 3, ground := Go.Ground.phase }, { on := 4, ground := Go.Ground.phase }, { on := 5, ground := Go.Ground.phase }, { on := 6, ground := Go.Ground.phase }, { on := 7, ground := Go.Ground.phase }, { on := 8, ground := Go.Ground.phase }, { on := 9, ground := Go.Ground.phase }, { on := 10, ground := Go.Ground.textOnly Go.Departure.lateStores }, { on := 11, ground := Go.Ground.phase }, { on := 12, ground := Go.Ground.phase }], guard := none }) rfl (fun Kn hK => ?_) AllReadyH.nil
    have bn11_0 := bn11.cell 0 rfl
    have bn11_1 := bn11.cell 1 rfl
    have bn11_2 := bn11.cell 2 rfl
    have bn11_3 := bn11.cell 3 rfl
    have bn11_f0 := bn11.frozen 0
    have bn11_f1 := bn11.frozen 1
    have bn11_f2 := bn11.frozen 2
    have bn11_f3 := bn11.frozen 3
    have bn11_l := bn11.lt
    go_simp
    clear bn11_0 bn11_f0 bn11_1 bn11_f1 bn11_2 bn11_f2 bn11_3 bn11_f3 bn11_l
    generalize hX : World.setCell _ _ _ = V17
    have hb : Below w2.heap.size w2 V17 := by rw [← hX]; exact ((((HW.out.setCell (p := ⟨g11, 0, none⟩) le11 _).setCell (p := ⟨g11, 1, none⟩) le11 _).setCell (p := ⟨g11, 2, none⟩) le11 _).setCell (p := ⟨g11, 3, none⟩) le11 _)
    have HA2 := Lib.hid (show OwnA V17 _ _ _ _ _ from by rw [← hX]; exact ownA_farB HA.out bn11 (by decide) _ _ _ _)
    clear HA
    have HA := HA2
    clear HA2
    replace bX : Bk V17 (w.heap.size) #[.slice a0 zs.length cap0, .slice b0 ys.length cap1] 45 := by rw [← hX]; exact (Bk.other (Bk.other (Bk.other (Bk.other bX nebX_11 0 _) nebX_11 1 _) nebX_11 2 _) nebX_11 3 _)
    replace bD : Bk V17 (w.heap.size + 1) #[.int .i64 c, .int .i64 s, .int .i64 h] 30 := by rw [← hX]; exact (Bk.other (Bk.other (Bk.other (Bk.other bD nebD_11 0 _) nebD_11 1 _) nebD_11 2 _) nebD_11 3 _)
    replace bn11 : Bk V17 (g11) #[.int .i64 s0, .bool s1, .int .i64 s2, .int .i64 s3] 61 := by rw [← hX]; exact (Bk.set (Bk.set (Bk.set (Bk.set bn11 0 _ rfl) 1 _ rfl) 2 _ rfl) 3 _ rfl)
    clear hX
    replace HW := Lib.hid hb
    clear hb
    refine hK.out _ _ (HSp.out _ bX bD) (fun _ => ?_)
    clear hK Kn
    have hS := HSp.out _ bX bD
    refine wpAnyH_take (i := 14) (oi := { dst := some 12, op := Go.Op.assign (Go.Operand.tmp 38), type := 2, pos := "exact.go:2830", after := #[{ on := 10, ground := Go.Ground.data }, { on := 13, ground := Go.Ground.chain }, { on := 0, ground := Go.Ground.phase }, { on := 1, ground := Go.Ground.phase }, { on := 2, ground := Go.Ground.phase }, { on := 3, ground := Go.Ground.phase }, { on := 4, ground := Go.Ground.phase }, { on := 5, ground := Go.Ground.phase }, { on := 6, ground := Go.Ground.phase }, { on := 7, ground := Go.Ground.phase }, { on := 8, ground := Go.Ground.phase }, { on := 9, ground := Go.Ground.phase }, { on := 10, ground := Go.Ground.phase }, { on := 11, ground := Go.Ground.phase }, { on := 12, ground := Go.Ground.phase }, { on := 13, ground := Go.Ground.phase }], guard := none }) (v := ?_) rfl (by kernel_rfl) (by kernel_rfl) (by kernel_rfl) (fun _ _ _ h => h) (Or.inl ⟨by rfl, ?_⟩) hS ?_
    rotate_left
    · (intro w hSw; have hSw := (HSd.out w).1 hSw; go_split_ands; go_simp) <;> with_reducible rfl
    clear hS
    try simp only [Act.put, List.setIfInBounds_toArray, List.set_cons_zero, List.set_cons_succ]
    refine wpAnyH_done (by kernel_rfl) ?_ _
    go_wp2_with fail
    go_meet
    exact ⟨ra, rc, _, rfl, rfl, rfl, HA.out.grow HA.out.up (Nat.le_refl _), bn11, le11, bn11.lt, HW.out⟩
  case rest =>
    obtain ⟨sa, sc, gs, rfl, rfl, rfl, hs, bs, le_s, lt_s, hb⟩ := hcut
    have q_s := hb.size
    obtain ⟨w4, hwc⟩ : ∃ X, X = wc := ⟨_, rfl⟩
    rw [← hwc] at hs hb q_s bs lt_s ⊢
    clear hwc
    replace bX := bX.on hb
    replace bD := bD.on hb
    replace HP := Lib.hid (HP.out.on hb)
    replace HB := Lib.hid (bel_end HB.out hb)
    have HS := Lib.hid (IntL.of hs.ints)
    clear hs hb
    have bX_0 := bX.cell 0 rfl
    have bX_1 := bX.cell 1 rfl
    have bX_l := bX.lt
    have bD_0 := bD.cell 0 rfl
    have bD_1 := bD.cell 1 rfl
    have bD_2 := bD.cell 2 rfl
    have bD_l := bD.lt
    have bs_0 := bs.cell 0 rfl
    have bs_1 := bs.cell 1 rfl
    have bs_2 := bs.cell 2 rfl
    have bs_3 := bs.cell 3 rfl
    have bs_l := bs.lt
    go_wp2_with fail
    have p1 := bX.lt
    have p2 := bD.lt
    have p3 := HS.out.le
    have p4 := HB.out.size
    refine (top_any _ _ _ _ _ zs ys HP.out.prof).mono ?_
    rintro e w5 ⟨g3, g4, rfl, hg3, hg4, hr1, hr2, hb⟩
    replace bX := bX.on hb
    replace bD := bD.on hb
    replace bs := bs.on hb
    replace HP := Lib.hid (HP.out.on hb)
    replace HS := Lib.hid (HS.out.on hb)
    replace HB := Lib.hid (bel_end HB.out hb)
    have q1 := hb.size
    have HX := Lib.hid (OwnP.new2 hg3 hg4 hr1 hr2 lz ly)
    clear hr1 hr2 hg3 hg4
    clear hb
    clear bX_0 bX_1 bX_l bD_0 bD_1 bD_2 bD_l bs_0 bs_1 bs_2 bs_3 bs_l
    go_upto_region 7 with fail
    obtain ⟨W6, hW⟩ : ∃ W, W = (w5.alloc (.cells #[.slice (some ⟨g3, 0, none⟩) zs.length zs.length, .slice (some ⟨g4, 0, none⟩) ys.length ys.length] 51)) := ⟨_, rfl⟩
    have hb : Below w5.heap.size w5 W6 := by rw [hW]; exact (by repeat (first | exact Below.refl _ _ | (refine Below.alloc ?_ (by simp <;> omega) _) | (refine Below.setCell ?_ (by simp <;> omega) _) | (refine Below.drew ?_) | (refine bel_drewN ?_ _)))
    have bY : Bk W6 (w5.heap.size) #[.slice (some ⟨g3, 0, none⟩) zs.length zs.length, .slice (some ⟨g4, 0, none⟩) ys.length ys.length] 51 := by rw [hW]; exact (Bk.new' (by simp))
    replace bX := bX.on hb
    replace bD := bD.on hb
    replace bs := bs.on hb
    replace HP := Lib.hid (HP.out.on hb)
    replace HS := Lib.hid (HS.out.on hb)
    replace HX := Lib.hid (HX.out.on hb)
    replace HB := Lib.hid (bel_end HB.out hb)
    rw [← hW]
    clear hW hb
    have p5 := bY.lt
    have p6 := HX.out.up
    have p7 := HS.out.le
    have p8 := HB.out.size
    go_upto_region 7 with fail
    go_cut [14, 15, 16] (fun s14 s15 s16 wx => ∃ (a' : Option Addr) (c' g : Nat), s14 = .slice a' LL.length c' ∧ s15 = .pointer (some ⟨g, 0, none⟩) ∧ s16 = .int .i64 qq ∧ OwnA wx W6.heap.size wx.heap.size a' c' LL ∧ Bk wx g #[.int .i64 s0, .bool s1, .int .i64 s2, .int .i64 s3] 61 ∧ W6.heap.size ≤ g ∧ g < wx.heap.size ∧ Below W6.heap.size W6 wx)
    case first =>
      have HW : Hid (Below W6.heap.size W6 W6) := Lib.hid (Below.refl _ _)
      obtain ⟨S, hSd⟩ : ∃ S : World → Prop, ∀ w', S w' ↔ (w'.cell? ⟨w5.heap.size, 0, none⟩ = some (.slice (some ⟨g3, 0, none⟩) zs.length zs.length) ∧ w'.cell? ⟨w5.heap.size, 1, none⟩ = some (.slice (some ⟨g4, 0, none⟩) ys.length ys.length) ∧ w'.cell? ⟨w.heap.size + 1, 0, none⟩ = some (.int .i64 c) ∧ w'.cell? ⟨w.heap.size + 1, 1, none⟩ = some (.int .i64 s) ∧ w'.cell? ⟨w.heap.size + 1, 2, none⟩ = some (.int .i64 h)) := ⟨_, fun _ => Iff.rfl⟩
      have HSp : Hid (∀ w' : World, Bk w' (w5.heap.size) #[.slice (some ⟨g3, 0, none⟩) zs.length zs.length, .slice (some ⟨g4, 0, none⟩) ys.length ys.length] 51 → Bk w' (w.heap.size + 1) #[.int .i64 c, .int .i64 s, .int .i64 h] 30 → S w') := Lib.hid (fun w' bY bD => (hSd w').2 ⟨bY.cell 0 rfl, bY.cell 1 rfl, bD.cell 0 rfl, bD.cell 1 rfl, bD.cell 2 rfl⟩)
      have HSd := Lib.hid hSd
      clear hSd
      refine wp_region_held_drew (S := S) (by kernel_rfl) ?_ (fun hH => ?_)
      · exact (HSp.out _ bY bD : S (World.drew W6))
      clear hH
      generalize hX : World.drew W6 = V0
      replace bY : Bk V0 (w5.heap.size) #[.slice (some ⟨g3, 0, none⟩) zs.length zs.length, .slice (some ⟨g4, 0, none⟩) ys.length ys.length] 51 := by rw [← hX]; exact bY
      replace bD : Bk V0 (w.heap.size + 1) #[.int .i64 c, .int .i64 s, .int .i64 h] 30 := by rw [← hX]; exact bD
      have hb : Below W6.heap.size W6 V0 := by rw [← hX]; exact (Below.refl _ _).drew
      clear hX
      try replace HR := Lib.hid (HR.out.on hb)
      try replace HA := Lib.hid (HA.out.on hb)
      replace HW := Lib.hid (bel_end HW.out hb)
      clear hb
      have hS := HSp.out _ bY bD
      refine wpAnyH_take (i := 0) (oi := { dst := some 42, op := Go.Op.load 51 (Go.Operand.tmp 13), type := 51, pos := "exact.go:2832", after := #[], guard := none }) (v := ?_) rfl (by kernel_rfl) (by kernel_rfl) (by kernel_rfl) (fun _ _ _ h => h) (Or.inl ⟨by rfl, ?_⟩) hS ?_
      rotate_left
      · (intro w hSw; have hSw := (HSd.out w).1 hSw; go_split_ands; go_simp) <;> with_reducible rfl
      clear hS
      try simp only [Act.put, List.setIfInBounds_toArray, List.set_cons_zero, List.set_cons_succ]
      have hS := HSp.out _ bY bD
      refine wpAnyH_take (i := 1) (oi := { dst := some 43, op := Go.Op.move (Go.Operand.tmp 1), type := 2, pos := "exact.go:2832", after := #[], guard := none }) (v := ?_) rfl (by kernel_rfl) (by kernel_rfl) (by kernel_rfl) (fun _ _ _ h => h) (Or.inl ⟨by rfl, ?_⟩) hS ?_
      rotate_left
      · (intro w hSw; have hSw := (HSd.out w).1 hSw; go_split_ands; go_simp) <;> with_reducible rfl
      clear hS
      try simp only [Act.put, List.setIfInBounds_toArray, List.set_cons_zero, List.set_cons_succ]
      have hS := HSp.out _ bY bD
      refine wpAnyH_take (i := 2) (oi := { dst := some 44, op := Go.Op.load 30 (Go.Operand.tmp 6), type := 30, pos := "exact.go:2832", after := #[], guard := none }) (v := ?_) rfl (by kernel_rfl) (by kernel_rfl) (by kernel_rfl) (fun _ _ _ h => h) (Or.inl ⟨by rfl, ?_⟩) hS ?_
      rotate_left
      · (intro w hSw; have hSw := (HSd.out w).1 hSw; go_split_ands; go_simp) <;> with_reducible rfl
      clear hS
      try simp only [Act.put, List.setIfInBounds_toArray, List.set_cons_zero, List.set_cons_succ]
      have hS := HSp.out _ bY bD
      refine wpAnyH_take (i := 4) (oi := { dst := some 46, op := Go.Op.move (Go.Operand.tmp 3), type := 2, pos := "exact.go:2832", after := #[], guard := none }) (v := ?_) rfl (by kernel_rfl) (by kernel_rfl) (by kernel_rfl) (fun _ _ _ h => h) (Or.inl ⟨by rfl, ?_⟩) hS ?_
      rotate_left
      · (intro w hSw; have hSw := (HSd.out w).1 hSw; go_split_ands; go_simp) <;> with_reducible rfl
      clear hS
      try simp only [Act.put, List.setIfInBounds_toArray, List.set_cons_zero, List.set_cons_succ]
      refine wpAnyH_ready (rs := [3, 10]) (by kernel_rfl) (by simp) ?_
      refine AllReadyH.cons (o := { dst := some 45, op := Go.Op.call { callee := Go.Callee.value (Go.Operand.func 25), args := #[Go.Operand.tmp 44], argTypes := #[30] }, type := 32, pos := "exact.go:2832", after := #[{ on := 2, ground := Go.Ground.data }], guard := none }) rfl (fun Kn hK => ?_) ?_
      · first | go_at_call 25 | (go_simp; go_at_call 25)
        refine (tod_any _ _ _ _).mono ?_
        rintro e V1 ⟨rfl, hb⟩
        try dsimp only
        try simp only [Act.put, List.setIfInBounds_toArray, List.set_cons_zero, List.set_cons_succ]
        replace bY := bY.on hb
        replace bD := bD.on hb
        try replace HR := Lib.hid (HR.out.on hb)
        try replace HA := Lib.hid (HA.out.on hb)
        replace HW := Lib.hid (bel_end HW.out hb)
        clear hb
        refine hK.out _ _ (HSp.out _ bY bD) (fun _ => ?_)
        clear hK Kn
        refine wpAnyH_ready (rs := [5, 10]) (by kernel_rfl) (by simp) ?_
        refine AllReadyH.cons (o := { dst := some 47, op := Go.Op.call { callee := Go.Callee.value (Go.Operand.func 41), args := #[Go.Operand.tmp 42, Go.Operand.tmp 43, Go.Operand.tmp 45, Go.Operand.tmp 46], argTypes := #[51, 2, 32, 2] }, type := 62, pos := "exact.go:2832", after := #[{ on := 0, ground := Go.Ground.data }, { on := 1, ground := Go.Ground.data }, { on := 3, ground := Go.Ground.data }, { on := 4, ground := Go.Ground.data }, { on := 3, ground := Go.Ground.chain }], guard := none }) rfl (fun Kn hK => ?_) ?_
        · first | go_at_call 41 | (go_simp; go_at_call 41)
          (with_reducible refine Calls.mono (S2.out _ _ _ _ _ ((HX.out.on HW.out).prof)) ?_)
          rintro e V2 ⟨ra, rc, rfl, hs, hb⟩
          have HA := Lib.hid (hs.less (HW.out.size))
          clear hs
          try dsimp only
          try simp only [Act.put, List.setIfInBounds_toArray, List.set_cons_zero, List.set_cons_succ]
          replace bY := bY.on hb
          replace bD := bD.on hb
          try replace HR := Lib.hid (HR.out.on hb)
          try replace HA := Lib.hid (HA.out.on hb)
          replace HW := Lib.hid (bel_end HW.out hb)
          clear hb
          refine hK.out _ _ (HSp.out _ bY bD) (fun _ => ?_)
          clear hK Kn
          have hS := HSp.out _ bY bD
          refine wpAnyH_take (i := 6) (oi := { dst := some 41, op := Go.Op.move (Go.Operand.tmp 47), type := 62, pos := "exact.go:2832", after := #[{ on := 5, ground := Go.Ground.data }], guard := none }) (v := ?_) rfl (by kernel_rfl) (by kernel_rfl) (by kernel_rfl) (fun _ _ _ h => h) (Or.inl ⟨by rfl, ?_⟩) hS ?_
          rotate_left
          · (intro w hSw; have hSw := (HSd.out w).1 hSw; go_split_ands; go_simp) <;> with_reducible rfl
          clear hS
          try simp only [Act.put, List.setIfInBounds_toArray, List.set_cons_zero, List.set_cons_succ]
          have hS := HSp.out _ bY bD
          refine wpAnyH_take (i := 7) (oi := { dst := some 48, op := Go.Op.extract (Go.Operand.tmp 41) 0, type := 43, pos := "exact.go:2832", after := #[{ on := 6, ground := Go.Ground.data }], guard := none }) (v := ?_) rfl (by kernel_rfl) (by kernel_rfl) (by kernel_rfl) (fun _ _ _ h => h) (Or.inl ⟨by rfl, ?_⟩) hS ?_
          rotate_left
          · (intro w hSw; have hSw := (HSd.out w).1 hSw; go_split_ands; go_simp) <;> with_reducible rfl
          clear hS
          try simp only [Act.put, List.setIfInBounds_toArray, List.set_cons_zero, List.set_cons_succ]
          have hS := HSp.out _ bY bD
          refine wpAnyH_take (i := 8) (oi := { dst := some 49, op := Go.Op.extract (Go.Operand.tmp 41) 1, type := 61, pos := "exact.go:2832", after := #[{ on := 6, ground := Go.Ground.data }, { on := 11, ground := Go.Ground.gcOnly Go.Departure.lateStores }], guard := none }) (v := ?_) rfl (by kernel_rfl) (by kernel_rfl) (by kernel_rfl) (fun _ _ _ h => h) (Or.inl ⟨by rfl, ?_⟩) hS ?_
          rotate_left
          · (intro w hSw; have hSw := (HSd.out w).1 hSw; go_split_ands; go_simp) <;> with_reducible rfl
          clear hS
          try simp only [Act.put, List.setIfInBounds_toArray, List.set_cons_zero, List.set_cons_succ]
          have hS := HSp.out _ bY bD
          refine wpAnyH_take (i := 9) (oi := { dst := some 50, op := Go.Op.extract (Go.Operand.tmp 41) 2, type := 2, pos := "exact.go:2832", after := #[{ on := 6, ground := Go.Ground.data }, { on := 12, ground := Go.Ground.gcOnly Go.Departure.lateStores }], guard := none }) (v := ?_) rfl (by kernel_rfl) (by kernel_rfl) (by kernel_rfl) (fun _ _ _ h => h) (Or.inl ⟨by rfl, ?_⟩) hS ?_
          rotate_left
          · (intro w hSw; have hSw := (HSd.out w).1 hSw; go_split_ands; go_simp) <;> with_reducible rfl
          clear hS
          try simp only [Act.put, List.setIfInBounds_toArray, List.set_cons_zero, List.set_cons_succ]
          refine wpAnyH_ready (rs := [10]) (by kernel_rfl) (by simp) ?_
          refine AllReadyH.cons (o := { dst := some 15, op := Go.Op.alloc 61, type := 0, pos := "exact.go:2832", after := #[], guard := none }) rfl (fun Kn hK => ?_) AllReadyH.nil
          go_simp
          generalize hX : World.alloc V2 _ = V3
          obtain ⟨g10, hg⟩ : ∃ g, g = V2.heap.size := ⟨_, rfl⟩
          have bn10 : Bk V3 g10 #[.int .i64 0, .bool false, .int .i64 0, .int .i64 0] 61 := by rw [← hX]; exact Bk.new' hg
          have le10 : W6.heap.size ≤ g10 := by rw [hg]; exact HW.out.size
          have nebY_10 : w5.heap.size ≠ g10 := by have := bY.lt; omega
          replace bY : Bk V3 (w5.heap.size) #[.slice (some ⟨g3, 0, none⟩) zs.length zs.length, .slice (some ⟨g4, 0, none⟩) ys.length ys.length] 51 := by rw [← hX]; exact bY.alloc _
          have nebD_10 : w.heap.size + 1 ≠ g10 := by have := bD.lt; omega
          replace bD : Bk V3 (w.heap.size + 1) #[.int .i64 c, .int .i64 s, .int .i64 h] 30 := by rw [← hX]; exact bD.alloc _
          try rw [← hg]
          have hb : Below V2.heap.size V2 V3 := by rw [← hX]; exact (Below.refl _ _).alloc (Nat.le_refl _) _
          clear hX hg
          try replace HR := Lib.hid (HR.out.on hb)
          try replace HA := Lib.hid (HA.out.on hb)
          replace HW := Lib.hid (bel_end HW.out hb)
          clear hb
          refine hK.out _ _ (HSp.out _ bY bD) (fun _ => ?_)
          clear hK Kn
          have hS := HSp.out _ bY bD
          refine wpAnyH_take (i := 11) (oi := { dst := some 14, op := Go.Op.assign (Go.Operand.tmp 48), type := 43, pos := "exact.go:2832", after := #[{ on := 7, ground := Go.Ground.data }, { on := 5, ground := Go.Ground.chain }, { on := 0, ground := Go.Ground.phase }, { on := 1, ground := Go.Ground.phase }, { on := 2, ground := Go.Ground.phase }, { on := 3, ground := Go.Ground.phase }, { on := 4, ground := Go.Ground.phase }, { on := 5, ground := Go.Ground.phase }, { on := 6, ground := Go.Ground.phase }, { on := 7, ground := Go.Ground.phase }, { on := 8, ground := Go.Ground.textOnly Go.Departure.lateStores }, { on := 9, ground := Go.Ground.textOnly Go.Departure.lateStores }, { on := 10, ground := Go.Ground.phase }], guard := none }) (v := ?_) rfl (by kernel_rfl) (by kernel_rfl) (by kernel_rfl) (fun _ _ _ h => h) (Or.inl ⟨by rfl, ?_⟩) hS ?_
          rotate_left
          · (intro w hSw; have hSw := (HSd.out w).1 hSw; go_split_ands; go_simp) <;> with_reducible rfl
          clear hS
          try simp only [Act.put, List.setIfInBounds_toArray, List.set_cons_zero, List.set_cons_succ]
          refine wpAnyH_ready (rs := [12]) (by kernel_rfl) (by simp) ?_
          refine AllReadyH.cons (o := { dst := none, op := Go.Op.store 61 (Go.Operand.tmp 15) (Go.Operand.tmp 49), type := 0, pos := "exact.go:2832", after := #[{ on := 10, ground := Go.Ground.data }, { on := 8, ground := Go.Ground.data }, { on := 11, ground := Go.Ground.chain }, { on := 0, ground := Go.Ground.phase }, { on := 1, ground := Go.Ground.phase }, { on := 2, ground := Go.Ground.phase }, { on := 3, ground := Go.Ground.phase }, { on := 4, ground := Go.Ground.phase }, { on := 5, ground := Go.Ground.phase }, { on := 6, ground := Go.Ground.phase }, { on := 7, ground := Go.Ground.phase }, { on := 8, ground := Go.Ground.phase }, { on := 9, ground := Go.Ground.textOnly Go.Departure.lateStores }, { on := 10, ground := Go.Ground.phase }, { on := 11, ground := Go.Ground.phase }], guard := none }) rfl (fun Kn hK => ?_) AllReadyH.nil
          have bn10_0 := bn10.cell 0 rfl
          have bn10_1 := bn10.cell 1 rfl
          have bn10_2 := bn10.cell 2 rfl
          have bn10_3 := bn10.cell 3 rfl
          have bn10_f0 := bn10.frozen 0
          have bn10_f1 := bn10.frozen 1
          have bn10_f2 := bn10.frozen 2
          have bn10_f3 := bn10.frozen 3
          have bn10_l := bn10.lt
          go_simp
          clear bn10_0 bn10_f0 bn10_1 bn10_f1 bn10_2 bn10_f2 bn10_3 bn10_f3 bn10_l
          generalize hX : World.setCell _ _ _ = V4
          have hb : Below W6.heap.size W6 V4 := by rw [← hX]; exact ((((HW.out.setCell (p := ⟨g10, 0, none⟩) le10 _).setCell (p := ⟨g10, 1, none⟩) le10 _).setCell (p := ⟨g10, 2, none⟩) le10 _).setCell (p := ⟨g10, 3, none⟩) le10 _)
          have HA2 := Lib.hid (show OwnA V4 _ _ _ _ _ from by rw [← hX]; exact ownA_farB HA.out bn10 (by decide) _ _ _ _)
          clear HA
          have HA := HA2
          clear HA2
          replace bY : Bk V4 (w5.heap.size) #[.slice (some ⟨g3, 0, none⟩) zs.length zs.length, .slice (some ⟨g4, 0, none⟩) ys.length ys.length] 51 := by rw [← hX]; exact (Bk.other (Bk.other (Bk.other (Bk.other bY nebY_10 0 _) nebY_10 1 _) nebY_10 2 _) nebY_10 3 _)
          replace bD : Bk V4 (w.heap.size + 1) #[.int .i64 c, .int .i64 s, .int .i64 h] 30 := by rw [← hX]; exact (Bk.other (Bk.other (Bk.other (Bk.other bD nebD_10 0 _) nebD_10 1 _) nebD_10 2 _) nebD_10 3 _)
          replace bn10 : Bk V4 (g10) #[.int .i64 s0, .bool s1, .int .i64 s2, .int .i64 s3] 61 := by rw [← hX]; exact (Bk.set (Bk.set (Bk.set (Bk.set bn10 0 _ rfl) 1 _ rfl) 2 _ rfl) 3 _ rfl)
          clear hX
          replace HW := Lib.hid hb
          clear hb
          refine hK.out _ _ (HSp.out _ bY bD) (fun _ => ?_)
          clear hK Kn
          have hS := HSp.out _ bY bD
          refine wpAnyH_take (i := 13) (oi := { dst := some 16, op := Go.Op.assign (Go.Operand.tmp 50), type := 2, pos := "exact.go:2832", after := #[{ on := 9, ground := Go.Ground.data }, { on := 12, ground := Go.Ground.chain }, { on := 0, ground := Go.Ground.phase }, { on := 1, ground := Go.Ground.phase }, { on := 2, ground := Go.Ground.phase }, { on := 3, ground := Go.Ground.phase }, { on := 4, ground := Go.Ground.phase }, { on := 5, ground := Go.Ground.phase }, { on := 6, ground := Go.Ground.phase }, { on := 7, ground := Go.Ground.phase }, { on := 8, ground := Go.Ground.phase }, { on := 9, ground := Go.Ground.phase }, { on := 10, ground := Go.Ground.phase }, { on := 11, ground := Go.Ground.phase }, { on := 12, ground := Go.Ground.phase }], guard := none }) (v := ?_) rfl (by kernel_rfl) (by kernel_rfl) (by kernel_rfl) (fun _ _ _ h => h) (Or.inl ⟨by rfl, ?_⟩) hS ?_
          rotate_left
          · (intro w hSw; have hSw := (HSd.out w).1 hSw; go_split_ands; go_simp) <;> with_reducible rfl
          clear hS
          try simp only [Act.put, List.setIfInBounds_toArray, List.set_cons_zero, List.set_cons_succ]
          refine wpAnyH_done (by kernel_rfl) ?_ _
          go_wp2_with fail
          go_meet
          exact ⟨ra, rc, _, rfl, rfl, rfl, HA.out.grow HA.out.up (Nat.le_refl _), bn10, le10, bn10.lt, HW.out⟩
        refine AllReadyH.cons (o := { dst := some 15, op := Go.Op.alloc 61, type := 0, pos := "exact.go:2832", after := #[], guard := none }) rfl (fun Kn hK => ?_) AllReadyH.nil
        go_simp
        generalize hX : World.alloc V1 _ = V5
        obtain ⟨g10, hg⟩ : ∃ g, g = V1.heap.size := ⟨_, rfl⟩
        have bn10 : Bk V5 g10 #[.int .i64 0, .bool false, .int .i64 0, .int .i64 0] 61 := by rw [← hX]; exact Bk.new' hg
        have le10 : W6.heap.size ≤ g10 := by rw [hg]; exact HW.out.size
        have nebY_10 : w5.heap.size ≠ g10 := by have := bY.lt; omega
        replace bY : Bk V5 (w5.heap.size) #[.slice (some ⟨g3, 0, none⟩) zs.length zs.length, .slice (some ⟨g4, 0, none⟩) ys.length ys.length] 51 := by rw [← hX]; exact bY.alloc _
        have nebD_10 : w.heap.size + 1 ≠ g10 := by have := bD.lt; omega
        replace bD : Bk V5 (w.heap.size + 1) #[.int .i64 c, .int .i64 s, .int .i64 h] 30 := by rw [← hX]; exact bD.alloc _
        try rw [← hg]
        have hb : Below V1.heap.size V1 V5 := by rw [← hX]; exact (Below.refl _ _).alloc (Nat.le_refl _) _
        clear hX hg
        try replace HR := Lib.hid (HR.out.on hb)
        try replace HA := Lib.hid (HA.out.on hb)
        replace HW := Lib.hid (bel_end HW.out hb)
        clear hb
        refine hK.out _ _ (HSp.out _ bY bD) (fun _ => ?_)
        clear hK Kn
        refine wpAnyH_ready (rs := [5]) (by kernel_rfl) (by simp) ?_
        refine AllReadyH.cons (o := { dst := some 47, op := Go.Op.call { callee := Go.Callee.value (Go.Operand.func 41), args := #[Go.Operand.tmp 42, Go.Operand.tmp 43, Go.Operand.tmp 45, Go.Operand.tmp 46], argTypes := #[51, 2, 32, 2] }, type := 62, pos := "exact.go:2832", after := #[{ on := 0, ground := Go.Ground.data }, { on := 1, ground := Go.Ground.data }, { on := 3, ground := Go.Ground.data }, { on := 4, ground := Go.Ground.data }, { on := 3, ground := Go.Ground.chain }], guard := none }) rfl (fun Kn hK => ?_) AllReadyH.nil
        first | go_at_call 41 | (go_simp; go_at_call 41)
        (with_reducible refine Calls.mono (S2.out _ _ _ _ _ ((HX.out.on HW.out).prof)) ?_)
        rintro e V6 ⟨ra, rc, rfl, hs, hb⟩
        have HA := Lib.hid (hs.less (HW.out.size))
        clear hs
        try dsimp only
        try simp only [Act.put, List.setIfInBounds_toArray, List.set_cons_zero, List.set_cons_succ]
        replace bY := bY.on hb
        replace bD := bD.on hb
        replace bn10 := bn10.on hb
        try replace HR := Lib.hid (HR.out.on hb)
        try replace HA := Lib.hid (HA.out.on hb)
        replace HW := Lib.hid (bel_end HW.out hb)
        clear hb
        refine hK.out _ _ (HSp.out _ bY bD) (fun _ => ?_)
        clear hK Kn
        have hS := HSp.out _ bY bD
        refine wpAnyH_take (i := 6) (oi := { dst := some 41, op := Go.Op.move (Go.Operand.tmp 47), type := 62, pos := "exact.go:2832", after := #[{ on := 5, ground := Go.Ground.data }], guard := none }) (v := ?_) rfl (by kernel_rfl) (by kernel_rfl) (by kernel_rfl) (fun _ _ _ h => h) (Or.inl ⟨by rfl, ?_⟩) hS ?_
        rotate_left
        · (intro w hSw; have hSw := (HSd.out w).1 hSw; go_split_ands; go_simp) <;> with_reducible rfl
        clear hS
        try simp only [Act.put, List.setIfInBounds_toArray, List.set_cons_zero, List.set_cons_succ]
        have hS := HSp.out _ bY bD
        refine wpAnyH_take (i := 7) (oi := { dst := some 48, op := Go.Op.extract (Go.Operand.tmp 41) 0, type := 43, pos := "exact.go:2832", after := #[{ on := 6, ground := Go.Ground.data }], guard := none }) (v := ?_) rfl (by kernel_rfl) (by kernel_rfl) (by kernel_rfl) (fun _ _ _ h => h) (Or.inl ⟨by rfl, ?_⟩) hS ?_
        rotate_left
        · (intro w hSw; have hSw := (HSd.out w).1 hSw; go_split_ands; go_simp) <;> with_reducible rfl
        clear hS
        try simp only [Act.put, List.setIfInBounds_toArray, List.set_cons_zero, List.set_cons_succ]
        have hS := HSp.out _ bY bD
        refine wpAnyH_take (i := 8) (oi := { dst := some 49, op := Go.Op.extract (Go.Operand.tmp 41) 1, type := 61, pos := "exact.go:2832", after := #[{ on := 6, ground := Go.Ground.data }, { on := 11, ground := Go.Ground.gcOnly Go.Departure.lateStores }], guard := none }) (v := ?_) rfl (by kernel_rfl) (by kernel_rfl) (by kernel_rfl) (fun _ _ _ h => h) (Or.inl ⟨by rfl, ?_⟩) hS ?_
        rotate_left
        · (intro w hSw; have hSw := (HSd.out w).1 hSw; go_split_ands; go_simp) <;> with_reducible rfl
        clear hS
        try simp only [Act.put, List.setIfInBounds_toArray, List.set_cons_zero, List.set_cons_succ]
        have hS := HSp.out _ bY bD
        refine wpAnyH_take (i := 9) (oi := { dst := some 50, op := Go.Op.extract (Go.Operand.tmp 41) 2, type := 2, pos := "exact.go:2832", after := #[{ on := 6, ground := Go.Ground.data }, { on := 12, ground := Go.Ground.gcOnly Go.Departure.lateStores }], guard := none }) (v := ?_) rfl (by kernel_rfl) (by kernel_rfl) (by kernel_rfl) (fun _ _ _ h => h) (Or.inl ⟨by rfl, ?_⟩) hS ?_
        rotate_left
        · (intro w hSw; have hSw := (HSd.out w).1 hSw; go_split_ands; go_simp) <;> with_reducible rfl
        clear hS
        try simp only [Act.put, List.setIfInBounds_toArray, List.set_cons_zero, List.set_cons_succ]
        have hS := HSp.out _ bY bD
        refine wpAnyH_take (i := 11) (oi := { dst := some 14, op := Go.Op.assign (Go.Operand.tmp 48), type := 43, pos := "exact.go:2832", after := #[{ on := 7, ground := Go.Ground.data }, { on := 5, ground := Go.Ground.chain }, { on := 0, ground := Go.Ground.phase }, { on := 1, ground := Go.Ground.phase }, { on := 2, ground := Go.Ground.phase }, { on := 3, ground := Go.Ground.phase }, { on := 4, ground := Go.Ground.phase }, { on := 5, ground := Go.Ground.phase }, { on := 6, ground := Go.Ground.phase }, { on := 7, ground := Go.Ground.phase }, { on := 8, ground := Go.Ground.textOnly Go.Departure.lateStores }, { on := 9, ground := Go.Ground.textOnly Go.Departure.lateStores }, { on := 10, ground := Go.Ground.phase }], guard := none }) (v := ?_) rfl (by kernel_rfl) (by kernel_rfl) (by kernel_rfl) (fun _ _ _ h => h) (Or.inl ⟨by rfl, ?_⟩) hS ?_
        rotate_left
        · (intro w hSw; have hSw := (HSd.out w).1 hSw; go_split_ands; go_simp) <;> with_reducible rfl
        clear hS
        try simp only [Act.put, List.setIfInBounds_toArray, List.set_cons_zero, List.set_cons_succ]
        refine wpAnyH_ready (rs := [12]) (by kernel_rfl) (by simp) ?_
        refine AllReadyH.cons (o := { dst := none, op := Go.Op.store 61 (Go.Operand.tmp 15) (Go.Operand.tmp 49), type := 0, pos := "exact.go:2832", after := #[{ on := 10, ground := Go.Ground.data }, { on := 8, ground := Go.Ground.data }, { on := 11, ground := Go.Ground.chain }, { on := 0, ground := Go.Ground.phase }, { on := 1, ground := Go.Ground.phase }, { on := 2, ground := Go.Ground.phase }, { on := 3, ground := Go.Ground.phase }, { on := 4, ground := Go.Ground.phase }, { on := 5, ground := Go.Ground.phase }, { on := 6, ground := Go.Ground.phase }, { on := 7, ground := Go.Ground.phase }, { on := 8, ground := Go.Ground.phase }, { on := 9, ground := Go.Ground.textOnly Go.Departure.lateStores }, { on := 10, ground := Go.Ground.phase }, { on := 11, ground := Go.Ground.phase }], guard := none }) rfl (fun Kn hK => ?_) AllReadyH.nil
        have bn10_0 := bn10.cell 0 rfl
        have bn10_1 := bn10.cell 1 rfl
        have bn10_2 := bn10.cell 2 rfl
        have bn10_3 := bn10.cell 3 rfl
        have bn10_f0 := bn10.frozen 0
        have bn10_f1 := bn10.frozen 1
        have bn10_f2 := bn10.frozen 2
        have bn10_f3 := bn10.frozen 3
        have bn10_l := bn10.lt
        go_simp
        clear bn10_0 bn10_f0 bn10_1 bn10_f1 bn10_2 bn10_f2 bn10_3 bn10_f3 bn10_l
        generalize hX : World.setCell _ _ _ = V7
        have hb : Below W6.heap.size W6 V7 := by rw [← hX]; exact ((((HW.out.setCell (p := ⟨g10, 0, none⟩) le10 _).setCell (p := ⟨g10, 1, none⟩) le10 _).setCell (p := ⟨g10, 2, none⟩) le10 _).setCell (p := ⟨g10, 3, none⟩) le10 _)
        have HA2 := Lib.hid (show OwnA V7 _ _ _ _ _ from by rw [← hX]; exact ownA_farB HA.out bn10 (by decide) _ _ _ _)
        clear HA
        have HA := HA2
        clear HA2
        replace bY : Bk V7 (w5.heap.size) #[.slice (some ⟨g3, 0, none⟩) zs.length zs.length, .slice (some ⟨g4, 0, none⟩) ys.length ys.length] 51 := by rw [← hX]; exact (Bk.other (Bk.other (Bk.other (Bk.other bY nebY_10 0 _) nebY_10 1 _) nebY_10 2 _) nebY_10 3 _)
        replace bD : Bk V7 (w.heap.size + 1) #[.int .i64 c, .int .i64 s, .int .i64 h] 30 := by rw [← hX]; exact (Bk.other (Bk.other (Bk.other (Bk.other bD nebD_10 0 _) nebD_10 1 _) nebD_10 2 _) nebD_10 3 _)
        replace bn10 : Bk V7 (g10) #[.int .i64 s0, .bool s1, .int .i64 s2, .int .i64 s3] 61 := by rw [← hX]; exact (Bk.set (Bk.set (Bk.set (Bk.set bn10 0 _ rfl) 1 _ rfl) 2 _ rfl) 3 _ rfl)
        clear hX
        replace HW := Lib.hid hb
        clear hb
        refine hK.out _ _ (HSp.out _ bY bD) (fun _ => ?_)
        clear hK Kn
        have hS := HSp.out _ bY bD
        refine wpAnyH_take (i := 13) (oi := { dst := some 16, op := Go.Op.assign (Go.Operand.tmp 50), type := 2, pos := "exact.go:2832", after := #[{ on := 9, ground := Go.Ground.data }, { on := 12, ground := Go.Ground.chain }, { on := 0, ground := Go.Ground.phase }, { on := 1, ground := Go.Ground.phase }, { on := 2, ground := Go.Ground.phase }, { on := 3, ground := Go.Ground.phase }, { on := 4, ground := Go.Ground.phase }, { on := 5, ground := Go.Ground.phase }, { on := 6, ground := Go.Ground.phase }, { on := 7, ground := Go.Ground.phase }, { on := 8, ground := Go.Ground.phase }, { on := 9, ground := Go.Ground.phase }, { on := 10, ground := Go.Ground.phase }, { on := 11, ground := Go.Ground.phase }, { on := 12, ground := Go.Ground.phase }], guard := none }) (v := ?_) rfl (by kernel_rfl) (by kernel_rfl) (by kernel_rfl) (fun _ _ _ h => h) (Or.inl ⟨by rfl, ?_⟩) hS ?_
        rotate_left
        · (intro w hSw; have hSw := (HSd.out w).1 hSw; go_split_ands; go_simp) <;> with_reducible rfl
        clear hS
        try simp only [Act.put, List.setIfInBounds_toArray, List.set_cons_zero, List.set_cons_succ]
        refine wpAnyH_done (by kernel_rfl) ?_ _
        go_wp2_with fail
        go_meet
        exact ⟨ra, rc, _, rfl, rfl, rfl, HA.out.grow HA.out.up (Nat.le_refl _), bn10, le10, bn10.lt, HW.out⟩
      refine AllReadyH.cons (o := { dst := some 15, op := Go.Op.alloc 61, type := 0, pos := "exact.go:2832", after := #[], guard := none }) rfl (fun Kn hK => ?_) AllReadyH.nil
      go_simp
      generalize hX : World.alloc V0 _ = V8
      obtain ⟨g10, hg⟩ : ∃ g, g = V0.heap.size := ⟨_, rfl⟩
      have bn10 : Bk V8 g10 #[.int .i64 0, .bool false, .int .i64 0, .int .i64 0] 61 := by rw [← hX]; exact Bk.new' hg
      have le10 : W6.heap.size ≤ g10 := by rw [hg]; exact HW.out.size
      have nebY_10 : w5.heap.size ≠ g10 := by have := bY.lt; omega
      replace bY : Bk V8 (w5.heap.size) #[.slice (some ⟨g3, 0, none⟩) zs.length zs.length, .slice (some ⟨g4, 0, none⟩) ys.length ys.length] 51 := by rw [← hX]; exact bY.alloc _
      have nebD_10 : w.heap.size + 1 ≠ g10 := by have := bD.lt; omega
      replace bD : Bk V8 (w.heap.size + 1) #[.int .i64 c, .int .i64 s, .int .i64 h] 30 := by rw [← hX]; exact bD.alloc _
      try rw [← hg]
      have hb : Below V0.heap.size V0 V8 := by rw [← hX]; exact (Below.refl _ _).alloc (Nat.le_refl _) _
      clear hX hg
      try replace HR := Lib.hid (HR.out.on hb)
      try replace HA := Lib.hid (HA.out.on hb)
      replace HW := Lib.hid (bel_end HW.out hb)
      clear hb
      refine hK.out _ _ (HSp.out _ bY bD) (fun _ => ?_)
      clear hK Kn
      refine wpAnyH_ready (rs := [3]) (by kernel_rfl) (by simp) ?_
      refine AllReadyH.cons (o := { dst := some 45, op := Go.Op.call { callee := Go.Callee.value (Go.Operand.func 25), args := #[Go.Operand.tmp 44], argTypes := #[30] }, type := 32, pos := "exact.go:2832", after := #[{ on := 2, ground := Go.Ground.data }], guard := none }) rfl (fun Kn hK => ?_) AllReadyH.nil
      first | go_at_call 25 | (go_simp; go_at_call 25)
      refine (tod_any _ _ _ _).mono ?_
      rintro e V9 ⟨rfl, hb⟩
      try dsimp only
      try simp only [Act.put, List.setIfInBounds_toArray, List.set_cons_zero, List.set_cons_succ]
      replace bY := bY.on hb
      replace bD := bD.on hb
      replace bn10 := bn10.on hb
      try replace HR := Lib.hid (HR.out.on hb)
      try replace HA := Lib.hid (HA.out.on hb)
      replace HW := Lib.hid (bel_end HW.out hb)
      clear hb
      refine hK.out _ _ (HSp.out _ bY bD) (fun _ => ?_)
      clear hK Kn
      refine wpAnyH_ready (rs := [5]) (by kernel_rfl) (by simp) ?_
      refine AllReadyH.cons (o := { dst := some 47, op := Go.Op.call { callee := Go.Callee.value (Go.Operand.func 41), args := #[Go.Operand.tmp 42, Go.Operand.tmp 43, Go.Operand.tmp 45, Go.Operand.tmp 46], argTypes := #[51, 2, 32, 2] }, type := 62, pos := "exact.go:2832", after := #[{ on := 0, ground := Go.Ground.data }, { on := 1, ground := Go.Ground.data }, { on := 3, ground := Go.Ground.data }, { on := 4, ground := Go.Ground.data }, { on := 3, ground := Go.Ground.chain }], guard := none }) rfl (fun Kn hK => ?_) AllReadyH.nil
      first | go_at_call 41 | (go_simp; go_at_call 41)
      (with_reducible refine Calls.mono (S2.out _ _ _ _ _ ((HX.out.on HW.out).prof)) ?_)
      rintro e V10 ⟨ra, rc, rfl, hs, hb⟩
      have HA := Lib.hid (hs.less (HW.out.size))
      clear hs
      try dsimp only
      try simp only [Act.put, List.setIfInBounds_toArray, List.set_cons_zero, List.set_cons_succ]
      replace bY := bY.on hb
      replace bD := bD.on hb
      replace bn10 := bn10.on hb
      try replace HR := Lib.hid (HR.out.on hb)
      try replace HA := Lib.hid (HA.out.on hb)
      replace HW := Lib.hid (bel_end HW.out hb)
      clear hb
      refine hK.out _ _ (HSp.out _ bY bD) (fun _ => ?_)
      clear hK Kn
      have hS := HSp.out _ bY bD
      refine wpAnyH_take (i := 6) (oi := { dst := some 41, op := Go.Op.move (Go.Operand.tmp 47), type := 62, pos := "exact.go:2832", after := #[{ on := 5, ground := Go.Ground.data }], guard := none }) (v := ?_) rfl (by kernel_rfl) (by kernel_rfl) (by kernel_rfl) (fun _ _ _ h => h) (Or.inl ⟨by rfl, ?_⟩) hS ?_
      rotate_left
      · (intro w hSw; have hSw := (HSd.out w).1 hSw; go_split_ands; go_simp) <;> with_reducible rfl
      clear hS
      try simp only [Act.put, List.setIfInBounds_toArray, List.set_cons_zero, List.set_cons_succ]
      have hS := HSp.out _ bY bD
      refine wpAnyH_take (i := 7) (oi := { dst := some 48, op := Go.Op.extract (Go.Operand.tmp 41) 0, type := 43, pos := "exact.go:2832", after := #[{ on := 6, ground := Go.Ground.data }], guard := none }) (v := ?_) rfl (by kernel_rfl) (by kernel_rfl) (by kernel_rfl) (fun _ _ _ h => h) (Or.inl ⟨by rfl, ?_⟩) hS ?_
      rotate_left
      · (intro w hSw; have hSw := (HSd.out w).1 hSw; go_split_ands; go_simp) <;> with_reducible rfl
      clear hS
      try simp only [Act.put, List.setIfInBounds_toArray, List.set_cons_zero, List.set_cons_succ]
      have hS := HSp.out _ bY bD
      refine wpAnyH_take (i := 8) (oi := { dst := some 49, op := Go.Op.extract (Go.Operand.tmp 41) 1, type := 61, pos := "exact.go:2832", after := #[{ on := 6, ground := Go.Ground.data }, { on := 11, ground := Go.Ground.gcOnly Go.Departure.lateStores }], guard := none }) (v := ?_) rfl (by kernel_rfl) (by kernel_rfl) (by kernel_rfl) (fun _ _ _ h => h) (Or.inl ⟨by rfl, ?_⟩) hS ?_
      rotate_left
      · (intro w hSw; have hSw := (HSd.out w).1 hSw; go_split_ands; go_simp) <;> with_reducible rfl
      clear hS
      try simp only [Act.put, List.setIfInBounds_toArray, List.set_cons_zero, List.set_cons_succ]
      have hS := HSp.out _ bY bD
      refine wpAnyH_take (i := 9) (oi := { dst := some 50, op := Go.Op.extract (Go.Operand.tmp 41) 2, type := 2, pos := "exact.go:2832", after := #[{ on := 6, ground := Go.Ground.data }, { on := 12, ground := Go.Ground.gcOnly Go.Departure.lateStores }], guard := none }) (v := ?_) rfl (by kernel_rfl) (by kernel_rfl) (by kernel_rfl) (fun _ _ _ h => h) (Or.inl ⟨by rfl, ?_⟩) hS ?_
      rotate_left
      · (intro w hSw; have hSw := (HSd.out w).1 hSw; go_split_ands; go_simp) <;> with_reducible rfl
      clear hS
      try simp only [Act.put, List.setIfInBounds_toArray, List.set_cons_zero, List.set_cons_succ]
      have hS := HSp.out _ bY bD
      refine wpAnyH_take (i := 11) (oi := { dst := some 14, op := Go.Op.assign (Go.Operand.tmp 48), type := 43, pos := "exact.go:2832", after := #[{ on := 7, ground := Go.Ground.data }, { on := 5, ground := Go.Ground.chain }, { on := 0, ground := Go.Ground.phase }, { on := 1, ground := Go.Ground.phase }, { on := 2, ground := Go.Ground.phase }, { on := 3, ground := Go.Ground.phase }, { on := 4, ground := Go.Ground.phase }, { on := 5, ground := Go.Ground.phase }, { on := 6, ground := Go.Ground.phase }, { on := 7, ground := Go.Ground.phase }, { on := 8, ground := Go.Ground.textOnly Go.Departure.lateStores }, { on := 9, ground := Go.Ground.textOnly Go.Departure.lateStores }, { on := 10, ground := Go.Ground.phase }], guard := none }) (v := ?_) rfl (by kernel_rfl) (by kernel_rfl) (by kernel_rfl) (fun _ _ _ h => h) (Or.inl ⟨by rfl, ?_⟩) hS ?_
      rotate_left
      · (intro w hSw; have hSw := (HSd.out w).1 hSw; go_split_ands; go_simp) <;> with_reducible rfl
      clear hS
      try simp only [Act.put, List.setIfInBounds_toArray, List.set_cons_zero, List.set_cons_succ]
      refine wpAnyH_ready (rs := [12]) (by kernel_rfl) (by simp) ?_
      refine AllReadyH.cons (o := { dst := none, op := Go.Op.store 61 (Go.Operand.tmp 15) (Go.Operand.tmp 49), type := 0, pos := "exact.go:2832", after := #[{ on := 10, ground := Go.Ground.data }, { on := 8, ground := Go.Ground.data }, { on := 11, ground := Go.Ground.chain }, { on := 0, ground := Go.Ground.phase }, { on := 1, ground := Go.Ground.phase }, { on := 2, ground := Go.Ground.phase }, { on := 3, ground := Go.Ground.phase }, { on := 4, ground := Go.Ground.phase }, { on := 5, ground := Go.Ground.phase }, { on := 6, ground := Go.Ground.phase }, { on := 7, ground := Go.Ground.phase }, { on := 8, ground := Go.Ground.phase }, { on := 9, ground := Go.Ground.textOnly Go.Departure.lateStores }, { on := 10, ground := Go.Ground.phase }, { on := 11, ground := Go.Ground.phase }], guard := none }) rfl (fun Kn hK => ?_) AllReadyH.nil
      have bn10_0 := bn10.cell 0 rfl
      have bn10_1 := bn10.cell 1 rfl
      have bn10_2 := bn10.cell 2 rfl
      have bn10_3 := bn10.cell 3 rfl
      have bn10_f0 := bn10.frozen 0
      have bn10_f1 := bn10.frozen 1
      have bn10_f2 := bn10.frozen 2
      have bn10_f3 := bn10.frozen 3
      have bn10_l := bn10.lt
      go_simp
      clear bn10_0 bn10_f0 bn10_1 bn10_f1 bn10_2 bn10_f2 bn10_3 bn10_f3 bn10_l
      generalize hX : World.setCell _ _ _ = V11
      have hb : Below W6.heap.size W6 V11 := by rw [← hX]; exact ((((HW.out.setCell (p := ⟨g10, 0, none⟩) le10 _).setCell (p := ⟨g10, 1, none⟩) le10 _).setCell (p := ⟨g10, 2, none⟩) le10 _).setCell (p := ⟨g10, 3, none⟩) le10 _)
      have HA2 := Lib.hid (show OwnA V11 _ _ _ _ _ from by rw [← hX]; exact ownA_farB HA.out bn10 (by decide) _ _ _ _)
      clear HA
      have HA := HA2
      clear HA2
      replace bY : Bk V11 (w5.heap.size) #[.slice (some ⟨g3, 0, none⟩) zs.length zs.length, .slice (some ⟨g4, 0, none⟩) ys.length ys.length] 51 := by rw [← hX]; exact (Bk.other (Bk.other (Bk.other (Bk.other bY nebY_10 0 _) nebY_10 1 _) nebY_10 2 _) nebY_10 3 _)
      replace bD : Bk V11 (w.heap.size + 1) #[.int .i64 c, .int .i64 s, .int .i64 h] 30 := by rw [← hX]; exact (Bk.other (Bk.other (Bk.other (Bk.other bD nebD_10 0 _) nebD_10 1 _) nebD_10 2 _) nebD_10 3 _)
      replace bn10 : Bk V11 (g10) #[.int .i64 s0, .bool s1, .int .i64 s2, .int .i64 s3] 61 := by rw [← hX]; exact (Bk.set (Bk.set (Bk.set (Bk.set bn10 0 _ rfl) 1 _ rfl) 2 _ rfl) 3 _ rfl)
      clear hX
      replace HW := Lib.hid hb
      clear hb
      refine hK.out _ _ (HSp.out _ bY bD) (fun _ => ?_)
      clear hK Kn
      have hS := HSp.out _ bY bD
      refine wpAnyH_take (i := 13) (oi := { dst := some 16, op := Go.Op.assign (Go.Operand.tmp 50), type := 2, pos := "exact.go:2832", after := #[{ on := 9, ground := Go.Ground.data }, { on := 12, ground := Go.Ground.chain }, { on := 0, ground := Go.Ground.phase }, { on := 1, ground := Go.Ground.phase }, { on := 2, ground := Go.Ground.phase }, { on := 3, ground := Go.Ground.phase }, { on := 4, ground := Go.Ground.phase }, { on := 5, ground := Go.Ground.phase }, { on := 6, ground := Go.Ground.phase }, { on := 7, ground := Go.Ground.phase }, { on := 8, ground := Go.Ground.phase }, { on := 9, ground := Go.Ground.phase }, { on := 10, ground := Go.Ground.phase }, { on := 11, ground := Go.Ground.phase }, { on := 12, ground := Go.Ground.phase }], guard := none }) (v := ?_) rfl (by kernel_rfl) (by kernel_rfl) (by kernel_rfl) (fun _ _ _ h => h) (Or.inl ⟨by rfl, ?_⟩) hS ?_
      rotate_left
      · (intro w hSw; have hSw := (HSd.out w).1 hSw; go_split_ands; go_simp) <;> with_reducible rfl
      clear hS
      try simp only [Act.put, List.setIfInBounds_toArray, List.set_cons_zero, List.set_cons_succ]
      refine wpAnyH_done (by kernel_rfl) ?_ _
      go_wp2_with fail
      go_meet
      exact ⟨ra, rc, _, rfl, rfl, rfl, HA.out.grow HA.out.up (Nat.le_refl _), bn10, le10, bn10.lt, HW.out⟩
    case rest =>
      obtain ⟨ga, gc, gg, rfl, rfl, rfl, hs, bg, le_g, lt_g, hb⟩ := hcut
      have q_g := hb.size
      obtain ⟨w7, hwc⟩ : ∃ X, X = wc := ⟨_, rfl⟩
      rw [← hwc] at hs hb q_g bg lt_g ⊢
      clear hwc
      replace bX := bX.on hb
      replace bD := bD.on hb
      replace bs := bs.on hb
      replace bY := bY.on hb
      replace HP := Lib.hid (HP.out.on hb)
      replace HS := Lib.hid (HS.out.on hb)
      replace HX := Lib.hid (HX.out.on hb)
      replace HB := Lib.hid (bel_end HB.out hb)
      have HG := Lib.hid hs
      clear hs hb
      have p9 := HX.out.up
      have bX_0 := bX.cell 0 rfl
      have bX_1 := bX.cell 1 rfl
      have bX_l := bX.lt
      have bD_0 := bD.cell 0 rfl
      have bD_1 := bD.cell 1 rfl
      have bD_2 := bD.cell 2 rfl
      have bD_l := bD.lt
      have bs_0 := bs.cell 0 rfl
      have bs_1 := bs.cell 1 rfl
      have bs_2 := bs.cell 2 rfl
      have bs_3 := bs.cell 3 rfl
      have bs_l := bs.lt
      have bY_0 := bY.cell 0 rfl
      have bY_1 := bY.cell 1 rfl
      have bY_l := bY.lt
      have bg_0 := bg.cell 0 rfl
      have bg_1 := bg.cell 1 rfl
      have bg_2 := bg.cell 2 rfl
      have bg_3 := bg.cell 3 rfl
      have bg_l := bg.lt
      go_wp2_with fail
      refine (eql_any _ _ _ _ _ LL (by omega) HG.out.ints HS.out.ints).mono ?_
      rintro e w8 ⟨rfl, hb⟩
      replace bX := bX.on hb
      replace bD := bD.on hb
      replace bs := bs.on hb
      replace bY := bY.on hb
      replace bg := bg.on hb
      replace HP := Lib.hid (HP.out.on hb)
      replace HS := Lib.hid (HS.out.on hb)
      replace HX := Lib.hid (HX.out.on hb)
      replace HG := Lib.hid (HG.out.on hb)
      replace HB := Lib.hid (bel_end HB.out hb)
      clear hb
      clear bX_0 bX_1 bX_l bD_0 bD_1 bD_2 bD_l bs_0 bs_1 bs_2 bs_3 bs_l bY_0 bY_1 bY_l bg_0 bg_1 bg_2 bg_3 bg_l
      have bX_0 := bX.cell 0 rfl
      have bX_1 := bX.cell 1 rfl
      have bX_l := bX.lt
      have bD_0 := bD.cell 0 rfl
      have bD_1 := bD.cell 1 rfl
      have bD_2 := bD.cell 2 rfl
      have bD_l := bD.lt
      have bs_0 := bs.cell 0 rfl
      have bs_1 := bs.cell 1 rfl
      have bs_2 := bs.cell 2 rfl
      have bs_3 := bs.cell 3 rfl
      have bs_l := bs.lt
      have bY_0 := bY.cell 0 rfl
      have bY_1 := bY.cell 1 rfl
      have bY_l := bY.lt
      have bg_0 := bg.cell 0 rfl
      have bg_1 := bg.cell 1 rfl
      have bg_2 := bg.cell 2 rfl
      have bg_3 := bg.cell 3 rfl
      have bg_l := bg.lt
      go_wp2_with fail
      refine (eqrs_any _ _ _ _ _).mono ?_
      rintro e w9 ⟨rfl, hb⟩
      replace bX := bX.on hb
      replace bD := bD.on hb
      replace bs := bs.on hb
      replace bY := bY.on hb
      replace bg := bg.on hb
      replace HP := Lib.hid (HP.out.on hb)
      replace HS := Lib.hid (HS.out.on hb)
      replace HX := Lib.hid (HX.out.on hb)
      replace HG := Lib.hid (HG.out.on hb)
      replace HB := Lib.hid (bel_end HB.out hb)
      clear hb
      clear bX_0 bX_1 bX_l bD_0 bD_1 bD_2 bD_l bs_0 bs_1 bs_2 bs_3 bs_l bY_0 bY_1 bY_l bg_0 bg_1 bg_2 bg_3 bg_l
      have bX_0 := bX.cell 0 rfl
      have bX_1 := bX.cell 1 rfl
      have bX_l := bX.lt
      have bD_0 := bD.cell 0 rfl
      have bD_1 := bD.cell 1 rfl
      have bD_2 := bD.cell 2 rfl
      have bD_l := bD.lt
      have bs_0 := bs.cell 0 rfl
      have bs_1 := bs.cell 1 rfl
      have bs_2 := bs.cell 2 rfl
      have bs_3 := bs.cell 3 rfl
      have bs_l := bs.lt
      have bY_0 := bY.cell 0 rfl
      have bY_1 := bY.cell 1 rfl
      have bY_l := bY.lt
      have bg_0 := bg.cell 0 rfl
      have bg_1 := bg.cell 1 rfl
      have bg_2 := bg.cell 2 rfl
      have bg_3 := bg.cell 3 rfl
      have bg_l := bg.lt
      clear bX_0 bX_1 bX_l bD_0 bD_1 bD_2 bD_l bs_0 bs_1 bs_2 bs_3 bs_l bY_0 bY_1 bY_l bg_0 bg_1 bg_2 bg_3 bg_l
      go_upto_region 10 with fail
      go_cut [70] (fun s wx => s = .bool false ∧ Below w9.heap.size w9 wx)
      case first =>
        have HW : Hid (Below w9.heap.size w9 w9) := Lib.hid (Below.refl _ _)
        obtain ⟨S, hSd⟩ : ∃ S : World → Prop, ∀ w', S w' ↔ (w'.cell? ⟨w.heap.size, 0, none⟩ = some (.slice a0 zs.length cap0) ∧ w'.cell? ⟨w.heap.size, 1, none⟩ = some (.slice b0 ys.length cap1) ∧ w'.cell? ⟨w5.heap.size, 0, none⟩ = some (.slice (some ⟨g3, 0, none⟩) zs.length zs.length) ∧ w'.cell? ⟨w5.heap.size, 1, none⟩ = some (.slice (some ⟨g4, 0, none⟩) ys.length ys.length)) := ⟨_, fun _ => Iff.rfl⟩
        have HSp : Hid (∀ w' : World, Bk w' (w.heap.size) #[.slice a0 zs.length cap0, .slice b0 ys.length cap1] 45 → Bk w' (w5.heap.size) #[.slice (some ⟨g3, 0, none⟩) zs.length zs.length, .slice (some ⟨g4, 0, none⟩) ys.length ys.length] 51 → S w') := Lib.hid (fun w' bX bY => (hSd w').2 ⟨bX.cell 0 rfl, bX.cell 1 rfl, bY.cell 0 rfl, bY.cell 1 rfl⟩)
        have HSd := Lib.hid hSd
        clear hSd
        refine wp_region_held_drew (S := S) (by kernel_rfl) ?_ (fun hH => ?_)
        · exact (HSp.out _ bX bY : S (World.drew w9))
        clear hH
        generalize hX : World.drew w9 = V0
        replace bX : Bk V0 (w.heap.size) #[.slice a0 zs.length cap0, .slice b0 ys.length cap1] 45 := by rw [← hX]; exact bX
        replace bY : Bk V0 (w5.heap.size) #[.slice (some ⟨g3, 0, none⟩) zs.length zs.length, .slice (some ⟨g4, 0, none⟩) ys.length ys.length] 51 := by rw [← hX]; exact bY
        have hb : Below w9.heap.size w9 V0 := by rw [← hX]; exact (Below.refl _ _).drew
        clear hX
        try replace HR5 := Lib.hid (HR5.out.on hb)
        replace HW := Lib.hid (bel_end HW.out hb)
        clear hb
        have hS := HSp.out _ bX bY
        refine wpAnyH_take (i := 0) (oi := { dst := some 66, op := Go.Op.load 51 (Go.Operand.tmp 13), type := 51, pos := "exact.go:2836", after := #[], guard := none }) (v := ?_) rfl (by kernel_rfl) (by kernel_rfl) (by kernel_rfl) (fun _ _ _ h => h) (Or.inl ⟨by rfl, ?_⟩) hS ?_
        rotate_left
        · (intro w hSw; have hSw := (HSd.out w).1 hSw; go_split_ands; go_simp) <;> with_reducible rfl
        clear hS
        try simp only [Act.put, List.setIfInBounds_toArray, List.set_cons_zero, List.set_cons_succ]
        have hS := HSp.out _ bX bY
        refine wpAnyH_take (i := 1) (oi := { dst := some 67, op := Go.Op.load 45 (Go.Operand.tmp 4), type := 45, pos := "exact.go:2836", after := #[], guard := none }) (v := ?_) rfl (by kernel_rfl) (by kernel_rfl) (by kernel_rfl) (fun _ _ _ h => h) (Or.inl ⟨by rfl, ?_⟩) hS ?_
        rotate_left
        · (intro w hSw; have hSw := (HSd.out w).1 hSw; go_split_ands; go_simp) <;> with_reducible rfl
        clear hS
        try simp only [Act.put, List.setIfInBounds_toArray, List.set_cons_zero, List.set_cons_succ]
        refine wpAnyH_ready (rs := [2]) (by kernel_rfl) (by simp) ?_
        refine AllReadyH.cons (o := { dst := some 68, op := Go.Op.call { callee := Go.Callee.value (Go.Operand.func 34), args := #[Go.Operand.tmp 67], argTypes := #[45] }, type := 51, pos := "exact.go:2836", after := #[{ on := 1, ground := Go.Ground.data }], guard := none }) rfl (fun Kn hK => ?_) AllReadyH.nil
        first | go_at_call 34 | (go_simp; go_at_call 34)
        (refine Calls.mono (top_any _ _ _ _ _ zs ys (HP.out.on HW.out).prof) ?_)
        rintro e V1 ⟨g5, g6, rfl, hg5, hg6, hr1, hr2, hb⟩
        have HR5 := Lib.hid (Prof.of_rows hr1 hr2 lz ly)
        clear hr1 hr2
        try dsimp only
        try simp only [Act.put, List.setIfInBounds_toArray, List.set_cons_zero, List.set_cons_succ]
        replace bX := bX.on hb
        replace bY := bY.on hb
        try replace HR5 := Lib.hid (HR5.out.on hb)
        replace HW := Lib.hid (bel_end HW.out hb)
        clear hb
        refine hK.out _ _ (HSp.out _ bX bY) (fun _ => ?_)
        clear hK Kn
        refine wpAnyH_ready (rs := [3]) (by kernel_rfl) (by simp) ?_
        refine AllReadyH.cons (o := { dst := some 69, op := Go.Op.call { callee := Go.Callee.value (Go.Operand.func 37), args := #[Go.Operand.tmp 66, Go.Operand.tmp 68], argTypes := #[51, 51] }, type := 4, pos := "exact.go:2836", after := #[{ on := 0, ground := Go.Ground.data }, { on := 2, ground := Go.Ground.data }, { on := 2, ground := Go.Ground.chain }], guard := none }) rfl (fun Kn hK => ?_) AllReadyH.nil
        first | go_at_call 37 | (go_simp; go_at_call 37)
        refine (eqp_any _ _ _ _ _ _ _ _ _ zs ys zs ys (HX.out.on HW.out).prof HR5.out).mono ?_
        rw [same_self]
        rintro e V2 ⟨rfl, hb⟩
        try dsimp only
        try simp only [Act.put, List.setIfInBounds_toArray, List.set_cons_zero, List.set_cons_succ]
        replace bX := bX.on hb
        replace bY := bY.on hb
        try replace HR5 := Lib.hid (HR5.out.on hb)
        replace HW := Lib.hid (bel_end HW.out hb)
        clear hb
        refine hK.out _ _ (HSp.out _ bX bY) (fun _ => ?_)
        clear hK Kn
        have hS := HSp.out _ bX bY
        refine wpAnyH_take (i := 4) (oi := { dst := some 70, op := Go.Op.unOp Go.UnOp.not 4 (Go.Operand.tmp 69), type := 4, pos := "exact.go:2836", after := #[{ on := 3, ground := Go.Ground.data }], guard := none }) (v := ?_) rfl (by kernel_rfl) (by kernel_rfl) (by kernel_rfl) (fun _ _ _ h => h) (Or.inl ⟨by rfl, ?_⟩) hS ?_
        rotate_left
        · (intro w hSw; have hSw := (HSd.out w).1 hSw; go_split_ands; go_simp) <;> with_reducible rfl
        clear hS
        try simp only [Act.put, List.setIfInBounds_toArray, List.set_cons_zero, List.set_cons_succ]
        refine wpAnyH_done (by kernel_rfl) ?_ _
        go_wp2_with fail
        go_meet
        exact ⟨rfl, HW.out⟩
      case rest =>
        obtain ⟨rfl, hb⟩ := hcut
        obtain ⟨w10, hwc⟩ : ∃ X, X = wc := ⟨_, rfl⟩
        rw [← hwc] at hb ⊢
        clear hwc
        replace bX := bX.on hb
        replace bD := bD.on hb
        replace bs := bs.on hb
        replace bY := bY.on hb
        replace bg := bg.on hb
        replace HP := Lib.hid (HP.out.on hb)
        replace HS := Lib.hid (HS.out.on hb)
        replace HX := Lib.hid (HX.out.on hb)
        replace HG := Lib.hid (HG.out.on hb)
        replace HB := Lib.hid (bel_end HB.out hb)
        clear hb
        have bX_0 := bX.cell 0 rfl
        have bX_1 := bX.cell 1 rfl
        have bX_l := bX.lt
        have bD_0 := bD.cell 0 rfl
        have bD_1 := bD.cell 1 rfl
        have bD_2 := bD.cell 2 rfl
        have bD_l := bD.lt
        have bs_0 := bs.cell 0 rfl
        have bs_1 := bs.cell 1 rfl
        have bs_2 := bs.cell 2 rfl
        have bs_3 := bs.cell 3 rfl
        have bs_l := bs.lt
        have bY_0 := bY.cell 0 rfl
        have bY_1 := bY.cell 1 rfl
        have bY_l := bY.lt
        have bg_0 := bg.cell 0 rfl
        have bg_1 := bg.cell 1 rfl
        have bg_2 := bg.cell 2 rfl
        have bg_3 := bg.cell 3 rfl
        have bg_l := bg.lt
        go_wp2_with fail
        clear bX_0 bX_1 bX_l bD_0 bD_1 bD_2 bD_l bs_0 bs_1 bs_2 bs_3 bs_l bY_0 bY_1 bY_l bg_0 bg_1 bg_2 bg_3 bg_l
        have p10 := HX.out.up
        refine (mkp_any _ _ _ _ _ _ _ zs ys 1 HX.out (by omega) (by omega)).mono ?_
        rintro e w11 ⟨rfl, ho, hk⟩
        replace bX := bX.keptP hk (by omega)
        replace bD := bD.keptP hk (by omega)
        replace bs := bs.keptP hk (by omega)
        replace bY := bY.keptP hk (by omega)
        replace bg := bg.keptP hk (by omega)
        have hl_HP := HP.out.le
        replace HP := Lib.hid (HP.out.kept hk (by omega) (by omega))
        clear hl_HP
        have hl_HS := HS.out.le
        replace HS := Lib.hid (HS.out.kept hk (by omega) (by omega))
        clear hl_HS
        replace HG := Lib.hid (HG.out.kept hk (by omega))
        replace HB := Lib.hid (HB.out.trans ((hk.below (by omega)).mono (by omega)))
        replace HX := Lib.hid ho
        clear ho hk
        have bX_0 := bX.cell 0 rfl
        have bX_1 := bX.cell 1 rfl
        have bX_l := bX.lt
        have bD_0 := bD.cell 0 rfl
        have bD_1 := bD.cell 1 rfl
        have bD_2 := bD.cell 2 rfl
        have bD_l := bD.lt
        have bs_0 := bs.cell 0 rfl
        have bs_1 := bs.cell 1 rfl
        have bs_2 := bs.cell 2 rfl
        have bs_3 := bs.cell 3 rfl
        have bs_l := bs.lt
        have bY_0 := bY.cell 0 rfl
        have bY_1 := bY.cell 1 rfl
        have bY_l := bY.lt
        have bg_0 := bg.cell 0 rfl
        have bg_1 := bg.cell 1 rfl
        have bg_2 := bg.cell 2 rfl
        have bg_3 := bg.cell 3 rfl
        have bg_l := bg.lt
        go_wp2_with fail
        refine (eql_any _ _ _ _ _ LL (by omega) HG.out.ints HS.out.ints).mono ?_
        rintro e w12 ⟨rfl, hb⟩
        replace bX := bX.on hb
        replace bD := bD.on hb
        replace bs := bs.on hb
        replace bY := bY.on hb
        replace bg := bg.on hb
        replace HP := Lib.hid (HP.out.on hb)
        replace HS := Lib.hid (HS.out.on hb)
        replace HX := Lib.hid (HX.out.on hb)
        replace HG := Lib.hid (HG.out.on hb)
        replace HB := Lib.hid (bel_end HB.out hb)
        clear hb
        clear bX_0 bX_1 bX_l bD_0 bD_1 bD_2 bD_l bs_0 bs_1 bs_2 bs_3 bs_l bY_0 bY_1 bY_l bg_0 bg_1 bg_2 bg_3 bg_l
        have bX_0 := bX.cell 0 rfl
        have bX_1 := bX.cell 1 rfl
        have bX_l := bX.lt
        have bD_0 := bD.cell 0 rfl
        have bD_1 := bD.cell 1 rfl
        have bD_2 := bD.cell 2 rfl
        have bD_l := bD.lt
        have bs_0 := bs.cell 0 rfl
        have bs_1 := bs.cell 1 rfl
        have bs_2 := bs.cell 2 rfl
        have bs_3 := bs.cell 3 rfl
        have bs_l := bs.lt
        have bY_0 := bY.cell 0 rfl
        have bY_1 := bY.cell 1 rfl
        have bY_l := bY.lt
        have bg_0 := bg.cell 0 rfl
        have bg_1 := bg.cell 1 rfl
        have bg_2 := bg.cell 2 rfl
        have bg_3 := bg.cell 3 rfl
        have bg_l := bg.lt
        go_wp2_with fail
        refine (eqrs_any _ _ _ _ _).mono ?_
        rintro e w13 ⟨rfl, hb⟩
        replace bX := bX.on hb
        replace bD := bD.on hb
        replace bs := bs.on hb
        replace bY := bY.on hb
        replace bg := bg.on hb
        replace HP := Lib.hid (HP.out.on hb)
        replace HS := Lib.hid (HS.out.on hb)
        replace HX := Lib.hid (HX.out.on hb)
        replace HG := Lib.hid (HG.out.on hb)
        replace HB := Lib.hid (bel_end HB.out hb)
        clear hb
        clear bX_0 bX_1 bX_l bD_0 bD_1 bD_2 bD_l bs_0 bs_1 bs_2 bs_3 bs_l bY_0 bY_1 bY_l bg_0 bg_1 bg_2 bg_3 bg_l
        have bX_0 := bX.cell 0 rfl
        have bX_1 := bX.cell 1 rfl
        have bX_l := bX.lt
        have bD_0 := bD.cell 0 rfl
        have bD_1 := bD.cell 1 rfl
        have bD_2 := bD.cell 2 rfl
        have bD_l := bD.lt
        have bs_0 := bs.cell 0 rfl
        have bs_1 := bs.cell 1 rfl
        have bs_2 := bs.cell 2 rfl
        have bs_3 := bs.cell 3 rfl
        have bs_l := bs.lt
        have bY_0 := bY.cell 0 rfl
        have bY_1 := bY.cell 1 rfl
        have bY_l := bY.lt
        have bg_0 := bg.cell 0 rfl
        have bg_1 := bg.cell 1 rfl
        have bg_2 := bg.cell 2 rfl
        have bg_3 := bg.cell 3 rfl
        have bg_l := bg.lt
        go_wp2_with fail
        clear bX_0 bX_1 bX_l bD_0 bD_1 bD_2 bD_l bs_0 bs_1 bs_2 bs_3 bs_l bY_0 bY_1 bY_l bg_0 bg_1 bg_2 bg_3 bg_l
        clear bg
        have p11 := HG.out.up
        refine (mka_any _ _ _ _ _ LL 1 HG.out (by omega) (by omega) (by omega)).mono ?_
        rintro e w14 ⟨rfl, ho, hk⟩
        replace bX := bX.keptP hk (by omega)
        replace bD := bD.keptP hk (by omega)
        replace bs := bs.keptP hk (by omega)
        replace bY := bY.keptP hk (by omega)
        have hl_HP := HP.out.le
        replace HP := Lib.hid (HP.out.kept hk (by omega) (by omega))
        clear hl_HP
        have hl_HS := HS.out.le
        replace HS := Lib.hid (HS.out.kept hk (by omega) (by omega))
        clear hl_HS
        replace HX := Lib.hid (HX.out.kept hk (by omega))
        replace HB := Lib.hid (HB.out.trans ((hk.below (by omega)).mono (by omega)))
        replace HG := Lib.hid ho
        clear ho hk
        have bX_0 := bX.cell 0 rfl
        have bX_1 := bX.cell 1 rfl
        have bX_l := bX.lt
        have bD_0 := bD.cell 0 rfl
        have bD_1 := bD.cell 1 rfl
        have bD_2 := bD.cell 2 rfl
        have bD_l := bD.lt
        have bs_0 := bs.cell 0 rfl
        have bs_1 := bs.cell 1 rfl
        have bs_2 := bs.cell 2 rfl
        have bs_3 := bs.cell 3 rfl
        have bs_l := bs.lt
        have bY_0 := bY.cell 0 rfl
        have bY_1 := bY.cell 1 rfl
        have bY_l := bY.lt
        go_wp2_with fail
        refine (hdi_any _ _ _ _ LL.length 1 HG.out.ints (by omega) (by omega) (by omega)).mono ?_
        rintro e w_ ⟨rfl, rfl⟩
        clear bX_0 bX_1 bX_l bD_0 bD_1 bD_2 bD_l bs_0 bs_1 bs_2 bs_3 bs_l bY_0 bY_1 bY_l
        have p12 := HG.out.up
        go_upto_region 24 with fail
        go_cut [20, 21, 22] (fun s20 s21 s22 wx => ∃ (a' : Option Addr) (c' g : Nat), s20 = .slice a' LL.length c' ∧ s21 = .pointer (some ⟨g, 0, none⟩) ∧ s22 = .int .i64 qq ∧ OwnA wx w14.heap.size wx.heap.size a' c' LL ∧ Bk wx g #[.int .i64 s0, .bool s1, .int .i64 s2, .int .i64 s3] 61 ∧ w14.heap.size ≤ g ∧ g < wx.heap.size ∧ Below w14.heap.size w14 wx)
        case first =>
          have HW : Hid (Below w14.heap.size w14 w14) := Lib.hid (Below.refl _ _)
          obtain ⟨S, hSd⟩ : ∃ S : World → Prop, ∀ w', S w' ↔ (w'.cell? ⟨w.heap.size, 0, none⟩ = some (.slice a0 zs.length cap0) ∧ w'.cell? ⟨w.heap.size, 1, none⟩ = some (.slice b0 ys.length cap1) ∧ w'.cell? ⟨w.heap.size + 1, 0, none⟩ = some (.int .i64 c) ∧ w'.cell? ⟨w.heap.size + 1, 1, none⟩ = some (.int .i64 s) ∧ w'.cell? ⟨w.heap.size + 1, 2, none⟩ = some (.int .i64 h)) := ⟨_, fun _ => Iff.rfl⟩
          have HSp : Hid (∀ w' : World, Bk w' (w.heap.size) #[.slice a0 zs.length cap0, .slice b0 ys.length cap1] 45 → Bk w' (w.heap.size + 1) #[.int .i64 c, .int .i64 s, .int .i64 h] 30 → S w') := Lib.hid (fun w' bX bD => (hSd w').2 ⟨bX.cell 0 rfl, bX.cell 1 rfl, bD.cell 0 rfl, bD.cell 1 rfl, bD.cell 2 rfl⟩)
          have HSd := Lib.hid hSd
          clear hSd
          refine wp_region_held_drew (S := S) (by kernel_rfl) ?_ (fun hH => ?_)
          · exact (HSp.out _ bX bD : S (World.drew w14))
          clear hH
          generalize hX : World.drew w14 = V0
          replace bX : Bk V0 (w.heap.size) #[.slice a0 zs.length cap0, .slice b0 ys.length cap1] 45 := by rw [← hX]; exact bX
          replace bD : Bk V0 (w.heap.size + 1) #[.int .i64 c, .int .i64 s, .int .i64 h] 30 := by rw [← hX]; exact bD
          have hb : Below w14.heap.size w14 V0 := by rw [← hX]; exact (Below.refl _ _).drew
          clear hX
          try replace HR := Lib.hid (HR.out.on hb)
          try replace HA := Lib.hid (HA.out.on hb)
          replace HW := Lib.hid (bel_end HW.out hb)
          clear hb
          have hS := HSp.out _ bX bD
          refine wpAnyH_take (i := 0) (oi := { dst := some 105, op := Go.Op.load 45 (Go.Operand.tmp 4), type := 45, pos := "exact.go:2854", after := #[], guard := none }) (v := ?_) rfl (by kernel_rfl) (by kernel_rfl) (by kernel_rfl) (fun _ _ _ h => h) (Or.inl ⟨by rfl, ?_⟩) hS ?_
          rotate_left
          · (intro w hSw; have hSw := (HSd.out w).1 hSw; go_split_ands; go_simp) <;> with_reducible rfl
          clear hS
          try simp only [Act.put, List.setIfInBounds_toArray, List.set_cons_zero, List.set_cons_succ]
          have hS := HSp.out _ bX bD
          refine wpAnyH_take (i := 2) (oi := { dst := some 107, op := Go.Op.move (Go.Operand.tmp 1), type := 2, pos := "exact.go:2854", after := #[], guard := none }) (v := ?_) rfl (by kernel_rfl) (by kernel_rfl) (by kernel_rfl) (fun _ _ _ h => h) (Or.inl ⟨by rfl, ?_⟩) hS ?_
          rotate_left
          · (intro w hSw; have hSw := (HSd.out w).1 hSw; go_split_ands; go_simp) <;> with_reducible rfl
          clear hS
          try simp only [Act.put, List.setIfInBounds_toArray, List.set_cons_zero, List.set_cons_succ]
          have hS := HSp.out _ bX bD
          refine wpAnyH_take (i := 3) (oi := { dst := some 108, op := Go.Op.load 30 (Go.Operand.tmp 6), type := 30, pos := "exact.go:2854", after := #[], guard := none }) (v := ?_) rfl (by kernel_rfl) (by kernel_rfl) (by kernel_rfl) (fun _ _ _ h => h) (Or.inl ⟨by rfl, ?_⟩) hS ?_
          rotate_left
          · (intro w hSw; have hSw := (HSd.out w).1 hSw; go_split_ands; go_simp) <;> with_reducible rfl
          clear hS
          try simp only [Act.put, List.setIfInBounds_toArray, List.set_cons_zero, List.set_cons_succ]
          have hS := HSp.out _ bX bD
          refine wpAnyH_take (i := 5) (oi := { dst := some 110, op := Go.Op.move (Go.Operand.tmp 3), type := 2, pos := "exact.go:2854", after := #[], guard := none }) (v := ?_) rfl (by kernel_rfl) (by kernel_rfl) (by kernel_rfl) (fun _ _ _ h => h) (Or.inl ⟨by rfl, ?_⟩) hS ?_
          rotate_left
          · (intro w hSw; have hSw := (HSd.out w).1 hSw; go_split_ands; go_simp) <;> with_reducible rfl
          clear hS
          try simp only [Act.put, List.setIfInBounds_toArray, List.set_cons_zero, List.set_cons_succ]
          refine wpAnyH_ready (rs := [1, 11]) (by kernel_rfl) (by simp) ?_
          refine AllReadyH.cons (o := { dst := some 106, op := Go.Op.call { callee := Go.Callee.value (Go.Operand.func 34), args := #[Go.Operand.tmp 105], argTypes := #[45] }, type := 51, pos := "exact.go:2854", after := #[{ on := 0, ground := Go.Ground.data }], guard := none }) rfl (fun Kn hK => ?_) ?_
          · first | go_at_call 34 | (go_simp; go_at_call 34)
            (refine Calls.mono (top_any _ _ _ _ _ zs ys (HP.out.on HW.out).prof) ?_)
            rintro e V1 ⟨g1, g2, rfl, hg1, hg2, hr1, hr2, hb⟩
            have HR := Lib.hid (Prof.of_rows hr1 hr2 lz ly)
            clear hr1 hr2
            try dsimp only
            try simp only [Act.put, List.setIfInBounds_toArray, List.set_cons_zero, List.set_cons_succ]
            replace bX := bX.on hb
            replace bD := bD.on hb
            try replace HR := Lib.hid (HR.out.on hb)
            try replace HA := Lib.hid (HA.out.on hb)
            replace HW := Lib.hid (bel_end HW.out hb)
            clear hb
            refine hK.out _ _ (HSp.out _ bX bD) (fun _ => ?_)
            clear hK Kn
            refine wpAnyH_ready (rs := [4, 11]) (by kernel_rfl) (by simp) ?_
            refine AllReadyH.cons (o := { dst := some 109, op := Go.Op.call { callee := Go.Callee.value (Go.Operand.func 25), args := #[Go.Operand.tmp 108], argTypes := #[30] }, type := 32, pos := "exact.go:2854", after := #[{ on := 3, ground := Go.Ground.data }, { on := 1, ground := Go.Ground.chain }], guard := none }) rfl (fun Kn hK => ?_) ?_
            · first | go_at_call 25 | (go_simp; go_at_call 25)
              refine (tod_any _ _ _ _).mono ?_
              rintro e V2 ⟨rfl, hb⟩
              try dsimp only
              try simp only [Act.put, List.setIfInBounds_toArray, List.set_cons_zero, List.set_cons_succ]
              replace bX := bX.on hb
              replace bD := bD.on hb
              try replace HR := Lib.hid (HR.out.on hb)
              try replace HA := Lib.hid (HA.out.on hb)
              replace HW := Lib.hid (bel_end HW.out hb)
              clear hb
              refine hK.out _ _ (HSp.out _ bX bD) (fun _ => ?_)
              clear hK Kn
              refine wpAnyH_ready (rs := [6, 11]) (by kernel_rfl) (by simp) ?_
              refine AllReadyH.cons (o := { dst := some 111, op := Go.Op.call { callee := Go.Callee.value (Go.Operand.func 41), args := #[Go.Operand.tmp 106, Go.Operand.tmp 107, Go.Operand.tmp 109, Go.Operand.tmp 110], argTypes := #[51, 2, 32, 2] }, type := 62, pos := "exact.go:2854", after := #[{ on := 1, ground := Go.Ground.data }, { on := 2, ground := Go.Ground.data }, { on := 4, ground := Go.Ground.data }, { on := 5, ground := Go.Ground.data }, { on := 4, ground := Go.Ground.chain }], guard := none }) rfl (fun Kn hK => ?_) ?_
              · first | go_at_call 41 | (go_simp; go_at_call 41)
                (with_reducible refine Calls.mono (S2.out _ _ _ _ _ (HR.out)) ?_)
                rintro e V3 ⟨ra, rc, rfl, hs, hb⟩
                have HA := Lib.hid (hs.less (HW.out.size))
                clear hs
                try dsimp only
                try simp only [Act.put, List.setIfInBounds_toArray, List.set_cons_zero, List.set_cons_succ]
                replace bX := bX.on hb
                replace bD := bD.on hb
                try replace HR := Lib.hid (HR.out.on hb)
                try replace HA := Lib.hid (HA.out.on hb)
                replace HW := Lib.hid (bel_end HW.out hb)
                clear hb
                refine hK.out _ _ (HSp.out _ bX bD) (fun _ => ?_)
                clear hK Kn
                have hS := HSp.out _ bX bD
                refine wpAnyH_take (i := 7) (oi := { dst := some 104, op := Go.Op.move (Go.Operand.tmp 111), type := 62, pos := "exact.go:2854", after := #[{ on := 6, ground := Go.Ground.data }], guard := none }) (v := ?_) rfl (by kernel_rfl) (by kernel_rfl) (by kernel_rfl) (fun _ _ _ h => h) (Or.inl ⟨by rfl, ?_⟩) hS ?_
                rotate_left
                · (intro w hSw; have hSw := (HSd.out w).1 hSw; go_split_ands; go_simp) <;> with_reducible rfl
                clear hS
                try simp only [Act.put, List.setIfInBounds_toArray, List.set_cons_zero, List.set_cons_succ]
                have hS := HSp.out _ bX bD
                refine wpAnyH_take (i := 8) (oi := { dst := some 112, op := Go.Op.extract (Go.Operand.tmp 104) 0, type := 43, pos := "exact.go:2854", after := #[{ on := 7, ground := Go.Ground.data }], guard := none }) (v := ?_) rfl (by kernel_rfl) (by kernel_rfl) (by kernel_rfl) (fun _ _ _ h => h) (Or.inl ⟨by rfl, ?_⟩) hS ?_
                rotate_left
                · (intro w hSw; have hSw := (HSd.out w).1 hSw; go_split_ands; go_simp) <;> with_reducible rfl
                clear hS
                try simp only [Act.put, List.setIfInBounds_toArray, List.set_cons_zero, List.set_cons_succ]
                have hS := HSp.out _ bX bD
                refine wpAnyH_take (i := 9) (oi := { dst := some 113, op := Go.Op.extract (Go.Operand.tmp 104) 1, type := 61, pos := "exact.go:2854", after := #[{ on := 7, ground := Go.Ground.data }, { on := 12, ground := Go.Ground.gcOnly Go.Departure.lateStores }], guard := none }) (v := ?_) rfl (by kernel_rfl) (by kernel_rfl) (by kernel_rfl) (fun _ _ _ h => h) (Or.inl ⟨by rfl, ?_⟩) hS ?_
                rotate_left
                · (intro w hSw; have hSw := (HSd.out w).1 hSw; go_split_ands; go_simp) <;> with_reducible rfl
                clear hS
                try simp only [Act.put, List.setIfInBounds_toArray, List.set_cons_zero, List.set_cons_succ]
                have hS := HSp.out _ bX bD
                refine wpAnyH_take (i := 10) (oi := { dst := some 114, op := Go.Op.extract (Go.Operand.tmp 104) 2, type := 2, pos := "exact.go:2854", after := #[{ on := 7, ground := Go.Ground.data }, { on := 13, ground := Go.Ground.gcOnly Go.Departure.lateStores }], guard := none }) (v := ?_) rfl (by kernel_rfl) (by kernel_rfl) (by kernel_rfl) (fun _ _ _ h => h) (Or.inl ⟨by rfl, ?_⟩) hS ?_
                rotate_left
                · (intro w hSw; have hSw := (HSd.out w).1 hSw; go_split_ands; go_simp) <;> with_reducible rfl
                clear hS
                try simp only [Act.put, List.setIfInBounds_toArray, List.set_cons_zero, List.set_cons_succ]
                refine wpAnyH_ready (rs := [11]) (by kernel_rfl) (by simp) ?_
                refine AllReadyH.cons (o := { dst := some 21, op := Go.Op.alloc 61, type := 0, pos := "exact.go:2854", after := #[], guard := none }) rfl (fun Kn hK => ?_) AllReadyH.nil
                go_simp
                generalize hX : World.alloc V3 _ = V4
                obtain ⟨g11, hg⟩ : ∃ g, g = V3.heap.size := ⟨_, rfl⟩
                have bn11 : Bk V4 g11 #[.int .i64 0, .bool false, .int .i64 0, .int .i64 0] 61 := by rw [← hX]; exact Bk.new' hg
                have le11 : w14.heap.size ≤ g11 := by rw [hg]; exact HW.out.size
                have nebX_11 : w.heap.size ≠ g11 := by have := bX.lt; omega
                replace bX : Bk V4 (w.heap.size) #[.slice a0 zs.length cap0, .slice b0 ys.length cap1] 45 := by rw [← hX]; exact bX.alloc _
                have nebD_11 : w.heap.size + 1 ≠ g11 := by have := bD.lt; omega
                replace bD : Bk V4 (w.heap.size + 1) #[.int .i64 c, .int .i64 s, .int .i64 h] 30 := by rw [← hX]; exact bD.alloc _
                try rw [← hg]
                have hb : Below V3.heap.size V3 V4 := by rw [← hX]; exact (Below.refl _ _).alloc (Nat.le_refl _) _
                clear hX hg
                try replace HR := Lib.hid (HR.out.on hb)
                try replace HA := Lib.hid (HA.out.on hb)
                replace HW := Lib.hid (bel_end HW.out hb)
                clear hb
                refine hK.out _ _ (HSp.out _ bX bD) (fun _ => ?_)
                clear hK Kn
                have hS := HSp.out _ bX bD
                refine wpAnyH_take (i := 12) (oi := { dst := some 20, op := Go.Op.assign (Go.Operand.tmp 112), type := 43, pos := "exact.go:2854", after := #[{ on := 8, ground := Go.Ground.data }, { on := 6, ground := Go.Ground.chain }, { on := 0, ground := Go.Ground.phase }, { on := 1, ground := Go.Ground.phase }, { on := 2, ground := Go.Ground.phase }, { on := 3, ground := Go.Ground.phase }, { on := 4, ground := Go.Ground.phase }, { on := 5, ground := Go.Ground.phase }, { on := 6, ground := Go.Ground.phase }, { on := 7, ground := Go.Ground.phase }, { on := 8, ground := Go.Ground.phase }, { on := 9, ground := Go.Ground.textOnly Go.Departure.lateStores }, { on := 10, ground := Go.Ground.textOnly Go.Departure.lateStores }, { on := 11, ground := Go.Ground.phase }], guard := none }) (v := ?_) rfl (by kernel_rfl) (by kernel_rfl) (by kernel_rfl) (fun _ _ _ h => h) (Or.inl ⟨by rfl, ?_⟩) hS ?_
                rotate_left
                · (intro w hSw; have hSw := (HSd.out w).1 hSw; go_split_ands; go_simp) <;> with_reducible rfl
                clear hS
                try simp only [Act.put, List.setIfInBounds_toArray, List.set_cons_zero, List.set_cons_succ]
                refine wpAnyH_ready (rs := [13]) (by kernel_rfl) (by simp) ?_
                refine AllReadyH.cons (o := { dst := none, op := Go.Op.store 61 (Go.Operand.tmp 21) (Go.Operand.tmp 113), type := 0, pos := "exact.go:2854", after := #[{ on := 11, ground := Go.Ground.data }, { on := 9, ground := Go.Ground.data }, { on := 12, ground := Go.Ground.chain }, { on := 0, ground := Go.Ground.phase }, { on := 1, ground := Go.Ground.phase }, { on := 2, ground := Go.Ground.phase }, { on := 3, ground := Go.Ground.phase }, { on := 4, ground := Go.Ground.phase }, { on := 5, ground := Go.Ground.phase }, { on := 6, ground := Go.Ground.phase }, { on := 7, ground := Go.Ground.phase }, { on := 8, ground := Go.Ground.phase }, { on := 9, ground := Go.Ground.phase }, { on := 10, ground := Go.Ground.textOnly Go.Departure.lateStores }, { on := 11, ground := Go.Ground.phase }, { on := 12, ground := Go.Ground.phase }], guard := none }) rfl (fun Kn hK => ?_) AllReadyH.nil
                have bn11_0 := bn11.cell 0 rfl
                have bn11_1 := bn11.cell 1 rfl
                have bn11_2 := bn11.cell 2 rfl
                have bn11_3 := bn11.cell 3 rfl
                have bn11_f0 := bn11.frozen 0
                have bn11_f1 := bn11.frozen 1
                have bn11_f2 := bn11.frozen 2
                have bn11_f3 := bn11.frozen 3
                have bn11_l := bn11.lt
                go_simp
                clear bn11_0 bn11_f0 bn11_1 bn11_f1 bn11_2 bn11_f2 bn11_3 bn11_f3 bn11_l
                generalize hX : World.setCell _ _ _ = V5
                have hb : Below w14.heap.size w14 V5 := by rw [← hX]; exact ((((HW.out.setCell (p := ⟨g11, 0, none⟩) le11 _).setCell (p := ⟨g11, 1, none⟩) le11 _).setCell (p := ⟨g11, 2, none⟩) le11 _).setCell (p := ⟨g11, 3, none⟩) le11 _)
                have HA2 := Lib.hid (show OwnA V5 _ _ _ _ _ from by rw [← hX]; exact ownA_farB HA.out bn11 (by decide) _ _ _ _)
                clear HA
                have HA := HA2
                clear HA2
                replace bX : Bk V5 (w.heap.size) #[.slice a0 zs.length cap0, .slice b0 ys.length cap1] 45 := by rw [← hX]; exact (Bk.other (Bk.other (Bk.other (Bk.other bX nebX_11 0 _) nebX_11 1 _) nebX_11 2 _) nebX_11 3 _)
                replace bD : Bk V5 (w.heap.size + 1) #[.int .i64 c, .int .i64 s, .int .i64 h] 30 := by rw [← hX]; exact (Bk.other (Bk.other (Bk.other (Bk.other bD nebD_11 0 _) nebD_11 1 _) nebD_11 2 _) nebD_11 3 _)
                replace bn11 : Bk V5 (g11) #[.int .i64 s0, .bool s1, .int .i64 s2, .int .i64 s3] 61 := by rw [← hX]; exact (Bk.set (Bk.set (Bk.set (Bk.set bn11 0 _ rfl) 1 _ rfl) 2 _ rfl) 3 _ rfl)
                clear hX
                replace HW := Lib.hid hb
                clear hb
                refine hK.out _ _ (HSp.out _ bX bD) (fun _ => ?_)
                clear hK Kn
                have hS := HSp.out _ bX bD
                refine wpAnyH_take (i := 14) (oi := { dst := some 22, op := Go.Op.assign (Go.Operand.tmp 114), type := 2, pos := "exact.go:2854", after := #[{ on := 10, ground := Go.Ground.data }, { on := 13, ground := Go.Ground.chain }, { on := 0, ground := Go.Ground.phase }, { on := 1, ground := Go.Ground.phase }, { on := 2, ground := Go.Ground.phase }, { on := 3, ground := Go.Ground.phase }, { on := 4, ground := Go.Ground.phase }, { on := 5, ground := Go.Ground.phase }, { on := 6, ground := Go.Ground.phase }, { on := 7, ground := Go.Ground.phase }, { on := 8, ground := Go.Ground.phase }, { on := 9, ground := Go.Ground.phase }, { on := 10, ground := Go.Ground.phase }, { on := 11, ground := Go.Ground.phase }, { on := 12, ground := Go.Ground.phase }, { on := 13, ground := Go.Ground.phase }], guard := none }) (v := ?_) rfl (by kernel_rfl) (by kernel_rfl) (by kernel_rfl) (fun _ _ _ h => h) (Or.inl ⟨by rfl, ?_⟩) hS ?_
                rotate_left
                · (intro w hSw; have hSw := (HSd.out w).1 hSw; go_split_ands; go_simp) <;> with_reducible rfl
                clear hS
                try simp only [Act.put, List.setIfInBounds_toArray, List.set_cons_zero, List.set_cons_succ]
                refine wpAnyH_done (by kernel_rfl) ?_ _
                go_wp2_with fail
                go_meet
                exact ⟨ra, rc, _, rfl, rfl, rfl, HA.out.grow HA.out.up (Nat.le_refl _), bn11, le11, bn11.lt, HW.out⟩
              refine AllReadyH.cons (o := { dst := some 21, op := Go.Op.alloc 61, type := 0, pos := "exact.go:2854", after := #[], guard := none }) rfl (fun Kn hK => ?_) AllReadyH.nil
              go_simp
              generalize hX : World.alloc V2 _ = V6
              obtain ⟨g11, hg⟩ : ∃ g, g = V2.heap.size := ⟨_, rfl⟩
              have bn11 : Bk V6 g11 #[.int .i64 0, .bool false, .int .i64 0, .int .i64 0] 61 := by rw [← hX]; exact Bk.new' hg
              have le11 : w14.heap.size ≤ g11 := by rw [hg]; exact HW.out.size
              have nebX_11 : w.heap.size ≠ g11 := by have := bX.lt; omega
              replace bX : Bk V6 (w.heap.size) #[.slice a0 zs.length cap0, .slice b0 ys.length cap1] 45 := by rw [← hX]; exact bX.alloc _
              have nebD_11 : w.heap.size + 1 ≠ g11 := by have := bD.lt; omega
              replace bD : Bk V6 (w.heap.size + 1) #[.int .i64 c, .int .i64 s, .int .i64 h] 30 := by rw [← hX]; exact bD.alloc _
              try rw [← hg]
              have hb : Below V2.heap.size V2 V6 := by rw [← hX]; exact (Below.refl _ _).alloc (Nat.le_refl _) _
              clear hX hg
              try replace HR := Lib.hid (HR.out.on hb)
              try replace HA := Lib.hid (HA.out.on hb)
              replace HW := Lib.hid (bel_end HW.out hb)
              clear hb
              refine hK.out _ _ (HSp.out _ bX bD) (fun _ => ?_)
              clear hK Kn
              refine wpAnyH_ready (rs := [6]) (by kernel_rfl) (by simp) ?_
              refine AllReadyH.cons (o := { dst := some 111, op := Go.Op.call { callee := Go.Callee.value (Go.Operand.func 41), args := #[Go.Operand.tmp 106, Go.Operand.tmp 107, Go.Operand.tmp 109, Go.Operand.tmp 110], argTypes := #[51, 2, 32, 2] }, type := 62, pos := "exact.go:2854", after := #[{ on := 1, ground := Go.Ground.data }, { on := 2, ground := Go.Ground.data }, { on := 4, ground := Go.Ground.data }, { on := 5, ground := Go.Ground.data }, { on := 4, ground := Go.Ground.chain }], guard := none }) rfl (fun Kn hK => ?_) AllReadyH.nil
              first | go_at_call 41 | (go_simp; go_at_call 41)
              (with_reducible refine Calls.mono (S2.out _ _ _ _ _ (HR.out)) ?_)
              rintro e V7 ⟨ra, rc, rfl, hs, hb⟩
              have HA := Lib.hid (hs.less (HW.out.size))
              clear hs
              try dsimp only
              try simp only [Act.put, List.setIfInBounds_toArray, List.set_cons_zero, List.set_cons_succ]
              replace bX := bX.on hb
              replace bD := bD.on hb
              replace bn11 := bn11.on hb
              try replace HR := Lib.hid (HR.out.on hb)
              try replace HA := Lib.hid (HA.out.on hb)
              replace HW := Lib.hid (bel_end HW.out hb)
              clear hb
              refine hK.out _ _ (HSp.out _ bX bD) (fun _ => ?_)
              clear hK Kn
              have hS := HSp.out _ bX bD
              refine wpAnyH_take (i := 7) (oi := { dst := some 104, op := Go.Op.move (Go.Operand.tmp 111), type := 62, pos := "exact.go:2854", after := #[{ on := 6, ground := Go.Ground.data }], guard := none }) (v := ?_) rfl (by kernel_rfl) (by kernel_rfl) (by kernel_rfl) (fun _ _ _ h => h) (Or.inl ⟨by rfl, ?_⟩) hS ?_
              rotate_left
              · (intro w hSw; have hSw := (HSd.out w).1 hSw; go_split_ands; go_simp) <;> with_reducible rfl
              clear hS
              try simp only [Act.put, List.setIfInBounds_toArray, List.set_cons_zero, List.set_cons_succ]
              have hS := HSp.out _ bX bD
              refine wpAnyH_take (i := 8) (oi := { dst := some 112, op := Go.Op.extract (Go.Operand.tmp 104) 0, type := 43, pos := "exact.go:2854", after := #[{ on := 7, ground := Go.Ground.data }], guard := none }) (v := ?_) rfl (by kernel_rfl) (by kernel_rfl) (by kernel_rfl) (fun _ _ _ h => h) (Or.inl ⟨by rfl, ?_⟩) hS ?_
              rotate_left
              · (intro w hSw; have hSw := (HSd.out w).1 hSw; go_split_ands; go_simp) <;> with_reducible rfl
              clear hS
              try simp only [Act.put, List.setIfInBounds_toArray, List.set_cons_zero, List.set_cons_succ]
              have hS := HSp.out _ bX bD
              refine wpAnyH_take (i := 9) (oi := { dst := some 113, op := Go.Op.extract (Go.Operand.tmp 104) 1, type := 61, pos := "exact.go:2854", after := #[{ on := 7, ground := Go.Ground.data }, { on := 12, ground := Go.Ground.gcOnly Go.Departure.lateStores }], guard := none }) (v := ?_) rfl (by kernel_rfl) (by kernel_rfl) (by kernel_rfl) (fun _ _ _ h => h) (Or.inl ⟨by rfl, ?_⟩) hS ?_
              rotate_left
              · (intro w hSw; have hSw := (HSd.out w).1 hSw; go_split_ands; go_simp) <;> with_reducible rfl
              clear hS
              try simp only [Act.put, List.setIfInBounds_toArray, List.set_cons_zero, List.set_cons_succ]
              have hS := HSp.out _ bX bD
              refine wpAnyH_take (i := 10) (oi := { dst := some 114, op := Go.Op.extract (Go.Operand.tmp 104) 2, type := 2, pos := "exact.go:2854", after := #[{ on := 7, ground := Go.Ground.data }, { on := 13, ground := Go.Ground.gcOnly Go.Departure.lateStores }], guard := none }) (v := ?_) rfl (by kernel_rfl) (by kernel_rfl) (by kernel_rfl) (fun _ _ _ h => h) (Or.inl ⟨by rfl, ?_⟩) hS ?_
              rotate_left
              · (intro w hSw; have hSw := (HSd.out w).1 hSw; go_split_ands; go_simp) <;> with_reducible rfl
              clear hS
              try simp only [Act.put, List.setIfInBounds_toArray, List.set_cons_zero, List.set_cons_succ]
              have hS := HSp.out _ bX bD
              refine wpAnyH_take (i := 12) (oi := { dst := some 20, op := Go.Op.assign (Go.Operand.tmp 112), type := 43, pos := "exact.go:2854", after := #[{ on := 8, ground := Go.Ground.data }, { on := 6, ground := Go.Ground.chain }, { on := 0, ground := Go.Ground.phase }, { on := 1, ground := Go.Ground.phase }, { on := 2, ground := Go.Ground.phase }, { on := 3, ground := Go.Ground.phase }, { on := 4, ground := Go.Ground.phase }, { on := 5, ground := Go.Ground.phase }, { on := 6, ground := Go.Ground.phase }, { on := 7, ground := Go.Ground.phase }, { on := 8, ground := Go.Ground.phase }, { on := 9, ground := Go.Ground.textOnly Go.Departure.lateStores }, { on := 10, ground := Go.Ground.textOnly Go.Departure.lateStores }, { on := 11, ground := Go.Ground.phase }], guard := none }) (v := ?_) rfl (by kernel_rfl) (by kernel_rfl) (by kernel_rfl) (fun _ _ _ h => h) (Or.inl ⟨by rfl, ?_⟩) hS ?_
              rotate_left
              · (intro w hSw; have hSw := (HSd.out w).1 hSw; go_split_ands; go_simp) <;> with_reducible rfl
              clear hS
              try simp only [Act.put, List.setIfInBounds_toArray, List.set_cons_zero, List.set_cons_succ]
              refine wpAnyH_ready (rs := [13]) (by kernel_rfl) (by simp) ?_
              refine AllReadyH.cons (o := { dst := none, op := Go.Op.store 61 (Go.Operand.tmp 21) (Go.Operand.tmp 113), type := 0, pos := "exact.go:2854", after := #[{ on := 11, ground := Go.Ground.data }, { on := 9, ground := Go.Ground.data }, { on := 12, ground := Go.Ground.chain }, { on := 0, ground := Go.Ground.phase }, { on := 1, ground := Go.Ground.phase }, { on := 2, ground := Go.Ground.phase }, { on := 3, ground := Go.Ground.phase }, { on := 4, ground := Go.Ground.phase }, { on := 5, ground := Go.Ground.phase }, { on := 6, ground := Go.Ground.phase }, { on := 7, ground := Go.Ground.phase }, { on := 8, ground := Go.Ground.phase }, { on := 9, ground := Go.Ground.phase }, { on := 10, ground := Go.Ground.textOnly Go.Departure.lateStores }, { on := 11, ground := Go.Ground.phase }, { on := 12, ground := Go.Ground.phase }], guard := none }) rfl (fun Kn hK => ?_) AllReadyH.nil
              have bn11_0 := bn11.cell 0 rfl
              have bn11_1 := bn11.cell 1 rfl
              have bn11_2 := bn11.cell 2 rfl
              have bn11_3 := bn11.cell 3 rfl
              have bn11_f0 := bn11.frozen 0
              have bn11_f1 := bn11.frozen 1
              have bn11_f2 := bn11.frozen 2
              have bn11_f3 := bn11.frozen 3
              have bn11_l := bn11.lt
              go_simp
              clear bn11_0 bn11_f0 bn11_1 bn11_f1 bn11_2 bn11_f2 bn11_3 bn11_f3 bn11_l
              generalize hX : World.setCell _ _ _ = V8
              have hb : Below w14.heap.size w14 V8 := by rw [← hX]; exact ((((HW.out.setCell (p := ⟨g11, 0, none⟩) le11 _).setCell (p := ⟨g11, 1, none⟩) le11 _).setCell (p := ⟨g11, 2, none⟩) le11 _).setCell (p := ⟨g11, 3, none⟩) le11 _)
              have HA2 := Lib.hid (show OwnA V8 _ _ _ _ _ from by rw [← hX]; exact ownA_farB HA.out bn11 (by decide) _ _ _ _)
              clear HA
              have HA := HA2
              clear HA2
              replace bX : Bk V8 (w.heap.size) #[.slice a0 zs.length cap0, .slice b0 ys.length cap1] 45 := by rw [← hX]; exact (Bk.other (Bk.other (Bk.other (Bk.other bX nebX_11 0 _) nebX_11 1 _) nebX_11 2 _) nebX_11 3 _)
              replace bD : Bk V8 (w.heap.size + 1) #[.int .i64 c, .int .i64 s, .int .i64 h] 30 := by rw [← hX]; exact (Bk.other (Bk.other (Bk.other (Bk.other bD nebD_11 0 _) nebD_11 1 _) nebD_11 2 _) nebD_11 3 _)
              replace bn11 : Bk V8 (g11) #[.int .i64 s0, .bool s1, .int .i64 s2, .int .i64 s3] 61 := by rw [← hX]; exact (Bk.set (Bk.set (Bk.set (Bk.set bn11 0 _ rfl) 1 _ rfl) 2 _ rfl) 3 _ rfl)
              clear hX
              replace HW := Lib.hid hb
              clear hb
              refine hK.out _ _ (HSp.out _ bX bD) (fun _ => ?_)
              clear hK Kn
              have hS := HSp.out _ bX bD
              refine wpAnyH_take (i := 14) (oi := { dst := some 22, op := Go.Op.assign (Go.Operand.tmp 114), type := 2, pos := "exact.go:2854", after := #[{ on := 10, ground := Go.Ground.data }, { on := 13, ground := Go.Ground.chain }, { on := 0, ground := Go.Ground.phase }, { on := 1, ground := Go.Ground.phase }, { on := 2, ground := Go.Ground.phase }, { on := 3, ground := Go.Ground.phase }, { on := 4, ground := Go.Ground.phase }, { on := 5, ground := Go.Ground.phase }, { on := 6, ground := Go.Ground.phase }, { on := 7, ground := Go.Ground.phase }, { on := 8, ground := Go.Ground.phase }, { on := 9, ground := Go.Ground.phase }, { on := 10, ground := Go.Ground.phase }, { on := 11, ground := Go.Ground.phase }, { on := 12, ground := Go.Ground.phase }, { on := 13, ground := Go.Ground.phase }], guard := none }) (v := ?_) rfl (by kernel_rfl) (by kernel_rfl) (by kernel_rfl) (fun _ _ _ h => h) (Or.inl ⟨by rfl, ?_⟩) hS ?_
              rotate_left
              · (intro w hSw; have hSw := (HSd.out w).1 hSw; go_split_ands; go_simp) <;> with_reducible rfl
              clear hS
              try simp only [Act.put, List.setIfInBounds_toArray, List.set_cons_zero, List.set_cons_succ]
              refine wpAnyH_done (by kernel_rfl) ?_ _
              go_wp2_with fail
              go_meet
              exact ⟨ra, rc, _, rfl, rfl, rfl, HA.out.grow HA.out.up (Nat.le_refl _), bn11, le11, bn11.lt, HW.out⟩
            refine AllReadyH.cons (o := { dst := some 21, op := Go.Op.alloc 61, type := 0, pos := "exact.go:2854", after := #[], guard := none }) rfl (fun Kn hK => ?_) AllReadyH.nil
            go_simp
            generalize hX : World.alloc V1 _ = V9
            obtain ⟨g11, hg⟩ : ∃ g, g = V1.heap.size := ⟨_, rfl⟩
            have bn11 : Bk V9 g11 #[.int .i64 0, .bool false, .int .i64 0, .int .i64 0] 61 := by rw [← hX]; exact Bk.new' hg
            have le11 : w14.heap.size ≤ g11 := by rw [hg]; exact HW.out.size
            have nebX_11 : w.heap.size ≠ g11 := by have := bX.lt; omega
            replace bX : Bk V9 (w.heap.size) #[.slice a0 zs.length cap0, .slice b0 ys.length cap1] 45 := by rw [← hX]; exact bX.alloc _
            have nebD_11 : w.heap.size + 1 ≠ g11 := by have := bD.lt; omega
            replace bD : Bk V9 (w.heap.size + 1) #[.int .i64 c, .int .i64 s, .int .i64 h] 30 := by rw [← hX]; exact bD.alloc _
            try rw [← hg]
            have hb : Below V1.heap.size V1 V9 := by rw [← hX]; exact (Below.refl _ _).alloc (Nat.le_refl _) _
            clear hX hg
            try replace HR := Lib.hid (HR.out.on hb)
            try replace HA := Lib.hid (HA.out.on hb)
            replace HW := Lib.hid (bel_end HW.out hb)
            clear hb
            refine hK.out _ _ (HSp.out _ bX bD) (fun _ => ?_)
            clear hK Kn
            refine wpAnyH_ready (rs := [4]) (by kernel_rfl) (by simp) ?_
            refine AllReadyH.cons (o := { dst := some 109, op := Go.Op.call { callee := Go.Callee.value (Go.Operand.func 25), args := #[Go.Operand.tmp 108], argTypes := #[30] }, type := 32, pos := "exact.go:2854", after := #[{ on := 3, ground := Go.Ground.data }, { on := 1, ground := Go.Ground.chain }], guard := none }) rfl (fun Kn hK => ?_) AllReadyH.nil
            first | go_at_call 25 | (go_simp; go_at_call 25)
            refine (tod_any _ _ _ _).mono ?_
            rintro e V10 ⟨rfl, hb⟩
            try dsimp only
            try simp only [Act.put, List.setIfInBounds_toArray, List.set_cons_zero, List.set_cons_succ]
            replace bX := bX.on hb
            replace bD := bD.on hb
            replace bn11 := bn11.on hb
            try replace HR := Lib.hid (HR.out.on hb)
            try replace HA := Lib.hid (HA.out.on hb)
            replace HW := Lib.hid (bel_end HW.out hb)
            clear hb
            refine hK.out _ _ (HSp.out _ bX bD) (fun _ => ?_)
            clear hK Kn
            refine wpAnyH_ready (rs := [6]) (by kernel_rfl) (by simp) ?_
            refine AllReadyH.cons (o := { dst := some 111, op := Go.Op.call { callee := Go.Callee.value (Go.Operand.func 41), args := #[Go.Operand.tmp 106, Go.Operand.tmp 107, Go.Operand.tmp 109, Go.Operand.tmp 110], argTypes := #[51, 2, 32, 2] }, type := 62, pos := "exact.go:2854", after := #[{ on := 1, ground := Go.Ground.data }, { on := 2, ground := Go.Ground.data }, { on := 4, ground := Go.Ground.data }, { on := 5, ground := Go.Ground.data }, { on := 4, ground := Go.Ground.chain }], guard := none }) rfl (fun Kn hK => ?_) AllReadyH.nil
            first | go_at_call 41 | (go_simp; go_at_call 41)
            (with_reducible refine Calls.mono (S2.out _ _ _ _ _ (HR.out)) ?_)
            rintro e V11 ⟨ra, rc, rfl, hs, hb⟩
            have HA := Lib.hid (hs.less (HW.out.size))
            clear hs
            try dsimp only
            try simp only [Act.put, List.setIfInBounds_toArray, List.set_cons_zero, List.set_cons_succ]
            replace bX := bX.on hb
            replace bD := bD.on hb
            replace bn11 := bn11.on hb
            try replace HR := Lib.hid (HR.out.on hb)
            try replace HA := Lib.hid (HA.out.on hb)
            replace HW := Lib.hid (bel_end HW.out hb)
            clear hb
            refine hK.out _ _ (HSp.out _ bX bD) (fun _ => ?_)
            clear hK Kn
            have hS := HSp.out _ bX bD
            refine wpAnyH_take (i := 7) (oi := { dst := some 104, op := Go.Op.move (Go.Operand.tmp 111), type := 62, pos := "exact.go:2854", after := #[{ on := 6, ground := Go.Ground.data }], guard := none }) (v := ?_) rfl (by kernel_rfl) (by kernel_rfl) (by kernel_rfl) (fun _ _ _ h => h) (Or.inl ⟨by rfl, ?_⟩) hS ?_
            rotate_left
            · (intro w hSw; have hSw := (HSd.out w).1 hSw; go_split_ands; go_simp) <;> with_reducible rfl
            clear hS
            try simp only [Act.put, List.setIfInBounds_toArray, List.set_cons_zero, List.set_cons_succ]
            have hS := HSp.out _ bX bD
            refine wpAnyH_take (i := 8) (oi := { dst := some 112, op := Go.Op.extract (Go.Operand.tmp 104) 0, type := 43, pos := "exact.go:2854", after := #[{ on := 7, ground := Go.Ground.data }], guard := none }) (v := ?_) rfl (by kernel_rfl) (by kernel_rfl) (by kernel_rfl) (fun _ _ _ h => h) (Or.inl ⟨by rfl, ?_⟩) hS ?_
            rotate_left
            · (intro w hSw; have hSw := (HSd.out w).1 hSw; go_split_ands; go_simp) <;> with_reducible rfl
            clear hS
            try simp only [Act.put, List.setIfInBounds_toArray, List.set_cons_zero, List.set_cons_succ]
            have hS := HSp.out _ bX bD
            refine wpAnyH_take (i := 9) (oi := { dst := some 113, op := Go.Op.extract (Go.Operand.tmp 104) 1, type := 61, pos := "exact.go:2854", after := #[{ on := 7, ground := Go.Ground.data }, { on := 12, ground := Go.Ground.gcOnly Go.Departure.lateStores }], guard := none }) (v := ?_) rfl (by kernel_rfl) (by kernel_rfl) (by kernel_rfl) (fun _ _ _ h => h) (Or.inl ⟨by rfl, ?_⟩) hS ?_
            rotate_left
            · (intro w hSw; have hSw := (HSd.out w).1 hSw; go_split_ands; go_simp) <;> with_reducible rfl
            clear hS
            try simp only [Act.put, List.setIfInBounds_toArray, List.set_cons_zero, List.set_cons_succ]
            have hS := HSp.out _ bX bD
            refine wpAnyH_take (i := 10) (oi := { dst := some 114, op := Go.Op.extract (Go.Operand.tmp 104) 2, type := 2, pos := "exact.go:2854", after := #[{ on := 7, ground := Go.Ground.data }, { on := 13, ground := Go.Ground.gcOnly Go.Departure.lateStores }], guard := none }) (v := ?_) rfl (by kernel_rfl) (by kernel_rfl) (by kernel_rfl) (fun _ _ _ h => h) (Or.inl ⟨by rfl, ?_⟩) hS ?_
            rotate_left
            · (intro w hSw; have hSw := (HSd.out w).1 hSw; go_split_ands; go_simp) <;> with_reducible rfl
            clear hS
            try simp only [Act.put, List.setIfInBounds_toArray, List.set_cons_zero, List.set_cons_succ]
            have hS := HSp.out _ bX bD
            refine wpAnyH_take (i := 12) (oi := { dst := some 20, op := Go.Op.assign (Go.Operand.tmp 112), type := 43, pos := "exact.go:2854", after := #[{ on := 8, ground := Go.Ground.data }, { on := 6, ground := Go.Ground.chain }, { on := 0, ground := Go.Ground.phase }, { on := 1, ground := Go.Ground.phase }, { on := 2, ground := Go.Ground.phase }, { on := 3, ground := Go.Ground.phase }, { on := 4, ground := Go.Ground.phase }, { on := 5, ground := Go.Ground.phase }, { on := 6, ground := Go.Ground.phase }, { on := 7, ground := Go.Ground.phase }, { on := 8, ground := Go.Ground.phase }, { on := 9, ground := Go.Ground.textOnly Go.Departure.lateStores }, { on := 10, ground := Go.Ground.textOnly Go.Departure.lateStores }, { on := 11, ground := Go.Ground.phase }], guard := none }) (v := ?_) rfl (by kernel_rfl) (by kernel_rfl) (by kernel_rfl) (fun _ _ _ h => h) (Or.inl ⟨by rfl, ?_⟩) hS ?_
            rotate_left
            · (intro w hSw; have hSw := (HSd.out w).1 hSw; go_split_ands; go_simp) <;> with_reducible rfl
            clear hS
            try simp only [Act.put, List.setIfInBounds_toArray, List.set_cons_zero, List.set_cons_succ]
            refine wpAnyH_ready (rs := [13]) (by kernel_rfl) (by simp) ?_
            refine AllReadyH.cons (o := { dst := none, op := Go.Op.store 61 (Go.Operand.tmp 21) (Go.Operand.tmp 113), type := 0, pos := "exact.go:2854", after := #[{ on := 11, ground := Go.Ground.data }, { on := 9, ground := Go.Ground.data }, { on := 12, ground := Go.Ground.chain }, { on := 0, ground := Go.Ground.phase }, { on := 1, ground := Go.Ground.phase }, { on := 2, ground := Go.Ground.phase }, { on := 3, ground := Go.Ground.phase }, { on := 4, ground := Go.Ground.phase }, { on := 5, ground := Go.Ground.phase }, { on := 6, ground := Go.Ground.phase }, { on := 7, ground := Go.Ground.phase }, { on := 8, ground := Go.Ground.phase }, { on := 9, ground := Go.Ground.phase }, { on := 10, ground := Go.Ground.textOnly Go.Departure.lateStores }, { on := 11, ground := Go.Ground.phase }, { on := 12, ground := Go.Ground.phase }], guard := none }) rfl (fun Kn hK => ?_) AllReadyH.nil
            have bn11_0 := bn11.cell 0 rfl
            have bn11_1 := bn11.cell 1 rfl
            have bn11_2 := bn11.cell 2 rfl
            have bn11_3 := bn11.cell 3 rfl
            have bn11_f0 := bn11.frozen 0
            have bn11_f1 := bn11.frozen 1
            have bn11_f2 := bn11.frozen 2
            have bn11_f3 := bn11.frozen 3
            have bn11_l := bn11.lt
            go_simp
            clear bn11_0 bn11_f0 bn11_1 bn11_f1 bn11_2 bn11_f2 bn11_3 bn11_f3 bn11_l
            generalize hX : World.setCell _ _ _ = V12
            have hb : Below w14.heap.size w14 V12 := by rw [← hX]; exact ((((HW.out.setCell (p := ⟨g11, 0, none⟩) le11 _).setCell (p := ⟨g11, 1, none⟩) le11 _).setCell (p := ⟨g11, 2, none⟩) le11 _).setCell (p := ⟨g11, 3, none⟩) le11 _)
            have HA2 := Lib.hid (show OwnA V12 _ _ _ _ _ from by rw [← hX]; exact ownA_farB HA.out bn11 (by decide) _ _ _ _)
            clear HA
            have HA := HA2
            clear HA2
            replace bX : Bk V12 (w.heap.size) #[.slice a0 zs.length cap0, .slice b0 ys.length cap1] 45 := by rw [← hX]; exact (Bk.other (Bk.other (Bk.other (Bk.other bX nebX_11 0 _) nebX_11 1 _) nebX_11 2 _) nebX_11 3 _)
            replace bD : Bk V12 (w.heap.size + 1) #[.int .i64 c, .int .i64 s, .int .i64 h] 30 := by rw [← hX]; exact (Bk.other (Bk.other (Bk.other (Bk.other bD nebD_11 0 _) nebD_11 1 _) nebD_11 2 _) nebD_11 3 _)
            replace bn11 : Bk V12 (g11) #[.int .i64 s0, .bool s1, .int .i64 s2, .int .i64 s3] 61 := by rw [← hX]; exact (Bk.set (Bk.set (Bk.set (Bk.set bn11 0 _ rfl) 1 _ rfl) 2 _ rfl) 3 _ rfl)
            clear hX
            replace HW := Lib.hid hb
            clear hb
            refine hK.out _ _ (HSp.out _ bX bD) (fun _ => ?_)
            clear hK Kn
            have hS := HSp.out _ bX bD
            refine wpAnyH_take (i := 14) (oi := { dst := some 22, op := Go.Op.assign (Go.Operand.tmp 114), type := 2, pos := "exact.go:2854", after := #[{ on := 10, ground := Go.Ground.data }, { on := 13, ground := Go.Ground.chain }, { on := 0, ground := Go.Ground.phase }, { on := 1, ground := Go.Ground.phase }, { on := 2, ground := Go.Ground.phase }, { on := 3, ground := Go.Ground.phase }, { on := 4, ground := Go.Ground.phase }, { on := 5, ground := Go.Ground.phase }, { on := 6, ground := Go.Ground.phase }, { on := 7, ground := Go.Ground.phase }, { on := 8, ground := Go.Ground.phase }, { on := 9, ground := Go.Ground.phase }, { on := 10, ground := Go.Ground.phase }, { on := 11, ground := Go.Ground.phase }, { on := 12, ground := Go.Ground.phase }, { on := 13, ground := Go.Ground.phase }], guard := none }) (v := ?_) rfl (by kernel_rfl) (by kernel_rfl) (by kernel_rfl) (fun _ _ _ h => h) (Or.inl ⟨by rfl, ?_⟩) hS ?_
            rotate_left
            · (intro w hSw; have hSw := (HSd.out w).1 hSw; go_split_ands; go_simp) <;> with_reducible rfl
            clear hS
            try simp only [Act.put, List.setIfInBounds_toArray, List.set_cons_zero, List.set_cons_succ]
            refine wpAnyH_done (by kernel_rfl) ?_ _
            go_wp2_with fail
            go_meet
            exact ⟨ra, rc, _, rfl, rfl, rfl, HA.out.grow HA.out.up (Nat.le_refl _), bn11, le11, bn11.lt, HW.out⟩
          refine AllReadyH.cons (o := { dst := some 21, op := Go.Op.alloc 61, type := 0, pos := "exact.go:2854", after := #[], guard := none }) rfl (fun Kn hK => ?_) AllReadyH.nil
          go_simp
          generalize hX : World.alloc V0 _ = V13
          obtain ⟨g11, hg⟩ : ∃ g, g = V0.heap.size := ⟨_, rfl⟩
          have bn11 : Bk V13 g11 #[.int .i64 0, .bool false, .int .i64 0, .int .i64 0] 61 := by rw [← hX]; exact Bk.new' hg
          have le11 : w14.heap.size ≤ g11 := by rw [hg]; exact HW.out.size
          have nebX_11 : w.heap.size ≠ g11 := by have := bX.lt; omega
          replace bX : Bk V13 (w.heap.size) #[.slice a0 zs.length cap0, .slice b0 ys.length cap1] 45 := by rw [← hX]; exact bX.alloc _
          have nebD_11 : w.heap.size + 1 ≠ g11 := by have := bD.lt; omega
          replace bD : Bk V13 (w.heap.size + 1) #[.int .i64 c, .int .i64 s, .int .i64 h] 30 := by rw [← hX]; exact bD.alloc _
          try rw [← hg]
          have hb : Below V0.heap.size V0 V13 := by rw [← hX]; exact (Below.refl _ _).alloc (Nat.le_refl _) _
          clear hX hg
          try replace HR := Lib.hid (HR.out.on hb)
          try replace HA := Lib.hid (HA.out.on hb)
          replace HW := Lib.hid (bel_end HW.out hb)
          clear hb
          refine hK.out _ _ (HSp.out _ bX bD) (fun _ => ?_)
          clear hK Kn
          refine wpAnyH_ready (rs := [1]) (by kernel_rfl) (by simp) ?_
          refine AllReadyH.cons (o := { dst := some 106, op := Go.Op.call { callee := Go.Callee.value (Go.Operand.func 34), args := #[Go.Operand.tmp 105], argTypes := #[45] }, type := 51, pos := "exact.go:2854", after := #[{ on := 0, ground := Go.Ground.data }], guard := none }) rfl (fun Kn hK => ?_) AllReadyH.nil
          first | go_at_call 34 | (go_simp; go_at_call 34)
          (refine Calls.mono (top_any _ _ _ _ _ zs ys (HP.out.on HW.out).prof) ?_)
          rintro e V14 ⟨g1, g2, rfl, hg1, hg2, hr1, hr2, hb⟩
          have HR := Lib.hid (Prof.of_rows hr1 hr2 lz ly)
          clear hr1 hr2
          try dsimp only
          try simp only [Act.put, List.setIfInBounds_toArray, List.set_cons_zero, List.set_cons_succ]
          replace bX := bX.on hb
          replace bD := bD.on hb
          replace bn11 := bn11.on hb
          try replace HR := Lib.hid (HR.out.on hb)
          try replace HA := Lib.hid (HA.out.on hb)
          replace HW := Lib.hid (bel_end HW.out hb)
          clear hb
          refine hK.out _ _ (HSp.out _ bX bD) (fun _ => ?_)
          clear hK Kn
          refine wpAnyH_ready (rs := [4]) (by kernel_rfl) (by simp) ?_
          refine AllReadyH.cons (o := { dst := some 109, op := Go.Op.call { callee := Go.Callee.value (Go.Operand.func 25), args := #[Go.Operand.tmp 108], argTypes := #[30] }, type := 32, pos := "exact.go:2854", after := #[{ on := 3, ground := Go.Ground.data }, { on := 1, ground := Go.Ground.chain }], guard := none }) rfl (fun Kn hK => ?_) AllReadyH.nil
          first | go_at_call 25 | (go_simp; go_at_call 25)
          refine (tod_any _ _ _ _).mono ?_
          rintro e V15 ⟨rfl, hb⟩
          try dsimp only
          try simp only [Act.put, List.setIfInBounds_toArray, List.set_cons_zero, List.set_cons_succ]
          replace bX := bX.on hb
          replace bD := bD.on hb
          replace bn11 := bn11.on hb
          try replace HR := Lib.hid (HR.out.on hb)
          try replace HA := Lib.hid (HA.out.on hb)
          replace HW := Lib.hid (bel_end HW.out hb)
          clear hb
          refine hK.out _ _ (HSp.out _ bX bD) (fun _ => ?_)
          clear hK Kn
          refine wpAnyH_ready (rs := [6]) (by kernel_rfl) (by simp) ?_
          refine AllReadyH.cons (o := { dst := some 111, op := Go.Op.call { callee := Go.Callee.value (Go.Operand.func 41), args := #[Go.Operand.tmp 106, Go.Operand.tmp 107, Go.Operand.tmp 109, Go.Operand.tmp 110], argTypes := #[51, 2, 32, 2] }, type := 62, pos := "exact.go:2854", after := #[{ on := 1, ground := Go.Ground.data }, { on := 2, ground := Go.Ground.data }, { on := 4, ground := Go.Ground.data }, { on := 5, ground := Go.Ground.data }, { on := 4, ground := Go.Ground.chain }], guard := none }) rfl (fun Kn hK => ?_) AllReadyH.nil
          first | go_at_call 41 | (go_simp; go_at_call 41)
          (with_reducible refine Calls.mono (S2.out _ _ _ _ _ (HR.out)) ?_)
          rintro e V16 ⟨ra, rc, rfl, hs, hb⟩
          have HA := Lib.hid (hs.less (HW.out.size))
          clear hs
          try dsimp only
          try simp only [Act.put, List.setIfInBounds_toArray, List.set_cons_zero, List.set_cons_succ]
          replace bX := bX.on hb
          replace bD := bD.on hb
          replace bn11 := bn11.on hb
          try replace HR := Lib.hid (HR.out.on hb)
          try replace HA := Lib.hid (HA.out.on hb)
          replace HW := Lib.hid (bel_end HW.out hb)
          clear hb
          refine hK.out _ _ (HSp.out _ bX bD) (fun _ => ?_)
          clear hK Kn
          have hS := HSp.out _ bX bD
          refine wpAnyH_take (i := 7) (oi := { dst := some 104, op := Go.Op.move (Go.Operand.tmp 111), type := 62, pos := "exact.go:2854", after := #[{ on := 6, ground := Go.Ground.data }], guard := none }) (v := ?_) rfl (by kernel_rfl) (by kernel_rfl) (by kernel_rfl) (fun _ _ _ h => h) (Or.inl ⟨by rfl, ?_⟩) hS ?_
          rotate_left
          · (intro w hSw; have hSw := (HSd.out w).1 hSw; go_split_ands; go_simp) <;> with_reducible rfl
          clear hS
          try simp only [Act.put, List.setIfInBounds_toArray, List.set_cons_zero, List.set_cons_succ]
          have hS := HSp.out _ bX bD
          refine wpAnyH_take (i := 8) (oi := { dst := some 112, op := Go.Op.extract (Go.Operand.tmp 104) 0, type := 43, pos := "exact.go:2854", after := #[{ on := 7, ground := Go.Ground.data }], guard := none }) (v := ?_) rfl (by kernel_rfl) (by kernel_rfl) (by kernel_rfl) (fun _ _ _ h => h) (Or.inl ⟨by rfl, ?_⟩) hS ?_
          rotate_left
          · (intro w hSw; have hSw := (HSd.out w).1 hSw; go_split_ands; go_simp) <;> with_reducible rfl
          clear hS
          try simp only [Act.put, List.setIfInBounds_toArray, List.set_cons_zero, List.set_cons_succ]
          have hS := HSp.out _ bX bD
          refine wpAnyH_take (i := 9) (oi := { dst := some 113, op := Go.Op.extract (Go.Operand.tmp 104) 1, type := 61, pos := "exact.go:2854", after := #[{ on := 7, ground := Go.Ground.data }, { on := 12, ground := Go.Ground.gcOnly Go.Departure.lateStores }], guard := none }) (v := ?_) rfl (by kernel_rfl) (by kernel_rfl) (by kernel_rfl) (fun _ _ _ h => h) (Or.inl ⟨by rfl, ?_⟩) hS ?_
          rotate_left
          · (intro w hSw; have hSw := (HSd.out w).1 hSw; go_split_ands; go_simp) <;> with_reducible rfl
          clear hS
          try simp only [Act.put, List.setIfInBounds_toArray, List.set_cons_zero, List.set_cons_succ]
          have hS := HSp.out _ bX bD
          refine wpAnyH_take (i := 10) (oi := { dst := some 114, op := Go.Op.extract (Go.Operand.tmp 104) 2, type := 2, pos := "exact.go:2854", after := #[{ on := 7, ground := Go.Ground.data }, { on := 13, ground := Go.Ground.gcOnly Go.Departure.lateStores }], guard := none }) (v := ?_) rfl (by kernel_rfl) (by kernel_rfl) (by kernel_rfl) (fun _ _ _ h => h) (Or.inl ⟨by rfl, ?_⟩) hS ?_
          rotate_left
          · (intro w hSw; have hSw := (HSd.out w).1 hSw; go_split_ands; go_simp) <;> with_reducible rfl
          clear hS
          try simp only [Act.put, List.setIfInBounds_toArray, List.set_cons_zero, List.set_cons_succ]
          have hS := HSp.out _ bX bD
          refine wpAnyH_take (i := 12) (oi := { dst := some 20, op := Go.Op.assign (Go.Operand.tmp 112), type := 43, pos := "exact.go:2854", after := #[{ on := 8, ground := Go.Ground.data }, { on := 6, ground := Go.Ground.chain }, { on := 0, ground := Go.Ground.phase }, { on := 1, ground := Go.Ground.phase }, { on := 2, ground := Go.Ground.phase }, { on := 3, ground := Go.Ground.phase }, { on := 4, ground := Go.Ground.phase }, { on := 5, ground := Go.Ground.phase }, { on := 6, ground := Go.Ground.phase }, { on := 7, ground := Go.Ground.phase }, { on := 8, ground := Go.Ground.phase }, { on := 9, ground := Go.Ground.textOnly Go.Departure.lateStores }, { on := 10, ground := Go.Ground.textOnly Go.Departure.lateStores }, { on := 11, ground := Go.Ground.phase }], guard := none }) (v := ?_) rfl (by kernel_rfl) (by kernel_rfl) (by kernel_rfl) (fun _ _ _ h => h) (Or.inl ⟨by rfl, ?_⟩) hS ?_
          rotate_left
          · (intro w hSw; have hSw := (HSd.out w).1 hSw; go_split_ands; go_simp) <;> with_reducible rfl
          clear hS
          try simp only [Act.put, List.setIfInBounds_toArray, List.set_cons_zero, List.set_cons_succ]
          refine wpAnyH_ready (rs := [13]) (by kernel_rfl) (by simp) ?_
          refine AllReadyH.cons (o := { dst := none, op := Go.Op.store 61 (Go.Operand.tmp 21) (Go.Operand.tmp 113), type := 0, pos := "exact.go:2854", after := #[{ on := 11, ground := Go.Ground.data }, { on := 9, ground := Go.Ground.data }, { on := 12, ground := Go.Ground.chain }, { on := 0, ground := Go.Ground.phase }, { on := 1, ground := Go.Ground.phase }, { on := 2, ground := Go.Ground.phase }, { on := 3, ground := Go.Ground.phase }, { on := 4, ground := Go.Ground.phase }, { on := 5, ground := Go.Ground.phase }, { on := 6, ground := Go.Ground.phase }, { on := 7, ground := Go.Ground.phase }, { on := 8, ground := Go.Ground.phase }, { on := 9, ground := Go.Ground.phase }, { on := 10, ground := Go.Ground.textOnly Go.Departure.lateStores }, { on := 11, ground := Go.Ground.phase }, { on := 12, ground := Go.Ground.phase }], guard := none }) rfl (fun Kn hK => ?_) AllReadyH.nil
          have bn11_0 := bn11.cell 0 rfl
          have bn11_1 := bn11.cell 1 rfl
          have bn11_2 := bn11.cell 2 rfl
          have bn11_3 := bn11.cell 3 rfl
          have bn11_f0 := bn11.frozen 0
          have bn11_f1 := bn11.frozen 1
          have bn11_f2 := bn11.frozen 2
          have bn11_f3 := bn11.frozen 3
          have bn11_l := bn11.lt
          go_simp
          clear bn11_0 bn11_f0 bn11_1 bn11_f1 bn11_2 bn11_f2 bn11_3 bn11_f3 bn11_l
          generalize hX : World.setCell _ _ _ = V17
          have hb : Below w14.heap.size w14 V17 := by rw [← hX]; exact ((((HW.out.setCell (p := ⟨g11, 0, none⟩) le11 _).setCell (p := ⟨g11, 1, none⟩) le11 _).setCell (p := ⟨g11, 2, none⟩) le11 _).setCell (p := ⟨g11, 3, none⟩) le11 _)
          have HA2 := Lib.hid (show OwnA V17 _ _ _ _ _ from by rw [← hX]; exact ownA_farB HA.out bn11 (by decide) _ _ _ _)
          clear HA
          have HA := HA2
          clear HA2
          replace bX : Bk V17 (w.heap.size) #[.slice a0 zs.length cap0, .slice b0 ys.length cap1] 45 := by rw [← hX]; exact (Bk.other (Bk.other (Bk.other (Bk.other bX nebX_11 0 _) nebX_11 1 _) nebX_11 2 _) nebX_11 3 _)
          replace bD : Bk V17 (w.heap.size + 1) #[.int .i64 c, .int .i64 s, .int .i64 h] 30 := by rw [← hX]; exact (Bk.other (Bk.other (Bk.other (Bk.other bD nebD_11 0 _) nebD_11 1 _) nebD_11 2 _) nebD_11 3 _)
          replace bn11 : Bk V17 (g11) #[.int .i64 s0, .bool s1, .int .i64 s2, .int .i64 s3] 61 := by rw [← hX]; exact (Bk.set (Bk.set (Bk.set (Bk.set bn11 0 _ rfl) 1 _ rfl) 2 _ rfl) 3 _ rfl)
          clear hX
          replace HW := Lib.hid hb
          clear hb
          refine hK.out _ _ (HSp.out _ bX bD) (fun _ => ?_)
          clear hK Kn
          have hS := HSp.out _ bX bD
          refine wpAnyH_take (i := 14) (oi := { dst := some 22, op := Go.Op.assign (Go.Operand.tmp 114), type := 2, pos := "exact.go:2854", after := #[{ on := 10, ground := Go.Ground.data }, { on := 13, ground := Go.Ground.chain }, { on := 0, ground := Go.Ground.phase }, { on := 1, ground := Go.Ground.phase }, { on := 2, ground := Go.Ground.phase }, { on := 3, ground := Go.Ground.phase }, { on := 4, ground := Go.Ground.phase }, { on := 5, ground := Go.Ground.phase }, { on := 6, ground := Go.Ground.phase }, { on := 7, ground := Go.Ground.phase }, { on := 8, ground := Go.Ground.phase }, { on := 9, ground := Go.Ground.phase }, { on := 10, ground := Go.Ground.phase }, { on := 11, ground := Go.Ground.phase }, { on := 12, ground := Go.Ground.phase }, { on := 13, ground := Go.Ground.phase }], guard := none }) (v := ?_) rfl (by kernel_rfl) (by kernel_rfl) (by kernel_rfl) (fun _ _ _ h => h) (Or.inl ⟨by rfl, ?_⟩) hS ?_
          rotate_left
          · (intro w hSw; have hSw := (HSd.out w).1 hSw; go_split_ands; go_simp) <;> with_reducible rfl
          clear hS
          try simp only [Act.put, List.setIfInBounds_toArray, List.set_cons_zero, List.set_cons_succ]
          refine wpAnyH_done (by kernel_rfl) ?_ _
          go_wp2_with fail
          go_meet
          exact ⟨ra, rc, _, rfl, rfl, rfl, HA.out.grow HA.out.up (Nat.le_refl _), bn11, le11, bn11.lt, HW.out⟩
        case rest =>
          obtain ⟨ha, hc, gh, rfl, rfl, rfl, hs, bh, le_h, lt_h, hb⟩ := hcut
          have q_h := hb.size
          obtain ⟨w15, hwc⟩ : ∃ X, X = wc := ⟨_, rfl⟩
          rw [← hwc] at hs hb q_h bh lt_h ⊢
          clear hwc
          replace bX := bX.on hb
          replace bD := bD.on hb
          replace bs := bs.on hb
          replace bY := bY.on hb
          replace HP := Lib.hid (HP.out.on hb)
          replace HS := Lib.hid (HS.out.on hb)
          replace HX := Lib.hid (HX.out.on hb)
          replace HG := Lib.hid (HG.out.on hb)
          replace HB := Lib.hid (bel_end HB.out hb)
          have HI := Lib.hid hs
          clear hs hb
          have bX_0 := bX.cell 0 rfl
          have bX_1 := bX.cell 1 rfl
          have bX_l := bX.lt
          have bD_0 := bD.cell 0 rfl
          have bD_1 := bD.cell 1 rfl
          have bD_2 := bD.cell 2 rfl
          have bD_l := bD.lt
          have bs_0 := bs.cell 0 rfl
          have bs_1 := bs.cell 1 rfl
          have bs_2 := bs.cell 2 rfl
          have bs_3 := bs.cell 3 rfl
          have bs_l := bs.lt
          have bY_0 := bY.cell 0 rfl
          have bY_1 := bY.cell 1 rfl
          have bY_l := bY.lt
          have bh_0 := bh.cell 0 rfl
          have bh_1 := bh.cell 1 rfl
          have bh_2 := bh.cell 2 rfl
          have bh_3 := bh.cell 3 rfl
          have bh_l := bh.lt
          go_wp2_with fail
          refine (eql_any _ _ _ _ _ LL (by omega) HI.out.ints HS.out.ints).mono ?_
          rintro e w16 ⟨rfl, hb⟩
          replace bX := bX.on hb
          replace bD := bD.on hb
          replace bs := bs.on hb
          replace bY := bY.on hb
          replace bh := bh.on hb
          replace HP := Lib.hid (HP.out.on hb)
          replace HS := Lib.hid (HS.out.on hb)
          replace HX := Lib.hid (HX.out.on hb)
          replace HG := Lib.hid (HG.out.on hb)
          replace HI := Lib.hid (HI.out.on hb)
          replace HB := Lib.hid (bel_end HB.out hb)
          clear hb
          clear bX_0 bX_1 bX_l bD_0 bD_1 bD_2 bD_l bs_0 bs_1 bs_2 bs_3 bs_l bY_0 bY_1 bY_l bh_0 bh_1 bh_2 bh_3 bh_l
          have bX_0 := bX.cell 0 rfl
          have bX_1 := bX.cell 1 rfl
          have bX_l := bX.lt
          have bD_0 := bD.cell 0 rfl
          have bD_1 := bD.cell 1 rfl
          have bD_2 := bD.cell 2 rfl
          have bD_l := bD.lt
          have bs_0 := bs.cell 0 rfl
          have bs_1 := bs.cell 1 rfl
          have bs_2 := bs.cell 2 rfl
          have bs_3 := bs.cell 3 rfl
          have bs_l := bs.lt
          have bY_0 := bY.cell 0 rfl
          have bY_1 := bY.cell 1 rfl
          have bY_l := bY.lt
          have bh_0 := bh.cell 0 rfl
          have bh_1 := bh.cell 1 rfl
          have bh_2 := bh.cell 2 rfl
          have bh_3 := bh.cell 3 rfl
          have bh_l := bh.lt
          go_wp2_with fail
          refine (eqrs_any _ _ _ _ _).mono ?_
          rintro e w17 ⟨rfl, hb⟩
          replace bX := bX.on hb
          replace bD := bD.on hb
          replace bs := bs.on hb
          replace bY := bY.on hb
          replace bh := bh.on hb
          replace HP := Lib.hid (HP.out.on hb)
          replace HS := Lib.hid (HS.out.on hb)
          replace HX := Lib.hid (HX.out.on hb)
          replace HG := Lib.hid (HG.out.on hb)
          replace HI := Lib.hid (HI.out.on hb)
          replace HB := Lib.hid (bel_end HB.out hb)
          clear hb
          clear bX_0 bX_1 bX_l bD_0 bD_1 bD_2 bD_l bs_0 bs_1 bs_2 bs_3 bs_l bY_0 bY_1 bY_l bh_0 bh_1 bh_2 bh_3 bh_l
          have bX_0 := bX.cell 0 rfl
          have bX_1 := bX.cell 1 rfl
          have bX_l := bX.lt
          have bD_0 := bD.cell 0 rfl
          have bD_1 := bD.cell 1 rfl
          have bD_2 := bD.cell 2 rfl
          have bD_l := bD.lt
          have bs_0 := bs.cell 0 rfl
          have bs_1 := bs.cell 1 rfl
          have bs_2 := bs.cell 2 rfl
          have bs_3 := bs.cell 3 rfl
          have bs_l := bs.lt
          have bY_0 := bY.cell 0 rfl
          have bY_1 := bY.cell 1 rfl
          have bY_l := bY.lt
          have bh_0 := bh.cell 0 rfl
          have bh_1 := bh.cell 1 rfl
          have bh_2 := bh.cell 2 rfl
          have bh_3 := bh.cell 3 rfl
          have bh_l := bh.lt
          go_wp2_with fail
          refine (hdi_any _ _ _ _ LL.length 1 HG.out.ints (by omega) (by omega) (by omega)).mono ?_
          rintro e w_ ⟨rfl, rfl⟩
          clear bX_0 bX_1 bX_l bD_0 bD_1 bD_2 bD_l bs_0 bs_1 bs_2 bs_3 bs_l bY_0 bY_1 bY_l bh_0 bh_1 bh_2 bh_3 bh_l
          go_wp2
          go_ret
          exact ⟨rfl, HB.out⟩
end Go.Proofs.Ytaaklnabomhleaa
