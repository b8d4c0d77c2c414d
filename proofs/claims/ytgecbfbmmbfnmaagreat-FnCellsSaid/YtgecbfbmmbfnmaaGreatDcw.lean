import Derived.Test.YtgecbfbmmbfnmaaGreatFanD
import Derived.Test.YtgecbfbmmbfnmaaGreatRyZ
import Derived.Deep.RegionWith
import Derived.Handy
namespace Go.Proofs.YtgecbfbmmbfnmaaGreat
/- The model's draws of a receiver, and of a verdict's arguments. -/
open Go.ChangeShapes Go.WideShapes Go.ChangeAt Go.RowKit Go.Shelf Num
set_option linter.unusedVariables false
set_option linter.unusedSimpArgs false

set_option maxRecDepth 100000 in
set_option maxHeartbeats 16000000 in
theorem d8d_any (w : World) (s : Nat) (a b : Option Addr) (c d : Nat) (zs ys : List Int) (x p q r n : Int) (h : Src w s) (hp : Prof w w.heap.size a b zs ys) :
    Calls Tryz.prog 14 #[.pointer (some ⟨s, 0, none⟩), .agg #[.slice a zs.length c, .slice b ys.length d], .int .i64 x, .agg #[.int .i64 p, .int .i64 q, .int .i64 r], .int .i64 n] w (DstDrawn w s) := by
  have hls0 := h.lt
  have HS := Lib.hid h
  have HP := Lib.hid hp
  clear h hp
  go_enter Tryz.func14, Tryz.ntmps14
  go_upto_region 1 with fail
  generalize hW : World.alloc _ _ = W
  have bX : Bk W w.heap.size #[.slice a zs.length c, .slice b ys.length d] 26 := by rw [← hW]; repeat (first | (refine Bk.new' ?_; (simp; done)) | refine Bk.alloc ?_ _)
  have bD : Bk W (w.heap.size + 1) #[.int .i64 p, .int .i64 q, .int .i64 r] 28 := by rw [← hW]; repeat (first | (refine Bk.new' ?_; (simp; done)) | refine Bk.alloc ?_ _)
  have hb : Below w.heap.size w W := by rw [← hW]; exact (by repeat (first | exact Below.refl _ _ | (refine Below.alloc ?_ (by simp <;> omega) _) | (refine Below.setCell ?_ (by simp <;> omega) _) | (refine Below.drew ?_) | (refine bel_drewN ?_ _)))
  have HG : Hid (w.grownBy W (some s)) := Lib.hid (by rw [← hW]; exact grown_alloc (grown_alloc (grown_refl _ _) _) _)
  replace HS := Lib.hid (HS.out.bel hb)
  replace HP := Lib.hid (HP.out.on hb)
  have hls := HS.out.lt
  have hz0 := hb.size
  clear hW hb
  have bX_0 := bX.cell 0 rfl
  have bX_1 := bX.cell 1 rfl
  have bX_l := bX.lt
  have bD_0 := bD.cell 0 rfl
  have bD_1 := bD.cell 1 rfl
  have bD_2 := bD.cell 2 rfl
  have bD_l := bD.lt
  go_wp2_with fail
  refine (str_any _ _ _ _ _ zs ys x p q r n HP.out).mono ?_
  rintro e w1 ⟨a9, c9, rfl, -, hb⟩
  clear bX_0 bX_1 bX_l
  clear bD_0 bD_1 bD_2 bD_l
  replace bX := bX.on hb
  replace bD := bD.on hb
  replace HG := Lib.hid (grown_bel HG.out hb)
  replace HS := Lib.hid (HS.out.bel hb)
  replace hls := HS.out.lt
  clear hb HP
  obtain ⟨⟨K, dn, lo, hi⟩, hT⟩ : ∃ u, trS zs ys x p q r n = u := ⟨_, rfl⟩
  obtain ⟨L9, hL9⟩ : ∃ u, (trL zs ys x p q r n).length = u := ⟨_, rfl⟩
  obtain ⟨Q, hQ⟩ : ∃ u, tcod zs ys x p q r n = u := ⟨_, rfl⟩
  rw [hT, hL9, hQ]
  dsimp only
  clear hT hL9 hQ
  go_upto_region 3 with fail
  obtain ⟨W2, hW⟩ : ∃ X, X = w1.alloc (.cells #[.int .i64 K, .bool dn, .int .i64 lo, .int .i64 hi] 38) := ⟨_, rfl⟩
  rw [← hW]
  have bS : Bk W2 w1.heap.size #[.int .i64 K, .bool dn, .int .i64 lo, .int .i64 hi] 38 := by rw [hW]; exact Bk.new' rfl
  have hb : Below w1.heap.size w1 W2 := by rw [hW]; exact (Below.refl _ _).alloc (Nat.le_refl _) _
  have hls1 : s < w1.heap.size := hls
  replace HG := Lib.hid (grown_bel HG.out hb)
  replace HS := Lib.hid (HS.out.bel hb)
  replace hls := HS.out.lt
  clear hW hb bX bD
  by_cases hq : Q = 0
  case neg =>
    have hqb : (Q == 0) = false := by simpa using hq
    go_wp2_with fail
    refine (nxt_any _ _ _ HS.out).mono ?_
    rintro e w4 ⟨g, rfl, -, -, -, hs, hg⟩
    replace bS := bS.kept hg (by simp; omega)
    replace HG := Lib.hid (grown_trans HG.out hg)
    replace HS := Lib.hid hs
    replace hls := HS.out.lt
    clear hs hg
    clear bS
    by_cases h0 : g = 0
    case pos =>
      subst h0
      go_wp2_with fail
      refine (pick3c _ _ w4.heap.size _ _ _ _ (HS.out.alloc _) (by omega) (heap_alloc_new w4 _)).mono ?_
      rintro e w5 ⟨k, rfl, -, hs, hg⟩
      replace HG := Lib.hid (grown_trans (grown_alloc HG.out _) hg)
      replace HS := Lib.hid hs
      replace hls := HS.out.lt
      clear hs hg
      go_wp2_with fail
      refine (pick_new _ s 4 4 [-1, 0, 1000000000000, 1000000000001] #[.int .i64 (-1), .int .i64 0, .int .i64 1000000000000, .int .i64 1000000000001] HS.out rfl (by omega) (by omega) four_cN).mono ?_
      rintro e w6 ⟨jj, -, rfl, hs, hg⟩
      replace HG := Lib.hid (grown_trans (grown_alloc HG.out _) hg)
      clear hg
      go_wp2
      go_ret2
      exact ⟨_, _, rfl, hs, HG.out⟩
    case neg =>
      have h0b : (g == 0) = false := by simpa using h0
      go_wp2_with fail
      refine (nxt_any _ _ _ HS.out).mono ?_
      rintro e w5 ⟨k, rfl, -, -, -, hs, hg⟩
      replace HG := Lib.hid (grown_trans HG.out hg)
      replace HS := Lib.hid hs
      replace hls := HS.out.lt
      clear hs hg
      go_wp2_with fail
      refine (nxt_any _ _ _ HS.out).mono ?_
      rintro e w6 ⟨v, rfl, -, -, -, hs, hg⟩
      replace HG := Lib.hid (grown_trans HG.out hg)
      replace HS := Lib.hid hs
      replace hls := HS.out.lt
      clear hs hg
      go_wp2
      go_ret2
      exact ⟨_, _, rfl, HS.out, HG.out⟩
  case pos =>
    subst hq
    go_wp2_with fail
    refine (nxt_any _ _ _ HS.out).mono ?_
    rintro e w3 ⟨t, rfl, -, -, -, hs, hg⟩
    replace bS := bS.kept hg (by simp; omega)
    replace HG := Lib.hid (grown_trans HG.out hg)
    replace HS := Lib.hid hs
    replace hls := HS.out.lt
    clear hs hg
    by_cases ht : 0 < t
    case neg =>
      go_wp2_with fail
      refine (nxt_any _ _ _ HS.out).mono ?_
      rintro e w4 ⟨g, rfl, -, -, -, hs, hg⟩
      replace bS := bS.kept hg (by simp; omega)
      replace HG := Lib.hid (grown_trans HG.out hg)
      replace HS := Lib.hid hs
      replace hls := HS.out.lt
      clear hs hg
      clear bS
      by_cases h0 : g = 0
      case pos =>
        subst h0
        go_wp2_with fail
        refine (pick3c _ _ w4.heap.size _ _ _ _ (HS.out.alloc _) (by omega) (heap_alloc_new w4 _)).mono ?_
        rintro e w5 ⟨k, rfl, -, hs, hg⟩
        replace HG := Lib.hid (grown_trans (grown_alloc HG.out _) hg)
        replace HS := Lib.hid hs
        replace hls := HS.out.lt
        clear hs hg
        go_wp2_with fail
        refine (pick_new _ s 4 4 [-1, 0, 1000000000000, 1000000000001] #[.int .i64 (-1), .int .i64 0, .int .i64 1000000000000, .int .i64 1000000000001] HS.out rfl (by omega) (by omega) four_cN).mono ?_
        rintro e w6 ⟨jj, -, rfl, hs, hg⟩
        replace HG := Lib.hid (grown_trans (grown_alloc HG.out _) hg)
        clear hg
        go_wp2
        go_ret2
        exact ⟨_, _, rfl, hs, HG.out⟩
      case neg =>
        have h0b : (g == 0) = false := by simpa using h0
        go_wp2_with fail
        refine (nxt_any _ _ _ HS.out).mono ?_
        rintro e w5 ⟨k, rfl, -, -, -, hs, hg⟩
        replace HG := Lib.hid (grown_trans HG.out hg)
        replace HS := Lib.hid hs
        replace hls := HS.out.lt
        clear hs hg
        go_wp2_with fail
        refine (nxt_any _ _ _ HS.out).mono ?_
        rintro e w6 ⟨v, rfl, -, -, -, hs, hg⟩
        replace HG := Lib.hid (grown_trans HG.out hg)
        replace HS := Lib.hid hs
        replace hls := HS.out.lt
        clear hs hg
        go_wp2
        go_ret2
        exact ⟨_, _, rfl, HS.out, HG.out⟩
    case pos =>
      go_upto_region 4 with fail
      have HW : Hid (Below w3.heap.size w3 w3) := Lib.hid (Below.refl _ _)
      obtain ⟨S, hSd⟩ : ∃ S : World → Prop, ∀ w', S w' ↔ (w'.cell? ⟨w1.heap.size, 0, none⟩ = some (.int .i64 K) ∧ w'.cell? ⟨w1.heap.size, 2, none⟩ = some (.int .i64 lo)) := ⟨_, fun _ => Iff.rfl⟩
      have HSp : Hid (∀ w' : World, Bk w' (w1.heap.size) #[.int .i64 K, .bool dn, .int .i64 lo, .int .i64 hi] 38 → S w') := Lib.hid (fun w' bS => (hSd w').2 ⟨bS.cell 0 rfl, bS.cell 2 rfl⟩)
      have HSd := Lib.hid hSd
      clear hSd
      refine wp_region_held_drew (S := S) (by kernel_rfl) ?_ (fun hH => ?_)
      · exact (HSp.out _ bS : S (World.drew w3))
      clear hH
      generalize hX : World.drew w3 = V0
      replace bS : Bk V0 (w1.heap.size) #[.int .i64 K, .bool dn, .int .i64 lo, .int .i64 hi] 38 := by rw [← hX]; exact bS
      have hb : Below w3.heap.size w3 V0 := by rw [← hX]; exact (Below.refl _ _).drew
      clear hX
      replace HG := Lib.hid (grown_bel HG.out hb)
      replace HS := Lib.hid (HS.out.bel hb)
      replace hls := HS.out.lt
      replace HW := Lib.hid (bel_end HW.out hb)
      clear hb
      have hS := HSp.out _ bS
      refine wpAnyH_take (i := 0) (oi := { dst := some 35, op := Go.Op.fieldAddr 38 (Go.Operand.tmp 14) 0, type := 0, pos := "l08_sectors.go:282", after := #[], guard := none }) (v := ?_) rfl (by kernel_rfl) (by kernel_rfl) (by kernel_rfl) (fun _ _ _ h => h) (Or.inl ⟨by rfl, ?_⟩) hS ?_
      rotate_left
      · (intro w hSw; have hSw := (HSd.out w).1 hSw; go_split_ands; go_simp) <;> with_reducible rfl
      clear hS
      try simp only [Act.put, List.setIfInBounds_toArray, List.set_cons_zero, List.set_cons_succ]
      have hS := HSp.out _ bS
      refine wpAnyH_take (i := 1) (oi := { dst := some 36, op := Go.Op.load 2 (Go.Operand.tmp 35), type := 2, pos := "l08_sectors.go:282", after := #[{ on := 0, ground := Go.Ground.data }], guard := none }) (v := ?_) rfl (by kernel_rfl) (by kernel_rfl) (by kernel_rfl) (fun _ _ _ h => h) (Or.inl ⟨by rfl, ?_⟩) hS ?_
      rotate_left
      · (intro w hSw; have hSw := (HSd.out w).1 hSw; go_split_ands; go_simp) <;> with_reducible rfl
      clear hS
      try simp only [Act.put, List.setIfInBounds_toArray, List.set_cons_zero, List.set_cons_succ]
      have hS := HSp.out _ bS
      refine wpAnyH_take (i := 2) (oi := { dst := some 37, op := Go.Op.fieldAddr 38 (Go.Operand.tmp 14) 2, type := 0, pos := "l08_sectors.go:282", after := #[], guard := none }) (v := ?_) rfl (by kernel_rfl) (by kernel_rfl) (by kernel_rfl) (fun _ _ _ h => h) (Or.inl ⟨by rfl, ?_⟩) hS ?_
      rotate_left
      · (intro w hSw; have hSw := (HSd.out w).1 hSw; go_split_ands; go_simp) <;> with_reducible rfl
      clear hS
      try simp only [Act.put, List.setIfInBounds_toArray, List.set_cons_zero, List.set_cons_succ]
      have hS := HSp.out _ bS
      refine wpAnyH_take (i := 3) (oi := { dst := some 38, op := Go.Op.fieldAddr 34 (Go.Operand.tmp 37) 0, type := 0, pos := "l08_sectors.go:282", after := #[{ on := 2, ground := Go.Ground.data }], guard := none }) (v := ?_) rfl (by kernel_rfl) (by kernel_rfl) (by kernel_rfl) (fun _ _ _ h => h) (Or.inl ⟨by rfl, ?_⟩) hS ?_
      rotate_left
      · (intro w hSw; have hSw := (HSd.out w).1 hSw; go_split_ands; go_simp) <;> with_reducible rfl
      clear hS
      try simp only [Act.put, List.setIfInBounds_toArray, List.set_cons_zero, List.set_cons_succ]
      have hS := HSp.out _ bS
      refine wpAnyH_take (i := 4) (oi := { dst := some 39, op := Go.Op.load 2 (Go.Operand.tmp 38), type := 2, pos := "l08_sectors.go:282", after := #[{ on := 3, ground := Go.Ground.data }], guard := none }) (v := ?_) rfl (by kernel_rfl) (by kernel_rfl) (by kernel_rfl) (fun _ _ _ h => h) (Or.inl ⟨by rfl, ?_⟩) hS ?_
      rotate_left
      · (intro w hSw; have hSw := (HSd.out w).1 hSw; go_split_ands; go_simp) <;> with_reducible rfl
      clear hS
      try simp only [Act.put, List.setIfInBounds_toArray, List.set_cons_zero, List.set_cons_succ]
      have hS := HSp.out _ bS
      refine wpAnyH_take (i := 5) (oi := { dst := some 40, op := Go.Op.move (Go.Operand.tmp 0), type := 42, pos := "l08_sectors.go:282", after := #[], guard := none }) (v := ?_) rfl (by kernel_rfl) (by kernel_rfl) (by kernel_rfl) (fun _ _ _ h => h) (Or.inl ⟨by rfl, ?_⟩) hS ?_
      rotate_left
      · (intro w hSw; have hSw := (HSd.out w).1 hSw; go_split_ands; go_simp) <;> with_reducible rfl
      clear hS
      try simp only [Act.put, List.setIfInBounds_toArray, List.set_cons_zero, List.set_cons_succ]
      refine wpAnyH_ready (rs := [6]) (by kernel_rfl) (by simp) ?_
      refine AllReadyH.cons (o := { dst := some 41, op := Go.Op.call { callee := Go.Callee.value (Go.Operand.func 31), args := #[Go.Operand.tmp 40, Go.Operand.const (Go.Value.int Go.IntKind.i64 200)], argTypes := #[42, 2] }, type := 2, pos := "l08_sectors.go:282", after := #[{ on := 5, ground := Go.Ground.data }], guard := none }) rfl (fun Kn hK => ?_) AllReadyH.nil
      first | go_at_call 31 | (go_simp; go_at_call 31)
      refine (nxt_any _ _ _ HS.out).mono ?_
      rintro e V1 ⟨r8, rfl, -, -, -, hs, hg⟩
      try dsimp only
      try simp only [Act.put, List.setIfInBounds_toArray, List.set_cons_zero, List.set_cons_succ]
      replace bS := bS.kept hg (by simp; omega)
      replace HG := Lib.hid (grown_trans HG.out hg)
      replace HS := Lib.hid hs
      replace hls := HS.out.lt
      clear hs hg
      refine hK.out _ _ (HSp.out _ bS) (fun _ => ?_)
      clear hK Kn
      have hS := HSp.out _ bS
      refine wpAnyH_take (i := 7) (oi := { dst := some 42, op := Go.Op.binOp Go.BinOp.add 2 (Go.Operand.tmp 39) (Go.Operand.tmp 41) 2, type := 2, pos := "l08_sectors.go:282", after := #[{ on := 4, ground := Go.Ground.data }, { on := 6, ground := Go.Ground.data }], guard := none }) (v := ?_) rfl (by kernel_rfl) (by kernel_rfl) (by kernel_rfl) (fun _ _ _ h => h) (Or.inl ⟨by rfl, ?_⟩) hS ?_
      rotate_left
      · (intro w hSw; have hSw := (HSd.out w).1 hSw; go_split_ands; go_simp) <;> with_reducible rfl
      clear hS
      try simp only [Act.put, List.setIfInBounds_toArray, List.set_cons_zero, List.set_cons_succ]
      have hS := HSp.out _ bS
      refine wpAnyH_take (i := 8) (oi := { dst := some 43, op := Go.Op.binOp Go.BinOp.sub 2 (Go.Operand.tmp 42) (Go.Operand.const (Go.Value.int Go.IntKind.i64 100)) 2, type := 2, pos := "l08_sectors.go:282", after := #[{ on := 7, ground := Go.Ground.data }], guard := none }) (v := ?_) rfl (by kernel_rfl) (by kernel_rfl) (by kernel_rfl) (fun _ _ _ h => h) (Or.inl ⟨by rfl, ?_⟩) hS ?_
      rotate_left
      · (intro w hSw; have hSw := (HSd.out w).1 hSw; go_split_ands; go_simp) <;> with_reducible rfl
      clear hS
      try simp only [Act.put, List.setIfInBounds_toArray, List.set_cons_zero, List.set_cons_succ]
      have hS := HSp.out _ bS
      refine wpAnyH_take (i := 9) (oi := { dst := some 44, op := Go.Op.call { callee := Go.Callee.builtin Go.Builtin.max, args := #[Go.Operand.const (Go.Value.int Go.IntKind.i64 0), Go.Operand.tmp 43], argTypes := #[2, 2] }, type := 2, pos := "l08_sectors.go:282", after := #[{ on := 8, ground := Go.Ground.data }], guard := none }) (v := ?_) rfl (by kernel_rfl) (by kernel_rfl) (by kernel_rfl) (fun _ _ _ h => h) (Or.inl ⟨by rfl, ?_⟩) hS ?_
      rotate_left
      · (intro w hSw; have hSw := (HSd.out w).1 hSw; go_split_ands; go_simp) <;> with_reducible rfl
      clear hS
      try simp only [Act.put, List.setIfInBounds_toArray, List.set_cons_zero, List.set_cons_succ]
      have hS := HSp.out _ bS
      refine wpAnyH_take (i := 10) (oi := { dst := some 10, op := Go.Op.assign (Go.Operand.tmp 36), type := 2, pos := "l08_sectors.go:282", after := #[{ on := 1, ground := Go.Ground.data }, { on := 6, ground := Go.Ground.chain }, { on := 0, ground := Go.Ground.phase }, { on := 1, ground := Go.Ground.phase }, { on := 2, ground := Go.Ground.textOnly Go.Departure.lateStores }, { on := 3, ground := Go.Ground.textOnly Go.Departure.lateStores }, { on := 4, ground := Go.Ground.textOnly Go.Departure.lateStores }, { on := 5, ground := Go.Ground.textOnly Go.Departure.lateStores }, { on := 6, ground := Go.Ground.textOnly Go.Departure.lateStoresUnsure }, { on := 7, ground := Go.Ground.textOnly Go.Departure.lateStores }, { on := 8, ground := Go.Ground.textOnly Go.Departure.lateStores }, { on := 9, ground := Go.Ground.textOnly Go.Departure.lateStoresUnsure }], guard := none }) (v := ?_) rfl (by kernel_rfl) (by kernel_rfl) (by kernel_rfl) (fun _ _ _ h => h) (Or.inl ⟨by rfl, ?_⟩) hS ?_
      rotate_left
      · (intro w hSw; have hSw := (HSd.out w).1 hSw; go_split_ands; go_simp) <;> with_reducible rfl
      clear hS
      try simp only [Act.put, List.setIfInBounds_toArray, List.set_cons_zero, List.set_cons_succ]
      have hS := HSp.out _ bS
      refine wpAnyH_take (i := 11) (oi := { dst := some 11, op := Go.Op.assign (Go.Operand.tmp 44), type := 2, pos := "l08_sectors.go:282", after := #[{ on := 9, ground := Go.Ground.data }, { on := 10, ground := Go.Ground.chain }, { on := 0, ground := Go.Ground.phase }, { on := 1, ground := Go.Ground.phase }, { on := 2, ground := Go.Ground.phase }, { on := 3, ground := Go.Ground.phase }, { on := 4, ground := Go.Ground.phase }, { on := 5, ground := Go.Ground.phase }, { on := 6, ground := Go.Ground.phase }, { on := 7, ground := Go.Ground.phase }, { on := 8, ground := Go.Ground.phase }, { on := 9, ground := Go.Ground.phase }, { on := 10, ground := Go.Ground.phase }], guard := none }) (v := ?_) rfl (by kernel_rfl) (by kernel_rfl) (by kernel_rfl) (fun _ _ _ h => h) (Or.inl ⟨by rfl, ?_⟩) hS ?_
      rotate_left
      · (intro w hSw; have hSw := (HSd.out w).1 hSw; go_split_ands; go_simp) <;> with_reducible rfl
      clear hS
      try simp only [Act.put, List.setIfInBounds_toArray, List.set_cons_zero, List.set_cons_succ]
      refine wpAnyH_done (by kernel_rfl) ?_ _
      go_wp2
      all_goals
        go_ret2
        exact ⟨_, _, rfl, HS.out, HG.out⟩

set_option maxRecDepth 100000 in
set_option maxHeartbeats 16000000 in
theorem dcv_any (w : World) (a0 : Option Addr) (cap : Nat) (cs : List Int) (h : Code8 w w.heap.size a0 cs) :
    Calls Tryz.prog 5 #[.slice a0 cs.length cap] w (CvB w) := by
  have HC := Lib.hid h
  clear h
  go_enter Tryz.func5, Tryz.ntmps5
  go_wp2_with fail
  generalize hW : World.alloc _ _ = W
  have bR : Bk W (w.heap.size) #[.slice none 0 0, .slice none 0 0] 26 := by rw [← hW]; repeat (first | (refine Bk.new' ?_; (simp; done)) | refine Bk.alloc ?_ _)
  have bE : Bk W (w.heap.size + 1) #[.int .i64 0, .int .i64 0, .int .i64 0] 28 := by rw [← hW]; repeat (first | (refine Bk.new' ?_; (simp; done)) | refine Bk.alloc ?_ _)
  have bF : Bk W (w.heap.size + 1 + 1) #[.int .i64 0, .int .i64 0, .int .i64 0] 28 := by rw [← hW]; repeat (first | (refine Bk.new' ?_; (simp; done)) | refine Bk.alloc ?_ _)
  have hb0 : Below w.heap.size w W := by rw [← hW]; exact (by repeat (first | exact Below.refl _ _ | (refine Below.alloc ?_ (by simp <;> omega) _) | (refine Below.setCell ?_ (by simp <;> omega) _) | (refine Below.drew ?_) | (refine bel_drewN ?_ _)))
  clear hW
  have hlT := bF.lt
  refine (from_any _ _ _ cs ((HC.out.below hb0 (Nat.le_refl _)).more hb0.size)).mono ?_
  rintro e w1 ⟨s, rfl, hs, hsrc, hb⟩
  replace bR := bR.on hb
  replace bE := bE.on hb
  replace bF := bF.on hb
  have HB := Lib.hid (bel_end hb0 hb)
  have HS := Lib.hid hsrc
  have hls := HS.out.lt
  have hsW : W.heap.size ≤ s := hs
  clear hsrc hb hb0 HC
  go_wp2_with fail
  refine (d8r_any _ _ HS.out).mono ?_
  rintro e w2 ⟨a, b, c, d, zs, ys, x, p, q, r, u, v, t, n, rfl, hp, hs2, hg⟩
  replace bR := bR.kept hg (by simp; omega)
  replace bE := bE.kept hg (by simp; omega)
  replace bF := bF.kept hg (by simp; omega)
  have hsz := hg.size
  replace HB := Lib.hid (HB.out.trans (below_of_grown hg (by omega) (by have := HB.out.size; omega)))
  replace HS := Lib.hid hs2
  have hls2 : s < w1.heap.size := hls
  replace hls := HS.out.lt
  have HP : Hid (PrX w2 w2.heap.size (w1.heap.size + 1 + 1) a b zs ys) := Lib.hid hp
  clear hg hs2 hp
  go_upto_region 3 with fail
  obtain ⟨W3, hW⟩ : ∃ X, X = ((w2.alloc (.cells #[.slice a zs.length c, .slice b ys.length d] 26)).alloc (.cells #[.int .i64 p, .int .i64 q, .int .i64 r] 28)).alloc (.cells #[.int .i64 u, .int .i64 v, .int .i64 t] 28) := ⟨_, rfl⟩
  rw [← hW]
  have bP : Bk W3 (w2.heap.size) #[.slice a zs.length c, .slice b ys.length d] 26 := by rw [hW]; repeat (first | (refine Bk.new' ?_; (simp; done)) | refine Bk.alloc ?_ _)
  have bD : Bk W3 (w2.heap.size + 1) #[.int .i64 p, .int .i64 q, .int .i64 r] 28 := by rw [hW]; repeat (first | (refine Bk.new' ?_; (simp; done)) | refine Bk.alloc ?_ _)
  have bG : Bk W3 (w2.heap.size + 1 + 1) #[.int .i64 u, .int .i64 v, .int .i64 t] 28 := by rw [hW]; repeat (first | (refine Bk.new' ?_; (simp; done)) | refine Bk.alloc ?_ _)
  have hb : Below w2.heap.size w2 W3 := by rw [hW]; exact (by repeat (first | exact Below.refl _ _ | (refine Below.alloc ?_ (by simp <;> omega) _) | (refine Below.setCell ?_ (by simp <;> omega) _) | (refine Below.drew ?_) | (refine bel_drewN ?_ _)))
  have hz3 := hb.size
  replace bR := bR.on hb
  replace bE := bE.on hb
  replace bF := bF.on hb
  replace HB := Lib.hid (bel_end HB.out hb)
  replace HS := Lib.hid (HS.out.bel hb)
  replace HP := Lib.hid (HP.out.below hb)
  have hls3 : s < w2.heap.size := hls
  replace hls := HS.out.lt
  clear hW hb
  have bP_0 := bP.cell 0 rfl
  have bP_1 := bP.cell 1 rfl
  have bP_l := bP.lt
  have bD_0 := bD.cell 0 rfl
  have bD_1 := bD.cell 1 rfl
  have bD_2 := bD.cell 2 rfl
  have bD_l := bD.lt
  go_wp2_with fail
  refine (d8d_any _ s a b c d zs ys x p q r n HS.out (HP.out.at_.more (by omega))).mono ?_
  rintro e w4 ⟨k, m, rfl, hs2, hg⟩
  clear bP_0 bP_1 bP_l
  clear bD_0 bD_1 bD_2 bD_l
  replace bR := bR.kept hg (by simp; omega)
  replace bE := bE.kept hg (by simp; omega)
  replace bF := bF.kept hg (by simp; omega)
  replace bP := bP.kept hg (by simp; omega)
  replace bD := bD.kept hg (by simp; omega)
  replace bG := bG.kept hg (by simp; omega)
  have hz4 := hg.size
  replace HB := Lib.hid (HB.out.trans (below_of_grown hg (by omega) (by have := HB.out.size; omega)))
  replace HP := Lib.hid (HP.out.grown (by omega) hg)
  replace HS := Lib.hid hs2
  clear hg hs2
  go_upto_region 4 with fail
  obtain ⟨S, hSd⟩ : ∃ S : World → Prop, ∀ w', S w' ↔ (w'.cell? ⟨w2.heap.size, 0, none⟩ = some (.slice a zs.length c) ∧ w'.cell? ⟨w2.heap.size, 1, none⟩ = some (.slice b ys.length d) ∧ w'.cell? ⟨w2.heap.size + 1, 0, none⟩ = some (.int .i64 p) ∧ w'.cell? ⟨w2.heap.size + 1, 1, none⟩ = some (.int .i64 q) ∧ w'.cell? ⟨w2.heap.size + 1, 2, none⟩ = some (.int .i64 r) ∧ w'.cell? ⟨w2.heap.size + 1 + 1, 0, none⟩ = some (.int .i64 u) ∧ w'.cell? ⟨w2.heap.size + 1 + 1, 1, none⟩ = some (.int .i64 v) ∧ w'.cell? ⟨w2.heap.size + 1 + 1, 2, none⟩ = some (.int .i64 t)) := ⟨_, fun _ => Iff.rfl⟩
  have HSp : Hid (∀ w' : World, Bk w' (w2.heap.size) #[.slice a zs.length c, .slice b ys.length d] 26 → Bk w' (w2.heap.size + 1) #[.int .i64 p, .int .i64 q, .int .i64 r] 28 → Bk w' (w2.heap.size + 1 + 1) #[.int .i64 u, .int .i64 v, .int .i64 t] 28 → S w') := Lib.hid (fun w' bP bD bG => (hSd w').2 ⟨bP.cell 0 rfl, bP.cell 1 rfl, bD.cell 0 rfl, bD.cell 1 rfl, bD.cell 2 rfl, bG.cell 0 rfl, bG.cell 1 rfl, bG.cell 2 rfl⟩)
  have HSd := Lib.hid hSd
  clear hSd
  refine wp_region_held_drew (S := S) (by kernel_rfl) ?_ (fun hH => ?_)
  · exact (HSp.out _ bP bD bG : S (World.drew w4))
  clear hH
  generalize hX : World.drew w4 = V0
  replace bR : Bk V0 (w.heap.size) #[.slice none 0 0, .slice none 0 0] 26 := by rw [← hX]; exact bR
  replace bE : Bk V0 (w.heap.size + 1) #[.int .i64 0, .int .i64 0, .int .i64 0] 28 := by rw [← hX]; exact bE
  replace bF : Bk V0 (w.heap.size + 1 + 1) #[.int .i64 0, .int .i64 0, .int .i64 0] 28 := by rw [← hX]; exact bF
  replace bP : Bk V0 (w2.heap.size) #[.slice a zs.length c, .slice b ys.length d] 26 := by rw [← hX]; exact bP
  replace bD : Bk V0 (w2.heap.size + 1) #[.int .i64 p, .int .i64 q, .int .i64 r] 28 := by rw [← hX]; exact bD
  replace bG : Bk V0 (w2.heap.size + 1 + 1) #[.int .i64 u, .int .i64 v, .int .i64 t] 28 := by rw [← hX]; exact bG
  have hb : Below w4.heap.size w4 V0 := by rw [← hX]; exact (Below.refl _ _).drew
  clear hX
  replace HP := Lib.hid (HP.out.below (hb.mono (by omega)))
  replace HB := Lib.hid (bel_end HB.out hb)
  clear hb
  have hS := HSp.out _ bP bD bG
  refine wpAnyH_take (i := 0) (oi := { dst := some 36, op := Go.Op.load 26 (Go.Operand.tmp 10), type := 26, pos := "l08_sectors.go:294", after := #[], guard := none }) (v := ?_) rfl (by kernel_rfl) (by kernel_rfl) (by kernel_rfl) (fun _ _ _ h => h) (Or.inl ⟨by rfl, ?_⟩) hS ?_
  rotate_left
  · (intro w hSw; have hSw := (HSd.out w).1 hSw; go_split_ands; go_simp) <;> with_reducible rfl
  clear hS
  try simp only [Act.put, List.setIfInBounds_toArray, List.set_cons_zero, List.set_cons_succ]
  have hS := HSp.out _ bP bD bG
  refine wpAnyH_take (i := 1) (oi := { dst := some 37, op := Go.Op.move (Go.Operand.tmp 11), type := 2, pos := "l08_sectors.go:294", after := #[{ on := 7, ground := Go.Ground.gcOnly Go.Departure.lateStores }], guard := none }) (v := ?_) rfl (by kernel_rfl) (by kernel_rfl) (by kernel_rfl) (fun _ _ _ h => h) (Or.inl ⟨by rfl, ?_⟩) hS ?_
  rotate_left
  · (intro w hSw; have hSw := (HSd.out w).1 hSw; go_split_ands; go_simp) <;> with_reducible rfl
  clear hS
  try simp only [Act.put, List.setIfInBounds_toArray, List.set_cons_zero, List.set_cons_succ]
  have hS := HSp.out _ bP bD bG
  refine wpAnyH_take (i := 2) (oi := { dst := some 38, op := Go.Op.load 28 (Go.Operand.tmp 12), type := 28, pos := "l08_sectors.go:294", after := #[{ on := 8, ground := Go.Ground.gcOnly Go.Departure.lateStores }], guard := none }) (v := ?_) rfl (by kernel_rfl) (by kernel_rfl) (by kernel_rfl) (fun _ _ _ h => h) (Or.inl ⟨by rfl, ?_⟩) hS ?_
  rotate_left
  · (intro w hSw; have hSw := (HSd.out w).1 hSw; go_split_ands; go_simp) <;> with_reducible rfl
  clear hS
  try simp only [Act.put, List.setIfInBounds_toArray, List.set_cons_zero, List.set_cons_succ]
  have hS := HSp.out _ bP bD bG
  refine wpAnyH_take (i := 3) (oi := { dst := some 39, op := Go.Op.load 28 (Go.Operand.tmp 13), type := 28, pos := "l08_sectors.go:294", after := #[{ on := 9, ground := Go.Ground.gcOnly Go.Departure.lateStores }], guard := none }) (v := ?_) rfl (by kernel_rfl) (by kernel_rfl) (by kernel_rfl) (fun _ _ _ h => h) (Or.inl ⟨by rfl, ?_⟩) hS ?_
  rotate_left
  · (intro w hSw; have hSw := (HSd.out w).1 hSw; go_split_ands; go_simp) <;> with_reducible rfl
  clear hS
  try simp only [Act.put, List.setIfInBounds_toArray, List.set_cons_zero, List.set_cons_succ]
  have hS := HSp.out _ bP bD bG
  refine wpAnyH_take (i := 4) (oi := { dst := some 40, op := Go.Op.move (Go.Operand.tmp 14), type := 2, pos := "l08_sectors.go:294", after := #[{ on := 10, ground := Go.Ground.gcOnly Go.Departure.lateStores }], guard := none }) (v := ?_) rfl (by kernel_rfl) (by kernel_rfl) (by kernel_rfl) (fun _ _ _ h => h) (Or.inl ⟨by rfl, ?_⟩) hS ?_
  rotate_left
  · (intro w hSw; have hSw := (HSd.out w).1 hSw; go_split_ands; go_simp) <;> with_reducible rfl
  clear hS
  try simp only [Act.put, List.setIfInBounds_toArray, List.set_cons_zero, List.set_cons_succ]
  have hS := HSp.out _ bP bD bG
  refine wpAnyH_take (i := 5) (oi := { dst := some 41, op := Go.Op.move (Go.Operand.tmp 15), type := 2, pos := "l08_sectors.go:294", after := #[{ on := 11, ground := Go.Ground.gcOnly Go.Departure.lateStores }], guard := none }) (v := ?_) rfl (by kernel_rfl) (by kernel_rfl) (by kernel_rfl) (fun _ _ _ h => h) (Or.inl ⟨by rfl, ?_⟩) hS ?_
  rotate_left
  · (intro w hSw; have hSw := (HSd.out w).1 hSw; go_split_ands; go_simp) <;> with_reducible rfl
  clear hS
  try simp only [Act.put, List.setIfInBounds_toArray, List.set_cons_zero, List.set_cons_succ]
  have hS := HSp.out _ bP bD bG
  refine wpAnyH_take (i := 6) (oi := { dst := some 42, op := Go.Op.move (Go.Operand.tmp 16), type := 2, pos := "l08_sectors.go:294", after := #[{ on := 12, ground := Go.Ground.gcOnly Go.Departure.lateStores }], guard := none }) (v := ?_) rfl (by kernel_rfl) (by kernel_rfl) (by kernel_rfl) (fun _ _ _ h => h) (Or.inl ⟨by rfl, ?_⟩) hS ?_
  rotate_left
  · (intro w hSw; have hSw := (HSd.out w).1 hSw; go_split_ands; go_simp) <;> with_reducible rfl
  clear hS
  try simp only [Act.put, List.setIfInBounds_toArray, List.set_cons_zero, List.set_cons_succ]
  refine wpAnyH_ready (rs := [7]) (by kernel_rfl) (by simp) ?_
  refine AllReadyH.cons (o := { dst := none, op := Go.Op.store 26 (Go.Operand.tmp 2) (Go.Operand.tmp 36), type := 0, pos := "l08_sectors.go:294", after := #[{ on := 0, ground := Go.Ground.data }, { on := 0, ground := Go.Ground.phase }, { on := 1, ground := Go.Ground.textOnly Go.Departure.lateStores }, { on := 2, ground := Go.Ground.textOnly Go.Departure.lateStores }, { on := 3, ground := Go.Ground.textOnly Go.Departure.lateStores }, { on := 4, ground := Go.Ground.textOnly Go.Departure.lateStores }, { on := 5, ground := Go.Ground.textOnly Go.Departure.lateStores }, { on := 6, ground := Go.Ground.textOnly Go.Departure.lateStores }], guard := none }) rfl (fun Kn hK => ?_) AllReadyH.nil
  have bR_0 := bR.cell 0 rfl
  have bR_1 := bR.cell 1 rfl
  have bR_f0 := bR.frozen 0
  have bR_f1 := bR.frozen 1
  have bR_l := bR.lt
  go_simp
  clear bR_0 bR_f0 bR_1 bR_f1 bR_l
  generalize hX : World.setCell _ _ _ = V1
  have hb : Below w.heap.size w V1 := by rw [← hX]; exact ((HB.out.setCell (p := ⟨w.heap.size, 0, none⟩) (by first | omega | (dsimp only; omega)) _).setCell (p := ⟨w.heap.size, 1, none⟩) (by first | omega | (dsimp only; omega)) _)
  replace HP : Hid (PrX V1 w2.heap.size (w1.heap.size + 1 + 1) a b zs ys) := Lib.hid (by rw [← hX]; exact (PrX.lo (PrX.lo HP.out (by omega) _) (by omega) _))
  replace bE : Bk V1 (w.heap.size + 1) #[.int .i64 0, .int .i64 0, .int .i64 0] 28 := by rw [← hX]; exact (Bk.other (Bk.other bE (by omega) 0 _) (by omega) 1 _)
  replace bF : Bk V1 (w.heap.size + 1 + 1) #[.int .i64 0, .int .i64 0, .int .i64 0] 28 := by rw [← hX]; exact (Bk.other (Bk.other bF (by omega) 0 _) (by omega) 1 _)
  replace bP : Bk V1 (w2.heap.size) #[.slice a zs.length c, .slice b ys.length d] 26 := by rw [← hX]; exact (Bk.other (Bk.other bP (by omega) 0 _) (by omega) 1 _)
  replace bD : Bk V1 (w2.heap.size + 1) #[.int .i64 p, .int .i64 q, .int .i64 r] 28 := by rw [← hX]; exact (Bk.other (Bk.other bD (by omega) 0 _) (by omega) 1 _)
  replace bG : Bk V1 (w2.heap.size + 1 + 1) #[.int .i64 u, .int .i64 v, .int .i64 t] 28 := by rw [← hX]; exact (Bk.other (Bk.other bG (by omega) 0 _) (by omega) 1 _)
  replace bR : Bk V1 (w.heap.size) #[.slice a zs.length c, .slice b ys.length d] 26 := by rw [← hX]; exact (Bk.set (Bk.set bR 0 _ rfl) 1 _ rfl)
  clear hX
  replace HB := Lib.hid hb
  clear hb
  refine hK.out _ _ (HSp.out _ bP bD bG) (fun _ => ?_)
  clear hK Kn
  have hS := HSp.out _ bP bD bG
  refine wpAnyH_take (i := 8) (oi := { dst := some 3, op := Go.Op.assign (Go.Operand.tmp 37), type := 2, pos := "l08_sectors.go:294", after := #[{ on := 1, ground := Go.Ground.data }, { on := 7, ground := Go.Ground.chain }, { on := 0, ground := Go.Ground.phase }, { on := 1, ground := Go.Ground.phase }, { on := 2, ground := Go.Ground.textOnly Go.Departure.lateStores }, { on := 3, ground := Go.Ground.textOnly Go.Departure.lateStores }, { on := 4, ground := Go.Ground.textOnly Go.Departure.lateStores }, { on := 5, ground := Go.Ground.textOnly Go.Departure.lateStores }, { on := 6, ground := Go.Ground.textOnly Go.Departure.lateStores }, { on := 7, ground := Go.Ground.phase }], guard := none }) (v := ?_) rfl (by kernel_rfl) (by kernel_rfl) (by kernel_rfl) (fun _ _ _ h => h) (Or.inl ⟨by rfl, ?_⟩) hS ?_
  rotate_left
  · (intro w hSw; have hSw := (HSd.out w).1 hSw; go_split_ands; go_simp) <;> with_reducible rfl
  clear hS
  try simp only [Act.put, List.setIfInBounds_toArray, List.set_cons_zero, List.set_cons_succ]
  refine wpAnyH_ready (rs := [9]) (by kernel_rfl) (by simp) ?_
  refine AllReadyH.cons (o := { dst := none, op := Go.Op.store 28 (Go.Operand.tmp 4) (Go.Operand.tmp 38), type := 0, pos := "l08_sectors.go:294", after := #[{ on := 2, ground := Go.Ground.data }, { on := 8, ground := Go.Ground.chain }, { on := 0, ground := Go.Ground.phase }, { on := 1, ground := Go.Ground.phase }, { on := 2, ground := Go.Ground.phase }, { on := 3, ground := Go.Ground.textOnly Go.Departure.lateStores }, { on := 4, ground := Go.Ground.textOnly Go.Departure.lateStores }, { on := 5, ground := Go.Ground.textOnly Go.Departure.lateStores }, { on := 6, ground := Go.Ground.textOnly Go.Departure.lateStores }, { on := 7, ground := Go.Ground.phase }, { on := 8, ground := Go.Ground.phase }], guard := none }) rfl (fun Kn hK => ?_) AllReadyH.nil
  have bE_0 := bE.cell 0 rfl
  have bE_1 := bE.cell 1 rfl
  have bE_2 := bE.cell 2 rfl
  have bE_f0 := bE.frozen 0
  have bE_f1 := bE.frozen 1
  have bE_f2 := bE.frozen 2
  have bE_l := bE.lt
  go_simp
  clear bE_0 bE_f0 bE_1 bE_f1 bE_2 bE_f2 bE_l
  generalize hX : World.setCell _ _ _ = V2
  have hb : Below w.heap.size w V2 := by rw [← hX]; exact (((HB.out.setCell (p := ⟨w.heap.size + 1, 0, none⟩) (by first | omega | (dsimp only; omega)) _).setCell (p := ⟨w.heap.size + 1, 1, none⟩) (by first | omega | (dsimp only; omega)) _).setCell (p := ⟨w.heap.size + 1, 2, none⟩) (by first | omega | (dsimp only; omega)) _)
  replace HP : Hid (PrX V2 w2.heap.size (w1.heap.size + 1 + 1) a b zs ys) := Lib.hid (by rw [← hX]; exact (PrX.lo (PrX.lo (PrX.lo HP.out (by omega) _) (by omega) _) (by omega) _))
  replace bR : Bk V2 (w.heap.size) #[.slice a zs.length c, .slice b ys.length d] 26 := by rw [← hX]; exact (Bk.other (Bk.other (Bk.other bR (by omega) 0 _) (by omega) 1 _) (by omega) 2 _)
  replace bF : Bk V2 (w.heap.size + 1 + 1) #[.int .i64 0, .int .i64 0, .int .i64 0] 28 := by rw [← hX]; exact (Bk.other (Bk.other (Bk.other bF (by omega) 0 _) (by omega) 1 _) (by omega) 2 _)
  replace bP : Bk V2 (w2.heap.size) #[.slice a zs.length c, .slice b ys.length d] 26 := by rw [← hX]; exact (Bk.other (Bk.other (Bk.other bP (by omega) 0 _) (by omega) 1 _) (by omega) 2 _)
  replace bD : Bk V2 (w2.heap.size + 1) #[.int .i64 p, .int .i64 q, .int .i64 r] 28 := by rw [← hX]; exact (Bk.other (Bk.other (Bk.other bD (by omega) 0 _) (by omega) 1 _) (by omega) 2 _)
  replace bG : Bk V2 (w2.heap.size + 1 + 1) #[.int .i64 u, .int .i64 v, .int .i64 t] 28 := by rw [← hX]; exact (Bk.other (Bk.other (Bk.other bG (by omega) 0 _) (by omega) 1 _) (by omega) 2 _)
  replace bE : Bk V2 (w.heap.size + 1) #[.int .i64 p, .int .i64 q, .int .i64 r] 28 := by rw [← hX]; exact (Bk.set (Bk.set (Bk.set bE 0 _ rfl) 1 _ rfl) 2 _ rfl)
  clear hX
  replace HB := Lib.hid hb
  clear hb
  refine hK.out _ _ (HSp.out _ bP bD bG) (fun _ => ?_)
  clear hK Kn
  refine wpAnyH_ready (rs := [10]) (by kernel_rfl) (by simp) ?_
  refine AllReadyH.cons (o := { dst := none, op := Go.Op.store 28 (Go.Operand.tmp 5) (Go.Operand.tmp 39), type := 0, pos := "l08_sectors.go:294", after := #[{ on := 3, ground := Go.Ground.data }, { on := 9, ground := Go.Ground.chain }, { on := 0, ground := Go.Ground.phase }, { on := 1, ground := Go.Ground.phase }, { on := 2, ground := Go.Ground.phase }, { on := 3, ground := Go.Ground.phase }, { on := 4, ground := Go.Ground.textOnly Go.Departure.lateStores }, { on := 5, ground := Go.Ground.textOnly Go.Departure.lateStores }, { on := 6, ground := Go.Ground.textOnly Go.Departure.lateStores }, { on := 7, ground := Go.Ground.phase }, { on := 8, ground := Go.Ground.phase }, { on := 9, ground := Go.Ground.phase }], guard := none }) rfl (fun Kn hK => ?_) AllReadyH.nil
  have bF_0 := bF.cell 0 rfl
  have bF_1 := bF.cell 1 rfl
  have bF_2 := bF.cell 2 rfl
  have bF_f0 := bF.frozen 0
  have bF_f1 := bF.frozen 1
  have bF_f2 := bF.frozen 2
  have bF_l := bF.lt
  go_simp
  clear bF_0 bF_f0 bF_1 bF_f1 bF_2 bF_f2 bF_l
  generalize hX : World.setCell _ _ _ = V3
  have hb : Below w.heap.size w V3 := by rw [← hX]; exact (((HB.out.setCell (p := ⟨w.heap.size + 1 + 1, 0, none⟩) (by first | omega | (dsimp only; omega)) _).setCell (p := ⟨w.heap.size + 1 + 1, 1, none⟩) (by first | omega | (dsimp only; omega)) _).setCell (p := ⟨w.heap.size + 1 + 1, 2, none⟩) (by first | omega | (dsimp only; omega)) _)
  replace HP : Hid (PrX V3 w2.heap.size (w1.heap.size + 1 + 1) a b zs ys) := Lib.hid (by rw [← hX]; exact (PrX.lo (PrX.lo (PrX.lo HP.out (by omega) _) (by omega) _) (by omega) _))
  replace bR : Bk V3 (w.heap.size) #[.slice a zs.length c, .slice b ys.length d] 26 := by rw [← hX]; exact (Bk.other (Bk.other (Bk.other bR (by omega) 0 _) (by omega) 1 _) (by omega) 2 _)
  replace bE : Bk V3 (w.heap.size + 1) #[.int .i64 p, .int .i64 q, .int .i64 r] 28 := by rw [← hX]; exact (Bk.other (Bk.other (Bk.other bE (by omega) 0 _) (by omega) 1 _) (by omega) 2 _)
  replace bP : Bk V3 (w2.heap.size) #[.slice a zs.length c, .slice b ys.length d] 26 := by rw [← hX]; exact (Bk.other (Bk.other (Bk.other bP (by omega) 0 _) (by omega) 1 _) (by omega) 2 _)
  replace bD : Bk V3 (w2.heap.size + 1) #[.int .i64 p, .int .i64 q, .int .i64 r] 28 := by rw [← hX]; exact (Bk.other (Bk.other (Bk.other bD (by omega) 0 _) (by omega) 1 _) (by omega) 2 _)
  replace bG : Bk V3 (w2.heap.size + 1 + 1) #[.int .i64 u, .int .i64 v, .int .i64 t] 28 := by rw [← hX]; exact (Bk.other (Bk.other (Bk.other bG (by omega) 0 _) (by omega) 1 _) (by omega) 2 _)
  replace bF : Bk V3 (w.heap.size + 1 + 1) #[.int .i64 u, .int .i64 v, .int .i64 t] 28 := by rw [← hX]; exact (Bk.set (Bk.set (Bk.set bF 0 _ rfl) 1 _ rfl) 2 _ rfl)
  clear hX
  replace HB := Lib.hid hb
  clear hb
  refine hK.out _ _ (HSp.out _ bP bD bG) (fun _ => ?_)
  clear hK Kn
  have hS := HSp.out _ bP bD bG
  refine wpAnyH_take (i := 11) (oi := { dst := some 6, op := Go.Op.assign (Go.Operand.tmp 40), type := 2, pos := "l08_sectors.go:294", after := #[{ on := 4, ground := Go.Ground.data }, { on := 10, ground := Go.Ground.chain }, { on := 0, ground := Go.Ground.phase }, { on := 1, ground := Go.Ground.phase }, { on := 2, ground := Go.Ground.phase }, { on := 3, ground := Go.Ground.phase }, { on := 4, ground := Go.Ground.phase }, { on := 5, ground := Go.Ground.textOnly Go.Departure.lateStores }, { on := 6, ground := Go.Ground.textOnly Go.Departure.lateStores }, { on := 7, ground := Go.Ground.phase }, { on := 8, ground := Go.Ground.phase }, { on := 9, ground := Go.Ground.phase }, { on := 10, ground := Go.Ground.phase }], guard := none }) (v := ?_) rfl (by kernel_rfl) (by kernel_rfl) (by kernel_rfl) (fun _ _ _ h => h) (Or.inl ⟨by rfl, ?_⟩) hS ?_
  rotate_left
  · (intro w hSw; have hSw := (HSd.out w).1 hSw; go_split_ands; go_simp) <;> with_reducible rfl
  clear hS
  try simp only [Act.put, List.setIfInBounds_toArray, List.set_cons_zero, List.set_cons_succ]
  have hS := HSp.out _ bP bD bG
  refine wpAnyH_take (i := 12) (oi := { dst := some 7, op := Go.Op.assign (Go.Operand.tmp 41), type := 2, pos := "l08_sectors.go:294", after := #[{ on := 5, ground := Go.Ground.data }, { on := 11, ground := Go.Ground.chain }, { on := 0, ground := Go.Ground.phase }, { on := 1, ground := Go.Ground.phase }, { on := 2, ground := Go.Ground.phase }, { on := 3, ground := Go.Ground.phase }, { on := 4, ground := Go.Ground.phase }, { on := 5, ground := Go.Ground.phase }, { on := 6, ground := Go.Ground.textOnly Go.Departure.lateStores }, { on := 7, ground := Go.Ground.phase }, { on := 8, ground := Go.Ground.phase }, { on := 9, ground := Go.Ground.phase }, { on := 10, ground := Go.Ground.phase }, { on := 11, ground := Go.Ground.phase }], guard := none }) (v := ?_) rfl (by kernel_rfl) (by kernel_rfl) (by kernel_rfl) (fun _ _ _ h => h) (Or.inl ⟨by rfl, ?_⟩) hS ?_
  rotate_left
  · (intro w hSw; have hSw := (HSd.out w).1 hSw; go_split_ands; go_simp) <;> with_reducible rfl
  clear hS
  try simp only [Act.put, List.setIfInBounds_toArray, List.set_cons_zero, List.set_cons_succ]
  have hS := HSp.out _ bP bD bG
  refine wpAnyH_take (i := 13) (oi := { dst := some 8, op := Go.Op.assign (Go.Operand.tmp 42), type := 2, pos := "l08_sectors.go:294", after := #[{ on := 6, ground := Go.Ground.data }, { on := 12, ground := Go.Ground.chain }, { on := 0, ground := Go.Ground.phase }, { on := 1, ground := Go.Ground.phase }, { on := 2, ground := Go.Ground.phase }, { on := 3, ground := Go.Ground.phase }, { on := 4, ground := Go.Ground.phase }, { on := 5, ground := Go.Ground.phase }, { on := 6, ground := Go.Ground.phase }, { on := 7, ground := Go.Ground.phase }, { on := 8, ground := Go.Ground.phase }, { on := 9, ground := Go.Ground.phase }, { on := 10, ground := Go.Ground.phase }, { on := 11, ground := Go.Ground.phase }, { on := 12, ground := Go.Ground.phase }], guard := none }) (v := ?_) rfl (by kernel_rfl) (by kernel_rfl) (by kernel_rfl) (fun _ _ _ h => h) (Or.inl ⟨by rfl, ?_⟩) hS ?_
  rotate_left
  · (intro w hSw; have hSw := (HSd.out w).1 hSw; go_split_ands; go_simp) <;> with_reducible rfl
  clear hS
  try simp only [Act.put, List.setIfInBounds_toArray, List.set_cons_zero, List.set_cons_succ]
  refine wpAnyH_done (by kernel_rfl) ?_ _
  have bR_0 := bR.cell 0 rfl
  have bR_1 := bR.cell 1 rfl
  have bE_0 := bE.cell 0 rfl
  have bE_1 := bE.cell 1 rfl
  have bE_2 := bE.cell 2 rfl
  have bF_0 := bF.cell 0 rfl
  have bF_1 := bF.cell 1 rfl
  have bF_2 := bF.cell 2 rfl
  have hPz := bG.lt
  have hfz := HB.out.size
  go_wp2
  exact bodyPost_ret (v := .tuple #[.agg #[.slice a zs.length c, .slice b ys.length d], .int .i64 x, .agg #[.int .i64 p, .int .i64 q, .int .i64 r], .agg #[.int .i64 u, .int .i64 v, .int .i64 t], .int .i64 n, .int .i64 k, .int .i64 m]) (by simp [results, Tryz.results5, go_sem, bR_0, bR_1, bE_0, bE_1, bE_2, bF_0, bF_1, bF_2]) rfl ⟨a, b, c, d, zs, ys, x, _, _, _, _, _, _, n, k, m, rfl, HP.out.wide (by omega) (by omega), HB.out⟩
end Go.Proofs.YtgecbfbmmbfnmaaGreat
