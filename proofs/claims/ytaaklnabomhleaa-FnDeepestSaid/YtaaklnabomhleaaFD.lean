/- The walk of the law of greatest depths. -/
import Derived.Test.YtaaklnabomhleaaD7
import Derived.Test.YtaaklnabomhleaaRyE
import Derived.Test.YtaaklnabomhleaaRyF
import Derived.Test.YtaaklnabomhleaaRyH
import Derived.Test.YtaaklnabomhleaaDice
import Derived.Deep.RegionHeld3
import Derived.Deep.DeepCutAuto
import Derived.Deep.RegionWith
import Derived.BigQuiet
namespace Go.Proofs.Ytaaklnabomhleaa
open Go.ChangeShapes Go.WideShapes Go.ChangeAt Go.RowKit Go.Shelf Num
set_option linter.unusedVariables false
attribute [local go_sem ↓] Go.wp_at_zero Go.wp_at_succ
theorem dice_bel {w w' : World} {s : Nat} (h : Dice w s) (hb : Below w.heap.size w w') : Dice w' s := by
  obtain ⟨a, cap, zs, k, d, h0, hc, rest⟩ := h
  have hs : s < w.heap.size := (Array.getElem?_eq_some_iff.1 h0).1
  exact ⟨a, cap, zs, k, d, (hb.block s hs).trans h0, hc.below hb (Nat.le_of_lt hs), rest⟩
theorem dice_ne {w : World} {s B : Nat} {cs : Array Value} {t : TypeId} (h : Dice w s) (b : Bk w B cs t) (ht : t ≠ 175) : B ≠ s := by
  rintro rfl
  obtain ⟨a, cap, zs, k, d, h0, -⟩ := h
  have := b.symm.trans h0
  simp only [Option.some.injEq, Obj.cells.injEq] at this
  exact ht this.2.1

set_option maxRecDepth 100000 in
set_option maxHeartbeats 16000000 in
theorem ldps (a0 : Option Addr) (len0 cap0 : Nat) (z0 : List Int) (w : World) (w0 : IsRow .u8 w a0 len0 cap0 z0) :
    Calls Try.prog 16 #[.slice a0 len0 cap0] w fun e w' => e = .returned (.bool true) ∧ Below w.heap.size w w' := by
  obtain ⟨hln, hc⟩ := Code8.of_row w0
  clear w0
  obtain ⟨cs, hcs⟩ : ∃ cs, z0.take len0 = cs := ⟨_, rfl⟩
  rw [hcs] at hln hc
  subst hln
  clear hcs
  have HC := Lib.hid hc
  clear hc
  by_cases hbig : 4096 < (cs.length : Int)
  · have HB0 : Hid (decide (4096 < (cs.length : Int)) = true) := Lib.hid (decide_eq_true hbig)
    clear hbig
    go_enter Try.func16, Try.ntmps16
    go_wp2_with fail
    refine (big_any _ _ _ _).mono ?_
    rw [HB0.out]
    rintro e w1 ⟨rfl, rfl⟩
    go_wp2
    go_ret
    exact ⟨rfl, Below.refl _ _⟩
  have HB0 : Hid (decide (4096 < (cs.length : Int)) = false) := Lib.hid (decide_eq_false hbig)
  clear hbig
  go_enter Try.func16, Try.ntmps16
  go_wp2_with fail
  refine (big_any _ _ _ _).mono ?_
  rw [HB0.out]
  rintro e w1 ⟨rfl, hw1⟩
  subst hw1
  go_wp2_with fail
  refine (d7d_any _ _ _ cs HC.out).mono ?_
  rintro e w1 ⟨a1, b1, c1, d1, zs, ys, sr, c, s, h, n, rfl, hp, ⟨hn1, hn2⟩, hb⟩
  have HB := Lib.hid hb
  have HP := Lib.hid hp.n
  clear hp
  obtain ⟨⟨X, Y⟩, hU⟩ : ∃ U, dpT zs ys sr c s h n = U := ⟨_, rfl⟩
  obtain ⟨e1, hE⟩ : ∃ U, tcod zs ys sr c s h n = U := ⟨_, rfl⟩
  have KA : Hid (∀ (w : World) (a b : Option Addr) (c_ d_ : Nat), Prof w w.heap.size a b zs ys → Calls Try.prog 68 #[.agg #[.slice a zs.length c_, .slice b ys.length d_], .int .i64 sr, .agg #[.int .i64 c, .int .i64 s, .int .i64 h], .int .i64 n] w fun e w' => e = .returned (.tuple #[.agg #[.int .i64 X, .int .i64 Y], .int .i64 e1]) ∧ Below w.heap.size w w') := Lib.hid (fun w a b c_ d_ hp => by have := idp_any w a b c_ d_ zs ys sr c s h n hp; rw [hU, hE] at this; exact this)
  have KB : Hid (∀ (w : World) (a b : Option Addr) (c_ d_ : Nat), Prof w w.heap.size a b zs ys → Calls Try.prog 67 #[.agg #[.slice a zs.length c_, .slice b ys.length d_], .int .i64 sr, .agg #[.int .i64 c, .int .i64 s, .int .i64 h], .int .i64 n] w fun e w' => e = .returned (.tuple #[.agg #[.int .i64 X, .int .i64 Y], .int .i64 e1]) ∧ Below w.heap.size w w') := Lib.hid (fun w a b c_ d_ hp => by have := sdp_any w a b c_ d_ zs ys sr c s h n hp; rw [hU, hE] at this; exact this)
  have KM : Hid (e1 = 0 → ∀ (w : World) (a b : Option Addr) (c_ d_ : Nat) (m : Int), 0 ≤ m → m ≤ n → Prof w w.heap.size a b zs ys → Calls Try.prog 68 #[.agg #[.slice a zs.length c_, .slice b ys.length d_], .int .i64 sr, .agg #[.int .i64 c, .int .i64 s, .int .i64 h], .int .i64 m] w fun e w' => ∃ X2 Y2 : Int, e = .returned (.tuple #[.agg #[.int .i64 X2, .int .i64 Y2], .int .i64 0]) ∧ X2 ≤ X ∧ Y2 ≤ Y ∧ Below w.heap.size w w') := Lib.hid (fun h1 w a b c_ d_ m h0 hm hp => by obtain ⟨i, -, -, -, -, -, -, -, f⟩ := dp_fact (hE.trans h1); have f2 := f m h0 hm; rw [hU] at f2; have := idp_any w a b c_ d_ zs ys sr c s h m hp; rw [f2.1] at this; exact this.mono (by rintro e w' ⟨rfl, hb⟩; exact ⟨_, _, rfl, f2.2.1, f2.2.2, hb⟩))
  have F1 : Hid (e1 = 0 → ∃ i : Nat, sr = (i : Int) ∧ i < zs.length ∧ 0 ≤ n ∧ X ≤ Y ∧ zs.getD i 0 ≤ X ∧ Y ≤ zs.getD (zs.length - 1) 0) := Lib.hid (fun h1 => by obtain ⟨i, h2, h3, h4, -, h6, h7, h8, -⟩ := dp_fact (hE.trans h1); rw [hU] at h6 h7 h8; exact ⟨i, h2, h3, h4, h6, h7, h8⟩)
  clear hU hE
  clear hb
  go_wp2_with fail
  obtain ⟨W2, hW⟩ : ∃ W, W = ((w1.alloc (.cells #[.slice a1 zs.length c1, .slice b1 ys.length d1] 51)).alloc (.cells #[.int .i64 c, .int .i64 s, .int .i64 h] 32)) := ⟨_, rfl⟩
  have hb : Below w1.heap.size w1 W2 := by rw [hW]; exact (by repeat (first | exact Below.refl _ _ | (refine Below.alloc ?_ (by simp <;> omega) _) | (refine Below.setCell ?_ (by simp <;> omega) _) | (refine Below.drew ?_) | (refine bel_drewN ?_ _)))
  have bA : Bk W2 (w1.heap.size) #[.slice a1 zs.length c1, .slice b1 ys.length d1] 51 := by rw [hW]; exact ((Bk.new' (by simp)).alloc _)
  have bD : Bk W2 (w1.heap.size + 1) #[.int .i64 c, .int .i64 s, .int .i64 h] 32 := by rw [hW]; exact (Bk.new' (by simp))
  replace HP := Lib.hid (HP.out.on hb)
  replace HB := Lib.hid (bel_end HB.out hb)
  rw [← hW]
  clear hW hb
  have bA_0 := bA.cell 0 rfl
  have bA_1 := bA.cell 1 rfl
  have bA_l := bA.lt
  have bD_0 := bD.cell 0 rfl
  have bD_1 := bD.cell 1 rfl
  have bD_2 := bD.cell 2 rfl
  have bD_l := bD.lt
  refine (KA.out _ _ _ _ _ HP.out.at_).mono ?_
  rintro e w3 ⟨rfl, hb⟩
  replace bA := bA.on hb
  replace bD := bD.on hb
  replace HP := Lib.hid (HP.out.on hb)
  replace HB := Lib.hid (bel_end HB.out hb)
  clear hb
  clear bA_0 bA_1 bA_l bD_0 bD_1 bD_2 bD_l
  have bA_0 := bA.cell 0 rfl
  have bA_1 := bA.cell 1 rfl
  have bA_l := bA.lt
  have bD_0 := bD.cell 0 rfl
  have bD_1 := bD.cell 1 rfl
  have bD_2 := bD.cell 2 rfl
  have bD_l := bD.lt
  go_wp2_with fail
  obtain ⟨W4, hW⟩ : ∃ W, W = (w3.alloc (.cells #[.int .i64 X, .int .i64 Y] 48)) := ⟨_, rfl⟩
  have hb : Below w3.heap.size w3 W4 := by rw [hW]; exact (by repeat (first | exact Below.refl _ _ | (refine Below.alloc ?_ (by simp <;> omega) _) | (refine Below.setCell ?_ (by simp <;> omega) _) | (refine Below.drew ?_) | (refine bel_drewN ?_ _)))
  have bX : Bk W4 (w3.heap.size) #[.int .i64 X, .int .i64 Y] 48 := by rw [hW]; exact (Bk.new' (by simp))
  replace bA := bA.on hb
  replace bD := bD.on hb
  replace HP := Lib.hid (HP.out.on hb)
  replace HB := Lib.hid (bel_end HB.out hb)
  rw [← hW]
  clear bA_0 bA_1 bA_l bD_0 bD_1 bD_2 bD_l
  clear hW hb
  have bA_0 := bA.cell 0 rfl
  have bA_1 := bA.cell 1 rfl
  have bA_l := bA.lt
  have bD_0 := bD.cell 0 rfl
  have bD_1 := bD.cell 1 rfl
  have bD_2 := bD.cell 2 rfl
  have bD_l := bD.lt
  have bX_0 := bX.cell 0 rfl
  have bX_1 := bX.cell 1 rfl
  have bX_l := bX.lt
  refine (KB.out _ _ _ _ _ HP.out.at_).mono ?_
  rintro e w5 ⟨rfl, hb⟩
  replace bA := bA.on hb
  replace bD := bD.on hb
  replace bX := bX.on hb
  replace HP := Lib.hid (HP.out.on hb)
  replace HB := Lib.hid (bel_end HB.out hb)
  clear hb
  clear bA_0 bA_1 bA_l bD_0 bD_1 bD_2 bD_l bX_0 bX_1 bX_l
  clear KA KB
  by_cases h1 : e1 = 0
  case neg =>
    have h1b : (e1 != 0) = true := by simpa using h1
    clear F1 KM
    have bA_0 := bA.cell 0 rfl
    have bA_1 := bA.cell 1 rfl
    have bA_l := bA.lt
    have bD_0 := bD.cell 0 rfl
    have bD_1 := bD.cell 1 rfl
    have bD_2 := bD.cell 2 rfl
    have bD_l := bD.lt
    have bX_0 := bX.cell 0 rfl
    have bX_1 := bX.cell 1 rfl
    have bX_l := bX.lt
    go_wp2
    go_ret
    exact ⟨rfl, HB.out.alloc HB.out.size _⟩
  case pos =>
    obtain ⟨i, rfl, hi, n0, f1, f2, f3⟩ := F1.out h1
    have KM2 := Lib.hid (KM.out h1)
    subst h1
    clear F1 KM
    obtain ⟨p, o, rfl, hlp, hz⟩ := HP.out.at_.dz (by omega)
    have a1_ := hz i hi
    have a2_ := hz (zs.length - 1) (by omega)
    have hn_ := HP.out.n1
    obtain ⟨zi, e⟩ : ∃ q, zs.getD i 0 = q := ⟨_, rfl⟩
    rw [e] at a1_ f2
    clear e
    obtain ⟨zl, e⟩ : ∃ q, zs.getD (zs.length - 1) 0 = q := ⟨_, rfl⟩
    rw [e] at a2_ f3
    clear e hz
    have ew : IntKind.wrap .i64 (n + 1) = n + 1 := IntWalk.i64_in _ (by omega)
    have bA_0 := bA.cell 0 rfl
    have bA_1 := bA.cell 1 rfl
    have bA_l := bA.lt
    have bD_0 := bD.cell 0 rfl
    have bD_1 := bD.cell 1 rfl
    have bD_2 := bD.cell 2 rfl
    have bD_l := bD.lt
    have bX_0 := bX.cell 0 rfl
    have bX_1 := bX.cell 1 rfl
    have bX_l := bX.lt
    go_upto_region 10 with fail
    clear bA_0 bA_1 bA_l bD_0 bD_1 bD_2 bD_l bX_0 bX_1 bX_l
    generalize hW : World.alloc _ _ = WY
    have hb : Below w5.heap.size w5 WY := by rw [← hW]; exact (by repeat (first | exact Below.refl _ _ | (refine Below.alloc ?_ (by simp <;> omega) _) | (refine Below.setCell ?_ (by simp <;> omega) _) | (refine Below.drew ?_) | (refine bel_drewN ?_ _)))
    clear hW
    replace bA := bA.on hb
    replace bD := bD.on hb
    replace bX := bX.on hb
    replace HP := Lib.hid (HP.out.on hb)
    replace a1_ := kc1 a1_ hb
    replace a2_ := kc1 a2_ hb
    replace HB := Lib.hid (bel_end HB.out hb)
    clear hb
    have bX_l := bX.lt
    have bA_l := bA.lt
    have bD_l := bD.lt
    go_cut [11, 12] (fun s11 s12 wx => ∃ (g : Nat) (X2 Y2 : Int), s11 = .pointer (some ⟨g, 0, none⟩) ∧ s12 = .int .i64 0 ∧ X2 ≤ X ∧ Y2 ≤ Y ∧ Bk wx g #[.int .i64 X2, .int .i64 Y2] 48 ∧ WY.heap.size ≤ g ∧ g < wx.heap.size ∧ Below WY.heap.size WY wx)
    case first =>
      have HW : Hid (Below WY.heap.size WY WY) := Lib.hid (Below.refl _ _)
      obtain ⟨S, hSd⟩ : ∃ S : World → Prop, ∀ w', S w' ↔ (w'.cell? ⟨w1.heap.size, 0, none⟩ = some (.slice (some ⟨p, o, none⟩) zs.length c1) ∧ w'.cell? ⟨w1.heap.size, 1, none⟩ = some (.slice b1 ys.length d1) ∧ w'.cell? ⟨w1.heap.size + 1, 0, none⟩ = some (.int .i64 c) ∧ w'.cell? ⟨w1.heap.size + 1, 1, none⟩ = some (.int .i64 s) ∧ w'.cell? ⟨w1.heap.size + 1, 2, none⟩ = some (.int .i64 h)) := ⟨_, fun _ => Iff.rfl⟩
      have HSp : Hid (∀ w' : World, Bk w' (w1.heap.size) #[.slice (some ⟨p, o, none⟩) zs.length c1, .slice b1 ys.length d1] 51 → Bk w' (w1.heap.size + 1) #[.int .i64 c, .int .i64 s, .int .i64 h] 32 → S w') := Lib.hid (fun w' bA bD => (hSd w').2 ⟨bA.cell 0 rfl, bA.cell 1 rfl, bD.cell 0 rfl, bD.cell 1 rfl, bD.cell 2 rfl⟩)
      have HSd := Lib.hid hSd
      clear hSd
      refine wp_region_held_drew (S := S) (by kernel_rfl) ?_ (fun hH => ?_)
      · exact (HSp.out _ bA bD : S (World.drew WY))
      clear hH
      generalize hX : World.drew WY = V0
      replace bA : Bk V0 (w1.heap.size) #[.slice (some ⟨p, o, none⟩) zs.length c1, .slice b1 ys.length d1] 51 := by rw [← hX]; exact bA
      replace bD : Bk V0 (w1.heap.size + 1) #[.int .i64 c, .int .i64 s, .int .i64 h] 32 := by rw [← hX]; exact bD
      have hb : Below WY.heap.size WY V0 := by rw [← hX]; exact (Below.refl _ _).drew
      clear hX
      first | (have HDc := HDc0; clear HDc0) | (replace HDc := Lib.hid (dice_bel HDc.out hb)) | skip
      replace HW := Lib.hid (bel_end HW.out hb)
      clear hb
      have hS := HSp.out _ bA bD
      refine wpAnyH_take (i := 0) (oi := { dst := some 49, op := Go.Op.load 51 (Go.Operand.tmp 3), type := 51, pos := "laws.go:1758", after := #[], guard := none }) (v := ?_) rfl (by kernel_rfl) (by kernel_rfl) (by kernel_rfl) (fun _ _ _ h => h) (Or.inl ⟨by rfl, ?_⟩) hS ?_
      rotate_left
      · (intro w hSw; have hSw := (HSd.out w).1 hSw; go_split_ands; go_simp) <;> with_reducible rfl
      clear hS
      try simp only [Act.put, List.setIfInBounds_toArray, List.set_cons_zero, List.set_cons_succ]
      have hS := HSp.out _ bA bD
      refine wpAnyH_take (i := 1) (oi := { dst := some 50, op := Go.Op.move (Go.Operand.tmp 4), type := 2, pos := "laws.go:1758", after := #[], guard := none }) (v := ?_) rfl (by kernel_rfl) (by kernel_rfl) (by kernel_rfl) (fun _ _ _ h => h) (Or.inl ⟨by rfl, ?_⟩) hS ?_
      rotate_left
      · (intro w hSw; have hSw := (HSd.out w).1 hSw; go_split_ands; go_simp) <;> with_reducible rfl
      clear hS
      try simp only [Act.put, List.setIfInBounds_toArray, List.set_cons_zero, List.set_cons_succ]
      have hS := HSp.out _ bA bD
      refine wpAnyH_take (i := 2) (oi := { dst := some 51, op := Go.Op.load 32 (Go.Operand.tmp 5), type := 32, pos := "laws.go:1758", after := #[], guard := none }) (v := ?_) rfl (by kernel_rfl) (by kernel_rfl) (by kernel_rfl) (fun _ _ _ h => h) (Or.inl ⟨by rfl, ?_⟩) hS ?_
      rotate_left
      · (intro w hSw; have hSw := (HSd.out w).1 hSw; go_split_ands; go_simp) <;> with_reducible rfl
      clear hS
      try simp only [Act.put, List.setIfInBounds_toArray, List.set_cons_zero, List.set_cons_succ]
      have hS := HSp.out _ bA bD
      refine wpAnyH_take (i := 3) (oi := { dst := some 52, op := Go.Op.move (Go.Operand.tmp 0), type := 35, pos := "laws.go:1758", after := #[], guard := none }) (v := ?_) rfl (by kernel_rfl) (by kernel_rfl) (by kernel_rfl) (fun _ _ _ h => h) (Or.inl ⟨by rfl, ?_⟩) hS ?_
      rotate_left
      · (intro w hSw; have hSw := (HSd.out w).1 hSw; go_split_ands; go_simp) <;> with_reducible rfl
      clear hS
      try simp only [Act.put, List.setIfInBounds_toArray, List.set_cons_zero, List.set_cons_succ]
      have hS := HSp.out _ bA bD
      refine wpAnyH_take (i := 5) (oi := { dst := some 54, op := Go.Op.move (Go.Operand.tmp 6), type := 2, pos := "laws.go:1758", after := #[], guard := none }) (v := ?_) rfl (by kernel_rfl) (by kernel_rfl) (by kernel_rfl) (fun _ _ _ h => h) (Or.inl ⟨by rfl, ?_⟩) hS ?_
      rotate_left
      · (intro w hSw; have hSw := (HSd.out w).1 hSw; go_split_ands; go_simp) <;> with_reducible rfl
      clear hS
      try simp only [Act.put, List.setIfInBounds_toArray, List.set_cons_zero, List.set_cons_succ]
      have hS := HSp.out _ bA bD
      refine wpAnyH_take (i := 6) (oi := { dst := some 55, op := Go.Op.binOp Go.BinOp.add 2 (Go.Operand.tmp 54) (Go.Operand.const (Go.Value.int Go.IntKind.i64 1)) 2, type := 2, pos := "laws.go:1758", after := #[{ on := 5, ground := Go.Ground.data }], guard := none }) (v := ?_) rfl (by kernel_rfl) (by kernel_rfl) (by kernel_rfl) (fun _ _ _ h => h) (Or.inl ⟨by rfl, ?_⟩) hS ?_
      rotate_left
      · (intro w hSw; have hSw := (HSd.out w).1 hSw; go_split_ands; go_simp) <;> with_reducible rfl
      clear hS
      try simp only [Act.put, List.setIfInBounds_toArray, List.set_cons_zero, List.set_cons_succ]
      refine wpAnyH_ready (rs := [4, 12]) (by kernel_rfl) (by simp) ?_
      refine AllReadyH.cons (o := { dst := some 53, op := Go.Op.call { callee := Go.Callee.value (Go.Operand.func 70), args := #[Go.Operand.tmp 52, Go.Operand.const (Go.Value.int Go.IntKind.u64 701)], argTypes := #[35, 92] }, type := 90, pos := "laws.go:1758", after := #[{ on := 3, ground := Go.Ground.data }], guard := none }) rfl (fun Kn hK => ?_) ?_
      · first | go_at_call 70 | (go_simp; go_at_call 70)
        (refine Calls.mono (roll_any _ _ _ cs _ ((HC.out.below (bel_end HB.out HW.out) (Nat.le_refl _)).more (bel_end HB.out HW.out).size)) ?_)
        rintro e V1 ⟨sd, rfl, hsd, hdice, hb⟩
        have hsb : WY.heap.size ≤ sd := Nat.le_trans HW.out.size hsd
        have HDc0 := Lib.hid hdice
        clear hsd hdice
        try dsimp only
        try simp only [Act.put, List.setIfInBounds_toArray, List.set_cons_zero, List.set_cons_succ]
        replace bA := bA.on hb
        replace bD := bD.on hb
        first | (have HDc := HDc0; clear HDc0) | (replace HDc := Lib.hid (dice_bel HDc.out hb)) | skip
        replace HW := Lib.hid (bel_end HW.out hb)
        clear hb
        refine hK.out _ _ (HSp.out _ bA bD) (fun _ => ?_)
        clear hK Kn
        refine wpAnyH_ready (rs := [7, 12]) (by kernel_rfl) (by simp) ?_
        refine AllReadyH.cons (o := { dst := some 56, op := Go.Op.call { callee := Go.Callee.value (Go.Operand.func 71), args := #[Go.Operand.tmp 53, Go.Operand.tmp 55], argTypes := #[90, 2] }, type := 2, pos := "laws.go:1758", after := #[{ on := 4, ground := Go.Ground.data }, { on := 6, ground := Go.Ground.data }, { on := 4, ground := Go.Ground.chain }], guard := none }) rfl (fun Kn hK => ?_) ?_
        · first | go_at_call 71 | (go_simp; go_at_call 71)
          try rw [ew]
          (refine Calls.mono (bel_any _ _ (n + 1) (by omega) HDc.out) ?_)
          rintro e V2 ⟨m, rfl, hm0, hm1, -, hg⟩
          try dsimp only
          try simp only [Act.put, List.setIfInBounds_toArray, List.set_cons_zero, List.set_cons_succ]
          replace bA : Bk V2 (w1.heap.size) #[.slice (some ⟨p, o, none⟩) zs.length c1, .slice b1 ys.length d1] 51 := Bk.kept bA hg (by have := dice_ne HDc.out bA (by decide); simpa using this)
          replace bD : Bk V2 (w1.heap.size + 1) #[.int .i64 c, .int .i64 s, .int .i64 h] 32 := Bk.kept bD hg (by have := dice_ne HDc.out bD (by decide); simpa using this)
          replace HW := Lib.hid (HW.out.trans (below_of_grown hg hsb HW.out.size))
          clear hg HDc
          refine hK.out _ _ (HSp.out _ bA bD) (fun _ => ?_)
          clear hK Kn
          refine wpAnyH_ready (rs := [8, 12]) (by kernel_rfl) (by simp) ?_
          refine AllReadyH.cons (o := { dst := some 57, op := Go.Op.call { callee := Go.Callee.value (Go.Operand.func 68), args := #[Go.Operand.tmp 49, Go.Operand.tmp 50, Go.Operand.tmp 51, Go.Operand.tmp 56], argTypes := #[51, 2, 32, 2] }, type := 49, pos := "laws.go:1758", after := #[{ on := 0, ground := Go.Ground.data }, { on := 1, ground := Go.Ground.data }, { on := 2, ground := Go.Ground.data }, { on := 7, ground := Go.Ground.data }, { on := 7, ground := Go.Ground.chain }], guard := none }) rfl (fun Kn hK => ?_) ?_
          · first | go_at_call 68 | (go_simp; go_at_call 68)
            (with_reducible refine Calls.mono (KM2.out _ _ _ _ _ m hm0 (by omega) (HP.out.on HW.out).at_) ?_)
            rintro e V3 ⟨X2, Y2, rfl, hx2, hy2, hb⟩
            try dsimp only
            try simp only [Act.put, List.setIfInBounds_toArray, List.set_cons_zero, List.set_cons_succ]
            replace bA := bA.on hb
            replace bD := bD.on hb
            first | (have HDc := HDc0; clear HDc0) | (replace HDc := Lib.hid (dice_bel HDc.out hb)) | skip
            replace HW := Lib.hid (bel_end HW.out hb)
            clear hb
            refine hK.out _ _ (HSp.out _ bA bD) (fun _ => ?_)
            clear hK Kn
            have hS := HSp.out _ bA bD
            refine wpAnyH_take (i := 9) (oi := { dst := some 48, op := Go.Op.move (Go.Operand.tmp 57), type := 49, pos := "laws.go:1758", after := #[{ on := 8, ground := Go.Ground.data }], guard := none }) (v := ?_) rfl (by kernel_rfl) (by kernel_rfl) (by kernel_rfl) (fun _ _ _ h => h) (Or.inl ⟨by rfl, ?_⟩) hS ?_
            rotate_left
            · (intro w hSw; have hSw := (HSd.out w).1 hSw; go_split_ands; go_simp) <;> with_reducible rfl
            clear hS
            try simp only [Act.put, List.setIfInBounds_toArray, List.set_cons_zero, List.set_cons_succ]
            have hS := HSp.out _ bA bD
            refine wpAnyH_take (i := 10) (oi := { dst := some 58, op := Go.Op.extract (Go.Operand.tmp 48) 0, type := 48, pos := "laws.go:1758", after := #[{ on := 9, ground := Go.Ground.data }], guard := none }) (v := ?_) rfl (by kernel_rfl) (by kernel_rfl) (by kernel_rfl) (fun _ _ _ h => h) (Or.inl ⟨by rfl, ?_⟩) hS ?_
            rotate_left
            · (intro w hSw; have hSw := (HSd.out w).1 hSw; go_split_ands; go_simp) <;> with_reducible rfl
            clear hS
            try simp only [Act.put, List.setIfInBounds_toArray, List.set_cons_zero, List.set_cons_succ]
            have hS := HSp.out _ bA bD
            refine wpAnyH_take (i := 11) (oi := { dst := some 59, op := Go.Op.extract (Go.Operand.tmp 48) 1, type := 2, pos := "laws.go:1758", after := #[{ on := 9, ground := Go.Ground.data }, { on := 13, ground := Go.Ground.gcOnly Go.Departure.lateStores }], guard := none }) (v := ?_) rfl (by kernel_rfl) (by kernel_rfl) (by kernel_rfl) (fun _ _ _ h => h) (Or.inl ⟨by rfl, ?_⟩) hS ?_
            rotate_left
            · (intro w hSw; have hSw := (HSd.out w).1 hSw; go_split_ands; go_simp) <;> with_reducible rfl
            clear hS
            try simp only [Act.put, List.setIfInBounds_toArray, List.set_cons_zero, List.set_cons_succ]
            refine wpAnyH_ready (rs := [12]) (by kernel_rfl) (by simp) ?_
            refine AllReadyH.cons (o := { dst := some 11, op := Go.Op.alloc 48, type := 0, pos := "laws.go:1758", after := #[], guard := none }) rfl (fun Kn hK => ?_) AllReadyH.nil
            go_simp
            generalize hX : World.alloc V3 _ = V4
            obtain ⟨g12, hg⟩ : ∃ g, g = V3.heap.size := ⟨_, rfl⟩
            have bn12 : Bk V4 g12 #[.int .i64 0, .int .i64 0] 48 := by rw [← hX]; exact Bk.new' hg
            have le12 : WY.heap.size ≤ g12 := by rw [hg]; exact HW.out.size
            have nebA_12 : w1.heap.size ≠ g12 := by have := bA.lt; omega
            replace bA : Bk V4 (w1.heap.size) #[.slice (some ⟨p, o, none⟩) zs.length c1, .slice b1 ys.length d1] 51 := by rw [← hX]; exact bA.alloc _
            have nebD_12 : w1.heap.size + 1 ≠ g12 := by have := bD.lt; omega
            replace bD : Bk V4 (w1.heap.size + 1) #[.int .i64 c, .int .i64 s, .int .i64 h] 32 := by rw [← hX]; exact bD.alloc _
            try rw [← hg]
            have hb : Below V3.heap.size V3 V4 := by rw [← hX]; exact (Below.refl _ _).alloc (Nat.le_refl _) _
            clear hX hg
            first | (have HDc := HDc0; clear HDc0) | (replace HDc := Lib.hid (dice_bel HDc.out hb)) | skip
            replace HW := Lib.hid (bel_end HW.out hb)
            clear hb
            refine hK.out _ _ (HSp.out _ bA bD) (fun _ => ?_)
            clear hK Kn
            refine wpAnyH_ready (rs := [13]) (by kernel_rfl) (by simp) ?_
            refine AllReadyH.cons (o := { dst := none, op := Go.Op.store 48 (Go.Operand.tmp 11) (Go.Operand.tmp 58), type := 0, pos := "laws.go:1758", after := #[{ on := 12, ground := Go.Ground.data }, { on := 10, ground := Go.Ground.data }, { on := 8, ground := Go.Ground.chain }, { on := 0, ground := Go.Ground.phase }, { on := 1, ground := Go.Ground.phase }, { on := 2, ground := Go.Ground.phase }, { on := 3, ground := Go.Ground.phase }, { on := 4, ground := Go.Ground.phase }, { on := 5, ground := Go.Ground.phase }, { on := 6, ground := Go.Ground.phase }, { on := 7, ground := Go.Ground.phase }, { on := 8, ground := Go.Ground.phase }, { on := 9, ground := Go.Ground.phase }, { on := 10, ground := Go.Ground.phase }, { on := 11, ground := Go.Ground.textOnly Go.Departure.lateStores }, { on := 12, ground := Go.Ground.phase }], guard := none }) rfl (fun Kn hK => ?_) AllReadyH.nil
            have bn12_0 := bn12.cell 0 rfl
            have bn12_1 := bn12.cell 1 rfl
            have bn12_f0 := bn12.frozen 0
            have bn12_f1 := bn12.frozen 1
            have bn12_l := bn12.lt
            go_simp
            clear bn12_0 bn12_f0 bn12_1 bn12_f1 bn12_l
            generalize hX : World.setCell _ _ _ = V5
            have hb : Below WY.heap.size WY V5 := by rw [← hX]; exact ((HW.out.setCell (p := ⟨g12, 0, none⟩) le12 _).setCell (p := ⟨g12, 1, none⟩) le12 _)
            replace bA : Bk V5 (w1.heap.size) #[.slice (some ⟨p, o, none⟩) zs.length c1, .slice b1 ys.length d1] 51 := by rw [← hX]; exact (Bk.other (Bk.other bA nebA_12 0 _) nebA_12 1 _)
            replace bD : Bk V5 (w1.heap.size + 1) #[.int .i64 c, .int .i64 s, .int .i64 h] 32 := by rw [← hX]; exact (Bk.other (Bk.other bD nebD_12 0 _) nebD_12 1 _)
            replace bn12 : Bk V5 (g12) #[.int .i64 X2, .int .i64 Y2] 48 := by rw [← hX]; exact (Bk.set (Bk.set bn12 0 _ rfl) 1 _ rfl)
            clear hX
            replace HW := Lib.hid hb
            clear hb
            refine hK.out _ _ (HSp.out _ bA bD) (fun _ => ?_)
            clear hK Kn
            have hS := HSp.out _ bA bD
            refine wpAnyH_take (i := 14) (oi := { dst := some 12, op := Go.Op.assign (Go.Operand.tmp 59), type := 2, pos := "laws.go:1758", after := #[{ on := 11, ground := Go.Ground.data }, { on := 13, ground := Go.Ground.chain }, { on := 0, ground := Go.Ground.phase }, { on := 1, ground := Go.Ground.phase }, { on := 2, ground := Go.Ground.phase }, { on := 3, ground := Go.Ground.phase }, { on := 4, ground := Go.Ground.phase }, { on := 5, ground := Go.Ground.phase }, { on := 6, ground := Go.Ground.phase }, { on := 7, ground := Go.Ground.phase }, { on := 8, ground := Go.Ground.phase }, { on := 9, ground := Go.Ground.phase }, { on := 10, ground := Go.Ground.phase }, { on := 11, ground := Go.Ground.phase }, { on := 12, ground := Go.Ground.phase }, { on := 13, ground := Go.Ground.phase }], guard := none }) (v := ?_) rfl (by kernel_rfl) (by kernel_rfl) (by kernel_rfl) (fun _ _ _ h => h) (Or.inl ⟨by rfl, ?_⟩) hS ?_
            rotate_left
            · (intro w hSw; have hSw := (HSd.out w).1 hSw; go_split_ands; go_simp) <;> with_reducible rfl
            clear hS
            try simp only [Act.put, List.setIfInBounds_toArray, List.set_cons_zero, List.set_cons_succ]
            refine wpAnyH_done (by kernel_rfl) ?_ _
            go_wp2_with fail
            go_meet
            exact ⟨_, X2, Y2, rfl, rfl, hx2, hy2, bn12, le12, bn12.lt, HW.out⟩
          refine AllReadyH.cons (o := { dst := some 11, op := Go.Op.alloc 48, type := 0, pos := "laws.go:1758", after := #[], guard := none }) rfl (fun Kn hK => ?_) AllReadyH.nil
          go_simp
          generalize hX : World.alloc V2 _ = V6
          obtain ⟨g12, hg⟩ : ∃ g, g = V2.heap.size := ⟨_, rfl⟩
          have bn12 : Bk V6 g12 #[.int .i64 0, .int .i64 0] 48 := by rw [← hX]; exact Bk.new' hg
          have le12 : WY.heap.size ≤ g12 := by rw [hg]; exact HW.out.size
          have nebA_12 : w1.heap.size ≠ g12 := by have := bA.lt; omega
          replace bA : Bk V6 (w1.heap.size) #[.slice (some ⟨p, o, none⟩) zs.length c1, .slice b1 ys.length d1] 51 := by rw [← hX]; exact bA.alloc _
          have nebD_12 : w1.heap.size + 1 ≠ g12 := by have := bD.lt; omega
          replace bD : Bk V6 (w1.heap.size + 1) #[.int .i64 c, .int .i64 s, .int .i64 h] 32 := by rw [← hX]; exact bD.alloc _
          try rw [← hg]
          have hb : Below V2.heap.size V2 V6 := by rw [← hX]; exact (Below.refl _ _).alloc (Nat.le_refl _) _
          clear hX hg
          first | (have HDc := HDc0; clear HDc0) | (replace HDc := Lib.hid (dice_bel HDc.out hb)) | skip
          replace HW := Lib.hid (bel_end HW.out hb)
          clear hb
          refine hK.out _ _ (HSp.out _ bA bD) (fun _ => ?_)
          clear hK Kn
          refine wpAnyH_ready (rs := [8]) (by kernel_rfl) (by simp) ?_
          refine AllReadyH.cons (o := { dst := some 57, op := Go.Op.call { callee := Go.Callee.value (Go.Operand.func 68), args := #[Go.Operand.tmp 49, Go.Operand.tmp 50, Go.Operand.tmp 51, Go.Operand.tmp 56], argTypes := #[51, 2, 32, 2] }, type := 49, pos := "laws.go:1758", after := #[{ on := 0, ground := Go.Ground.data }, { on := 1, ground := Go.Ground.data }, { on := 2, ground := Go.Ground.data }, { on := 7, ground := Go.Ground.data }, { on := 7, ground := Go.Ground.chain }], guard := none }) rfl (fun Kn hK => ?_) AllReadyH.nil
          first | go_at_call 68 | (go_simp; go_at_call 68)
          (with_reducible refine Calls.mono (KM2.out _ _ _ _ _ m hm0 (by omega) (HP.out.on HW.out).at_) ?_)
          rintro e V7 ⟨X2, Y2, rfl, hx2, hy2, hb⟩
          try dsimp only
          try simp only [Act.put, List.setIfInBounds_toArray, List.set_cons_zero, List.set_cons_succ]
          replace bA := bA.on hb
          replace bD := bD.on hb
          replace bn12 := bn12.on hb
          first | (have HDc := HDc0; clear HDc0) | (replace HDc := Lib.hid (dice_bel HDc.out hb)) | skip
          replace HW := Lib.hid (bel_end HW.out hb)
          clear hb
          refine hK.out _ _ (HSp.out _ bA bD) (fun _ => ?_)
          clear hK Kn
          have hS := HSp.out _ bA bD
          refine wpAnyH_take (i := 9) (oi := { dst := some 48, op := Go.Op.move (Go.Operand.tmp 57), type := 49, pos := "laws.go:1758", after := #[{ on := 8, ground := Go.Ground.data }], guard := none }) (v := ?_) rfl (by kernel_rfl) (by kernel_rfl) (by kernel_rfl) (fun _ _ _ h => h) (Or.inl ⟨by rfl, ?_⟩) hS ?_
          rotate_left
          · (intro w hSw; have hSw := (HSd.out w).1 hSw; go_split_ands; go_simp) <;> with_reducible rfl
          clear hS
          try simp only [Act.put, List.setIfInBounds_toArray, List.set_cons_zero, List.set_cons_succ]
          have hS := HSp.out _ bA bD
          refine wpAnyH_take (i := 10) (oi := { dst := some 58, op := Go.Op.extract (Go.Operand.tmp 48) 0, type := 48, pos := "laws.go:1758", after := #[{ on := 9, ground := Go.Ground.data }], guard := none }) (v := ?_) rfl (by kernel_rfl) (by kernel_rfl) (by kernel_rfl) (fun _ _ _ h => h) (Or.inl ⟨by rfl, ?_⟩) hS ?_
          rotate_left
          · (intro w hSw; have hSw := (HSd.out w).1 hSw; go_split_ands; go_simp) <;> with_reducible rfl
          clear hS
          try simp only [Act.put, List.setIfInBounds_toArray, List.set_cons_zero, List.set_cons_succ]
          have hS := HSp.out _ bA bD
          refine wpAnyH_take (i := 11) (oi := { dst := some 59, op := Go.Op.extract (Go.Operand.tmp 48) 1, type := 2, pos := "laws.go:1758", after := #[{ on := 9, ground := Go.Ground.data }, { on := 13, ground := Go.Ground.gcOnly Go.Departure.lateStores }], guard := none }) (v := ?_) rfl (by kernel_rfl) (by kernel_rfl) (by kernel_rfl) (fun _ _ _ h => h) (Or.inl ⟨by rfl, ?_⟩) hS ?_
          rotate_left
          · (intro w hSw; have hSw := (HSd.out w).1 hSw; go_split_ands; go_simp) <;> with_reducible rfl
          clear hS
          try simp only [Act.put, List.setIfInBounds_toArray, List.set_cons_zero, List.set_cons_succ]
          refine wpAnyH_ready (rs := [13]) (by kernel_rfl) (by simp) ?_
          refine AllReadyH.cons (o := { dst := none, op := Go.Op.store 48 (Go.Operand.tmp 11) (Go.Operand.tmp 58), type := 0, pos := "laws.go:1758", after := #[{ on := 12, ground := Go.Ground.data }, { on := 10, ground := Go.Ground.data }, { on := 8, ground := Go.Ground.chain }, { on := 0, ground := Go.Ground.phase }, { on := 1, ground := Go.Ground.phase }, { on := 2, ground := Go.Ground.phase }, { on := 3, ground := Go.Ground.phase }, { on := 4, ground := Go.Ground.phase }, { on := 5, ground := Go.Ground.phase }, { on := 6, ground := Go.Ground.phase }, { on := 7, ground := Go.Ground.phase }, { on := 8, ground := Go.Ground.phase }, { on := 9, ground := Go.Ground.phase }, { on := 10, ground := Go.Ground.phase }, { on := 11, ground := Go.Ground.textOnly Go.Departure.lateStores }, { on := 12, ground := Go.Ground.phase }], guard := none }) rfl (fun Kn hK => ?_) AllReadyH.nil
          have bn12_0 := bn12.cell 0 rfl
          have bn12_1 := bn12.cell 1 rfl
          have bn12_f0 := bn12.frozen 0
          have bn12_f1 := bn12.frozen 1
          have bn12_l := bn12.lt
          go_simp
          clear bn12_0 bn12_f0 bn12_1 bn12_f1 bn12_l
          generalize hX : World.setCell _ _ _ = V8
          have hb : Below WY.heap.size WY V8 := by rw [← hX]; exact ((HW.out.setCell (p := ⟨g12, 0, none⟩) le12 _).setCell (p := ⟨g12, 1, none⟩) le12 _)
          replace bA : Bk V8 (w1.heap.size) #[.slice (some ⟨p, o, none⟩) zs.length c1, .slice b1 ys.length d1] 51 := by rw [← hX]; exact (Bk.other (Bk.other bA nebA_12 0 _) nebA_12 1 _)
          replace bD : Bk V8 (w1.heap.size + 1) #[.int .i64 c, .int .i64 s, .int .i64 h] 32 := by rw [← hX]; exact (Bk.other (Bk.other bD nebD_12 0 _) nebD_12 1 _)
          replace bn12 : Bk V8 (g12) #[.int .i64 X2, .int .i64 Y2] 48 := by rw [← hX]; exact (Bk.set (Bk.set bn12 0 _ rfl) 1 _ rfl)
          clear hX
          replace HW := Lib.hid hb
          clear hb
          refine hK.out _ _ (HSp.out _ bA bD) (fun _ => ?_)
          clear hK Kn
          have hS := HSp.out _ bA bD
          refine wpAnyH_take (i := 14) (oi := { dst := some 12, op := Go.Op.assign (Go.Operand.tmp 59), type := 2, pos := "laws.go:1758", after := #[{ on := 11, ground := Go.Ground.data }, { on := 13, ground := Go.Ground.chain }, { on := 0, ground := Go.Ground.phase }, { on := 1, ground := Go.Ground.phase }, { on := 2, ground := Go.Ground.phase }, { on := 3, ground := Go.Ground.phase }, { on := 4, ground := Go.Ground.phase }, { on := 5, ground := Go.Ground.phase }, { on := 6, ground := Go.Ground.phase }, { on := 7, ground := Go.Ground.phase }, { on := 8, ground := Go.Ground.phase }, { on := 9, ground := Go.Ground.phase }, { on := 10, ground := Go.Ground.phase }, { on := 11, ground := Go.Ground.phase }, { on := 12, ground := Go.Ground.phase }, { on := 13, ground := Go.Ground.phase }], guard := none }) (v := ?_) rfl (by kernel_rfl) (by kernel_rfl) (by kernel_rfl) (fun _ _ _ h => h) (Or.inl ⟨by rfl, ?_⟩) hS ?_
          rotate_left
          · (intro w hSw; have hSw := (HSd.out w).1 hSw; go_split_ands; go_simp) <;> with_reducible rfl
          clear hS
          try simp only [Act.put, List.setIfInBounds_toArray, List.set_cons_zero, List.set_cons_succ]
          refine wpAnyH_done (by kernel_rfl) ?_ _
          go_wp2_with fail
          go_meet
          exact ⟨_, X2, Y2, rfl, rfl, hx2, hy2, bn12, le12, bn12.lt, HW.out⟩
        refine AllReadyH.cons (o := { dst := some 11, op := Go.Op.alloc 48, type := 0, pos := "laws.go:1758", after := #[], guard := none }) rfl (fun Kn hK => ?_) AllReadyH.nil
        go_simp
        generalize hX : World.alloc V1 _ = V9
        obtain ⟨g12, hg⟩ : ∃ g, g = V1.heap.size := ⟨_, rfl⟩
        have bn12 : Bk V9 g12 #[.int .i64 0, .int .i64 0] 48 := by rw [← hX]; exact Bk.new' hg
        have le12 : WY.heap.size ≤ g12 := by rw [hg]; exact HW.out.size
        have nebA_12 : w1.heap.size ≠ g12 := by have := bA.lt; omega
        replace bA : Bk V9 (w1.heap.size) #[.slice (some ⟨p, o, none⟩) zs.length c1, .slice b1 ys.length d1] 51 := by rw [← hX]; exact bA.alloc _
        have nebD_12 : w1.heap.size + 1 ≠ g12 := by have := bD.lt; omega
        replace bD : Bk V9 (w1.heap.size + 1) #[.int .i64 c, .int .i64 s, .int .i64 h] 32 := by rw [← hX]; exact bD.alloc _
        try rw [← hg]
        have hb : Below V1.heap.size V1 V9 := by rw [← hX]; exact (Below.refl _ _).alloc (Nat.le_refl _) _
        clear hX hg
        first | (have HDc := HDc0; clear HDc0) | (replace HDc := Lib.hid (dice_bel HDc.out hb)) | skip
        replace HW := Lib.hid (bel_end HW.out hb)
        clear hb
        refine hK.out _ _ (HSp.out _ bA bD) (fun _ => ?_)
        clear hK Kn
        refine wpAnyH_ready (rs := [7]) (by kernel_rfl) (by simp) ?_
        refine AllReadyH.cons (o := { dst := some 56, op := Go.Op.call { callee := Go.Callee.value (Go.Operand.func 71), args := #[Go.Operand.tmp 53, Go.Operand.tmp 55], argTypes := #[90, 2] }, type := 2, pos := "laws.go:1758", after := #[{ on := 4, ground := Go.Ground.data }, { on := 6, ground := Go.Ground.data }, { on := 4, ground := Go.Ground.chain }], guard := none }) rfl (fun Kn hK => ?_) AllReadyH.nil
        first | go_at_call 71 | (go_simp; go_at_call 71)
        try rw [ew]
        (refine Calls.mono (bel_any _ _ (n + 1) (by omega) HDc.out) ?_)
        rintro e V10 ⟨m, rfl, hm0, hm1, -, hg⟩
        try dsimp only
        try simp only [Act.put, List.setIfInBounds_toArray, List.set_cons_zero, List.set_cons_succ]
        replace bA : Bk V10 (w1.heap.size) #[.slice (some ⟨p, o, none⟩) zs.length c1, .slice b1 ys.length d1] 51 := Bk.kept bA hg (by have := dice_ne HDc.out bA (by decide); simpa using this)
        replace bD : Bk V10 (w1.heap.size + 1) #[.int .i64 c, .int .i64 s, .int .i64 h] 32 := Bk.kept bD hg (by have := dice_ne HDc.out bD (by decide); simpa using this)
        replace bn12 : Bk V10 (g12) #[.int .i64 0, .int .i64 0] 48 := Bk.kept bn12 hg (by have := dice_ne HDc.out bn12 (by decide); simpa using this)
        replace HW := Lib.hid (HW.out.trans (below_of_grown hg hsb HW.out.size))
        clear hg HDc
        refine hK.out _ _ (HSp.out _ bA bD) (fun _ => ?_)
        clear hK Kn
        refine wpAnyH_ready (rs := [8]) (by kernel_rfl) (by simp) ?_
        refine AllReadyH.cons (o := { dst := some 57, op := Go.Op.call { callee := Go.Callee.value (Go.Operand.func 68), args := #[Go.Operand.tmp 49, Go.Operand.tmp 50, Go.Operand.tmp 51, Go.Operand.tmp 56], argTypes := #[51, 2, 32, 2] }, type := 49, pos := "laws.go:1758", after := #[{ on := 0, ground := Go.Ground.data }, { on := 1, ground := Go.Ground.data }, { on := 2, ground := Go.Ground.data }, { on := 7, ground := Go.Ground.data }, { on := 7, ground := Go.Ground.chain }], guard := none }) rfl (fun Kn hK => ?_) AllReadyH.nil
        first | go_at_call 68 | (go_simp; go_at_call 68)
        (with_reducible refine Calls.mono (KM2.out _ _ _ _ _ m hm0 (by omega) (HP.out.on HW.out).at_) ?_)
        rintro e V11 ⟨X2, Y2, rfl, hx2, hy2, hb⟩
        try dsimp only
        try simp only [Act.put, List.setIfInBounds_toArray, List.set_cons_zero, List.set_cons_succ]
        replace bA := bA.on hb
        replace bD := bD.on hb
        replace bn12 := bn12.on hb
        first | (have HDc := HDc0; clear HDc0) | (replace HDc := Lib.hid (dice_bel HDc.out hb)) | skip
        replace HW := Lib.hid (bel_end HW.out hb)
        clear hb
        refine hK.out _ _ (HSp.out _ bA bD) (fun _ => ?_)
        clear hK Kn
        have hS := HSp.out _ bA bD
        refine wpAnyH_take (i := 9) (oi := { dst := some 48, op := Go.Op.move (Go.Operand.tmp 57), type := 49, pos := "laws.go:1758", after := #[{ on := 8, ground := Go.Ground.data }], guard := none }) (v := ?_) rfl (by kernel_rfl) (by kernel_rfl) (by kernel_rfl) (fun _ _ _ h => h) (Or.inl ⟨by rfl, ?_⟩) hS ?_
        rotate_left
        · (intro w hSw; have hSw := (HSd.out w).1 hSw; go_split_ands; go_simp) <;> with_reducible rfl
        clear hS
        try simp only [Act.put, List.setIfInBounds_toArray, List.set_cons_zero, List.set_cons_succ]
        have hS := HSp.out _ bA bD
        refine wpAnyH_take (i := 10) (oi := { dst := some 58, op := Go.Op.extract (Go.Operand.tmp 48) 0, type := 48, pos := "laws.go:1758", after := #[{ on := 9, ground := Go.Ground.data }], guard := none }) (v := ?_) rfl (by kernel_rfl) (by kernel_rfl) (by kernel_rfl) (fun _ _ _ h => h) (Or.inl ⟨by rfl, ?_⟩) hS ?_
        rotate_left
        · (intro w hSw; have hSw := (HSd.out w).1 hSw; go_split_ands; go_simp) <;> with_reducible rfl
        clear hS
        try simp only [Act.put, List.setIfInBounds_toArray, List.set_cons_zero, List.set_cons_succ]
        have hS := HSp.out _ bA bD
        refine wpAnyH_take (i := 11) (oi := { dst := some 59, op := Go.Op.extract (Go.Operand.tmp 48) 1, type := 2, pos := "laws.go:1758", after := #[{ on := 9, ground := Go.Ground.data }, { on := 13, ground := Go.Ground.gcOnly Go.Departure.lateStores }], guard := none }) (v := ?_) rfl (by kernel_rfl) (by kernel_rfl) (by kernel_rfl) (fun _ _ _ h => h) (Or.inl ⟨by rfl, ?_⟩) hS ?_
        rotate_left
        · (intro w hSw; have hSw := (HSd.out w).1 hSw; go_split_ands; go_simp) <;> with_reducible rfl
        clear hS
        try simp only [Act.put, List.setIfInBounds_toArray, List.set_cons_zero, List.set_cons_succ]
        refine wpAnyH_ready (rs := [13]) (by kernel_rfl) (by simp) ?_
        refine AllReadyH.cons (o := { dst := none, op := Go.Op.store 48 (Go.Operand.tmp 11) (Go.Operand.tmp 58), type := 0, pos := "laws.go:1758", after := #[{ on := 12, ground := Go.Ground.data }, { on := 10, ground := Go.Ground.data }, { on := 8, ground := Go.Ground.chain }, { on := 0, ground := Go.Ground.phase }, { on := 1, ground := Go.Ground.phase }, { on := 2, ground := Go.Ground.phase }, { on := 3, ground := Go.Ground.phase }, { on := 4, ground := Go.Ground.phase }, { on := 5, ground := Go.Ground.phase }, { on := 6, ground := Go.Ground.phase }, { on := 7, ground := Go.Ground.phase }, { on := 8, ground := Go.Ground.phase }, { on := 9, ground := Go.Ground.phase }, { on := 10, ground := Go.Ground.phase }, { on := 11, ground := Go.Ground.textOnly Go.Departure.lateStores }, { on := 12, ground := Go.Ground.phase }], guard := none }) rfl (fun Kn hK => ?_) AllReadyH.nil
        have bn12_0 := bn12.cell 0 rfl
        have bn12_1 := bn12.cell 1 rfl
        have bn12_f0 := bn12.frozen 0
        have bn12_f1 := bn12.frozen 1
        have bn12_l := bn12.lt
        go_simp
        clear bn12_0 bn12_f0 bn12_1 bn12_f1 bn12_l
        generalize hX : World.setCell _ _ _ = V12
        have hb : Below WY.heap.size WY V12 := by rw [← hX]; exact ((HW.out.setCell (p := ⟨g12, 0, none⟩) le12 _).setCell (p := ⟨g12, 1, none⟩) le12 _)
        replace bA : Bk V12 (w1.heap.size) #[.slice (some ⟨p, o, none⟩) zs.length c1, .slice b1 ys.length d1] 51 := by rw [← hX]; exact (Bk.other (Bk.other bA nebA_12 0 _) nebA_12 1 _)
        replace bD : Bk V12 (w1.heap.size + 1) #[.int .i64 c, .int .i64 s, .int .i64 h] 32 := by rw [← hX]; exact (Bk.other (Bk.other bD nebD_12 0 _) nebD_12 1 _)
        replace bn12 : Bk V12 (g12) #[.int .i64 X2, .int .i64 Y2] 48 := by rw [← hX]; exact (Bk.set (Bk.set bn12 0 _ rfl) 1 _ rfl)
        clear hX
        replace HW := Lib.hid hb
        clear hb
        refine hK.out _ _ (HSp.out _ bA bD) (fun _ => ?_)
        clear hK Kn
        have hS := HSp.out _ bA bD
        refine wpAnyH_take (i := 14) (oi := { dst := some 12, op := Go.Op.assign (Go.Operand.tmp 59), type := 2, pos := "laws.go:1758", after := #[{ on := 11, ground := Go.Ground.data }, { on := 13, ground := Go.Ground.chain }, { on := 0, ground := Go.Ground.phase }, { on := 1, ground := Go.Ground.phase }, { on := 2, ground := Go.Ground.phase }, { on := 3, ground := Go.Ground.phase }, { on := 4, ground := Go.Ground.phase }, { on := 5, ground := Go.Ground.phase }, { on := 6, ground := Go.Ground.phase }, { on := 7, ground := Go.Ground.phase }, { on := 8, ground := Go.Ground.phase }, { on := 9, ground := Go.Ground.phase }, { on := 10, ground := Go.Ground.phase }, { on := 11, ground := Go.Ground.phase }, { on := 12, ground := Go.Ground.phase }, { on := 13, ground := Go.Ground.phase }], guard := none }) (v := ?_) rfl (by kernel_rfl) (by kernel_rfl) (by kernel_rfl) (fun _ _ _ h => h) (Or.inl ⟨by rfl, ?_⟩) hS ?_
        rotate_left
        · (intro w hSw; have hSw := (HSd.out w).1 hSw; go_split_ands; go_simp) <;> with_reducible rfl
        clear hS
        try simp only [Act.put, List.setIfInBounds_toArray, List.set_cons_zero, List.set_cons_succ]
        refine wpAnyH_done (by kernel_rfl) ?_ _
        go_wp2_with fail
        go_meet
        exact ⟨_, X2, Y2, rfl, rfl, hx2, hy2, bn12, le12, bn12.lt, HW.out⟩
      refine AllReadyH.cons (o := { dst := some 11, op := Go.Op.alloc 48, type := 0, pos := "laws.go:1758", after := #[], guard := none }) rfl (fun Kn hK => ?_) AllReadyH.nil
      go_simp
      generalize hX : World.alloc V0 _ = V13
      obtain ⟨g12, hg⟩ : ∃ g, g = V0.heap.size := ⟨_, rfl⟩
      have bn12 : Bk V13 g12 #[.int .i64 0, .int .i64 0] 48 := by rw [← hX]; exact Bk.new' hg
      have le12 : WY.heap.size ≤ g12 := by rw [hg]; exact HW.out.size
      have nebA_12 : w1.heap.size ≠ g12 := by have := bA.lt; omega
      replace bA : Bk V13 (w1.heap.size) #[.slice (some ⟨p, o, none⟩) zs.length c1, .slice b1 ys.length d1] 51 := by rw [← hX]; exact bA.alloc _
      have nebD_12 : w1.heap.size + 1 ≠ g12 := by have := bD.lt; omega
      replace bD : Bk V13 (w1.heap.size + 1) #[.int .i64 c, .int .i64 s, .int .i64 h] 32 := by rw [← hX]; exact bD.alloc _
      try rw [← hg]
      have hb : Below V0.heap.size V0 V13 := by rw [← hX]; exact (Below.refl _ _).alloc (Nat.le_refl _) _
      clear hX hg
      first | (have HDc := HDc0; clear HDc0) | (replace HDc := Lib.hid (dice_bel HDc.out hb)) | skip
      replace HW := Lib.hid (bel_end HW.out hb)
      clear hb
      refine hK.out _ _ (HSp.out _ bA bD) (fun _ => ?_)
      clear hK Kn
      refine wpAnyH_ready (rs := [4]) (by kernel_rfl) (by simp) ?_
      refine AllReadyH.cons (o := { dst := some 53, op := Go.Op.call { callee := Go.Callee.value (Go.Operand.func 70), args := #[Go.Operand.tmp 52, Go.Operand.const (Go.Value.int Go.IntKind.u64 701)], argTypes := #[35, 92] }, type := 90, pos := "laws.go:1758", after := #[{ on := 3, ground := Go.Ground.data }], guard := none }) rfl (fun Kn hK => ?_) AllReadyH.nil
      first | go_at_call 70 | (go_simp; go_at_call 70)
      (refine Calls.mono (roll_any _ _ _ cs _ ((HC.out.below (bel_end HB.out HW.out) (Nat.le_refl _)).more (bel_end HB.out HW.out).size)) ?_)
      rintro e V14 ⟨sd, rfl, hsd, hdice, hb⟩
      have hsb : WY.heap.size ≤ sd := Nat.le_trans HW.out.size hsd
      have HDc0 := Lib.hid hdice
      clear hsd hdice
      try dsimp only
      try simp only [Act.put, List.setIfInBounds_toArray, List.set_cons_zero, List.set_cons_succ]
      replace bA := bA.on hb
      replace bD := bD.on hb
      replace bn12 := bn12.on hb
      first | (have HDc := HDc0; clear HDc0) | (replace HDc := Lib.hid (dice_bel HDc.out hb)) | skip
      replace HW := Lib.hid (bel_end HW.out hb)
      clear hb
      refine hK.out _ _ (HSp.out _ bA bD) (fun _ => ?_)
      clear hK Kn
      refine wpAnyH_ready (rs := [7]) (by kernel_rfl) (by simp) ?_
      refine AllReadyH.cons (o := { dst := some 56, op := Go.Op.call { callee := Go.Callee.value (Go.Operand.func 71), args := #[Go.Operand.tmp 53, Go.Operand.tmp 55], argTypes := #[90, 2] }, type := 2, pos := "laws.go:1758", after := #[{ on := 4, ground := Go.Ground.data }, { on := 6, ground := Go.Ground.data }, { on := 4, ground := Go.Ground.chain }], guard := none }) rfl (fun Kn hK => ?_) AllReadyH.nil
      first | go_at_call 71 | (go_simp; go_at_call 71)
      try rw [ew]
      (refine Calls.mono (bel_any _ _ (n + 1) (by omega) HDc.out) ?_)
      rintro e V15 ⟨m, rfl, hm0, hm1, -, hg⟩
      try dsimp only
      try simp only [Act.put, List.setIfInBounds_toArray, List.set_cons_zero, List.set_cons_succ]
      replace bA : Bk V15 (w1.heap.size) #[.slice (some ⟨p, o, none⟩) zs.length c1, .slice b1 ys.length d1] 51 := Bk.kept bA hg (by have := dice_ne HDc.out bA (by decide); simpa using this)
      replace bD : Bk V15 (w1.heap.size + 1) #[.int .i64 c, .int .i64 s, .int .i64 h] 32 := Bk.kept bD hg (by have := dice_ne HDc.out bD (by decide); simpa using this)
      replace bn12 : Bk V15 (g12) #[.int .i64 0, .int .i64 0] 48 := Bk.kept bn12 hg (by have := dice_ne HDc.out bn12 (by decide); simpa using this)
      replace HW := Lib.hid (HW.out.trans (below_of_grown hg hsb HW.out.size))
      clear hg HDc
      refine hK.out _ _ (HSp.out _ bA bD) (fun _ => ?_)
      clear hK Kn
      refine wpAnyH_ready (rs := [8]) (by kernel_rfl) (by simp) ?_
      refine AllReadyH.cons (o := { dst := some 57, op := Go.Op.call { callee := Go.Callee.value (Go.Operand.func 68), args := #[Go.Operand.tmp 49, Go.Operand.tmp 50, Go.Operand.tmp 51, Go.Operand.tmp 56], argTypes := #[51, 2, 32, 2] }, type := 49, pos := "laws.go:1758", after := #[{ on := 0, ground := Go.Ground.data }, { on := 1, ground := Go.Ground.data }, { on := 2, ground := Go.Ground.data }, { on := 7, ground := Go.Ground.data }, { on := 7, ground := Go.Ground.chain }], guard := none }) rfl (fun Kn hK => ?_) AllReadyH.nil
      first | go_at_call 68 | (go_simp; go_at_call 68)
      (with_reducible refine Calls.mono (KM2.out _ _ _ _ _ m hm0 (by omega) (HP.out.on HW.out).at_) ?_)
      rintro e V16 ⟨X2, Y2, rfl, hx2, hy2, hb⟩
      try dsimp only
      try simp only [Act.put, List.setIfInBounds_toArray, List.set_cons_zero, List.set_cons_succ]
      replace bA := bA.on hb
      replace bD := bD.on hb
      replace bn12 := bn12.on hb
      first | (have HDc := HDc0; clear HDc0) | (replace HDc := Lib.hid (dice_bel HDc.out hb)) | skip
      replace HW := Lib.hid (bel_end HW.out hb)
      clear hb
      refine hK.out _ _ (HSp.out _ bA bD) (fun _ => ?_)
      clear hK Kn
      have hS := HSp.out _ bA bD
      refine wpAnyH_take (i := 9) (oi := { dst := some 48, op := Go.Op.move (Go.Operand.tmp 57), type := 49, pos := "laws.go:1758", after := #[{ on := 8, ground := Go.Ground.data }], guard := none }) (v := ?_) rfl (by kernel_rfl) (by kernel_rfl) (by kernel_rfl) (fun _ _ _ h => h) (Or.inl ⟨by rfl, ?_⟩) hS ?_
      rotate_left
      · (intro w hSw; have hSw := (HSd.out w).1 hSw; go_split_ands; go_simp) <;> with_reducible rfl
      clear hS
      try simp only [Act.put, List.setIfInBounds_toArray, List.set_cons_zero, List.set_cons_succ]
      have hS := HSp.out _ bA bD
      refine wpAnyH_take (i := 10) (oi := { dst := some 58, op := Go.Op.extract (Go.Operand.tmp 48) 0, type := 48, pos := "laws.go:1758", after := #[{ on := 9, ground := Go.Ground.data }], guard := none }) (v := ?_) rfl (by kernel_rfl) (by kernel_rfl) (by kernel_rfl) (fun _ _ _ h => h) (Or.inl ⟨by rfl, ?_⟩) hS ?_
      rotate_left
      · (intro w hSw; have hSw := (HSd.out w).1 hSw; go_split_ands; go_simp) <;> with_reducible rfl
      clear hS
      try simp only [Act.put, List.setIfInBounds_toArray, List.set_cons_zero, List.set_cons_succ]
      have hS := HSp.out _ bA bD
      refine wpAnyH_take (i := 11) (oi := { dst := some 59, op := Go.Op.extract (Go.Operand.tmp 48) 1, type := 2, pos := "laws.go:1758", after := #[{ on := 9, ground := Go.Ground.data }, { on := 13, ground := Go.Ground.gcOnly Go.Departure.lateStores }], guard := none }) (v := ?_) rfl (by kernel_rfl) (by kernel_rfl) (by kernel_rfl) (fun _ _ _ h => h) (Or.inl ⟨by rfl, ?_⟩) hS ?_
      rotate_left
      · (intro w hSw; have hSw := (HSd.out w).1 hSw; go_split_ands; go_simp) <;> with_reducible rfl
      clear hS
      try simp only [Act.put, List.setIfInBounds_toArray, List.set_cons_zero, List.set_cons_succ]
      refine wpAnyH_ready (rs := [13]) (by kernel_rfl) (by simp) ?_
      refine AllReadyH.cons (o := { dst := none, op := Go.Op.store 48 (Go.Operand.tmp 11) (Go.Operand.tmp 58), type := 0, pos := "laws.go:1758", after := #[{ on := 12, ground := Go.Ground.data }, { on := 10, ground := Go.Ground.data }, { on := 8, ground := Go.Ground.chain }, { on := 0, ground := Go.Ground.phase }, { on := 1, ground := Go.Ground.phase }, { on := 2, ground := Go.Ground.phase }, { on := 3, ground := Go.Ground.phase }, { on := 4, ground := Go.Ground.phase }, { on := 5, ground := Go.Ground.phase }, { on := 6, ground := Go.Ground.phase }, { on := 7, ground := Go.Ground.phase }, { on := 8, ground := Go.Ground.phase }, { on := 9, ground := Go.Ground.phase }, { on := 10, ground := Go.Ground.phase }, { on := 11, ground := Go.Ground.textOnly Go.Departure.lateStores }, { on := 12, ground := Go.Ground.phase }], guard := none }) rfl (fun Kn hK => ?_) AllReadyH.nil
      have bn12_0 := bn12.cell 0 rfl
      have bn12_1 := bn12.cell 1 rfl
      have bn12_f0 := bn12.frozen 0
      have bn12_f1 := bn12.frozen 1
      have bn12_l := bn12.lt
      go_simp
      clear bn12_0 bn12_f0 bn12_1 bn12_f1 bn12_l
      generalize hX : World.setCell _ _ _ = V17
      have hb : Below WY.heap.size WY V17 := by rw [← hX]; exact ((HW.out.setCell (p := ⟨g12, 0, none⟩) le12 _).setCell (p := ⟨g12, 1, none⟩) le12 _)
      replace bA : Bk V17 (w1.heap.size) #[.slice (some ⟨p, o, none⟩) zs.length c1, .slice b1 ys.length d1] 51 := by rw [← hX]; exact (Bk.other (Bk.other bA nebA_12 0 _) nebA_12 1 _)
      replace bD : Bk V17 (w1.heap.size + 1) #[.int .i64 c, .int .i64 s, .int .i64 h] 32 := by rw [← hX]; exact (Bk.other (Bk.other bD nebD_12 0 _) nebD_12 1 _)
      replace bn12 : Bk V17 (g12) #[.int .i64 X2, .int .i64 Y2] 48 := by rw [← hX]; exact (Bk.set (Bk.set bn12 0 _ rfl) 1 _ rfl)
      clear hX
      replace HW := Lib.hid hb
      clear hb
      refine hK.out _ _ (HSp.out _ bA bD) (fun _ => ?_)
      clear hK Kn
      have hS := HSp.out _ bA bD
      refine wpAnyH_take (i := 14) (oi := { dst := some 12, op := Go.Op.assign (Go.Operand.tmp 59), type := 2, pos := "laws.go:1758", after := #[{ on := 11, ground := Go.Ground.data }, { on := 13, ground := Go.Ground.chain }, { on := 0, ground := Go.Ground.phase }, { on := 1, ground := Go.Ground.phase }, { on := 2, ground := Go.Ground.phase }, { on := 3, ground := Go.Ground.phase }, { on := 4, ground := Go.Ground.phase }, { on := 5, ground := Go.Ground.phase }, { on := 6, ground := Go.Ground.phase }, { on := 7, ground := Go.Ground.phase }, { on := 8, ground := Go.Ground.phase }, { on := 9, ground := Go.Ground.phase }, { on := 10, ground := Go.Ground.phase }, { on := 11, ground := Go.Ground.phase }, { on := 12, ground := Go.Ground.phase }, { on := 13, ground := Go.Ground.phase }], guard := none }) (v := ?_) rfl (by kernel_rfl) (by kernel_rfl) (by kernel_rfl) (fun _ _ _ h => h) (Or.inl ⟨by rfl, ?_⟩) hS ?_
      rotate_left
      · (intro w hSw; have hSw := (HSd.out w).1 hSw; go_split_ands; go_simp) <;> with_reducible rfl
      clear hS
      try simp only [Act.put, List.setIfInBounds_toArray, List.set_cons_zero, List.set_cons_succ]
      refine wpAnyH_done (by kernel_rfl) ?_ _
      go_wp2_with fail
      go_meet
      exact ⟨_, X2, Y2, rfl, rfl, hx2, hy2, bn12, le12, bn12.lt, HW.out⟩
    case rest =>
      obtain ⟨gZ, X2, Y2, rfl, rfl, hx2, hy2, bZ, -, -, hb⟩ := hcut
      obtain ⟨WZ, hwc⟩ : ∃ X, X = wc := ⟨_, rfl⟩
      rw [← hwc] at hb bZ ⊢
      clear hwc bX_l bA_l bD_l
      replace bA := bA.on hb
      replace bD := bD.on hb
      replace bX := bX.on hb
      replace HP := Lib.hid (HP.out.on hb)
      replace a1_ := kc1 a1_ hb
      replace a2_ := kc1 a2_ hb
      replace HB := Lib.hid (bel_end HB.out hb)
      clear hb
      have i4 : (i : Int) < (zs.length : Int) := by omega
      have el : IntKind.wrap .i64 ((zs.length : Int) - 1) = (zs.length : Int) - 1 := IntWalk.i64_in _ (by omega)
      have et : ((zs.length : Int) - 1).toNat = zs.length - 1 := by omega
      have e0 : (0 : Int) ≤ (zs.length : Int) - 1 := by omega
      have e2 : (zs.length : Int) - 1 < (zs.length : Int) := by omega
      clear KM2 ew hn_ hlp
      have bA_0 := bA.cell 0 rfl
      have bA_1 := bA.cell 1 rfl
      have bA_l := bA.lt
      have bD_0 := bD.cell 0 rfl
      have bD_1 := bD.cell 1 rfl
      have bD_2 := bD.cell 2 rfl
      have bD_l := bD.lt
      have bX_0 := bX.cell 0 rfl
      have bX_1 := bX.cell 1 rfl
      have bX_l := bX.lt
      have bZ_0 := bZ.cell 0 rfl
      have bZ_1 := bZ.cell 1 rfl
      have bZ_l := bZ.lt
      go_wp2_with fail
      go_quiet (fail)
      go_wp2
      go_ret
      exact ⟨rfl, bel_drewN HB.out _⟩
end Go.Proofs.Ytaaklnabomhleaa
