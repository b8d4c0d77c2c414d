/- The model's draws of fans and of cells. -/
import Derived.Test.YtaaklnabomhleaaDry
import Derived.Test.YtaaklnabomhleaaFanA
import Derived.Deep.RegionWith
namespace Go.Proofs.Ytaaklnabomhleaa
open Go.ChangeShapes Go.WideShapes Go.ChangeAt Go.RowKit Go.Shelf Num
set_option linter.unusedVariables false
set_option linter.unusedSimpArgs false

def FanDrawn (w : World) (s : Nat) (e : Ending) (w' : World) : Prop := ∃ n lo hi : Int, e = .returned (.tuple #[.int .i64 n, .int .i64 lo, .int .i64 hi]) ∧ Src w' s ∧ w.grownBy w' (some s)
def LbDrawn (w : World) (e : Ending) (w' : World) : Prop := ∃ x y z u v t p q r : Int, e = .returned (.tuple #[.agg #[.int .i64 x, .int .i64 y, .int .i64 z], .agg #[.int .i64 u, .int .i64 v, .int .i64 t], .agg #[.int .i64 p, .int .i64 q, .int .i64 r]]) ∧ Below w.heap.size w w'
def CellDrawn (w : World) (s : Nat) (e : Ending) (w' : World) : Prop := ∃ x y z u v t : Int, e = .returned (.tuple #[.agg #[.int .i64 x, .int .i64 y, .int .i64 z], .agg #[.int .i64 u, .int .i64 v, .int .i64 t]]) ∧ Src w' s ∧ w.grownBy w' (some s)

set_option maxRecDepth 100000 in
set_option maxHeartbeats 4000000 in
theorem d8f_any (w : World) (s : Nat) (h : Src w s) :
    Calls Try.prog 82 #[.pointer (some ⟨s, 0, none⟩)] w (FanDrawn w s) := by
  have hls := h.lt
  have HS := Lib.hid h
  have HG : Hid (w.grownBy w (some s)) := Lib.hid (grown_refl _ _)
  clear h
  go_enter Try.func82, Try.ntmps82
  go_wp2_with fail
  refine (nxt_any _ _ _ HS.out).mono ?_
  rintro e w1 ⟨a, rfl, ah0, ah1, -, hs, hg⟩
  have ah2 := ah1 (by omega)
  clear ah1
  replace HG := Lib.hid (grown_trans HG.out hg)
  replace HS := Lib.hid hs
  have hls := HS.out.lt
  clear hs hg
  go_wp2_with fail
  refine (nxt_any _ _ _ HS.out).mono ?_
  rintro e w2 ⟨b, rfl, bh0, bh1, -, hs, hg⟩
  have bh2 := bh1 (by omega)
  clear bh1
  replace HG := Lib.hid (grown_trans HG.out hg)
  replace HS := Lib.hid hs
  have hls := HS.out.lt
  clear hs hg
  go_wp2_with fail
  refine (nxt_any _ _ _ HS.out).mono ?_
  rintro e w3 ⟨c, rfl, ch0, ch1, -, hs, hg⟩
  have ch2 := ch1 (by omega)
  clear ch1
  replace HG := Lib.hid (grown_trans HG.out hg)
  replace HS := Lib.hid hs
  have hls := HS.out.lt
  clear hs hg
  go_wp2_with fail
  refine (nxt_any _ _ _ HS.out).mono ?_
  rintro e w4 ⟨q, rfl, qh0, qh1, -, hs, hg⟩
  have qh2 := qh1 (by omega)
  clear qh1
  replace HG := Lib.hid (grown_trans HG.out hg)
  replace HS := Lib.hid hs
  have hls := HS.out.lt
  clear hs hg
  by_cases q0 : q = 0
  · subst q0
    go_wp2_with fail
    refine (pick2 _ _ w4.heap.size _ _ _ (HS.out.alloc _) (by omega) (heap_alloc_new w4 _)).mono ?_
    rintro e w5 ⟨x, rfl, hs, hg⟩
    replace HG := Lib.hid (grown_trans (grown_alloc HG.out _) hg)
    replace HS := Lib.hid hs
    have hls := HS.out.lt
    clear hs hg
    go_wp2
    all_goals
      go_ret3
      exact ⟨_, _, _, rfl, HS.out, HG.out⟩
  · have b0 : (q == 0) = false := by simpa using q0
    by_cases q1 : q = 1
    · subst q1
      go_wp2_with fail
      refine (pick3c _ _ w4.heap.size _ _ _ _ (HS.out.alloc _) (by omega) (heap_alloc_new w4 _)).mono ?_
      rintro e w5 ⟨x, rfl, -, hs, hg⟩
      replace HG := Lib.hid (grown_trans (grown_alloc HG.out _) hg)
      replace HS := Lib.hid hs
      have hls := HS.out.lt
      clear hs hg
      go_wp2
      all_goals
        go_ret3
        exact ⟨_, _, _, rfl, HS.out, HG.out⟩
    · have b1 : (q == 1) = false := by simpa using q1
      go_wp2
      all_goals
        go_ret3
        exact ⟨_, _, _, rfl, HS.out, HG.out⟩

set_option maxRecDepth 100000 in
set_option maxHeartbeats 8000000 in
theorem d8c_any (w : World) (s : Nat) (h : Src w s) :
    Calls Try.prog 84 #[.pointer (some ⟨s, 0, none⟩)] w (CellDrawn w s) := by
  have hls0 := h.lt
  have HS := Lib.hid h
  clear h
  go_enter Try.func84, Try.ntmps84
  go_wp2_with fail
  generalize hW : World.alloc _ _ = W
  have bR0 : Bk W w.heap.size #[.int .i64 0, .int .i64 0, .int .i64 0] 32 := by rw [← hW]; repeat (first | (refine Bk.new' ?_; (simp; done)) | refine Bk.alloc ?_ _)
  have bR1 : Bk W (w.heap.size + 1) #[.int .i64 0, .int .i64 0, .int .i64 0] 32 := by rw [← hW]; repeat (first | (refine Bk.new' ?_; (simp; done)) | refine Bk.alloc ?_ _)
  have HG : Hid (w.grownBy W (some s)) := Lib.hid (by rw [← hW]; exact grown_alloc (grown_alloc (grown_refl _ _) _) _)
  replace HS : Hid (Src W s) := Lib.hid (by rw [← hW]; exact (HS.out.alloc _).alloc _)
  have hls := HS.out.lt
  clear hW
  refine (nxt_any _ _ _ HS.out).mono ?_
  rintro e w1 ⟨a, rfl, ah0, ah1, -, hs, hg⟩
  have ah2 := ah1 (by omega)
  clear ah1
  replace bR0 := bR0.kept hg (by simp; omega)
  replace bR1 := bR1.kept hg (by simp; omega)
  replace HG := Lib.hid (grown_trans HG.out hg)
  replace HS := Lib.hid hs
  have hls := HS.out.lt
  clear hs hg
  go_wp2_with fail
  refine (nxt_any _ _ _ HS.out).mono ?_
  rintro e w2 ⟨m, rfl, mh0, mh1, -, hs, hg⟩
  have mh2 := mh1 (by omega)
  clear mh1
  replace bR0 := bR0.kept hg (by simp; omega)
  replace bR1 := bR1.kept hg (by simp; omega)
  replace HG := Lib.hid (grown_trans HG.out hg)
  replace HS := Lib.hid hs
  have hls := HS.out.lt
  clear hs hg
  go_wp2_with fail
  refine (nxt_any _ _ _ HS.out).mono ?_
  rintro e w3 ⟨d, rfl, dh0, dh1, -, hs, hg⟩
  have dh2 := dh1 (by omega)
  clear dh1
  replace bR0 := bR0.kept hg (by simp; omega)
  replace bR1 := bR1.kept hg (by simp; omega)
  replace HG := Lib.hid (grown_trans HG.out hg)
  replace HS := Lib.hid hs
  have hls := HS.out.lt
  clear hs hg
  have key : ∀ (a b : Int) (d : Bool) (wz : World), Calls Try.prog 127 #[.int .i64 a, .int .i64 b, .bool d] wz fun e w' => ∃ x y z c, e = .returned (.tuple #[.agg #[.int .i64 x, .int .i64 y, .int .i64 z], .int .i64 c]) ∧ Below wz.heap.size wz w' := fun a b d wz => (smd_any a b d wz).mono fun e w' h => ⟨_, _, _, _, h.1, h.2⟩
  have KEY := Lib.hid key
  clear key
  go_wp2_with fail
  refine (KEY.out _ _ _ _).mono ?_
  rintro e w4 ⟨x1, y1, z1, _, rfl, hb⟩
  replace bR0 := bR0.on hb
  replace bR1 := bR1.on hb
  replace HG := Lib.hid (grown_bel HG.out hb)
  replace HS := Lib.hid (HS.out.bel hb)
  replace hls := HS.out.lt
  clear hb
  go_wp2_with fail
  obtain ⟨W5, hW⟩ : ∃ W, W = w4.alloc (.cells #[.int .i64 x1, .int .i64 y1, .int .i64 z1] 32) := ⟨_, rfl⟩
  rw [← hW]
  have bD : Bk W5 w4.heap.size #[.int .i64 x1, .int .i64 y1, .int .i64 z1] 32 := by rw [hW]; exact Bk.new' rfl
  have hb : Below w4.heap.size w4 W5 := by rw [hW]; exact (Below.refl _ _).alloc (Nat.le_refl _) _
  have hl_bR0 := bR0.lt
  have hl_bR1 := bR1.lt
  replace bR0 := bR0.on hb
  replace bR1 := bR1.on hb
  replace HG := Lib.hid (grown_bel HG.out hb)
  replace HS := Lib.hid (HS.out.bel hb)
  replace hls := HS.out.lt
  clear hW hb
  refine (nxt_any _ _ _ HS.out).mono ?_
  rintro e w6 ⟨c, rfl, ch0, ch1, -, hs, hg⟩
  have ch2 := ch1 (by omega)
  clear ch1
  replace bR0 := bR0.kept hg (by simp; omega)
  replace bR1 := bR1.kept hg (by simp; omega)
  replace bD := bD.kept hg (by simp; omega)
  replace HG := Lib.hid (grown_trans HG.out hg)
  replace HS := Lib.hid hs
  have hls := HS.out.lt
  clear hs hg
  go_wp2_with fail
  all_goals
    refine (nxt_any _ _ _ HS.out).mono ?_
    rintro e w7 ⟨g, rfl, gh0, gh1, -, hs, hg⟩
    have gh2 := gh1 (by omega)
    clear gh1
    replace bR0 := bR0.kept hg (by simp; omega)
    replace bR1 := bR1.kept hg (by simp; omega)
    replace bD := bD.kept hg (by simp; omega)
    replace HG := Lib.hid (grown_trans HG.out hg)
    replace HS := Lib.hid hs
    have hls := HS.out.lt
    clear hs hg
    go_wp2_with fail
    refine (KEY.out _ _ _ _).mono ?_
    rintro e w8 ⟨x2, y2, z2, _, rfl, hb⟩
    replace bR0 := bR0.on hb
    replace bR1 := bR1.on hb
    replace bD := bD.on hb
    replace HG := Lib.hid (grown_bel HG.out hb)
    replace HS := Lib.hid (HS.out.bel hb)
    replace hls := HS.out.lt
    clear hb
    go_wp2_with fail
    obtain ⟨W9, hW⟩ : ∃ W, W = w8.alloc (.cells #[.int .i64 x2, .int .i64 y2, .int .i64 z2] 32) := ⟨_, rfl⟩
    rw [← hW]
    have bE : Bk W9 w8.heap.size #[.int .i64 x2, .int .i64 y2, .int .i64 z2] 32 := by rw [hW]; exact Bk.new' rfl
    have hb : Below w8.heap.size w8 W9 := by rw [hW]; exact (Below.refl _ _).alloc (Nat.le_refl _) _
    have hl_bR0 := bR0.lt
    have hl_bR1 := bR1.lt
    have hl_bD := bD.lt
    replace bR0 := bR0.on hb
    replace bR1 := bR1.on hb
    replace bD := bD.on hb
    replace HG := Lib.hid (grown_bel HG.out hb)
    replace HS := Lib.hid (HS.out.bel hb)
    replace hls := HS.out.lt
    clear hW hb
    refine (nxt_any _ _ _ HS.out).mono ?_
    rintro e w10 ⟨p, rfl, ph0, ph1, -, hs, hg⟩
    have ph2 := ph1 (by omega)
    clear ph1
    replace bR0 := bR0.kept hg (by simp; omega)
    replace bR1 := bR1.kept hg (by simp; omega)
    replace bD := bD.kept hg (by simp; omega)
    replace bE := bE.kept hg (by simp; omega)
    replace HG := Lib.hid (grown_trans HG.out hg)
    replace HS := Lib.hid hs
    have hls := HS.out.lt
    clear hs hg
    by_cases p0 : p = 0
    · subst p0
      go_upto_region 7 with fail
      have HW : Hid (Below w10.heap.size w10 w10) := Lib.hid (Below.refl _ _)
      obtain ⟨S, hSd⟩ : ∃ S : World → Prop, ∀ w', S w' ↔ (w'.cell? ⟨w4.heap.size, 0, none⟩ = some (.int .i64 x1) ∧ w'.cell? ⟨w4.heap.size, 1, none⟩ = some (.int .i64 y1) ∧ w'.cell? ⟨w4.heap.size, 2, none⟩ = some (.int .i64 z1) ∧ w'.cell? ⟨w8.heap.size, 0, none⟩ = some (.int .i64 x2) ∧ w'.cell? ⟨w8.heap.size, 1, none⟩ = some (.int .i64 y2) ∧ w'.cell? ⟨w8.heap.size, 2, none⟩ = some (.int .i64 z2)) := ⟨_, fun _ => Iff.rfl⟩
      have HSp : Hid (∀ w' : World, Bk w' (w4.heap.size) #[.int .i64 x1, .int .i64 y1, .int .i64 z1] 32 → Bk w' (w8.heap.size) #[.int .i64 x2, .int .i64 y2, .int .i64 z2] 32 → S w') := Lib.hid (fun w' bD bE => (hSd w').2 ⟨bD.cell 0 rfl, bD.cell 1 rfl, bD.cell 2 rfl, bE.cell 0 rfl, bE.cell 1 rfl, bE.cell 2 rfl⟩)
      have HSd := Lib.hid hSd
      clear hSd
      refine wp_region_held_drew (S := S) (by kernel_rfl) ?_ (fun hH => ?_)
      · exact (HSp.out _ bD bE : S (World.drew w10))
      clear hH
      generalize hX : World.drew w10 = V0
      replace bR0 : Bk V0 (w.heap.size) #[.int .i64 0, .int .i64 0, .int .i64 0] 32 := by rw [← hX]; exact bR0
      replace bR1 : Bk V0 (w.heap.size + 1) #[.int .i64 0, .int .i64 0, .int .i64 0] 32 := by rw [← hX]; exact bR1
      replace bD : Bk V0 (w4.heap.size) #[.int .i64 x1, .int .i64 y1, .int .i64 z1] 32 := by rw [← hX]; exact bD
      replace bE : Bk V0 (w8.heap.size) #[.int .i64 x2, .int .i64 y2, .int .i64 z2] 32 := by rw [← hX]; exact bE
      have hb : Below w10.heap.size w10 V0 := by rw [← hX]; exact (Below.refl _ _).drew
      clear hX
      replace HG := Lib.hid (grown_bel HG.out hb)
      replace HS := Lib.hid (HS.out.bel hb)
      replace HW := Lib.hid (bel_end HW.out hb)
      clear hb
      have hS := HSp.out _ bD bE
      refine wpAnyH_take (i := 0) (oi := { dst := some 47, op := Go.Op.load 32 (Go.Operand.tmp 9), type := 32, pos := "l08_sectors.go:244", after := #[], guard := none }) (v := ?_) rfl (by kernel_rfl) (by kernel_rfl) (by kernel_rfl) (fun _ _ _ h => h) (Or.inl ⟨by rfl, ?_⟩) hS ?_
      rotate_left
      · (intro w hSw; have hSw := (HSd.out w).1 hSw; go_split_ands; go_simp) <;> with_reducible rfl
      clear hS
      try simp only [Act.put, List.setIfInBounds_toArray, List.set_cons_zero, List.set_cons_succ]
      have hS := HSp.out _ bD bE
      refine wpAnyH_take (i := 1) (oi := { dst := some 48, op := Go.Op.load 32 (Go.Operand.tmp 7), type := 32, pos := "l08_sectors.go:244", after := #[{ on := 2, ground := Go.Ground.gcOnly Go.Departure.lateStores }], guard := none }) (v := ?_) rfl (by kernel_rfl) (by kernel_rfl) (by kernel_rfl) (fun _ _ _ h => h) (Or.inl ⟨by rfl, ?_⟩) hS ?_
      rotate_left
      · (intro w hSw; have hSw := (HSd.out w).1 hSw; go_split_ands; go_simp) <;> with_reducible rfl
      clear hS
      try simp only [Act.put, List.setIfInBounds_toArray, List.set_cons_zero, List.set_cons_succ]
      refine wpAnyH_ready (rs := [2]) (by kernel_rfl) (by simp) ?_
      refine AllReadyH.cons (o := { dst := none, op := Go.Op.store 32 (Go.Operand.tmp 2) (Go.Operand.tmp 47), type := 0, pos := "l08_sectors.go:244", after := #[{ on := 0, ground := Go.Ground.data }, { on := 0, ground := Go.Ground.phase }, { on := 1, ground := Go.Ground.textOnly Go.Departure.lateStores }], guard := none }) rfl (fun Kn hK => ?_) AllReadyH.nil
      have bR0_0 := bR0.cell 0 rfl
      have bR0_1 := bR0.cell 1 rfl
      have bR0_2 := bR0.cell 2 rfl
      have bR0_f0 := bR0.frozen 0
      have bR0_f1 := bR0.frozen 1
      have bR0_f2 := bR0.frozen 2
      have bR0_l := bR0.lt
      go_simp
      clear bR0_0 bR0_f0 bR0_1 bR0_f1 bR0_2 bR0_f2 bR0_l
      generalize hX : World.setCell _ _ _ = V1
      replace HG : Hid (w.grownBy V1 (some s)) := Lib.hid (by rw [← hX]; exact three_set HG.out (by first | omega | (dsimp only; omega)))
      replace HS : Hid (Src V1 s) := Lib.hid (by rw [← hX]; exact src_set3 HS.out (by first | omega | (dsimp only; omega)))
      replace bR1 : Bk V1 (w.heap.size + 1) #[.int .i64 0, .int .i64 0, .int .i64 0] 32 := by rw [← hX]; exact (Bk.other (Bk.other (Bk.other bR1 (by omega) 0 _) (by omega) 1 _) (by omega) 2 _)
      replace bD : Bk V1 (w4.heap.size) #[.int .i64 x1, .int .i64 y1, .int .i64 z1] 32 := by rw [← hX]; exact (Bk.other (Bk.other (Bk.other bD (by omega) 0 _) (by omega) 1 _) (by omega) 2 _)
      replace bE : Bk V1 (w8.heap.size) #[.int .i64 x2, .int .i64 y2, .int .i64 z2] 32 := by rw [← hX]; exact (Bk.other (Bk.other (Bk.other bE (by omega) 0 _) (by omega) 1 _) (by omega) 2 _)
      replace bR0 : Bk V1 (w.heap.size) #[.int .i64 x2, .int .i64 y2, .int .i64 z2] 32 := by rw [← hX]; exact (Bk.set (Bk.set (Bk.set bR0 0 _ rfl) 1 _ rfl) 2 _ rfl)
      clear hX
      refine hK.out _ _ (HSp.out _ bD bE) (fun _ => ?_)
      clear hK Kn
      refine wpAnyH_ready (rs := [3]) (by kernel_rfl) (by simp) ?_
      refine AllReadyH.cons (o := { dst := none, op := Go.Op.store 32 (Go.Operand.tmp 3) (Go.Operand.tmp 48), type := 0, pos := "l08_sectors.go:244", after := #[{ on := 1, ground := Go.Ground.data }, { on := 2, ground := Go.Ground.chain }, { on := 0, ground := Go.Ground.phase }, { on := 1, ground := Go.Ground.phase }, { on := 2, ground := Go.Ground.phase }], guard := none }) rfl (fun Kn hK => ?_) AllReadyH.nil
      have bR1_0 := bR1.cell 0 rfl
      have bR1_1 := bR1.cell 1 rfl
      have bR1_2 := bR1.cell 2 rfl
      have bR1_f0 := bR1.frozen 0
      have bR1_f1 := bR1.frozen 1
      have bR1_f2 := bR1.frozen 2
      have bR1_l := bR1.lt
      go_simp
      clear bR1_0 bR1_f0 bR1_1 bR1_f1 bR1_2 bR1_f2 bR1_l
      generalize hX : World.setCell _ _ _ = V2
      replace HG : Hid (w.grownBy V2 (some s)) := Lib.hid (by rw [← hX]; exact three_set HG.out (by first | omega | (dsimp only; omega)))
      replace HS : Hid (Src V2 s) := Lib.hid (by rw [← hX]; exact src_set3 HS.out (by first | omega | (dsimp only; omega)))
      replace bR0 : Bk V2 (w.heap.size) #[.int .i64 x2, .int .i64 y2, .int .i64 z2] 32 := by rw [← hX]; exact (Bk.other (Bk.other (Bk.other bR0 (by omega) 0 _) (by omega) 1 _) (by omega) 2 _)
      replace bD : Bk V2 (w4.heap.size) #[.int .i64 x1, .int .i64 y1, .int .i64 z1] 32 := by rw [← hX]; exact (Bk.other (Bk.other (Bk.other bD (by omega) 0 _) (by omega) 1 _) (by omega) 2 _)
      replace bE : Bk V2 (w8.heap.size) #[.int .i64 x2, .int .i64 y2, .int .i64 z2] 32 := by rw [← hX]; exact (Bk.other (Bk.other (Bk.other bE (by omega) 0 _) (by omega) 1 _) (by omega) 2 _)
      replace bR1 : Bk V2 (w.heap.size + 1) #[.int .i64 x1, .int .i64 y1, .int .i64 z1] 32 := by rw [← hX]; exact (Bk.set (Bk.set (Bk.set bR1 0 _ rfl) 1 _ rfl) 2 _ rfl)
      clear hX
      refine hK.out _ _ (HSp.out _ bD bE) (fun _ => ?_)
      clear hK Kn
      refine wpAnyH_done (by kernel_rfl) ?_ _
      have r0 := bR0.cell 0 rfl
      have r1 := bR0.cell 1 rfl
      have r2 := bR0.cell 2 rfl
      have p0 := bR1.cell 0 rfl
      have p1 := bR1.cell 1 rfl
      have p2 := bR1.cell 2 rfl
      go_wp2
      exact bodyPost_ret (v := .tuple #[.agg #[.int .i64 x2, .int .i64 y2, .int .i64 z2], .agg #[.int .i64 x1, .int .i64 y1, .int .i64 z1]]) (by simp [results, Try.results84, go_sem, r0, r1, r2, p0, p1, p2]) rfl ⟨_, _, _, _, _, _, rfl, HS.out, HG.out⟩
    · have b0 : (p == 0) = false := by simpa using p0
      go_upto_region 8 with fail
      have HW : Hid (Below w10.heap.size w10 w10) := Lib.hid (Below.refl _ _)
      obtain ⟨S, hSd⟩ : ∃ S : World → Prop, ∀ w', S w' ↔ (w'.cell? ⟨w4.heap.size, 0, none⟩ = some (.int .i64 x1) ∧ w'.cell? ⟨w4.heap.size, 1, none⟩ = some (.int .i64 y1) ∧ w'.cell? ⟨w4.heap.size, 2, none⟩ = some (.int .i64 z1) ∧ w'.cell? ⟨w8.heap.size, 0, none⟩ = some (.int .i64 x2) ∧ w'.cell? ⟨w8.heap.size, 1, none⟩ = some (.int .i64 y2) ∧ w'.cell? ⟨w8.heap.size, 2, none⟩ = some (.int .i64 z2)) := ⟨_, fun _ => Iff.rfl⟩
      have HSp : Hid (∀ w' : World, Bk w' (w4.heap.size) #[.int .i64 x1, .int .i64 y1, .int .i64 z1] 32 → Bk w' (w8.heap.size) #[.int .i64 x2, .int .i64 y2, .int .i64 z2] 32 → S w') := Lib.hid (fun w' bD bE => (hSd w').2 ⟨bD.cell 0 rfl, bD.cell 1 rfl, bD.cell 2 rfl, bE.cell 0 rfl, bE.cell 1 rfl, bE.cell 2 rfl⟩)
      have HSd := Lib.hid hSd
      clear hSd
      refine wp_region_held_drew (S := S) (by kernel_rfl) ?_ (fun hH => ?_)
      · exact (HSp.out _ bD bE : S (World.drew w10))
      clear hH
      generalize hX : World.drew w10 = V0
      replace bR0 : Bk V0 (w.heap.size) #[.int .i64 0, .int .i64 0, .int .i64 0] 32 := by rw [← hX]; exact bR0
      replace bR1 : Bk V0 (w.heap.size + 1) #[.int .i64 0, .int .i64 0, .int .i64 0] 32 := by rw [← hX]; exact bR1
      replace bD : Bk V0 (w4.heap.size) #[.int .i64 x1, .int .i64 y1, .int .i64 z1] 32 := by rw [← hX]; exact bD
      replace bE : Bk V0 (w8.heap.size) #[.int .i64 x2, .int .i64 y2, .int .i64 z2] 32 := by rw [← hX]; exact bE
      have hb : Below w10.heap.size w10 V0 := by rw [← hX]; exact (Below.refl _ _).drew
      clear hX
      replace HG := Lib.hid (grown_bel HG.out hb)
      replace HS := Lib.hid (HS.out.bel hb)
      replace HW := Lib.hid (bel_end HW.out hb)
      clear hb
      have hS := HSp.out _ bD bE
      refine wpAnyH_take (i := 0) (oi := { dst := some 49, op := Go.Op.load 32 (Go.Operand.tmp 7), type := 32, pos := "l08_sectors.go:246", after := #[], guard := none }) (v := ?_) rfl (by kernel_rfl) (by kernel_rfl) (by kernel_rfl) (fun _ _ _ h => h) (Or.inl ⟨by rfl, ?_⟩) hS ?_
      rotate_left
      · (intro w hSw; have hSw := (HSd.out w).1 hSw; go_split_ands; go_simp) <;> with_reducible rfl
      clear hS
      try simp only [Act.put, List.setIfInBounds_toArray, List.set_cons_zero, List.set_cons_succ]
      have hS := HSp.out _ bD bE
      refine wpAnyH_take (i := 1) (oi := { dst := some 50, op := Go.Op.load 32 (Go.Operand.tmp 9), type := 32, pos := "l08_sectors.go:246", after := #[{ on := 2, ground := Go.Ground.gcOnly Go.Departure.lateStores }], guard := none }) (v := ?_) rfl (by kernel_rfl) (by kernel_rfl) (by kernel_rfl) (fun _ _ _ h => h) (Or.inl ⟨by rfl, ?_⟩) hS ?_
      rotate_left
      · (intro w hSw; have hSw := (HSd.out w).1 hSw; go_split_ands; go_simp) <;> with_reducible rfl
      clear hS
      try simp only [Act.put, List.setIfInBounds_toArray, List.set_cons_zero, List.set_cons_succ]
      refine wpAnyH_ready (rs := [2]) (by kernel_rfl) (by simp) ?_
      refine AllReadyH.cons (o := { dst := none, op := Go.Op.store 32 (Go.Operand.tmp 2) (Go.Operand.tmp 49), type := 0, pos := "l08_sectors.go:246", after := #[{ on := 0, ground := Go.Ground.data }, { on := 0, ground := Go.Ground.phase }, { on := 1, ground := Go.Ground.textOnly Go.Departure.lateStores }], guard := none }) rfl (fun Kn hK => ?_) AllReadyH.nil
      have bR0_0 := bR0.cell 0 rfl
      have bR0_1 := bR0.cell 1 rfl
      have bR0_2 := bR0.cell 2 rfl
      have bR0_f0 := bR0.frozen 0
      have bR0_f1 := bR0.frozen 1
      have bR0_f2 := bR0.frozen 2
      have bR0_l := bR0.lt
      go_simp
      clear bR0_0 bR0_f0 bR0_1 bR0_f1 bR0_2 bR0_f2 bR0_l
      generalize hX : World.setCell _ _ _ = V1
      replace HG : Hid (w.grownBy V1 (some s)) := Lib.hid (by rw [← hX]; exact three_set HG.out (by first | omega | (dsimp only; omega)))
      replace HS : Hid (Src V1 s) := Lib.hid (by rw [← hX]; exact src_set3 HS.out (by first | omega | (dsimp only; omega)))
      replace bR1 : Bk V1 (w.heap.size + 1) #[.int .i64 0, .int .i64 0, .int .i64 0] 32 := by rw [← hX]; exact (Bk.other (Bk.other (Bk.other bR1 (by omega) 0 _) (by omega) 1 _) (by omega) 2 _)
      replace bD : Bk V1 (w4.heap.size) #[.int .i64 x1, .int .i64 y1, .int .i64 z1] 32 := by rw [← hX]; exact (Bk.other (Bk.other (Bk.other bD (by omega) 0 _) (by omega) 1 _) (by omega) 2 _)
      replace bE : Bk V1 (w8.heap.size) #[.int .i64 x2, .int .i64 y2, .int .i64 z2] 32 := by rw [← hX]; exact (Bk.other (Bk.other (Bk.other bE (by omega) 0 _) (by omega) 1 _) (by omega) 2 _)
      replace bR0 : Bk V1 (w.heap.size) #[.int .i64 x1, .int .i64 y1, .int .i64 z1] 32 := by rw [← hX]; exact (Bk.set (Bk.set (Bk.set bR0 0 _ rfl) 1 _ rfl) 2 _ rfl)
      clear hX
      refine hK.out _ _ (HSp.out _ bD bE) (fun _ => ?_)
      clear hK Kn
      refine wpAnyH_ready (rs := [3]) (by kernel_rfl) (by simp) ?_
      refine AllReadyH.cons (o := { dst := none, op := Go.Op.store 32 (Go.Operand.tmp 3) (Go.Operand.tmp 50), type := 0, pos := "l08_sectors.go:246", after := #[{ on := 1, ground := Go.Ground.data }, { on := 2, ground := Go.Ground.chain }, { on := 0, ground := Go.Ground.phase }, { on := 1, ground := Go.Ground.phase }, { on := 2, ground := Go.Ground.phase }], guard := none }) rfl (fun Kn hK => ?_) AllReadyH.nil
      have bR1_0 := bR1.cell 0 rfl
      have bR1_1 := bR1.cell 1 rfl
      have bR1_2 := bR1.cell 2 rfl
      have bR1_f0 := bR1.frozen 0
      have bR1_f1 := bR1.frozen 1
      have bR1_f2 := bR1.frozen 2
      have bR1_l := bR1.lt
      go_simp
      clear bR1_0 bR1_f0 bR1_1 bR1_f1 bR1_2 bR1_f2 bR1_l
      generalize hX : World.setCell _ _ _ = V2
      replace HG : Hid (w.grownBy V2 (some s)) := Lib.hid (by rw [← hX]; exact three_set HG.out (by first | omega | (dsimp only; omega)))
      replace HS : Hid (Src V2 s) := Lib.hid (by rw [← hX]; exact src_set3 HS.out (by first | omega | (dsimp only; omega)))
      replace bR0 : Bk V2 (w.heap.size) #[.int .i64 x1, .int .i64 y1, .int .i64 z1] 32 := by rw [← hX]; exact (Bk.other (Bk.other (Bk.other bR0 (by omega) 0 _) (by omega) 1 _) (by omega) 2 _)
      replace bD : Bk V2 (w4.heap.size) #[.int .i64 x1, .int .i64 y1, .int .i64 z1] 32 := by rw [← hX]; exact (Bk.other (Bk.other (Bk.other bD (by omega) 0 _) (by omega) 1 _) (by omega) 2 _)
      replace bE : Bk V2 (w8.heap.size) #[.int .i64 x2, .int .i64 y2, .int .i64 z2] 32 := by rw [← hX]; exact (Bk.other (Bk.other (Bk.other bE (by omega) 0 _) (by omega) 1 _) (by omega) 2 _)
      replace bR1 : Bk V2 (w.heap.size + 1) #[.int .i64 x2, .int .i64 y2, .int .i64 z2] 32 := by rw [← hX]; exact (Bk.set (Bk.set (Bk.set bR1 0 _ rfl) 1 _ rfl) 2 _ rfl)
      clear hX
      refine hK.out _ _ (HSp.out _ bD bE) (fun _ => ?_)
      clear hK Kn
      refine wpAnyH_done (by kernel_rfl) ?_ _
      have r0 := bR0.cell 0 rfl
      have r1 := bR0.cell 1 rfl
      have r2 := bR0.cell 2 rfl
      have p0 := bR1.cell 0 rfl
      have p1 := bR1.cell 1 rfl
      have p2 := bR1.cell 2 rfl
      go_wp2
      exact bodyPost_ret (v := .tuple #[.agg #[.int .i64 x1, .int .i64 y1, .int .i64 z1], .agg #[.int .i64 x2, .int .i64 y2, .int .i64 z2]]) (by simp [results, Try.results84, go_sem, r0, r1, r2, p0, p1, p2]) rfl ⟨_, _, _, _, _, _, rfl, HS.out, HG.out⟩

set_option maxRecDepth 100000 in
set_option maxHeartbeats 2000000 in
theorem dfo_any (w : World) (a : Option Addr) (cap : Nat) (cs : List Int) (h : Code8 w w.heap.size a cs) :
    Calls Try.prog 28 #[.slice a cs.length cap] w fun e w' => ∃ (n lo hi : Int) (d : Bool), e = .returned (.tuple #[.int .i64 n, .int .i64 lo, .int .i64 hi, .bool d]) ∧ Below w.heap.size w w' := by
  have HC := Lib.hid h
  clear h
  go_enter Try.func28, Try.ntmps28
  go_wp2_with fail
  refine (from_any _ _ _ cs HC.out).mono ?_
  rintro e w1 ⟨s, rfl, hs, hsrc, hb⟩
  have HB := Lib.hid hb
  have HS := Lib.hid hsrc
  clear hsrc hb
  go_wp2_with fail
  refine (d8f_any _ _ HS.out).mono ?_
  rintro e w2 ⟨n, lo, hi, rfl, hs2, hg⟩
  replace HB := Lib.hid (HB.out.trans (below_of_grown hg (by omega) (by have := HB.out.size; omega)))
  replace HS := Lib.hid hs2
  have hls := HS.out.lt
  clear hg hs2
  go_wp2_with fail
  refine (nxt_any _ _ _ HS.out).mono ?_
  rintro e w3 ⟨q, rfl, qh0, qh1, -, hs, hg⟩
  have qh2 := qh1 (by omega)
  clear qh1
  replace HB := Lib.hid (HB.out.trans (below_of_grown hg (by omega) (by have := HB.out.size; omega)))
  replace HS := Lib.hid hs
  have hls := HS.out.lt
  clear hs hg
  go_wp2
  exact bodyPost_ret (v := .tuple #[.int .i64 n, .int .i64 lo, .int .i64 hi, .bool (q == 0)]) (by simp [results, Try.results28, go_sem]) rfl ⟨_, _, _, _, rfl, HB.out⟩

set_option maxRecDepth 100000 in
set_option maxHeartbeats 8000000 in
theorem dlb_any (w : World) (a : Option Addr) (cap : Nat) (cs : List Int) (h : Code8 w w.heap.size a cs) :
    Calls Try.prog 29 #[.slice a cs.length cap] w (LbDrawn w) := by
  have HC := Lib.hid h
  clear h
  go_enter Try.func29, Try.ntmps29
  go_wp2_with fail
  generalize hW : World.alloc _ _ = W
  have bR0 : Bk W (w.heap.size) #[.int .i64 0, .int .i64 0, .int .i64 0] 32 := by rw [← hW]; repeat (first | (refine Bk.new' ?_; (simp; done)) | refine Bk.alloc ?_ _)
  have bR1 : Bk W (w.heap.size + 1) #[.int .i64 0, .int .i64 0, .int .i64 0] 32 := by rw [← hW]; repeat (first | (refine Bk.new' ?_; (simp; done)) | refine Bk.alloc ?_ _)
  have bR2 : Bk W (w.heap.size + 1 + 1) #[.int .i64 0, .int .i64 0, .int .i64 0] 32 := by rw [← hW]; repeat (first | (refine Bk.new' ?_; (simp; done)) | refine Bk.alloc ?_ _)
  have hb0 : Below w.heap.size w W := by rw [← hW]; exact (by repeat (first | exact Below.refl _ _ | (refine Below.alloc ?_ (by simp <;> omega) _) | (refine Below.setCell ?_ (by simp <;> omega) _) | (refine Below.drew ?_) | (refine bel_drewN ?_ _)))
  have hl_0 := bR0.lt
  have hl_1 := bR1.lt
  have hl_2 := bR2.lt
  clear hW
  refine (from_any _ _ _ cs ((HC.out.below hb0 (Nat.le_refl _)).more hb0.size)).mono ?_
  rintro e w1 ⟨s, rfl, hs, hsrc, hb⟩
  replace bR0 := bR0.on hb
  replace bR1 := bR1.on hb
  replace bR2 := bR2.on hb
  have HB := Lib.hid (bel_end hb0 hb)
  have HS := Lib.hid hsrc
  have hls := HS.out.lt
  clear hsrc hb hb0
  go_wp2_with fail
  refine (d8c_any _ _ HS.out).mono ?_
  rintro e w2 ⟨x1, y1, z1, x2, y2, z2, rfl, hs2, hg⟩
  replace bR0 := bR0.kept hg (by simp; omega)
  replace bR1 := bR1.kept hg (by simp; omega)
  replace bR2 := bR2.kept hg (by simp; omega)
  replace HB := Lib.hid (HB.out.trans (below_of_grown hg (by omega) (by have := HB.out.size; omega)))
  replace HS := Lib.hid hs2
  replace hls := HS.out.lt
  clear hg hs2
  go_upto_region 3 with fail
  obtain ⟨W3, hW⟩ : ∃ W, W = (w2.alloc (.cells #[.int .i64 x1, .int .i64 y1, .int .i64 z1] 32)).alloc (.cells #[.int .i64 x2, .int .i64 y2, .int .i64 z2] 32) := ⟨_, rfl⟩
  rw [← hW]
  have bD : Bk W3 w2.heap.size #[.int .i64 x1, .int .i64 y1, .int .i64 z1] 32 := by rw [hW]; exact (Bk.new' rfl).alloc _
  have bE : Bk W3 (w2.heap.size + 1) #[.int .i64 x2, .int .i64 y2, .int .i64 z2] 32 := by rw [hW]; exact Bk.new' (by simp)
  have hb : Below w2.heap.size w2 W3 := by rw [hW]; exact (by repeat (first | exact Below.refl _ _ | (refine Below.alloc ?_ (by simp <;> omega) _) | (refine Below.setCell ?_ (by simp <;> omega) _) | (refine Below.drew ?_) | (refine bel_drewN ?_ _)))
  have hm_bR0 := bR0.lt
  have hm_bR1 := bR1.lt
  have hm_bR2 := bR2.lt
  replace bR0 := bR0.on hb
  replace bR1 := bR1.on hb
  replace bR2 := bR2.on hb
  replace HB := Lib.hid (bel_end HB.out hb)
  have hs2w : s < w2.heap.size := hls
  replace HS := Lib.hid (HS.out.bel hb)
  replace hls := HS.out.lt
  clear hW hb
  go_wp2_with fail
  refine (ddi_any _ _ HS.out).mono ?_
  rintro e w4 ⟨x3, y3, z3, rfl, hs2, hg⟩
  replace bR0 := bR0.kept hg (by simp; omega)
  replace bR1 := bR1.kept hg (by simp; omega)
  replace bR2 := bR2.kept hg (by simp; omega)
  replace bD := bD.kept hg (by simp; omega)
  replace bE := bE.kept hg (by simp; omega)
  replace HB := Lib.hid (HB.out.trans (below_of_grown hg (by omega) (by have := HB.out.size; omega)))
  replace HS := Lib.hid hs2
  replace hls := HS.out.lt
  clear hg hs2
  go_upto_region 4 with fail
  obtain ⟨W5, hW⟩ : ∃ W, W = w4.alloc (.cells #[.int .i64 x3, .int .i64 y3, .int .i64 z3] 32) := ⟨_, rfl⟩
  rw [← hW]
  have bF : Bk W5 w4.heap.size #[.int .i64 x3, .int .i64 y3, .int .i64 z3] 32 := by rw [hW]; exact Bk.new' rfl
  have hb : Below w4.heap.size w4 W5 := by rw [hW]; exact (by repeat (first | exact Below.refl _ _ | (refine Below.alloc ?_ (by simp <;> omega) _) | (refine Below.setCell ?_ (by simp <;> omega) _) | (refine Below.drew ?_) | (refine bel_drewN ?_ _)))
  have ho_bR0 := bR0.lt
  have ho_bR1 := bR1.lt
  have ho_bR2 := bR2.lt
  have ho_bD := bD.lt
  have ho_bE := bE.lt
  replace bR0 := bR0.on hb
  replace bR1 := bR1.on hb
  replace bR2 := bR2.on hb
  replace bD := bD.on hb
  replace bE := bE.on hb
  replace HB := Lib.hid (bel_end HB.out hb)
  have hs4w : s < w4.heap.size := hls
  replace HS := Lib.hid (HS.out.bel hb)
  replace hls := HS.out.lt
  clear hW hb
  have bF_0 := bF.cell 0 rfl
  have bF_1 := bF.cell 1 rfl
  have bF_2 := bF.cell 2 rfl
  have bD_0 := bD.cell 0 rfl
  have bD_1 := bD.cell 1 rfl
  have bD_2 := bD.cell 2 rfl
  have bF_l := bF.lt
  have bD_l := bD.lt
  have bF_f1 := bF.frozen 1
  by_cases c1 : y3 < 0
  case neg =>
    go_upto_region 6 with fail
    obtain ⟨WZ, hZ⟩ : ∃ X, X = W5 := ⟨_, rfl⟩
    rw [← hZ] at bR0 bR1 bR2 bD bE bF HB ⊢
    clear bF_0 bF_1 bF_2 bF_l bD_0 bD_1 bD_2 bD_l bF_f1
    clear hZ
    obtain ⟨S, hSd⟩ : ∃ S : World → Prop, ∀ w', S w' ↔ (w'.cell? ⟨w2.heap.size, 0, none⟩ = some (.int .i64 x1) ∧ w'.cell? ⟨w2.heap.size, 1, none⟩ = some (.int .i64 y1) ∧ w'.cell? ⟨w2.heap.size, 2, none⟩ = some (.int .i64 z1) ∧ w'.cell? ⟨w2.heap.size + 1, 0, none⟩ = some (.int .i64 x2) ∧ w'.cell? ⟨w2.heap.size + 1, 1, none⟩ = some (.int .i64 y2) ∧ w'.cell? ⟨w2.heap.size + 1, 2, none⟩ = some (.int .i64 z2) ∧ w'.cell? ⟨w4.heap.size, 0, none⟩ = some (.int .i64 x3) ∧ w'.cell? ⟨w4.heap.size, 1, none⟩ = some (.int .i64 y3) ∧ w'.cell? ⟨w4.heap.size, 2, none⟩ = some (.int .i64 z3)) := ⟨_, fun _ => Iff.rfl⟩
    have HSp : Hid (∀ w' : World, Bk w' (w2.heap.size) #[.int .i64 x1, .int .i64 y1, .int .i64 z1] 32 → Bk w' (w2.heap.size + 1) #[.int .i64 x2, .int .i64 y2, .int .i64 z2] 32 → Bk w' (w4.heap.size) #[.int .i64 x3, .int .i64 y3, .int .i64 z3] 32 → S w') := Lib.hid (fun w' bD bE bF => (hSd w').2 ⟨bD.cell 0 rfl, bD.cell 1 rfl, bD.cell 2 rfl, bE.cell 0 rfl, bE.cell 1 rfl, bE.cell 2 rfl, bF.cell 0 rfl, bF.cell 1 rfl, bF.cell 2 rfl⟩)
    have HSd := Lib.hid hSd
    clear hSd
    refine wp_region_held_drew (S := S) (by kernel_rfl) ?_ (fun hH => ?_)
    · exact (HSp.out _ bD bE bF : S (World.drew WZ))
    clear hH
    generalize hX : World.drew WZ = V0
    replace bR0 : Bk V0 (w.heap.size) #[.int .i64 0, .int .i64 0, .int .i64 0] 32 := by rw [← hX]; exact bR0
    replace bR1 : Bk V0 (w.heap.size + 1) #[.int .i64 0, .int .i64 0, .int .i64 0] 32 := by rw [← hX]; exact bR1
    replace bR2 : Bk V0 (w.heap.size + 1 + 1) #[.int .i64 0, .int .i64 0, .int .i64 0] 32 := by rw [← hX]; exact bR2
    replace bD : Bk V0 (w2.heap.size) #[.int .i64 x1, .int .i64 y1, .int .i64 z1] 32 := by rw [← hX]; exact bD
    replace bE : Bk V0 (w2.heap.size + 1) #[.int .i64 x2, .int .i64 y2, .int .i64 z2] 32 := by rw [← hX]; exact bE
    replace bF : Bk V0 (w4.heap.size) #[.int .i64 x3, .int .i64 y3, .int .i64 z3] 32 := by rw [← hX]; exact bF
    have hb : Below WZ.heap.size WZ V0 := by rw [← hX]; exact (Below.refl _ _).drew
    clear hX
    replace HB := Lib.hid (bel_end HB.out hb)
    clear hb
    have hS := HSp.out _ bD bE bF
    refine wpAnyH_take (i := 0) (oi := { dst := some 35, op := Go.Op.load 32 (Go.Operand.tmp 6), type := 32, pos := "l08_sectors.go:256", after := #[], guard := none }) (v := ?_) rfl (by kernel_rfl) (by kernel_rfl) (by kernel_rfl) (fun _ _ _ h => h) (Or.inl ⟨by rfl, ?_⟩) hS ?_
    rotate_left
    · (intro w hSw; have hSw := (HSd.out w).1 hSw; go_split_ands; go_simp) <;> with_reducible rfl
    clear hS
    try simp only [Act.put, List.setIfInBounds_toArray, List.set_cons_zero, List.set_cons_succ]
    have hS := HSp.out _ bD bE bF
    refine wpAnyH_take (i := 1) (oi := { dst := some 36, op := Go.Op.load 32 (Go.Operand.tmp 7), type := 32, pos := "l08_sectors.go:256", after := #[{ on := 3, ground := Go.Ground.gcOnly Go.Departure.lateStores }], guard := none }) (v := ?_) rfl (by kernel_rfl) (by kernel_rfl) (by kernel_rfl) (fun _ _ _ h => h) (Or.inl ⟨by rfl, ?_⟩) hS ?_
    rotate_left
    · (intro w hSw; have hSw := (HSd.out w).1 hSw; go_split_ands; go_simp) <;> with_reducible rfl
    clear hS
    try simp only [Act.put, List.setIfInBounds_toArray, List.set_cons_zero, List.set_cons_succ]
    have hS := HSp.out _ bD bE bF
    refine wpAnyH_take (i := 2) (oi := { dst := some 37, op := Go.Op.load 32 (Go.Operand.tmp 8), type := 32, pos := "l08_sectors.go:256", after := #[{ on := 4, ground := Go.Ground.gcOnly Go.Departure.lateStores }], guard := none }) (v := ?_) rfl (by kernel_rfl) (by kernel_rfl) (by kernel_rfl) (fun _ _ _ h => h) (Or.inl ⟨by rfl, ?_⟩) hS ?_
    rotate_left
    · (intro w hSw; have hSw := (HSd.out w).1 hSw; go_split_ands; go_simp) <;> with_reducible rfl
    clear hS
    try simp only [Act.put, List.setIfInBounds_toArray, List.set_cons_zero, List.set_cons_succ]
    refine wpAnyH_ready (rs := [3]) (by kernel_rfl) (by simp) ?_
    refine AllReadyH.cons (o := { dst := none, op := Go.Op.store 32 (Go.Operand.tmp 2) (Go.Operand.tmp 35), type := 0, pos := "l08_sectors.go:256", after := #[{ on := 0, ground := Go.Ground.data }, { on := 0, ground := Go.Ground.phase }, { on := 1, ground := Go.Ground.textOnly Go.Departure.lateStores }, { on := 2, ground := Go.Ground.textOnly Go.Departure.lateStores }], guard := none }) rfl (fun Kn hK => ?_) AllReadyH.nil
    have bR0_0 := bR0.cell 0 rfl
    have bR0_1 := bR0.cell 1 rfl
    have bR0_2 := bR0.cell 2 rfl
    have bR0_f0 := bR0.frozen 0
    have bR0_f1 := bR0.frozen 1
    have bR0_f2 := bR0.frozen 2
    have bR0_l := bR0.lt
    go_simp
    clear bR0_0 bR0_f0 bR0_1 bR0_f1 bR0_2 bR0_f2 bR0_l
    generalize hX : World.setCell _ _ _ = V1
    have hb : Below w.heap.size w V1 := by rw [← hX]; exact (((HB.out.setCell (p := ⟨w.heap.size, 0, none⟩) (by first | omega | (dsimp only; omega)) _).setCell (p := ⟨w.heap.size, 1, none⟩) (by first | omega | (dsimp only; omega)) _).setCell (p := ⟨w.heap.size, 2, none⟩) (by first | omega | (dsimp only; omega)) _)
    replace bR1 : Bk V1 (w.heap.size + 1) #[.int .i64 0, .int .i64 0, .int .i64 0] 32 := by rw [← hX]; exact (Bk.other (Bk.other (Bk.other bR1 (by omega) 0 _) (by omega) 1 _) (by omega) 2 _)
    replace bR2 : Bk V1 (w.heap.size + 1 + 1) #[.int .i64 0, .int .i64 0, .int .i64 0] 32 := by rw [← hX]; exact (Bk.other (Bk.other (Bk.other bR2 (by omega) 0 _) (by omega) 1 _) (by omega) 2 _)
    replace bD : Bk V1 (w2.heap.size) #[.int .i64 x1, .int .i64 y1, .int .i64 z1] 32 := by rw [← hX]; exact (Bk.other (Bk.other (Bk.other bD (by omega) 0 _) (by omega) 1 _) (by omega) 2 _)
    replace bE : Bk V1 (w2.heap.size + 1) #[.int .i64 x2, .int .i64 y2, .int .i64 z2] 32 := by rw [← hX]; exact (Bk.other (Bk.other (Bk.other bE (by omega) 0 _) (by omega) 1 _) (by omega) 2 _)
    replace bF : Bk V1 (w4.heap.size) #[.int .i64 x3, .int .i64 y3, .int .i64 z3] 32 := by rw [← hX]; exact (Bk.other (Bk.other (Bk.other bF (by omega) 0 _) (by omega) 1 _) (by omega) 2 _)
    replace bR0 : Bk V1 (w.heap.size) #[.int .i64 x1, .int .i64 y1, .int .i64 z1] 32 := by rw [← hX]; exact (Bk.set (Bk.set (Bk.set bR0 0 _ rfl) 1 _ rfl) 2 _ rfl)
    clear hX
    replace HB := Lib.hid hb
    clear hb
    refine hK.out _ _ (HSp.out _ bD bE bF) (fun _ => ?_)
    clear hK Kn
    refine wpAnyH_ready (rs := [4]) (by kernel_rfl) (by simp) ?_
    refine AllReadyH.cons (o := { dst := none, op := Go.Op.store 32 (Go.Operand.tmp 3) (Go.Operand.tmp 36), type := 0, pos := "l08_sectors.go:256", after := #[{ on := 1, ground := Go.Ground.data }, { on := 3, ground := Go.Ground.chain }, { on := 0, ground := Go.Ground.phase }, { on := 1, ground := Go.Ground.phase }, { on := 2, ground := Go.Ground.textOnly Go.Departure.lateStores }, { on := 3, ground := Go.Ground.phase }], guard := none }) rfl (fun Kn hK => ?_) AllReadyH.nil
    have bR1_0 := bR1.cell 0 rfl
    have bR1_1 := bR1.cell 1 rfl
    have bR1_2 := bR1.cell 2 rfl
    have bR1_f0 := bR1.frozen 0
    have bR1_f1 := bR1.frozen 1
    have bR1_f2 := bR1.frozen 2
    have bR1_l := bR1.lt
    go_simp
    clear bR1_0 bR1_f0 bR1_1 bR1_f1 bR1_2 bR1_f2 bR1_l
    generalize hX : World.setCell _ _ _ = V2
    have hb : Below w.heap.size w V2 := by rw [← hX]; exact (((HB.out.setCell (p := ⟨w.heap.size + 1, 0, none⟩) (by first | omega | (dsimp only; omega)) _).setCell (p := ⟨w.heap.size + 1, 1, none⟩) (by first | omega | (dsimp only; omega)) _).setCell (p := ⟨w.heap.size + 1, 2, none⟩) (by first | omega | (dsimp only; omega)) _)
    replace bR0 : Bk V2 (w.heap.size) #[.int .i64 x1, .int .i64 y1, .int .i64 z1] 32 := by rw [← hX]; exact (Bk.other (Bk.other (Bk.other bR0 (by omega) 0 _) (by omega) 1 _) (by omega) 2 _)
    replace bR2 : Bk V2 (w.heap.size + 1 + 1) #[.int .i64 0, .int .i64 0, .int .i64 0] 32 := by rw [← hX]; exact (Bk.other (Bk.other (Bk.other bR2 (by omega) 0 _) (by omega) 1 _) (by omega) 2 _)
    replace bD : Bk V2 (w2.heap.size) #[.int .i64 x1, .int .i64 y1, .int .i64 z1] 32 := by rw [← hX]; exact (Bk.other (Bk.other (Bk.other bD (by omega) 0 _) (by omega) 1 _) (by omega) 2 _)
    replace bE : Bk V2 (w2.heap.size + 1) #[.int .i64 x2, .int .i64 y2, .int .i64 z2] 32 := by rw [← hX]; exact (Bk.other (Bk.other (Bk.other bE (by omega) 0 _) (by omega) 1 _) (by omega) 2 _)
    replace bF : Bk V2 (w4.heap.size) #[.int .i64 x3, .int .i64 y3, .int .i64 z3] 32 := by rw [← hX]; exact (Bk.other (Bk.other (Bk.other bF (by omega) 0 _) (by omega) 1 _) (by omega) 2 _)
    replace bR1 : Bk V2 (w.heap.size + 1) #[.int .i64 x2, .int .i64 y2, .int .i64 z2] 32 := by rw [← hX]; exact (Bk.set (Bk.set (Bk.set bR1 0 _ rfl) 1 _ rfl) 2 _ rfl)
    clear hX
    replace HB := Lib.hid hb
    clear hb
    refine hK.out _ _ (HSp.out _ bD bE bF) (fun _ => ?_)
    clear hK Kn
    refine wpAnyH_ready (rs := [5]) (by kernel_rfl) (by simp) ?_
    refine AllReadyH.cons (o := { dst := none, op := Go.Op.store 32 (Go.Operand.tmp 4) (Go.Operand.tmp 37), type := 0, pos := "l08_sectors.go:256", after := #[{ on := 2, ground := Go.Ground.data }, { on := 4, ground := Go.Ground.chain }, { on := 0, ground := Go.Ground.phase }, { on := 1, ground := Go.Ground.phase }, { on := 2, ground := Go.Ground.phase }, { on := 3, ground := Go.Ground.phase }, { on := 4, ground := Go.Ground.phase }], guard := none }) rfl (fun Kn hK => ?_) AllReadyH.nil
    have bR2_0 := bR2.cell 0 rfl
    have bR2_1 := bR2.cell 1 rfl
    have bR2_2 := bR2.cell 2 rfl
    have bR2_f0 := bR2.frozen 0
    have bR2_f1 := bR2.frozen 1
    have bR2_f2 := bR2.frozen 2
    have bR2_l := bR2.lt
    go_simp
    clear bR2_0 bR2_f0 bR2_1 bR2_f1 bR2_2 bR2_f2 bR2_l
    generalize hX : World.setCell _ _ _ = V3
    have hb : Below w.heap.size w V3 := by rw [← hX]; exact (((HB.out.setCell (p := ⟨w.heap.size + 1 + 1, 0, none⟩) (by first | omega | (dsimp only; omega)) _).setCell (p := ⟨w.heap.size + 1 + 1, 1, none⟩) (by first | omega | (dsimp only; omega)) _).setCell (p := ⟨w.heap.size + 1 + 1, 2, none⟩) (by first | omega | (dsimp only; omega)) _)
    replace bR0 : Bk V3 (w.heap.size) #[.int .i64 x1, .int .i64 y1, .int .i64 z1] 32 := by rw [← hX]; exact (Bk.other (Bk.other (Bk.other bR0 (by omega) 0 _) (by omega) 1 _) (by omega) 2 _)
    replace bR1 : Bk V3 (w.heap.size + 1) #[.int .i64 x2, .int .i64 y2, .int .i64 z2] 32 := by rw [← hX]; exact (Bk.other (Bk.other (Bk.other bR1 (by omega) 0 _) (by omega) 1 _) (by omega) 2 _)
    replace bD : Bk V3 (w2.heap.size) #[.int .i64 x1, .int .i64 y1, .int .i64 z1] 32 := by rw [← hX]; exact (Bk.other (Bk.other (Bk.other bD (by omega) 0 _) (by omega) 1 _) (by omega) 2 _)
    replace bE : Bk V3 (w2.heap.size + 1) #[.int .i64 x2, .int .i64 y2, .int .i64 z2] 32 := by rw [← hX]; exact (Bk.other (Bk.other (Bk.other bE (by omega) 0 _) (by omega) 1 _) (by omega) 2 _)
    replace bF : Bk V3 (w4.heap.size) #[.int .i64 x3, .int .i64 y3, .int .i64 z3] 32 := by rw [← hX]; exact (Bk.other (Bk.other (Bk.other bF (by omega) 0 _) (by omega) 1 _) (by omega) 2 _)
    replace bR2 : Bk V3 (w.heap.size + 1 + 1) #[.int .i64 x3, .int .i64 y3, .int .i64 z3] 32 := by rw [← hX]; exact (Bk.set (Bk.set (Bk.set bR2 0 _ rfl) 1 _ rfl) 2 _ rfl)
    clear hX
    replace HB := Lib.hid hb
    clear hb
    refine hK.out _ _ (HSp.out _ bD bE bF) (fun _ => ?_)
    clear hK Kn
    refine wpAnyH_done (by kernel_rfl) ?_ _
    have bR0_0 := bR0.cell 0 rfl
    have bR0_1 := bR0.cell 1 rfl
    have bR0_2 := bR0.cell 2 rfl
    have bR1_0 := bR1.cell 0 rfl
    have bR1_1 := bR1.cell 1 rfl
    have bR1_2 := bR1.cell 2 rfl
    have bR2_0 := bR2.cell 0 rfl
    have bR2_1 := bR2.cell 1 rfl
    have bR2_2 := bR2.cell 2 rfl
    go_wp2
    exact bodyPost_ret (v := .tuple #[.agg #[.int .i64 x1, .int .i64 y1, .int .i64 z1], .agg #[.int .i64 x2, .int .i64 y2, .int .i64 z2], .agg #[.int .i64 x3, .int .i64 y3, .int .i64 z3]]) (by simp [results, Try.results29, go_sem, bR0_0, bR0_1, bR0_2, bR1_0, bR1_1, bR1_2, bR2_0, bR2_1, bR2_2]) rfl ⟨_, _, _, _, _, _, _, _, _, rfl, HB.out⟩
  case pos =>
    by_cases c2 : 0 < y1
    case neg =>
      go_upto_region 6 with fail
      obtain ⟨WZ, hZ⟩ : ∃ X, X = W5 := ⟨_, rfl⟩
      rw [← hZ] at bR0 bR1 bR2 bD bE bF HB ⊢
      clear bF_0 bF_1 bF_2 bF_l bD_0 bD_1 bD_2 bD_l bF_f1
      clear hZ
      obtain ⟨S, hSd⟩ : ∃ S : World → Prop, ∀ w', S w' ↔ (w'.cell? ⟨w2.heap.size, 0, none⟩ = some (.int .i64 x1) ∧ w'.cell? ⟨w2.heap.size, 1, none⟩ = some (.int .i64 y1) ∧ w'.cell? ⟨w2.heap.size, 2, none⟩ = some (.int .i64 z1) ∧ w'.cell? ⟨w2.heap.size + 1, 0, none⟩ = some (.int .i64 x2) ∧ w'.cell? ⟨w2.heap.size + 1, 1, none⟩ = some (.int .i64 y2) ∧ w'.cell? ⟨w2.heap.size + 1, 2, none⟩ = some (.int .i64 z2) ∧ w'.cell? ⟨w4.heap.size, 0, none⟩ = some (.int .i64 x3) ∧ w'.cell? ⟨w4.heap.size, 1, none⟩ = some (.int .i64 y3) ∧ w'.cell? ⟨w4.heap.size, 2, none⟩ = some (.int .i64 z3)) := ⟨_, fun _ => Iff.rfl⟩
      have HSp : Hid (∀ w' : World, Bk w' (w2.heap.size) #[.int .i64 x1, .int .i64 y1, .int .i64 z1] 32 → Bk w' (w2.heap.size + 1) #[.int .i64 x2, .int .i64 y2, .int .i64 z2] 32 → Bk w' (w4.heap.size) #[.int .i64 x3, .int .i64 y3, .int .i64 z3] 32 → S w') := Lib.hid (fun w' bD bE bF => (hSd w').2 ⟨bD.cell 0 rfl, bD.cell 1 rfl, bD.cell 2 rfl, bE.cell 0 rfl, bE.cell 1 rfl, bE.cell 2 rfl, bF.cell 0 rfl, bF.cell 1 rfl, bF.cell 2 rfl⟩)
      have HSd := Lib.hid hSd
      clear hSd
      refine wp_region_held_drew (S := S) (by kernel_rfl) ?_ (fun hH => ?_)
      · exact (HSp.out _ bD bE bF : S (World.drew WZ))
      clear hH
      generalize hX : World.drew WZ = V0
      replace bR0 : Bk V0 (w.heap.size) #[.int .i64 0, .int .i64 0, .int .i64 0] 32 := by rw [← hX]; exact bR0
      replace bR1 : Bk V0 (w.heap.size + 1) #[.int .i64 0, .int .i64 0, .int .i64 0] 32 := by rw [← hX]; exact bR1
      replace bR2 : Bk V0 (w.heap.size + 1 + 1) #[.int .i64 0, .int .i64 0, .int .i64 0] 32 := by rw [← hX]; exact bR2
      replace bD : Bk V0 (w2.heap.size) #[.int .i64 x1, .int .i64 y1, .int .i64 z1] 32 := by rw [← hX]; exact bD
      replace bE : Bk V0 (w2.heap.size + 1) #[.int .i64 x2, .int .i64 y2, .int .i64 z2] 32 := by rw [← hX]; exact bE
      replace bF : Bk V0 (w4.heap.size) #[.int .i64 x3, .int .i64 y3, .int .i64 z3] 32 := by rw [← hX]; exact bF
      have hb : Below WZ.heap.size WZ V0 := by rw [← hX]; exact (Below.refl _ _).drew
      clear hX
      replace HB := Lib.hid (bel_end HB.out hb)
      clear hb
      have hS := HSp.out _ bD bE bF
      refine wpAnyH_take (i := 0) (oi := { dst := some 35, op := Go.Op.load 32 (Go.Operand.tmp 6), type := 32, pos := "l08_sectors.go:256", after := #[], guard := none }) (v := ?_) rfl (by kernel_rfl) (by kernel_rfl) (by kernel_rfl) (fun _ _ _ h => h) (Or.inl ⟨by rfl, ?_⟩) hS ?_
      rotate_left
      · (intro w hSw; have hSw := (HSd.out w).1 hSw; go_split_ands; go_simp) <;> with_reducible rfl
      clear hS
      try simp only [Act.put, List.setIfInBounds_toArray, List.set_cons_zero, List.set_cons_succ]
      have hS := HSp.out _ bD bE bF
      refine wpAnyH_take (i := 1) (oi := { dst := some 36, op := Go.Op.load 32 (Go.Operand.tmp 7), type := 32, pos := "l08_sectors.go:256", after := #[{ on := 3, ground := Go.Ground.gcOnly Go.Departure.lateStores }], guard := none }) (v := ?_) rfl (by kernel_rfl) (by kernel_rfl) (by kernel_rfl) (fun _ _ _ h => h) (Or.inl ⟨by rfl, ?_⟩) hS ?_
      rotate_left
      · (intro w hSw; have hSw := (HSd.out w).1 hSw; go_split_ands; go_simp) <;> with_reducible rfl
      clear hS
      try simp only [Act.put, List.setIfInBounds_toArray, List.set_cons_zero, List.set_cons_succ]
      have hS := HSp.out _ bD bE bF
      refine wpAnyH_take (i := 2) (oi := { dst := some 37, op := Go.Op.load 32 (Go.Operand.tmp 8), type := 32, pos := "l08_sectors.go:256", after := #[{ on := 4, ground := Go.Ground.gcOnly Go.Departure.lateStores }], guard := none }) (v := ?_) rfl (by kernel_rfl) (by kernel_rfl) (by kernel_rfl) (fun _ _ _ h => h) (Or.inl ⟨by rfl, ?_⟩) hS ?_
      rotate_left
      · (intro w hSw; have hSw := (HSd.out w).1 hSw; go_split_ands; go_simp) <;> with_reducible rfl
      clear hS
      try simp only [Act.put, List.setIfInBounds_toArray, List.set_cons_zero, List.set_cons_succ]
      refine wpAnyH_ready (rs := [3]) (by kernel_rfl) (by simp) ?_
      refine AllReadyH.cons (o := { dst := none, op := Go.Op.store 32 (Go.Operand.tmp 2) (Go.Operand.tmp 35), type := 0, pos := "l08_sectors.go:256", after := #[{ on := 0, ground := Go.Ground.data }, { on := 0, ground := Go.Ground.phase }, { on := 1, ground := Go.Ground.textOnly Go.Departure.lateStores }, { on := 2, ground := Go.Ground.textOnly Go.Departure.lateStores }], guard := none }) rfl (fun Kn hK => ?_) AllReadyH.nil
      have bR0_0 := bR0.cell 0 rfl
      have bR0_1 := bR0.cell 1 rfl
      have bR0_2 := bR0.cell 2 rfl
      have bR0_f0 := bR0.frozen 0
      have bR0_f1 := bR0.frozen 1
      have bR0_f2 := bR0.frozen 2
      have bR0_l := bR0.lt
      go_simp
      clear bR0_0 bR0_f0 bR0_1 bR0_f1 bR0_2 bR0_f2 bR0_l
      generalize hX : World.setCell _ _ _ = V1
      have hb : Below w.heap.size w V1 := by rw [← hX]; exact (((HB.out.setCell (p := ⟨w.heap.size, 0, none⟩) (by first | omega | (dsimp only; omega)) _).setCell (p := ⟨w.heap.size, 1, none⟩) (by first | omega | (dsimp only; omega)) _).setCell (p := ⟨w.heap.size, 2, none⟩) (by first | omega | (dsimp only; omega)) _)
      replace bR1 : Bk V1 (w.heap.size + 1) #[.int .i64 0, .int .i64 0, .int .i64 0] 32 := by rw [← hX]; exact (Bk.other (Bk.other (Bk.other bR1 (by omega) 0 _) (by omega) 1 _) (by omega) 2 _)
      replace bR2 : Bk V1 (w.heap.size + 1 + 1) #[.int .i64 0, .int .i64 0, .int .i64 0] 32 := by rw [← hX]; exact (Bk.other (Bk.other (Bk.other bR2 (by omega) 0 _) (by omega) 1 _) (by omega) 2 _)
      replace bD : Bk V1 (w2.heap.size) #[.int .i64 x1, .int .i64 y1, .int .i64 z1] 32 := by rw [← hX]; exact (Bk.other (Bk.other (Bk.other bD (by omega) 0 _) (by omega) 1 _) (by omega) 2 _)
      replace bE : Bk V1 (w2.heap.size + 1) #[.int .i64 x2, .int .i64 y2, .int .i64 z2] 32 := by rw [← hX]; exact (Bk.other (Bk.other (Bk.other bE (by omega) 0 _) (by omega) 1 _) (by omega) 2 _)
      replace bF : Bk V1 (w4.heap.size) #[.int .i64 x3, .int .i64 y3, .int .i64 z3] 32 := by rw [← hX]; exact (Bk.other (Bk.other (Bk.other bF (by omega) 0 _) (by omega) 1 _) (by omega) 2 _)
      replace bR0 : Bk V1 (w.heap.size) #[.int .i64 x1, .int .i64 y1, .int .i64 z1] 32 := by rw [← hX]; exact (Bk.set (Bk.set (Bk.set bR0 0 _ rfl) 1 _ rfl) 2 _ rfl)
      clear hX
      replace HB := Lib.hid hb
      clear hb
      refine hK.out _ _ (HSp.out _ bD bE bF) (fun _ => ?_)
      clear hK Kn
      refine wpAnyH_ready (rs := [4]) (by kernel_rfl) (by simp) ?_
      refine AllReadyH.cons (o := { dst := none, op := Go.Op.store 32 (Go.Operand.tmp 3) (Go.Operand.tmp 36), type := 0, pos := "l08_sectors.go:256", after := #[{ on := 1, ground := Go.Ground.data }, { on := 3, ground := Go.Ground.chain }, { on := 0, ground := Go.Ground.phase }, { on := 1, ground := Go.Ground.phase }, { on := 2, ground := Go.Ground.textOnly Go.Departure.lateStores }, { on := 3, ground := Go.Ground.phase }], guard := none }) rfl (fun Kn hK => ?_) AllReadyH.nil
      have bR1_0 := bR1.cell 0 rfl
      have bR1_1 := bR1.cell 1 rfl
      have bR1_2 := bR1.cell 2 rfl
      have bR1_f0 := bR1.frozen 0
      have bR1_f1 := bR1.frozen 1
      have bR1_f2 := bR1.frozen 2
      have bR1_l := bR1.lt
      go_simp
      clear bR1_0 bR1_f0 bR1_1 bR1_f1 bR1_2 bR1_f2 bR1_l
      generalize hX : World.setCell _ _ _ = V2
      have hb : Below w.heap.size w V2 := by rw [← hX]; exact (((HB.out.setCell (p := ⟨w.heap.size + 1, 0, none⟩) (by first | omega | (dsimp only; omega)) _).setCell (p := ⟨w.heap.size + 1, 1, none⟩) (by first | omega | (dsimp only; omega)) _).setCell (p := ⟨w.heap.size + 1, 2, none⟩) (by first | omega | (dsimp only; omega)) _)
      replace bR0 : Bk V2 (w.heap.size) #[.int .i64 x1, .int .i64 y1, .int .i64 z1] 32 := by rw [← hX]; exact (Bk.other (Bk.other (Bk.other bR0 (by omega) 0 _) (by omega) 1 _) (by omega) 2 _)
      replace bR2 : Bk V2 (w.heap.size + 1 + 1) #[.int .i64 0, .int .i64 0, .int .i64 0] 32 := by rw [← hX]; exact (Bk.other (Bk.other (Bk.other bR2 (by omega) 0 _) (by omega) 1 _) (by omega) 2 _)
      replace bD : Bk V2 (w2.heap.size) #[.int .i64 x1, .int .i64 y1, .int .i64 z1] 32 := by rw [← hX]; exact (Bk.other (Bk.other (Bk.other bD (by omega) 0 _) (by omega) 1 _) (by omega) 2 _)
      replace bE : Bk V2 (w2.heap.size + 1) #[.int .i64 x2, .int .i64 y2, .int .i64 z2] 32 := by rw [← hX]; exact (Bk.other (Bk.other (Bk.other bE (by omega) 0 _) (by omega) 1 _) (by omega) 2 _)
      replace bF : Bk V2 (w4.heap.size) #[.int .i64 x3, .int .i64 y3, .int .i64 z3] 32 := by rw [← hX]; exact (Bk.other (Bk.other (Bk.other bF (by omega) 0 _) (by omega) 1 _) (by omega) 2 _)
      replace bR1 : Bk V2 (w.heap.size + 1) #[.int .i64 x2, .int .i64 y2, .int .i64 z2] 32 := by rw [← hX]; exact (Bk.set (Bk.set (Bk.set bR1 0 _ rfl) 1 _ rfl) 2 _ rfl)
      clear hX
      replace HB := Lib.hid hb
      clear hb
      refine hK.out _ _ (HSp.out _ bD bE bF) (fun _ => ?_)
      clear hK Kn
      refine wpAnyH_ready (rs := [5]) (by kernel_rfl) (by simp) ?_
      refine AllReadyH.cons (o := { dst := none, op := Go.Op.store 32 (Go.Operand.tmp 4) (Go.Operand.tmp 37), type := 0, pos := "l08_sectors.go:256", after := #[{ on := 2, ground := Go.Ground.data }, { on := 4, ground := Go.Ground.chain }, { on := 0, ground := Go.Ground.phase }, { on := 1, ground := Go.Ground.phase }, { on := 2, ground := Go.Ground.phase }, { on := 3, ground := Go.Ground.phase }, { on := 4, ground := Go.Ground.phase }], guard := none }) rfl (fun Kn hK => ?_) AllReadyH.nil
      have bR2_0 := bR2.cell 0 rfl
      have bR2_1 := bR2.cell 1 rfl
      have bR2_2 := bR2.cell 2 rfl
      have bR2_f0 := bR2.frozen 0
      have bR2_f1 := bR2.frozen 1
      have bR2_f2 := bR2.frozen 2
      have bR2_l := bR2.lt
      go_simp
      clear bR2_0 bR2_f0 bR2_1 bR2_f1 bR2_2 bR2_f2 bR2_l
      generalize hX : World.setCell _ _ _ = V3
      have hb : Below w.heap.size w V3 := by rw [← hX]; exact (((HB.out.setCell (p := ⟨w.heap.size + 1 + 1, 0, none⟩) (by first | omega | (dsimp only; omega)) _).setCell (p := ⟨w.heap.size + 1 + 1, 1, none⟩) (by first | omega | (dsimp only; omega)) _).setCell (p := ⟨w.heap.size + 1 + 1, 2, none⟩) (by first | omega | (dsimp only; omega)) _)
      replace bR0 : Bk V3 (w.heap.size) #[.int .i64 x1, .int .i64 y1, .int .i64 z1] 32 := by rw [← hX]; exact (Bk.other (Bk.other (Bk.other bR0 (by omega) 0 _) (by omega) 1 _) (by omega) 2 _)
      replace bR1 : Bk V3 (w.heap.size + 1) #[.int .i64 x2, .int .i64 y2, .int .i64 z2] 32 := by rw [← hX]; exact (Bk.other (Bk.other (Bk.other bR1 (by omega) 0 _) (by omega) 1 _) (by omega) 2 _)
      replace bD : Bk V3 (w2.heap.size) #[.int .i64 x1, .int .i64 y1, .int .i64 z1] 32 := by rw [← hX]; exact (Bk.other (Bk.other (Bk.other bD (by omega) 0 _) (by omega) 1 _) (by omega) 2 _)
      replace bE : Bk V3 (w2.heap.size + 1) #[.int .i64 x2, .int .i64 y2, .int .i64 z2] 32 := by rw [← hX]; exact (Bk.other (Bk.other (Bk.other bE (by omega) 0 _) (by omega) 1 _) (by omega) 2 _)
      replace bF : Bk V3 (w4.heap.size) #[.int .i64 x3, .int .i64 y3, .int .i64 z3] 32 := by rw [← hX]; exact (Bk.other (Bk.other (Bk.other bF (by omega) 0 _) (by omega) 1 _) (by omega) 2 _)
      replace bR2 : Bk V3 (w.heap.size + 1 + 1) #[.int .i64 x3, .int .i64 y3, .int .i64 z3] 32 := by rw [← hX]; exact (Bk.set (Bk.set (Bk.set bR2 0 _ rfl) 1 _ rfl) 2 _ rfl)
      clear hX
      replace HB := Lib.hid hb
      clear hb
      refine hK.out _ _ (HSp.out _ bD bE bF) (fun _ => ?_)
      clear hK Kn
      refine wpAnyH_done (by kernel_rfl) ?_ _
      have bR0_0 := bR0.cell 0 rfl
      have bR0_1 := bR0.cell 1 rfl
      have bR0_2 := bR0.cell 2 rfl
      have bR1_0 := bR1.cell 0 rfl
      have bR1_1 := bR1.cell 1 rfl
      have bR1_2 := bR1.cell 2 rfl
      have bR2_0 := bR2.cell 0 rfl
      have bR2_1 := bR2.cell 1 rfl
      have bR2_2 := bR2.cell 2 rfl
      go_wp2
      exact bodyPost_ret (v := .tuple #[.agg #[.int .i64 x1, .int .i64 y1, .int .i64 z1], .agg #[.int .i64 x2, .int .i64 y2, .int .i64 z2], .agg #[.int .i64 x3, .int .i64 y3, .int .i64 z3]]) (by simp [results, Try.results29, go_sem, bR0_0, bR0_1, bR0_2, bR1_0, bR1_1, bR1_2, bR2_0, bR2_1, bR2_2]) rfl ⟨_, _, _, _, _, _, _, _, _, rfl, HB.out⟩
    case pos =>
      go_wp2_with fail
      clear bF_0 bF_1 bF_2 bF_l bD_0 bD_1 bD_2 bD_l bF_f1
      refine (nxt_any _ _ _ HS.out).mono ?_
      rintro e w6 ⟨q, rfl, qh0, qh1, -, hs, hg⟩
      have qh2 := qh1 (by omega)
      clear qh1
      replace bR0 := bR0.kept hg (by simp; omega)
      replace bR1 := bR1.kept hg (by simp; omega)
      replace bR2 := bR2.kept hg (by simp; omega)
      replace bD := bD.kept hg (by simp; omega)
      replace bE := bE.kept hg (by simp; omega)
      replace bF := bF.kept hg (by simp; omega)
      replace HB := Lib.hid (HB.out.trans (below_of_grown hg (by omega) (by have := HB.out.size; omega)))
      replace HS := Lib.hid hs
      have hls := HS.out.lt
      clear hs hg
      have bF_0 := bF.cell 0 rfl
      have bF_1 := bF.cell 1 rfl
      have bF_2 := bF.cell 2 rfl
      have bD_0 := bD.cell 0 rfl
      have bD_1 := bD.cell 1 rfl
      have bD_2 := bD.cell 2 rfl
      have bF_l := bF.lt
      have bD_l := bD.lt
      have bF_f1 := bF.frozen 1
      by_cases c3 : 0 < q
      case neg =>
        go_upto_region 6 with fail
        obtain ⟨WZ, hZ⟩ : ∃ X, X = w6 := ⟨_, rfl⟩
        rw [← hZ] at bR0 bR1 bR2 bD bE bF HB ⊢
        clear bF_0 bF_1 bF_2 bF_l bD_0 bD_1 bD_2 bD_l bF_f1
        clear hZ
        obtain ⟨S, hSd⟩ : ∃ S : World → Prop, ∀ w', S w' ↔ (w'.cell? ⟨w2.heap.size, 0, none⟩ = some (.int .i64 x1) ∧ w'.cell? ⟨w2.heap.size, 1, none⟩ = some (.int .i64 y1) ∧ w'.cell? ⟨w2.heap.size, 2, none⟩ = some (.int .i64 z1) ∧ w'.cell? ⟨w2.heap.size + 1, 0, none⟩ = some (.int .i64 x2) ∧ w'.cell? ⟨w2.heap.size + 1, 1, none⟩ = some (.int .i64 y2) ∧ w'.cell? ⟨w2.heap.size + 1, 2, none⟩ = some (.int .i64 z2) ∧ w'.cell? ⟨w4.heap.size, 0, none⟩ = some (.int .i64 x3) ∧ w'.cell? ⟨w4.heap.size, 1, none⟩ = some (.int .i64 y3) ∧ w'.cell? ⟨w4.heap.size, 2, none⟩ = some (.int .i64 z3)) := ⟨_, fun _ => Iff.rfl⟩
        have HSp : Hid (∀ w' : World, Bk w' (w2.heap.size) #[.int .i64 x1, .int .i64 y1, .int .i64 z1] 32 → Bk w' (w2.heap.size + 1) #[.int .i64 x2, .int .i64 y2, .int .i64 z2] 32 → Bk w' (w4.heap.size) #[.int .i64 x3, .int .i64 y3, .int .i64 z3] 32 → S w') := Lib.hid (fun w' bD bE bF => (hSd w').2 ⟨bD.cell 0 rfl, bD.cell 1 rfl, bD.cell 2 rfl, bE.cell 0 rfl, bE.cell 1 rfl, bE.cell 2 rfl, bF.cell 0 rfl, bF.cell 1 rfl, bF.cell 2 rfl⟩)
        have HSd := Lib.hid hSd
        clear hSd
        refine wp_region_held_drew (S := S) (by kernel_rfl) ?_ (fun hH => ?_)
        · exact (HSp.out _ bD bE bF : S (World.drew WZ))
        clear hH
        generalize hX : World.drew WZ = V0
        replace bR0 : Bk V0 (w.heap.size) #[.int .i64 0, .int .i64 0, .int .i64 0] 32 := by rw [← hX]; exact bR0
        replace bR1 : Bk V0 (w.heap.size + 1) #[.int .i64 0, .int .i64 0, .int .i64 0] 32 := by rw [← hX]; exact bR1
        replace bR2 : Bk V0 (w.heap.size + 1 + 1) #[.int .i64 0, .int .i64 0, .int .i64 0] 32 := by rw [← hX]; exact bR2
        replace bD : Bk V0 (w2.heap.size) #[.int .i64 x1, .int .i64 y1, .int .i64 z1] 32 := by rw [← hX]; exact bD
        replace bE : Bk V0 (w2.heap.size + 1) #[.int .i64 x2, .int .i64 y2, .int .i64 z2] 32 := by rw [← hX]; exact bE
        replace bF : Bk V0 (w4.heap.size) #[.int .i64 x3, .int .i64 y3, .int .i64 z3] 32 := by rw [← hX]; exact bF
        have hb : Below WZ.heap.size WZ V0 := by rw [← hX]; exact (Below.refl _ _).drew
        clear hX
        replace HB := Lib.hid (bel_end HB.out hb)
        clear hb
        have hS := HSp.out _ bD bE bF
        refine wpAnyH_take (i := 0) (oi := { dst := some 35, op := Go.Op.load 32 (Go.Operand.tmp 6), type := 32, pos := "l08_sectors.go:256", after := #[], guard := none }) (v := ?_) rfl (by kernel_rfl) (by kernel_rfl) (by kernel_rfl) (fun _ _ _ h => h) (Or.inl ⟨by rfl, ?_⟩) hS ?_
        rotate_left
        · (intro w hSw; have hSw := (HSd.out w).1 hSw; go_split_ands; go_simp) <;> with_reducible rfl
        clear hS
        try simp only [Act.put, List.setIfInBounds_toArray, List.set_cons_zero, List.set_cons_succ]
        have hS := HSp.out _ bD bE bF
        refine wpAnyH_take (i := 1) (oi := { dst := some 36, op := Go.Op.load 32 (Go.Operand.tmp 7), type := 32, pos := "l08_sectors.go:256", after := #[{ on := 3, ground := Go.Ground.gcOnly Go.Departure.lateStores }], guard := none }) (v := ?_) rfl (by kernel_rfl) (by kernel_rfl) (by kernel_rfl) (fun _ _ _ h => h) (Or.inl ⟨by rfl, ?_⟩) hS ?_
        rotate_left
        · (intro w hSw; have hSw := (HSd.out w).1 hSw; go_split_ands; go_simp) <;> with_reducible rfl
        clear hS
        try simp only [Act.put, List.setIfInBounds_toArray, List.set_cons_zero, List.set_cons_succ]
        have hS := HSp.out _ bD bE bF
        refine wpAnyH_take (i := 2) (oi := { dst := some 37, op := Go.Op.load 32 (Go.Operand.tmp 8), type := 32, pos := "l08_sectors.go:256", after := #[{ on := 4, ground := Go.Ground.gcOnly Go.Departure.lateStores }], guard := none }) (v := ?_) rfl (by kernel_rfl) (by kernel_rfl) (by kernel_rfl) (fun _ _ _ h => h) (Or.inl ⟨by rfl, ?_⟩) hS ?_
        rotate_left
        · (intro w hSw; have hSw := (HSd.out w).1 hSw; go_split_ands; go_simp) <;> with_reducible rfl
        clear hS
        try simp only [Act.put, List.setIfInBounds_toArray, List.set_cons_zero, List.set_cons_succ]
        refine wpAnyH_ready (rs := [3]) (by kernel_rfl) (by simp) ?_
        refine AllReadyH.cons (o := { dst := none, op := Go.Op.store 32 (Go.Operand.tmp 2) (Go.Operand.tmp 35), type := 0, pos := "l08_sectors.go:256", after := #[{ on := 0, ground := Go.Ground.data }, { on := 0, ground := Go.Ground.phase }, { on := 1, ground := Go.Ground.textOnly Go.Departure.lateStores }, { on := 2, ground := Go.Ground.textOnly Go.Departure.lateStores }], guard := none }) rfl (fun Kn hK => ?_) AllReadyH.nil
        have bR0_0 := bR0.cell 0 rfl
        have bR0_1 := bR0.cell 1 rfl
        have bR0_2 := bR0.cell 2 rfl
        have bR0_f0 := bR0.frozen 0
        have bR0_f1 := bR0.frozen 1
        have bR0_f2 := bR0.frozen 2
        have bR0_l := bR0.lt
        go_simp
        clear bR0_0 bR0_f0 bR0_1 bR0_f1 bR0_2 bR0_f2 bR0_l
        generalize hX : World.setCell _ _ _ = V1
        have hb : Below w.heap.size w V1 := by rw [← hX]; exact (((HB.out.setCell (p := ⟨w.heap.size, 0, none⟩) (by first | omega | (dsimp only; omega)) _).setCell (p := ⟨w.heap.size, 1, none⟩) (by first | omega | (dsimp only; omega)) _).setCell (p := ⟨w.heap.size, 2, none⟩) (by first | omega | (dsimp only; omega)) _)
        replace bR1 : Bk V1 (w.heap.size + 1) #[.int .i64 0, .int .i64 0, .int .i64 0] 32 := by rw [← hX]; exact (Bk.other (Bk.other (Bk.other bR1 (by omega) 0 _) (by omega) 1 _) (by omega) 2 _)
        replace bR2 : Bk V1 (w.heap.size + 1 + 1) #[.int .i64 0, .int .i64 0, .int .i64 0] 32 := by rw [← hX]; exact (Bk.other (Bk.other (Bk.other bR2 (by omega) 0 _) (by omega) 1 _) (by omega) 2 _)
        replace bD : Bk V1 (w2.heap.size) #[.int .i64 x1, .int .i64 y1, .int .i64 z1] 32 := by rw [← hX]; exact (Bk.other (Bk.other (Bk.other bD (by omega) 0 _) (by omega) 1 _) (by omega) 2 _)
        replace bE : Bk V1 (w2.heap.size + 1) #[.int .i64 x2, .int .i64 y2, .int .i64 z2] 32 := by rw [← hX]; exact (Bk.other (Bk.other (Bk.other bE (by omega) 0 _) (by omega) 1 _) (by omega) 2 _)
        replace bF : Bk V1 (w4.heap.size) #[.int .i64 x3, .int .i64 y3, .int .i64 z3] 32 := by rw [← hX]; exact (Bk.other (Bk.other (Bk.other bF (by omega) 0 _) (by omega) 1 _) (by omega) 2 _)
        replace bR0 : Bk V1 (w.heap.size) #[.int .i64 x1, .int .i64 y1, .int .i64 z1] 32 := by rw [← hX]; exact (Bk.set (Bk.set (Bk.set bR0 0 _ rfl) 1 _ rfl) 2 _ rfl)
        clear hX
        replace HB := Lib.hid hb
        clear hb
        refine hK.out _ _ (HSp.out _ bD bE bF) (fun _ => ?_)
        clear hK Kn
        refine wpAnyH_ready (rs := [4]) (by kernel_rfl) (by simp) ?_
        refine AllReadyH.cons (o := { dst := none, op := Go.Op.store 32 (Go.Operand.tmp 3) (Go.Operand.tmp 36), type := 0, pos := "l08_sectors.go:256", after := #[{ on := 1, ground := Go.Ground.data }, { on := 3, ground := Go.Ground.chain }, { on := 0, ground := Go.Ground.phase }, { on := 1, ground := Go.Ground.phase }, { on := 2, ground := Go.Ground.textOnly Go.Departure.lateStores }, { on := 3, ground := Go.Ground.phase }], guard := none }) rfl (fun Kn hK => ?_) AllReadyH.nil
        have bR1_0 := bR1.cell 0 rfl
        have bR1_1 := bR1.cell 1 rfl
        have bR1_2 := bR1.cell 2 rfl
        have bR1_f0 := bR1.frozen 0
        have bR1_f1 := bR1.frozen 1
        have bR1_f2 := bR1.frozen 2
        have bR1_l := bR1.lt
        go_simp
        clear bR1_0 bR1_f0 bR1_1 bR1_f1 bR1_2 bR1_f2 bR1_l
        generalize hX : World.setCell _ _ _ = V2
        have hb : Below w.heap.size w V2 := by rw [← hX]; exact (((HB.out.setCell (p := ⟨w.heap.size + 1, 0, none⟩) (by first | omega | (dsimp only; omega)) _).setCell (p := ⟨w.heap.size + 1, 1, none⟩) (by first | omega | (dsimp only; omega)) _).setCell (p := ⟨w.heap.size + 1, 2, none⟩) (by first | omega | (dsimp only; omega)) _)
        replace bR0 : Bk V2 (w.heap.size) #[.int .i64 x1, .int .i64 y1, .int .i64 z1] 32 := by rw [← hX]; exact (Bk.other (Bk.other (Bk.other bR0 (by omega) 0 _) (by omega) 1 _) (by omega) 2 _)
        replace bR2 : Bk V2 (w.heap.size + 1 + 1) #[.int .i64 0, .int .i64 0, .int .i64 0] 32 := by rw [← hX]; exact (Bk.other (Bk.other (Bk.other bR2 (by omega) 0 _) (by omega) 1 _) (by omega) 2 _)
        replace bD : Bk V2 (w2.heap.size) #[.int .i64 x1, .int .i64 y1, .int .i64 z1] 32 := by rw [← hX]; exact (Bk.other (Bk.other (Bk.other bD (by omega) 0 _) (by omega) 1 _) (by omega) 2 _)
        replace bE : Bk V2 (w2.heap.size + 1) #[.int .i64 x2, .int .i64 y2, .int .i64 z2] 32 := by rw [← hX]; exact (Bk.other (Bk.other (Bk.other bE (by omega) 0 _) (by omega) 1 _) (by omega) 2 _)
        replace bF : Bk V2 (w4.heap.size) #[.int .i64 x3, .int .i64 y3, .int .i64 z3] 32 := by rw [← hX]; exact (Bk.other (Bk.other (Bk.other bF (by omega) 0 _) (by omega) 1 _) (by omega) 2 _)
        replace bR1 : Bk V2 (w.heap.size + 1) #[.int .i64 x2, .int .i64 y2, .int .i64 z2] 32 := by rw [← hX]; exact (Bk.set (Bk.set (Bk.set bR1 0 _ rfl) 1 _ rfl) 2 _ rfl)
        clear hX
        replace HB := Lib.hid hb
        clear hb
        refine hK.out _ _ (HSp.out _ bD bE bF) (fun _ => ?_)
        clear hK Kn
        refine wpAnyH_ready (rs := [5]) (by kernel_rfl) (by simp) ?_
        refine AllReadyH.cons (o := { dst := none, op := Go.Op.store 32 (Go.Operand.tmp 4) (Go.Operand.tmp 37), type := 0, pos := "l08_sectors.go:256", after := #[{ on := 2, ground := Go.Ground.data }, { on := 4, ground := Go.Ground.chain }, { on := 0, ground := Go.Ground.phase }, { on := 1, ground := Go.Ground.phase }, { on := 2, ground := Go.Ground.phase }, { on := 3, ground := Go.Ground.phase }, { on := 4, ground := Go.Ground.phase }], guard := none }) rfl (fun Kn hK => ?_) AllReadyH.nil
        have bR2_0 := bR2.cell 0 rfl
        have bR2_1 := bR2.cell 1 rfl
        have bR2_2 := bR2.cell 2 rfl
        have bR2_f0 := bR2.frozen 0
        have bR2_f1 := bR2.frozen 1
        have bR2_f2 := bR2.frozen 2
        have bR2_l := bR2.lt
        go_simp
        clear bR2_0 bR2_f0 bR2_1 bR2_f1 bR2_2 bR2_f2 bR2_l
        generalize hX : World.setCell _ _ _ = V3
        have hb : Below w.heap.size w V3 := by rw [← hX]; exact (((HB.out.setCell (p := ⟨w.heap.size + 1 + 1, 0, none⟩) (by first | omega | (dsimp only; omega)) _).setCell (p := ⟨w.heap.size + 1 + 1, 1, none⟩) (by first | omega | (dsimp only; omega)) _).setCell (p := ⟨w.heap.size + 1 + 1, 2, none⟩) (by first | omega | (dsimp only; omega)) _)
        replace bR0 : Bk V3 (w.heap.size) #[.int .i64 x1, .int .i64 y1, .int .i64 z1] 32 := by rw [← hX]; exact (Bk.other (Bk.other (Bk.other bR0 (by omega) 0 _) (by omega) 1 _) (by omega) 2 _)
        replace bR1 : Bk V3 (w.heap.size + 1) #[.int .i64 x2, .int .i64 y2, .int .i64 z2] 32 := by rw [← hX]; exact (Bk.other (Bk.other (Bk.other bR1 (by omega) 0 _) (by omega) 1 _) (by omega) 2 _)
        replace bD : Bk V3 (w2.heap.size) #[.int .i64 x1, .int .i64 y1, .int .i64 z1] 32 := by rw [← hX]; exact (Bk.other (Bk.other (Bk.other bD (by omega) 0 _) (by omega) 1 _) (by omega) 2 _)
        replace bE : Bk V3 (w2.heap.size + 1) #[.int .i64 x2, .int .i64 y2, .int .i64 z2] 32 := by rw [← hX]; exact (Bk.other (Bk.other (Bk.other bE (by omega) 0 _) (by omega) 1 _) (by omega) 2 _)
        replace bF : Bk V3 (w4.heap.size) #[.int .i64 x3, .int .i64 y3, .int .i64 z3] 32 := by rw [← hX]; exact (Bk.other (Bk.other (Bk.other bF (by omega) 0 _) (by omega) 1 _) (by omega) 2 _)
        replace bR2 : Bk V3 (w.heap.size + 1 + 1) #[.int .i64 x3, .int .i64 y3, .int .i64 z3] 32 := by rw [← hX]; exact (Bk.set (Bk.set (Bk.set bR2 0 _ rfl) 1 _ rfl) 2 _ rfl)
        clear hX
        replace HB := Lib.hid hb
        clear hb
        refine hK.out _ _ (HSp.out _ bD bE bF) (fun _ => ?_)
        clear hK Kn
        refine wpAnyH_done (by kernel_rfl) ?_ _
        have bR0_0 := bR0.cell 0 rfl
        have bR0_1 := bR0.cell 1 rfl
        have bR0_2 := bR0.cell 2 rfl
        have bR1_0 := bR1.cell 0 rfl
        have bR1_1 := bR1.cell 1 rfl
        have bR1_2 := bR1.cell 2 rfl
        have bR2_0 := bR2.cell 0 rfl
        have bR2_1 := bR2.cell 1 rfl
        have bR2_2 := bR2.cell 2 rfl
        go_wp2
        exact bodyPost_ret (v := .tuple #[.agg #[.int .i64 x1, .int .i64 y1, .int .i64 z1], .agg #[.int .i64 x2, .int .i64 y2, .int .i64 z2], .agg #[.int .i64 x3, .int .i64 y3, .int .i64 z3]]) (by simp [results, Try.results29, go_sem, bR0_0, bR0_1, bR0_2, bR1_0, bR1_1, bR1_2, bR2_0, bR2_1, bR2_2]) rfl ⟨_, _, _, _, _, _, _, _, _, rfl, HB.out⟩
      case pos =>
        go_upto_region 6 with fail
        obtain ⟨Y3, hY⟩ : ∃ y : Int, wrap64 (-y3) = y := ⟨_, rfl⟩
        obtain ⟨WZ, hZ⟩ : ∃ X, X = w6.setCell ⟨w4.heap.size, 1, none⟩ (.int .i64 (wrap64 (-y3))) := ⟨_, rfl⟩
        rw [← hZ]
        rw [hY] at hZ
        clear bF_0 bF_1 bF_2 bF_l bD_0 bD_1 bD_2 bD_l bF_f1
        replace bR0 : Bk WZ w.heap.size #[.int .i64 0, .int .i64 0, .int .i64 0] 32 := by rw [hZ]; exact bR0.other (by omega) 1 _
        replace bR1 : Bk WZ (w.heap.size + 1) #[.int .i64 0, .int .i64 0, .int .i64 0] 32 := by rw [hZ]; exact bR1.other (by omega) 1 _
        replace bR2 : Bk WZ (w.heap.size + 1 + 1) #[.int .i64 0, .int .i64 0, .int .i64 0] 32 := by rw [hZ]; exact bR2.other (by omega) 1 _
        replace bD : Bk WZ w2.heap.size #[.int .i64 x1, .int .i64 y1, .int .i64 z1] 32 := by rw [hZ]; exact bD.other (by omega) 1 _
        replace bE : Bk WZ (w2.heap.size + 1) #[.int .i64 x2, .int .i64 y2, .int .i64 z2] 32 := by rw [hZ]; exact bE.other (by omega) 1 _
        replace bF : Bk WZ w4.heap.size #[.int .i64 x3, .int .i64 Y3, .int .i64 z3] 32 := by rw [hZ]; exact bF.set 1 _ rfl
        replace HB : Hid (Below w.heap.size w WZ) := Lib.hid (by rw [hZ]; exact HB.out.setCell (by dsimp only; omega) _)
        clear hZ hY
        obtain ⟨S, hSd⟩ : ∃ S : World → Prop, ∀ w', S w' ↔ (w'.cell? ⟨w2.heap.size, 0, none⟩ = some (.int .i64 x1) ∧ w'.cell? ⟨w2.heap.size, 1, none⟩ = some (.int .i64 y1) ∧ w'.cell? ⟨w2.heap.size, 2, none⟩ = some (.int .i64 z1) ∧ w'.cell? ⟨w2.heap.size + 1, 0, none⟩ = some (.int .i64 x2) ∧ w'.cell? ⟨w2.heap.size + 1, 1, none⟩ = some (.int .i64 y2) ∧ w'.cell? ⟨w2.heap.size + 1, 2, none⟩ = some (.int .i64 z2) ∧ w'.cell? ⟨w4.heap.size, 0, none⟩ = some (.int .i64 x3) ∧ w'.cell? ⟨w4.heap.size, 1, none⟩ = some (.int .i64 Y3) ∧ w'.cell? ⟨w4.heap.size, 2, none⟩ = some (.int .i64 z3)) := ⟨_, fun _ => Iff.rfl⟩
        have HSp : Hid (∀ w' : World, Bk w' (w2.heap.size) #[.int .i64 x1, .int .i64 y1, .int .i64 z1] 32 → Bk w' (w2.heap.size + 1) #[.int .i64 x2, .int .i64 y2, .int .i64 z2] 32 → Bk w' (w4.heap.size) #[.int .i64 x3, .int .i64 Y3, .int .i64 z3] 32 → S w') := Lib.hid (fun w' bD bE bF => (hSd w').2 ⟨bD.cell 0 rfl, bD.cell 1 rfl, bD.cell 2 rfl, bE.cell 0 rfl, bE.cell 1 rfl, bE.cell 2 rfl, bF.cell 0 rfl, bF.cell 1 rfl, bF.cell 2 rfl⟩)
        have HSd := Lib.hid hSd
        clear hSd
        refine wp_region_held_drew (S := S) (by kernel_rfl) ?_ (fun hH => ?_)
        · exact (HSp.out _ bD bE bF : S (World.drew WZ))
        clear hH
        generalize hX : World.drew WZ = V0
        replace bR0 : Bk V0 (w.heap.size) #[.int .i64 0, .int .i64 0, .int .i64 0] 32 := by rw [← hX]; exact bR0
        replace bR1 : Bk V0 (w.heap.size + 1) #[.int .i64 0, .int .i64 0, .int .i64 0] 32 := by rw [← hX]; exact bR1
        replace bR2 : Bk V0 (w.heap.size + 1 + 1) #[.int .i64 0, .int .i64 0, .int .i64 0] 32 := by rw [← hX]; exact bR2
        replace bD : Bk V0 (w2.heap.size) #[.int .i64 x1, .int .i64 y1, .int .i64 z1] 32 := by rw [← hX]; exact bD
        replace bE : Bk V0 (w2.heap.size + 1) #[.int .i64 x2, .int .i64 y2, .int .i64 z2] 32 := by rw [← hX]; exact bE
        replace bF : Bk V0 (w4.heap.size) #[.int .i64 x3, .int .i64 Y3, .int .i64 z3] 32 := by rw [← hX]; exact bF
        have hb : Below WZ.heap.size WZ V0 := by rw [← hX]; exact (Below.refl _ _).drew
        clear hX
        replace HB := Lib.hid (bel_end HB.out hb)
        clear hb
        have hS := HSp.out _ bD bE bF
        refine wpAnyH_take (i := 0) (oi := { dst := some 35, op := Go.Op.load 32 (Go.Operand.tmp 6), type := 32, pos := "l08_sectors.go:256", after := #[], guard := none }) (v := ?_) rfl (by kernel_rfl) (by kernel_rfl) (by kernel_rfl) (fun _ _ _ h => h) (Or.inl ⟨by rfl, ?_⟩) hS ?_
        rotate_left
        · (intro w hSw; have hSw := (HSd.out w).1 hSw; go_split_ands; go_simp) <;> with_reducible rfl
        clear hS
        try simp only [Act.put, List.setIfInBounds_toArray, List.set_cons_zero, List.set_cons_succ]
        have hS := HSp.out _ bD bE bF
        refine wpAnyH_take (i := 1) (oi := { dst := some 36, op := Go.Op.load 32 (Go.Operand.tmp 7), type := 32, pos := "l08_sectors.go:256", after := #[{ on := 3, ground := Go.Ground.gcOnly Go.Departure.lateStores }], guard := none }) (v := ?_) rfl (by kernel_rfl) (by kernel_rfl) (by kernel_rfl) (fun _ _ _ h => h) (Or.inl ⟨by rfl, ?_⟩) hS ?_
        rotate_left
        · (intro w hSw; have hSw := (HSd.out w).1 hSw; go_split_ands; go_simp) <;> with_reducible rfl
        clear hS
        try simp only [Act.put, List.setIfInBounds_toArray, List.set_cons_zero, List.set_cons_succ]
        have hS := HSp.out _ bD bE bF
        refine wpAnyH_take (i := 2) (oi := { dst := some 37, op := Go.Op.load 32 (Go.Operand.tmp 8), type := 32, pos := "l08_sectors.go:256", after := #[{ on := 4, ground := Go.Ground.gcOnly Go.Departure.lateStores }], guard := none }) (v := ?_) rfl (by kernel_rfl) (by kernel_rfl) (by kernel_rfl) (fun _ _ _ h => h) (Or.inl ⟨by rfl, ?_⟩) hS ?_
        rotate_left
        · (intro w hSw; have hSw := (HSd.out w).1 hSw; go_split_ands; go_simp) <;> with_reducible rfl
        clear hS
        try simp only [Act.put, List.setIfInBounds_toArray, List.set_cons_zero, List.set_cons_succ]
        refine wpAnyH_ready (rs := [3]) (by kernel_rfl) (by simp) ?_
        refine AllReadyH.cons (o := { dst := none, op := Go.Op.store 32 (Go.Operand.tmp 2) (Go.Operand.tmp 35), type := 0, pos := "l08_sectors.go:256", after := #[{ on := 0, ground := Go.Ground.data }, { on := 0, ground := Go.Ground.phase }, { on := 1, ground := Go.Ground.textOnly Go.Departure.lateStores }, { on := 2, ground := Go.Ground.textOnly Go.Departure.lateStores }], guard := none }) rfl (fun Kn hK => ?_) AllReadyH.nil
        have bR0_0 := bR0.cell 0 rfl
        have bR0_1 := bR0.cell 1 rfl
        have bR0_2 := bR0.cell 2 rfl
        have bR0_f0 := bR0.frozen 0
        have bR0_f1 := bR0.frozen 1
        have bR0_f2 := bR0.frozen 2
        have bR0_l := bR0.lt
        go_simp
        clear bR0_0 bR0_f0 bR0_1 bR0_f1 bR0_2 bR0_f2 bR0_l
        generalize hX : World.setCell _ _ _ = V1
        have hb : Below w.heap.size w V1 := by rw [← hX]; exact (((HB.out.setCell (p := ⟨w.heap.size, 0, none⟩) (by first | omega | (dsimp only; omega)) _).setCell (p := ⟨w.heap.size, 1, none⟩) (by first | omega | (dsimp only; omega)) _).setCell (p := ⟨w.heap.size, 2, none⟩) (by first | omega | (dsimp only; omega)) _)
        replace bR1 : Bk V1 (w.heap.size + 1) #[.int .i64 0, .int .i64 0, .int .i64 0] 32 := by rw [← hX]; exact (Bk.other (Bk.other (Bk.other bR1 (by omega) 0 _) (by omega) 1 _) (by omega) 2 _)
        replace bR2 : Bk V1 (w.heap.size + 1 + 1) #[.int .i64 0, .int .i64 0, .int .i64 0] 32 := by rw [← hX]; exact (Bk.other (Bk.other (Bk.other bR2 (by omega) 0 _) (by omega) 1 _) (by omega) 2 _)
        replace bD : Bk V1 (w2.heap.size) #[.int .i64 x1, .int .i64 y1, .int .i64 z1] 32 := by rw [← hX]; exact (Bk.other (Bk.other (Bk.other bD (by omega) 0 _) (by omega) 1 _) (by omega) 2 _)
        replace bE : Bk V1 (w2.heap.size + 1) #[.int .i64 x2, .int .i64 y2, .int .i64 z2] 32 := by rw [← hX]; exact (Bk.other (Bk.other (Bk.other bE (by omega) 0 _) (by omega) 1 _) (by omega) 2 _)
        replace bF : Bk V1 (w4.heap.size) #[.int .i64 x3, .int .i64 Y3, .int .i64 z3] 32 := by rw [← hX]; exact (Bk.other (Bk.other (Bk.other bF (by omega) 0 _) (by omega) 1 _) (by omega) 2 _)
        replace bR0 : Bk V1 (w.heap.size) #[.int .i64 x1, .int .i64 y1, .int .i64 z1] 32 := by rw [← hX]; exact (Bk.set (Bk.set (Bk.set bR0 0 _ rfl) 1 _ rfl) 2 _ rfl)
        clear hX
        replace HB := Lib.hid hb
        clear hb
        refine hK.out _ _ (HSp.out _ bD bE bF) (fun _ => ?_)
        clear hK Kn
        refine wpAnyH_ready (rs := [4]) (by kernel_rfl) (by simp) ?_
        refine AllReadyH.cons (o := { dst := none, op := Go.Op.store 32 (Go.Operand.tmp 3) (Go.Operand.tmp 36), type := 0, pos := "l08_sectors.go:256", after := #[{ on := 1, ground := Go.Ground.data }, { on := 3, ground := Go.Ground.chain }, { on := 0, ground := Go.Ground.phase }, { on := 1, ground := Go.Ground.phase }, { on := 2, ground := Go.Ground.textOnly Go.Departure.lateStores }, { on := 3, ground := Go.Ground.phase }], guard := none }) rfl (fun Kn hK => ?_) AllReadyH.nil
        have bR1_0 := bR1.cell 0 rfl
        have bR1_1 := bR1.cell 1 rfl
        have bR1_2 := bR1.cell 2 rfl
        have bR1_f0 := bR1.frozen 0
        have bR1_f1 := bR1.frozen 1
        have bR1_f2 := bR1.frozen 2
        have bR1_l := bR1.lt
        go_simp
        clear bR1_0 bR1_f0 bR1_1 bR1_f1 bR1_2 bR1_f2 bR1_l
        generalize hX : World.setCell _ _ _ = V2
        have hb : Below w.heap.size w V2 := by rw [← hX]; exact (((HB.out.setCell (p := ⟨w.heap.size + 1, 0, none⟩) (by first | omega | (dsimp only; omega)) _).setCell (p := ⟨w.heap.size + 1, 1, none⟩) (by first | omega | (dsimp only; omega)) _).setCell (p := ⟨w.heap.size + 1, 2, none⟩) (by first | omega | (dsimp only; omega)) _)
        replace bR0 : Bk V2 (w.heap.size) #[.int .i64 x1, .int .i64 y1, .int .i64 z1] 32 := by rw [← hX]; exact (Bk.other (Bk.other (Bk.other bR0 (by omega) 0 _) (by omega) 1 _) (by omega) 2 _)
        replace bR2 : Bk V2 (w.heap.size + 1 + 1) #[.int .i64 0, .int .i64 0, .int .i64 0] 32 := by rw [← hX]; exact (Bk.other (Bk.other (Bk.other bR2 (by omega) 0 _) (by omega) 1 _) (by omega) 2 _)
        replace bD : Bk V2 (w2.heap.size) #[.int .i64 x1, .int .i64 y1, .int .i64 z1] 32 := by rw [← hX]; exact (Bk.other (Bk.other (Bk.other bD (by omega) 0 _) (by omega) 1 _) (by omega) 2 _)
        replace bE : Bk V2 (w2.heap.size + 1) #[.int .i64 x2, .int .i64 y2, .int .i64 z2] 32 := by rw [← hX]; exact (Bk.other (Bk.other (Bk.other bE (by omega) 0 _) (by omega) 1 _) (by omega) 2 _)
        replace bF : Bk V2 (w4.heap.size) #[.int .i64 x3, .int .i64 Y3, .int .i64 z3] 32 := by rw [← hX]; exact (Bk.other (Bk.other (Bk.other bF (by omega) 0 _) (by omega) 1 _) (by omega) 2 _)
        replace bR1 : Bk V2 (w.heap.size + 1) #[.int .i64 x2, .int .i64 y2, .int .i64 z2] 32 := by rw [← hX]; exact (Bk.set (Bk.set (Bk.set bR1 0 _ rfl) 1 _ rfl) 2 _ rfl)
        clear hX
        replace HB := Lib.hid hb
        clear hb
        refine hK.out _ _ (HSp.out _ bD bE bF) (fun _ => ?_)
        clear hK Kn
        refine wpAnyH_ready (rs := [5]) (by kernel_rfl) (by simp) ?_
        refine AllReadyH.cons (o := { dst := none, op := Go.Op.store 32 (Go.Operand.tmp 4) (Go.Operand.tmp 37), type := 0, pos := "l08_sectors.go:256", after := #[{ on := 2, ground := Go.Ground.data }, { on := 4, ground := Go.Ground.chain }, { on := 0, ground := Go.Ground.phase }, { on := 1, ground := Go.Ground.phase }, { on := 2, ground := Go.Ground.phase }, { on := 3, ground := Go.Ground.phase }, { on := 4, ground := Go.Ground.phase }], guard := none }) rfl (fun Kn hK => ?_) AllReadyH.nil
        have bR2_0 := bR2.cell 0 rfl
        have bR2_1 := bR2.cell 1 rfl
        have bR2_2 := bR2.cell 2 rfl
        have bR2_f0 := bR2.frozen 0
        have bR2_f1 := bR2.frozen 1
        have bR2_f2 := bR2.frozen 2
        have bR2_l := bR2.lt
        go_simp
        clear bR2_0 bR2_f0 bR2_1 bR2_f1 bR2_2 bR2_f2 bR2_l
        generalize hX : World.setCell _ _ _ = V3
        have hb : Below w.heap.size w V3 := by rw [← hX]; exact (((HB.out.setCell (p := ⟨w.heap.size + 1 + 1, 0, none⟩) (by first | omega | (dsimp only; omega)) _).setCell (p := ⟨w.heap.size + 1 + 1, 1, none⟩) (by first | omega | (dsimp only; omega)) _).setCell (p := ⟨w.heap.size + 1 + 1, 2, none⟩) (by first | omega | (dsimp only; omega)) _)
        replace bR0 : Bk V3 (w.heap.size) #[.int .i64 x1, .int .i64 y1, .int .i64 z1] 32 := by rw [← hX]; exact (Bk.other (Bk.other (Bk.other bR0 (by omega) 0 _) (by omega) 1 _) (by omega) 2 _)
        replace bR1 : Bk V3 (w.heap.size + 1) #[.int .i64 x2, .int .i64 y2, .int .i64 z2] 32 := by rw [← hX]; exact (Bk.other (Bk.other (Bk.other bR1 (by omega) 0 _) (by omega) 1 _) (by omega) 2 _)
        replace bD : Bk V3 (w2.heap.size) #[.int .i64 x1, .int .i64 y1, .int .i64 z1] 32 := by rw [← hX]; exact (Bk.other (Bk.other (Bk.other bD (by omega) 0 _) (by omega) 1 _) (by omega) 2 _)
        replace bE : Bk V3 (w2.heap.size + 1) #[.int .i64 x2, .int .i64 y2, .int .i64 z2] 32 := by rw [← hX]; exact (Bk.other (Bk.other (Bk.other bE (by omega) 0 _) (by omega) 1 _) (by omega) 2 _)
        replace bF : Bk V3 (w4.heap.size) #[.int .i64 x3, .int .i64 Y3, .int .i64 z3] 32 := by rw [← hX]; exact (Bk.other (Bk.other (Bk.other bF (by omega) 0 _) (by omega) 1 _) (by omega) 2 _)
        replace bR2 : Bk V3 (w.heap.size + 1 + 1) #[.int .i64 x3, .int .i64 Y3, .int .i64 z3] 32 := by rw [← hX]; exact (Bk.set (Bk.set (Bk.set bR2 0 _ rfl) 1 _ rfl) 2 _ rfl)
        clear hX
        replace HB := Lib.hid hb
        clear hb
        refine hK.out _ _ (HSp.out _ bD bE bF) (fun _ => ?_)
        clear hK Kn
        refine wpAnyH_done (by kernel_rfl) ?_ _
        have bR0_0 := bR0.cell 0 rfl
        have bR0_1 := bR0.cell 1 rfl
        have bR0_2 := bR0.cell 2 rfl
        have bR1_0 := bR1.cell 0 rfl
        have bR1_1 := bR1.cell 1 rfl
        have bR1_2 := bR1.cell 2 rfl
        have bR2_0 := bR2.cell 0 rfl
        have bR2_1 := bR2.cell 1 rfl
        have bR2_2 := bR2.cell 2 rfl
        go_wp2
        exact bodyPost_ret (v := .tuple #[.agg #[.int .i64 x1, .int .i64 y1, .int .i64 z1], .agg #[.int .i64 x2, .int .i64 y2, .int .i64 z2], .agg #[.int .i64 x3, .int .i64 Y3, .int .i64 z3]]) (by simp [results, Try.results29, go_sem, bR0_0, bR0_1, bR0_2, bR1_0, bR1_1, bR1_2, bR2_0, bR2_1, bR2_2]) rfl ⟨_, _, _, _, _, _, _, _, _, rfl, HB.out⟩
end Go.Proofs.Ytaaklnabomhleaa
