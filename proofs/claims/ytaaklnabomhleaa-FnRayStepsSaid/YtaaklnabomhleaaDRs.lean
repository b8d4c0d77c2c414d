/- The model's draws of a ray with a state, and of a ray. -/
import Derived.Test.YtaaklnabomhleaaDry
import Derived.Handy
import Derived.Deep.RegionWith
namespace Go.Proofs.Ytaaklnabomhleaa
open Go.ChangeShapes Go.WideShapes Go.ChangeAt Go.RowKit Go.Shelf Num
set_option linter.unusedVariables false
set_option linter.unusedSimpArgs false

/-- a profile whose rows lie behind a mark and below another one -/
structure PrX (w : World) (B m : Nat) (a b : Option Addr) (zs ys : List Int) : Prop where
  at_ : Prof w B a b zs ys
  lo1 : ∀ x, a = some x → m < x.block
  lo2 : ∀ x, b = some x → m < x.block
  n1 : zs.length ≤ 20
  n2 : ys.length ≤ 20
theorem PrX.of {w : World} {m c d : Nat} {a b : Option Addr} {zs ys : List Int} (h : PrA w m a b c d zs ys) : PrX w w.heap.size m a b zs ys := ⟨h.at_, h.lo1, h.lo2, h.n1, h.n2⟩
theorem PrX.below {w w' : World} {B m : Nat} {a b : Option Addr} {zs ys : List Int} (h : PrX w B m a b zs ys) (hb : Below B w w') : PrX w' B m a b zs ys := ⟨h.at_.below hb, h.lo1, h.lo2, h.n1, h.n2⟩
theorem PrX.grown {w w' : World} {B m s : Nat} {a b : Option Addr} {zs ys : List Int} (h : PrX w B m a b zs ys) (hs : s ≤ m) (hg : w.grownBy w' (some s)) : PrX w' B m a b zs ys :=
  ⟨prof_at h.at_ (fun x e hx => hg.block _ hx (by have := h.lo1 x e; simp; omega)) (fun x e hx => hg.block _ hx (by have := h.lo2 x e; simp; omega)), h.lo1, h.lo2, h.n1, h.n2⟩
theorem PrX.lo {w : World} {B m g k : Nat} {a b : Option Addr} {zs ys : List Int} (h : PrX w B m a b zs ys) (hp : g ≤ m) (v : Value) : PrX (w.setCell ⟨g, k, none⟩ v) B m a b zs ys :=
  ⟨prof_at h.at_ (fun x e hx => Below.heap_setCell w ⟨g, k, none⟩ v x.block (by have := h.lo1 x e; show x.block ≠ g; omega)) (fun x e hx => Below.heap_setCell w ⟨g, k, none⟩ v x.block (by have := h.lo2 x e; show x.block ≠ g; omega)), h.lo1, h.lo2, h.n1, h.n2⟩
theorem PrX.hi {w : World} {B m g k : Nat} {a b : Option Addr} {zs ys : List Int} (h : PrX w B m a b zs ys) (hp : B ≤ g) (v : Value) : PrX (w.setCell ⟨g, k, none⟩ v) B m a b zs ys := h.below ((Below.refl _ _).setCell (p := ⟨g, k, none⟩) hp v)
theorem PrX.wide {w : World} {B m B' m' : Nat} {a b : Option Addr} {zs ys : List Int} (h : PrX w B m a b zs ys) (hB : B ≤ B') (hm : m' ≤ m) : PrX w B' m' a b zs ys := ⟨h.at_.more hB, fun x e => Nat.lt_of_le_of_lt hm (h.lo1 x e), fun x e => Nat.lt_of_le_of_lt hm (h.lo2 x e), h.n1, h.n2⟩
theorem PrX.n {w : World} {B m : Nat} {a b : Option Addr} {zs ys : List Int} (h : PrX w B m a b zs ys) (hB : B ≤ w.heap.size) : PrN w a b zs ys := ⟨h.at_.more hB, h.n1, h.n2⟩
/-- what is drawn -/
def RsB (w : World) (e : Ending) (w' : World) : Prop :=
  ∃ (a b : Option Addr) (c d : Nat) (zs ys : List Int) (x p q r K : Int) (dn : Bool) (lo hi : Int), e = .returned (.tuple #[.agg #[.slice a zs.length c, .slice b ys.length d], .int .i64 x, .agg #[.int .i64 p, .int .i64 q, .int .i64 r], .agg #[.int .i64 K, .bool dn, .int .i64 lo, .int .i64 hi]]) ∧ PrX w' w'.heap.size w.heap.size a b zs ys ∧ Below w.heap.size w w'

set_option maxRecDepth 100000 in
set_option maxHeartbeats 16000000 in
theorem dis_any (w : World) (a0 : Option Addr) (cap : Nat) (cs : List Int) (h : Code8 w w.heap.size a0 cs) :
    Calls Try.prog 109 #[.slice a0 cs.length cap] w (RsB w) := by
  have HC := Lib.hid h
  clear h
  go_enter Try.func109, Try.ntmps109
  go_wp2_with fail
  generalize hW : World.alloc _ _ = W
  have bR : Bk W (w.heap.size) #[.slice none 0 0, .slice none 0 0] 51 := by rw [← hW]; repeat (first | (refine Bk.new' ?_; (simp; done)) | refine Bk.alloc ?_ _)
  have bE : Bk W (w.heap.size + 1) #[.int .i64 0, .int .i64 0, .int .i64 0] 32 := by rw [← hW]; repeat (first | (refine Bk.new' ?_; (simp; done)) | refine Bk.alloc ?_ _)
  have bT : Bk W (w.heap.size + 1 + 1) #[.int .i64 0, .bool false, .int .i64 0, .int .i64 0] 61 := by rw [← hW]; repeat (first | (refine Bk.new' ?_; (simp; done)) | refine Bk.alloc ?_ _)
  have hb0 : Below w.heap.size w W := by rw [← hW]; exact (by repeat (first | exact Below.refl _ _ | (refine Below.alloc ?_ (by simp <;> omega) _) | (refine Below.setCell ?_ (by simp <;> omega) _) | (refine Below.drew ?_) | (refine bel_drewN ?_ _)))
  clear hW
  have hlT := bT.lt
  refine (from_any _ _ _ cs ((HC.out.below hb0 (Nat.le_refl _)).more hb0.size)).mono ?_
  rintro e w1 ⟨s, rfl, hs, hsrc, hb⟩
  replace bR := bR.on hb
  replace bE := bE.on hb
  replace bT := bT.on hb
  have HB := Lib.hid (bel_end hb0 hb)
  have HS := Lib.hid hsrc
  have hl1 := bT.lt
  have hls1 := HS.out.lt
  have hls := HS.out.lt
  have hsW : W.heap.size ≤ s := hs
  clear hsrc hb hb0
  go_wp2_with fail
  refine (dry_any _ _ HS.out).mono ?_
  rintro e w2 ⟨a, b, c, d, zs, ys, x, p, q, t, rfl, hp, hg, hs2⟩
  replace bR := bR.kept hg (by simp; omega)
  replace bE := bE.kept hg (by simp; omega)
  replace bT := bT.kept hg (by simp; omega)
  have hsz := hg.size
  replace HB := Lib.hid (HB.out.trans (below_of_grown hg (by omega) (by have := HB.out.size; omega)))
  replace HS := Lib.hid hs2
  have HP := Lib.hid (PrX.of hp)
  clear hg hs2 hp
  go_upto_region 4 with fail
  obtain ⟨W3, hW⟩ : ∃ W, W = ((w2.alloc (.cells #[.slice a zs.length c, .slice b ys.length d] 51)).alloc (.cells #[.int .i64 p, .int .i64 q, .int .i64 t] 32)) := ⟨_, rfl⟩
  rw [← hW]
  have bP : Bk W3 w2.heap.size #[.slice a zs.length c, .slice b ys.length d] 51 := by rw [hW]; exact (Bk.new' rfl).alloc _
  have bQ : Bk W3 (w2.heap.size + 1) #[.int .i64 p, .int .i64 q, .int .i64 t] 32 := by rw [hW]; exact Bk.new' (by simp)
  have hb : Below w2.heap.size w2 W3 := by rw [hW]; exact (by repeat (first | exact Below.refl _ _ | (refine Below.alloc ?_ (by simp <;> omega) _) | (refine Below.setCell ?_ (by simp <;> omega) _) | (refine Below.drew ?_) | (refine bel_drewN ?_ _)))
  have hq3 := hb.size
  have hl2 := bT.lt
  have hls2 := HS.out.lt
  replace bR := bR.on hb
  replace bE := bE.on hb
  replace bT := bT.on hb
  replace HB := Lib.hid (bel_end HB.out hb)
  replace HS := Lib.hid (HS.out.bel hb)
  replace HP := Lib.hid (HP.out.below hb)
  clear hW hb
  go_wp2_with fail
  refine (nxt_any _ _ _ HS.out).mono ?_
  rintro e w4 ⟨K0, rfl, -, -, -, hs3, hg⟩
  replace bR := bR.kept hg (by simp; omega)
  replace bE := bE.kept hg (by simp; omega)
  replace bT := bT.kept hg (by simp; omega)
  replace bP := bP.kept hg (by simp; omega)
  replace bQ := bQ.kept hg (by simp; omega)
  have hgz1 := hg.size
  replace HB := Lib.hid (HB.out.trans (below_of_grown hg (by omega) (by have := HB.out.size; omega)))
  replace HP := Lib.hid (HP.out.grown (by omega) hg)
  replace HS := Lib.hid hs3
  replace hls := HS.out.lt
  clear hg hs3
  go_wp2_with fail
  refine (nxt_any _ _ _ HS.out).mono ?_
  rintro e w5 ⟨D0, rfl, -, -, -, hs3, hg⟩
  replace bR := bR.kept hg (by simp; omega)
  replace bE := bE.kept hg (by simp; omega)
  replace bT := bT.kept hg (by simp; omega)
  replace bP := bP.kept hg (by simp; omega)
  replace bQ := bQ.kept hg (by simp; omega)
  have hgz2 := hg.size
  replace HB := Lib.hid (HB.out.trans (below_of_grown hg (by omega) (by have := HB.out.size; omega)))
  replace HP := Lib.hid (HP.out.grown (by omega) hg)
  replace HS := Lib.hid hs3
  replace hls := HS.out.lt
  clear hg hs3
  go_wp2_with fail
  refine (dsm_any _ _ HS.out).mono ?_
  rintro e w6 ⟨L0, U0, rfl, -, hs3, hg⟩
  replace bR := bR.kept hg (by simp; omega)
  replace bE := bE.kept hg (by simp; omega)
  replace bT := bT.kept hg (by simp; omega)
  replace bP := bP.kept hg (by simp; omega)
  replace bQ := bQ.kept hg (by simp; omega)
  have hgz3 := hg.size
  replace HB := Lib.hid (HB.out.trans (below_of_grown hg (by omega) (by have := HB.out.size; omega)))
  replace HP := Lib.hid (HP.out.grown (by omega) hg)
  replace HS := Lib.hid hs3
  replace hls := HS.out.lt
  clear hg hs3
  obtain ⟨L1, hL1⟩ : ∃ v : Int, IntKind.wrap .i64 (L0 + 190) = v := ⟨_, rfl⟩
  obtain ⟨U1, hU1⟩ : ∃ v : Int, IntKind.wrap .i64 (U0 + 190) = v := ⟨_, rfl⟩
  obtain ⟨dd, hdd⟩ : ∃ v : Bool, (D0 == 0) = v := ⟨_, rfl⟩
  go_upto_region 5 with fail
  obtain ⟨W7, hW⟩ : ∃ W, W = w6.alloc (.cells #[.int .i64 K0, .bool dd, .int .i64 L0, .int .i64 U0] 61) := ⟨_, rfl⟩
  rw [← hW]
  have bS : Bk W7 w6.heap.size #[.int .i64 K0, .bool dd, .int .i64 L0, .int .i64 U0] 61 := by rw [hW]; exact Bk.new' rfl
  have hb : Below w6.heap.size w6 W7 := by rw [hW]; exact (Below.refl _ _).alloc (Nat.le_refl _) _
  have hq7 := hb.size
  have hl6 := bQ.lt
  replace bR := bR.on hb
  replace bE := bE.on hb
  replace bT := bT.on hb
  replace bP := bP.on hb
  replace bQ := bQ.on hb
  replace HB := Lib.hid (bel_end HB.out hb)
  replace HS := Lib.hid (HS.out.bel hb)
  replace HP := Lib.hid (HP.out.below (hb.mono (by omega)))
  clear hW hb
  have hls6 : s < w6.heap.size := hls
  have bS_0 := bS.cell 0 rfl
  have bS_1 := bS.cell 1 rfl
  have bS_2 := bS.cell 2 rfl
  have bS_3 := bS.cell 3 rfl
  have bS_f0 := bS.frozen 0
  have bS_f1 := bS.frozen 1
  have bS_f2 := bS.frozen 2
  have bS_f3 := bS.frozen 3
  have bS_l := bS.lt
  go_upto_region 6 with fail
  clear bS_0 bS_1 bS_2 bS_3 bS_f0 bS_f1 bS_f2 bS_f3 bS_l
  obtain ⟨W8, hW⟩ : ∃ W, W = (World.setCell (World.setCell W7 ⟨w6.heap.size, 2, none⟩ (.int .i64 L1)) ⟨w6.heap.size, 3, none⟩ (.int .i64 U1)) := ⟨_, rfl⟩
  rw [← hW]
  replace bR : Bk W8 (w.heap.size) #[.slice none 0 0, .slice none 0 0] 51 := by rw [hW]; exact (Bk.other (Bk.other bR (by omega) 2 _) (by omega) 3 _)
  replace bE : Bk W8 (w.heap.size + 1) #[.int .i64 0, .int .i64 0, .int .i64 0] 32 := by rw [hW]; exact (Bk.other (Bk.other bE (by omega) 2 _) (by omega) 3 _)
  replace bT : Bk W8 (w.heap.size + 1 + 1) #[.int .i64 0, .bool false, .int .i64 0, .int .i64 0] 61 := by rw [hW]; exact (Bk.other (Bk.other bT (by omega) 2 _) (by omega) 3 _)
  replace bP : Bk W8 (w2.heap.size) #[.slice a zs.length c, .slice b ys.length d] 51 := by rw [hW]; exact (Bk.other (Bk.other bP (by omega) 2 _) (by omega) 3 _)
  replace bQ : Bk W8 (w2.heap.size + 1) #[.int .i64 p, .int .i64 q, .int .i64 t] 32 := by rw [hW]; exact (Bk.other (Bk.other bQ (by omega) 2 _) (by omega) 3 _)
  replace bS : Bk W8 w6.heap.size #[.int .i64 K0, .bool dd, .int .i64 L1, .int .i64 U1] 61 := by rw [hW]; exact (Bk.set (Bk.set bS 2 _ rfl) 3 _ rfl)
  replace HB : Hid (Below w.heap.size w W8) := Lib.hid (by rw [hW]; exact ((HB.out.setCell (p := ⟨w6.heap.size, 2, none⟩) (by dsimp only; omega) _).setCell (p := ⟨w6.heap.size, 3, none⟩) (by dsimp only; omega) _))
  replace HP : Hid (PrX W8 w2.heap.size w1.heap.size a b zs ys) := Lib.hid (by rw [hW]; exact (PrX.hi (PrX.hi HP.out (by omega) _) (by omega) _))
  replace HS : Hid (Src W8 s) := Lib.hid (by rw [hW]; exact (Src.set_far (Src.set_far HS.out (by dsimp only; omega) _) (by dsimp only; omega) _))
  have hqsW8 : W8.heap.size = W7.heap.size := by rw [hW]; simp [World.setCell]
  replace hls := HS.out.lt
  clear hW
  clear hL1 hU1 hdd
  go_wp2_with fail
  refine (nxt_any _ _ _ HS.out).mono ?_
  rintro e w9 ⟨v, rfl, -, -, -, hs3, hg⟩
  replace bR := bR.kept hg (by simp; omega)
  replace bE := bE.kept hg (by simp; omega)
  replace bT := bT.kept hg (by simp; omega)
  replace bP := bP.kept hg (by simp; omega)
  replace bQ := bQ.kept hg (by simp; omega)
  replace bS := bS.kept hg (by simp; omega)
  have hgz4 := hg.size
  replace HB := Lib.hid (HB.out.trans (below_of_grown hg (by omega) (by have := HB.out.size; omega)))
  replace HP := Lib.hid (HP.out.grown (by omega) hg)
  replace HS := Lib.hid hs3
  replace hls := HS.out.lt
  clear hg hs3
  have hbS := bS.lt
  by_cases v0 : v = 0
  case pos =>
    subst v0
    go_wp2_with fail
    refine (pick2 _ _ w9.heap.size _ _ _ (HS.out.alloc _) (by omega) (heap_alloc_new w9 _)).mono ?_
    rintro e w10 ⟨K1, rfl, hs3, hg⟩
    replace bR := (bR.alloc _).kept hg (by simp; omega)
    replace bE := (bE.alloc _).kept hg (by simp; omega)
    replace bT := (bT.alloc _).kept hg (by simp; omega)
    replace bP := (bP.alloc _).kept hg (by simp; omega)
    replace bQ := (bQ.alloc _).kept hg (by simp; omega)
    replace bS := (bS.alloc _).kept hg (by simp; omega)
    have hgz5 : w9.heap.size ≤ w10.heap.size := Nat.le_trans (by simp) hg.size
    have hbA : Below w9.heap.size w9 (w9.alloc (.cells #[.int .i64 (-1), .int .i64 (zs.length : Int)] 2)) := (Below.refl _ _).alloc (Nat.le_refl _) _
    replace HB := Lib.hid ((bel_end HB.out hbA).trans (below_of_grown hg (by omega) (by have := HB.out.size; simp; omega)))
    replace HP := Lib.hid ((HP.out.below (hbA.mono (by omega))).grown (by omega) hg)
    replace HS := Lib.hid hs3
    replace hls := HS.out.lt
    clear hg hs3 hbA
    have bS_0 := bS.cell 0 rfl
    have bS_1 := bS.cell 1 rfl
    have bS_2 := bS.cell 2 rfl
    have bS_3 := bS.cell 3 rfl
    have bS_f0 := bS.frozen 0
    have bS_f1 := bS.frozen 1
    have bS_f2 := bS.frozen 2
    have bS_f3 := bS.frozen 3
    have bS_l := bS.lt
    go_upto_region 11 with fail
    clear bS_0 bS_1 bS_2 bS_3 bS_f0 bS_f1 bS_f2 bS_f3 bS_l
    obtain ⟨WA, hW⟩ : ∃ W, W = (World.setCell w10 ⟨w6.heap.size, 0, none⟩ (.int .i64 K1)) := ⟨_, rfl⟩
    rw [← hW]
    replace bR : Bk WA (w.heap.size) #[.slice none 0 0, .slice none 0 0] 51 := by rw [hW]; exact (Bk.other bR (by omega) 0 _)
    replace bE : Bk WA (w.heap.size + 1) #[.int .i64 0, .int .i64 0, .int .i64 0] 32 := by rw [hW]; exact (Bk.other bE (by omega) 0 _)
    replace bT : Bk WA (w.heap.size + 1 + 1) #[.int .i64 0, .bool false, .int .i64 0, .int .i64 0] 61 := by rw [hW]; exact (Bk.other bT (by omega) 0 _)
    replace bP : Bk WA (w2.heap.size) #[.slice a zs.length c, .slice b ys.length d] 51 := by rw [hW]; exact (Bk.other bP (by omega) 0 _)
    replace bQ : Bk WA (w2.heap.size + 1) #[.int .i64 p, .int .i64 q, .int .i64 t] 32 := by rw [hW]; exact (Bk.other bQ (by omega) 0 _)
    replace bS : Bk WA w6.heap.size #[.int .i64 K1, .bool dd, .int .i64 L1, .int .i64 U1] 61 := by rw [hW]; exact (Bk.set bS 0 _ rfl)
    replace HB : Hid (Below w.heap.size w WA) := Lib.hid (by rw [hW]; exact (HB.out.setCell (p := ⟨w6.heap.size, 0, none⟩) (by dsimp only; omega) _))
    replace HP : Hid (PrX WA w2.heap.size w1.heap.size a b zs ys) := Lib.hid (by rw [hW]; exact (PrX.hi HP.out (by omega) _))
    replace HS : Hid (Src WA s) := Lib.hid (by rw [hW]; exact (Src.set_far HS.out (by dsimp only; omega) _))
    have hqsWA : WA.heap.size = w10.heap.size := by rw [hW]; simp [World.setCell]
    replace hls := HS.out.lt
    clear hW
    obtain ⟨S, hSd⟩ : ∃ S : World → Prop, ∀ w', S w' ↔ (w'.cell? ⟨w2.heap.size, 0, none⟩ = some (.slice a zs.length c) ∧ w'.cell? ⟨w2.heap.size, 1, none⟩ = some (.slice b ys.length d) ∧ w'.cell? ⟨w2.heap.size + 1, 0, none⟩ = some (.int .i64 p) ∧ w'.cell? ⟨w2.heap.size + 1, 1, none⟩ = some (.int .i64 q) ∧ w'.cell? ⟨w2.heap.size + 1, 2, none⟩ = some (.int .i64 t) ∧ w'.cell? ⟨w6.heap.size, 0, none⟩ = some (.int .i64 K1) ∧ w'.cell? ⟨w6.heap.size, 1, none⟩ = some (.bool dd) ∧ w'.cell? ⟨w6.heap.size, 2, none⟩ = some (.int .i64 L1) ∧ w'.cell? ⟨w6.heap.size, 3, none⟩ = some (.int .i64 U1)) := ⟨_, fun _ => Iff.rfl⟩
    have HSp : Hid (∀ w' : World, Bk w' (w2.heap.size) #[.slice a zs.length c, .slice b ys.length d] 51 → Bk w' (w2.heap.size + 1) #[.int .i64 p, .int .i64 q, .int .i64 t] 32 → Bk w' (w6.heap.size) #[.int .i64 K1, .bool dd, .int .i64 L1, .int .i64 U1] 61 → S w') := Lib.hid (fun w' bP bQ bS => (hSd w').2 ⟨bP.cell 0 rfl, bP.cell 1 rfl, bQ.cell 0 rfl, bQ.cell 1 rfl, bQ.cell 2 rfl, bS.cell 0 rfl, bS.cell 1 rfl, bS.cell 2 rfl, bS.cell 3 rfl⟩)
    have HSd := Lib.hid hSd
    clear hSd
    refine wp_region_held_drew (S := S) (by kernel_rfl) ?_ (fun hH => ?_)
    · exact (HSp.out _ bP bQ bS : S (World.drew WA))
    clear hH
    generalize hX : World.drew WA = V0
    replace bR : Bk V0 (w.heap.size) #[.slice none 0 0, .slice none 0 0] 51 := by rw [← hX]; exact bR
    replace bE : Bk V0 (w.heap.size + 1) #[.int .i64 0, .int .i64 0, .int .i64 0] 32 := by rw [← hX]; exact bE
    replace bT : Bk V0 (w.heap.size + 1 + 1) #[.int .i64 0, .bool false, .int .i64 0, .int .i64 0] 61 := by rw [← hX]; exact bT
    replace bP : Bk V0 (w2.heap.size) #[.slice a zs.length c, .slice b ys.length d] 51 := by rw [← hX]; exact bP
    replace bQ : Bk V0 (w2.heap.size + 1) #[.int .i64 p, .int .i64 q, .int .i64 t] 32 := by rw [← hX]; exact bQ
    replace bS : Bk V0 (w6.heap.size) #[.int .i64 K1, .bool dd, .int .i64 L1, .int .i64 U1] 61 := by rw [← hX]; exact bS
    have hb : Below WA.heap.size WA V0 := by rw [← hX]; exact (Below.refl _ _).drew
    clear hX
    replace HP := Lib.hid (HP.out.below (hb.mono (by omega)))
    replace HB := Lib.hid (bel_end HB.out hb)
    clear hb
    have hS := HSp.out _ bP bQ bS
    refine wpAnyH_take (i := 0) (oi := { dst := some 58, op := Go.Op.load 51 (Go.Operand.tmp 7), type := 51, pos := "l07_rays.go:181", after := #[], guard := none }) (v := ?_) rfl (by kernel_rfl) (by kernel_rfl) (by kernel_rfl) (fun _ _ _ h => h) (Or.inl ⟨by rfl, ?_⟩) hS ?_
    rotate_left
    · (intro w hSw; have hSw := (HSd.out w).1 hSw; go_split_ands; go_simp) <;> with_reducible rfl
    clear hS
    try simp only [Act.put, List.setIfInBounds_toArray, List.set_cons_zero, List.set_cons_succ]
    have hS := HSp.out _ bP bQ bS
    refine wpAnyH_take (i := 1) (oi := { dst := some 59, op := Go.Op.move (Go.Operand.tmp 8), type := 2, pos := "l07_rays.go:181", after := #[{ on := 4, ground := Go.Ground.gcOnly Go.Departure.lateStores }], guard := none }) (v := ?_) rfl (by kernel_rfl) (by kernel_rfl) (by kernel_rfl) (fun _ _ _ h => h) (Or.inl ⟨by rfl, ?_⟩) hS ?_
    rotate_left
    · (intro w hSw; have hSw := (HSd.out w).1 hSw; go_split_ands; go_simp) <;> with_reducible rfl
    clear hS
    try simp only [Act.put, List.setIfInBounds_toArray, List.set_cons_zero, List.set_cons_succ]
    have hS := HSp.out _ bP bQ bS
    refine wpAnyH_take (i := 2) (oi := { dst := some 60, op := Go.Op.load 32 (Go.Operand.tmp 9), type := 32, pos := "l07_rays.go:181", after := #[{ on := 5, ground := Go.Ground.gcOnly Go.Departure.lateStores }], guard := none }) (v := ?_) rfl (by kernel_rfl) (by kernel_rfl) (by kernel_rfl) (fun _ _ _ h => h) (Or.inl ⟨by rfl, ?_⟩) hS ?_
    rotate_left
    · (intro w hSw; have hSw := (HSd.out w).1 hSw; go_split_ands; go_simp) <;> with_reducible rfl
    clear hS
    try simp only [Act.put, List.setIfInBounds_toArray, List.set_cons_zero, List.set_cons_succ]
    have hS := HSp.out _ bP bQ bS
    refine wpAnyH_take (i := 3) (oi := { dst := some 61, op := Go.Op.load 61 (Go.Operand.tmp 11), type := 61, pos := "l07_rays.go:181", after := #[{ on := 6, ground := Go.Ground.gcOnly Go.Departure.lateStores }], guard := none }) (v := ?_) rfl (by kernel_rfl) (by kernel_rfl) (by kernel_rfl) (fun _ _ _ h => h) (Or.inl ⟨by rfl, ?_⟩) hS ?_
    rotate_left
    · (intro w hSw; have hSw := (HSd.out w).1 hSw; go_split_ands; go_simp) <;> with_reducible rfl
    clear hS
    try simp only [Act.put, List.setIfInBounds_toArray, List.set_cons_zero, List.set_cons_succ]
    refine wpAnyH_ready (rs := [4]) (by kernel_rfl) (by simp) ?_
    refine AllReadyH.cons (o := { dst := none, op := Go.Op.store 51 (Go.Operand.tmp 2) (Go.Operand.tmp 58), type := 0, pos := "l07_rays.go:181", after := #[{ on := 0, ground := Go.Ground.data }, { on := 0, ground := Go.Ground.phase }, { on := 1, ground := Go.Ground.textOnly Go.Departure.lateStores }, { on := 2, ground := Go.Ground.textOnly Go.Departure.lateStores }, { on := 3, ground := Go.Ground.textOnly Go.Departure.lateStores }], guard := none }) rfl (fun Kn hK => ?_) AllReadyH.nil
    have bR_0 := bR.cell 0 rfl
    have bR_1 := bR.cell 1 rfl
    have bR_f0 := bR.frozen 0
    have bR_f1 := bR.frozen 1
    have bR_l := bR.lt
    go_simp
    clear bR_0 bR_f0 bR_1 bR_f1 bR_l
    generalize hX : World.setCell _ _ _ = V1
    have hb : Below w.heap.size w V1 := by rw [← hX]; exact ((HB.out.setCell (p := ⟨w.heap.size, 0, none⟩) (by first | omega | (dsimp only; omega)) _).setCell (p := ⟨w.heap.size, 1, none⟩) (by first | omega | (dsimp only; omega)) _)
    replace HP : Hid (PrX V1 w2.heap.size w1.heap.size a b zs ys) := Lib.hid (by rw [← hX]; exact (PrX.lo (PrX.lo HP.out (by omega) _) (by omega) _))
    replace bE : Bk V1 (w.heap.size + 1) #[.int .i64 0, .int .i64 0, .int .i64 0] 32 := by rw [← hX]; exact (Bk.other (Bk.other bE (by omega) 0 _) (by omega) 1 _)
    replace bT : Bk V1 (w.heap.size + 1 + 1) #[.int .i64 0, .bool false, .int .i64 0, .int .i64 0] 61 := by rw [← hX]; exact (Bk.other (Bk.other bT (by omega) 0 _) (by omega) 1 _)
    replace bP : Bk V1 (w2.heap.size) #[.slice a zs.length c, .slice b ys.length d] 51 := by rw [← hX]; exact (Bk.other (Bk.other bP (by omega) 0 _) (by omega) 1 _)
    replace bQ : Bk V1 (w2.heap.size + 1) #[.int .i64 p, .int .i64 q, .int .i64 t] 32 := by rw [← hX]; exact (Bk.other (Bk.other bQ (by omega) 0 _) (by omega) 1 _)
    replace bS : Bk V1 (w6.heap.size) #[.int .i64 K1, .bool dd, .int .i64 L1, .int .i64 U1] 61 := by rw [← hX]; exact (Bk.other (Bk.other bS (by omega) 0 _) (by omega) 1 _)
    replace bR : Bk V1 (w.heap.size) #[.slice a zs.length c, .slice b ys.length d] 51 := by rw [← hX]; exact (Bk.set (Bk.set bR 0 _ rfl) 1 _ rfl)
    clear hX
    replace HB := Lib.hid hb
    clear hb
    refine hK.out _ _ (HSp.out _ bP bQ bS) (fun _ => ?_)
    clear hK Kn
    have hS := HSp.out _ bP bQ bS
    refine wpAnyH_take (i := 5) (oi := { dst := some 3, op := Go.Op.assign (Go.Operand.tmp 59), type := 2, pos := "l07_rays.go:181", after := #[{ on := 1, ground := Go.Ground.data }, { on := 4, ground := Go.Ground.chain }, { on := 0, ground := Go.Ground.phase }, { on := 1, ground := Go.Ground.phase }, { on := 2, ground := Go.Ground.textOnly Go.Departure.lateStores }, { on := 3, ground := Go.Ground.textOnly Go.Departure.lateStores }, { on := 4, ground := Go.Ground.phase }], guard := none }) (v := ?_) rfl (by kernel_rfl) (by kernel_rfl) (by kernel_rfl) (fun _ _ _ h => h) (Or.inl ⟨by rfl, ?_⟩) hS ?_
    rotate_left
    · (intro w hSw; have hSw := (HSd.out w).1 hSw; go_split_ands; go_simp) <;> with_reducible rfl
    clear hS
    try simp only [Act.put, List.setIfInBounds_toArray, List.set_cons_zero, List.set_cons_succ]
    refine wpAnyH_ready (rs := [6]) (by kernel_rfl) (by simp) ?_
    refine AllReadyH.cons (o := { dst := none, op := Go.Op.store 32 (Go.Operand.tmp 4) (Go.Operand.tmp 60), type := 0, pos := "l07_rays.go:181", after := #[{ on := 2, ground := Go.Ground.data }, { on := 5, ground := Go.Ground.chain }, { on := 0, ground := Go.Ground.phase }, { on := 1, ground := Go.Ground.phase }, { on := 2, ground := Go.Ground.phase }, { on := 3, ground := Go.Ground.textOnly Go.Departure.lateStores }, { on := 4, ground := Go.Ground.phase }, { on := 5, ground := Go.Ground.phase }], guard := none }) rfl (fun Kn hK => ?_) AllReadyH.nil
    have bE_0 := bE.cell 0 rfl
    have bE_1 := bE.cell 1 rfl
    have bE_2 := bE.cell 2 rfl
    have bE_f0 := bE.frozen 0
    have bE_f1 := bE.frozen 1
    have bE_f2 := bE.frozen 2
    have bE_l := bE.lt
    go_simp
    clear bE_0 bE_f0 bE_1 bE_f1 bE_2 bE_f2 bE_l
    generalize hX : World.setCell _ _ _ = V2
    have hb : Below w.heap.size w V2 := by rw [← hX]; exact (((HB.out.setCell (p := ⟨w.heap.size + 1, 0, none⟩) (by first | omega | (dsimp only; omega)) _).setCell (p := ⟨w.heap.size + 1, 1, none⟩) (by first | omega | (dsimp only; omega)) _).setCell (p := ⟨w.heap.size + 1, 2, none⟩) (by first | omega | (dsimp only; omega)) _)
    replace HP : Hid (PrX V2 w2.heap.size w1.heap.size a b zs ys) := Lib.hid (by rw [← hX]; exact (PrX.lo (PrX.lo (PrX.lo HP.out (by omega) _) (by omega) _) (by omega) _))
    replace bR : Bk V2 (w.heap.size) #[.slice a zs.length c, .slice b ys.length d] 51 := by rw [← hX]; exact (Bk.other (Bk.other (Bk.other bR (by omega) 0 _) (by omega) 1 _) (by omega) 2 _)
    replace bT : Bk V2 (w.heap.size + 1 + 1) #[.int .i64 0, .bool false, .int .i64 0, .int .i64 0] 61 := by rw [← hX]; exact (Bk.other (Bk.other (Bk.other bT (by omega) 0 _) (by omega) 1 _) (by omega) 2 _)
    replace bP : Bk V2 (w2.heap.size) #[.slice a zs.length c, .slice b ys.length d] 51 := by rw [← hX]; exact (Bk.other (Bk.other (Bk.other bP (by omega) 0 _) (by omega) 1 _) (by omega) 2 _)
    replace bQ : Bk V2 (w2.heap.size + 1) #[.int .i64 p, .int .i64 q, .int .i64 t] 32 := by rw [← hX]; exact (Bk.other (Bk.other (Bk.other bQ (by omega) 0 _) (by omega) 1 _) (by omega) 2 _)
    replace bS : Bk V2 (w6.heap.size) #[.int .i64 K1, .bool dd, .int .i64 L1, .int .i64 U1] 61 := by rw [← hX]; exact (Bk.other (Bk.other (Bk.other bS (by omega) 0 _) (by omega) 1 _) (by omega) 2 _)
    replace bE : Bk V2 (w.heap.size + 1) #[.int .i64 p, .int .i64 q, .int .i64 t] 32 := by rw [← hX]; exact (Bk.set (Bk.set (Bk.set bE 0 _ rfl) 1 _ rfl) 2 _ rfl)
    clear hX
    replace HB := Lib.hid hb
    clear hb
    refine hK.out _ _ (HSp.out _ bP bQ bS) (fun _ => ?_)
    clear hK Kn
    refine wpAnyH_ready (rs := [7]) (by kernel_rfl) (by simp) ?_
    refine AllReadyH.cons (o := { dst := none, op := Go.Op.store 61 (Go.Operand.tmp 5) (Go.Operand.tmp 61), type := 0, pos := "l07_rays.go:181", after := #[{ on := 3, ground := Go.Ground.data }, { on := 6, ground := Go.Ground.chain }, { on := 0, ground := Go.Ground.phase }, { on := 1, ground := Go.Ground.phase }, { on := 2, ground := Go.Ground.phase }, { on := 3, ground := Go.Ground.phase }, { on := 4, ground := Go.Ground.phase }, { on := 5, ground := Go.Ground.phase }, { on := 6, ground := Go.Ground.phase }], guard := none }) rfl (fun Kn hK => ?_) AllReadyH.nil
    have bT_0 := bT.cell 0 rfl
    have bT_1 := bT.cell 1 rfl
    have bT_2 := bT.cell 2 rfl
    have bT_3 := bT.cell 3 rfl
    have bT_f0 := bT.frozen 0
    have bT_f1 := bT.frozen 1
    have bT_f2 := bT.frozen 2
    have bT_f3 := bT.frozen 3
    have bT_l := bT.lt
    go_simp
    clear bT_0 bT_f0 bT_1 bT_f1 bT_2 bT_f2 bT_3 bT_f3 bT_l
    generalize hX : World.setCell _ _ _ = V3
    have hb : Below w.heap.size w V3 := by rw [← hX]; exact ((((HB.out.setCell (p := ⟨w.heap.size + 1 + 1, 0, none⟩) (by first | omega | (dsimp only; omega)) _).setCell (p := ⟨w.heap.size + 1 + 1, 1, none⟩) (by first | omega | (dsimp only; omega)) _).setCell (p := ⟨w.heap.size + 1 + 1, 2, none⟩) (by first | omega | (dsimp only; omega)) _).setCell (p := ⟨w.heap.size + 1 + 1, 3, none⟩) (by first | omega | (dsimp only; omega)) _)
    replace HP : Hid (PrX V3 w2.heap.size w1.heap.size a b zs ys) := Lib.hid (by rw [← hX]; exact (PrX.lo (PrX.lo (PrX.lo (PrX.lo HP.out (by omega) _) (by omega) _) (by omega) _) (by omega) _))
    replace bR : Bk V3 (w.heap.size) #[.slice a zs.length c, .slice b ys.length d] 51 := by rw [← hX]; exact (Bk.other (Bk.other (Bk.other (Bk.other bR (by omega) 0 _) (by omega) 1 _) (by omega) 2 _) (by omega) 3 _)
    replace bE : Bk V3 (w.heap.size + 1) #[.int .i64 p, .int .i64 q, .int .i64 t] 32 := by rw [← hX]; exact (Bk.other (Bk.other (Bk.other (Bk.other bE (by omega) 0 _) (by omega) 1 _) (by omega) 2 _) (by omega) 3 _)
    replace bP : Bk V3 (w2.heap.size) #[.slice a zs.length c, .slice b ys.length d] 51 := by rw [← hX]; exact (Bk.other (Bk.other (Bk.other (Bk.other bP (by omega) 0 _) (by omega) 1 _) (by omega) 2 _) (by omega) 3 _)
    replace bQ : Bk V3 (w2.heap.size + 1) #[.int .i64 p, .int .i64 q, .int .i64 t] 32 := by rw [← hX]; exact (Bk.other (Bk.other (Bk.other (Bk.other bQ (by omega) 0 _) (by omega) 1 _) (by omega) 2 _) (by omega) 3 _)
    replace bS : Bk V3 (w6.heap.size) #[.int .i64 K1, .bool dd, .int .i64 L1, .int .i64 U1] 61 := by rw [← hX]; exact (Bk.other (Bk.other (Bk.other (Bk.other bS (by omega) 0 _) (by omega) 1 _) (by omega) 2 _) (by omega) 3 _)
    replace bT : Bk V3 (w.heap.size + 1 + 1) #[.int .i64 K1, .bool dd, .int .i64 L1, .int .i64 U1] 61 := by rw [← hX]; exact (Bk.set (Bk.set (Bk.set (Bk.set bT 0 _ rfl) 1 _ rfl) 2 _ rfl) 3 _ rfl)
    clear hX
    replace HB := Lib.hid hb
    clear hb
    refine hK.out _ _ (HSp.out _ bP bQ bS) (fun _ => ?_)
    clear hK Kn
    refine wpAnyH_done (by kernel_rfl) ?_ _
    have bR_0 := bR.cell 0 rfl
    have bR_1 := bR.cell 1 rfl
    have bE_0 := bE.cell 0 rfl
    have bE_1 := bE.cell 1 rfl
    have bE_2 := bE.cell 2 rfl
    have bT_0 := bT.cell 0 rfl
    have bT_1 := bT.cell 1 rfl
    have bT_2 := bT.cell 2 rfl
    have bT_3 := bT.cell 3 rfl
    have hfz := HB.out.size
    have hPz : w2.heap.size ≤ V3.heap.size := by have := bS.lt; omega
    go_wp2
    exact bodyPost_ret (v := .tuple #[.agg #[.slice a zs.length c, .slice b ys.length d], .int .i64 x, .agg #[.int .i64 p, .int .i64 q, .int .i64 t], .agg #[.int .i64 K1, .bool dd, .int .i64 L1, .int .i64 U1]]) (by simp [results, Try.results109, go_sem, bR_0, bR_1, bE_0, bE_1, bE_2, bT_0, bT_1, bT_2, bT_3]) rfl ⟨a, b, c, d, zs, ys, x, p, q, t, _, _, _, _, rfl, HP.out.wide hPz (by omega), HB.out⟩
  case neg =>
    have v0b : (v == 0) = false := by simpa using v0
    by_cases v1 : v = 1
    case pos =>
      subst v1
      go_wp2_with fail
      refine (pick3c _ _ w9.heap.size _ _ _ _ (HS.out.alloc _) (by omega) (heap_alloc_new w9 _)).mono ?_
      rintro e w10 ⟨U2, rfl, -, hs3, hg⟩
      replace bR := (bR.alloc _).kept hg (by simp; omega)
      replace bE := (bE.alloc _).kept hg (by simp; omega)
      replace bT := (bT.alloc _).kept hg (by simp; omega)
      replace bP := (bP.alloc _).kept hg (by simp; omega)
      replace bQ := (bQ.alloc _).kept hg (by simp; omega)
      replace bS := (bS.alloc _).kept hg (by simp; omega)
      have hgz6 : w9.heap.size ≤ w10.heap.size := Nat.le_trans (by simp) hg.size
      have hbA : Below w9.heap.size w9 (w9.alloc (.cells #[.int .i64 1000000000000, .int .i64 1000000000001, .int .i64 (-1)] 2)) := (Below.refl _ _).alloc (Nat.le_refl _) _
      replace HB := Lib.hid ((bel_end HB.out hbA).trans (below_of_grown hg (by omega) (by have := HB.out.size; simp; omega)))
      replace HP := Lib.hid ((HP.out.below (hbA.mono (by omega))).grown (by omega) hg)
      replace HS := Lib.hid hs3
      replace hls := HS.out.lt
      clear hg hs3 hbA
      have bS_0 := bS.cell 0 rfl
      have bS_1 := bS.cell 1 rfl
      have bS_2 := bS.cell 2 rfl
      have bS_3 := bS.cell 3 rfl
      have bS_f0 := bS.frozen 0
      have bS_f1 := bS.frozen 1
      have bS_f2 := bS.frozen 2
      have bS_f3 := bS.frozen 3
      have bS_l := bS.lt
      go_upto_region 11 with fail
      clear bS_0 bS_1 bS_2 bS_3 bS_f0 bS_f1 bS_f2 bS_f3 bS_l
      obtain ⟨WA, hW⟩ : ∃ W, W = (World.setCell w10 ⟨w6.heap.size, 3, none⟩ (.int .i64 U2)) := ⟨_, rfl⟩
      rw [← hW]
      replace bR : Bk WA (w.heap.size) #[.slice none 0 0, .slice none 0 0] 51 := by rw [hW]; exact (Bk.other bR (by omega) 3 _)
      replace bE : Bk WA (w.heap.size + 1) #[.int .i64 0, .int .i64 0, .int .i64 0] 32 := by rw [hW]; exact (Bk.other bE (by omega) 3 _)
      replace bT : Bk WA (w.heap.size + 1 + 1) #[.int .i64 0, .bool false, .int .i64 0, .int .i64 0] 61 := by rw [hW]; exact (Bk.other bT (by omega) 3 _)
      replace bP : Bk WA (w2.heap.size) #[.slice a zs.length c, .slice b ys.length d] 51 := by rw [hW]; exact (Bk.other bP (by omega) 3 _)
      replace bQ : Bk WA (w2.heap.size + 1) #[.int .i64 p, .int .i64 q, .int .i64 t] 32 := by rw [hW]; exact (Bk.other bQ (by omega) 3 _)
      replace bS : Bk WA w6.heap.size #[.int .i64 K0, .bool dd, .int .i64 L1, .int .i64 U2] 61 := by rw [hW]; exact (Bk.set bS 3 _ rfl)
      replace HB : Hid (Below w.heap.size w WA) := Lib.hid (by rw [hW]; exact (HB.out.setCell (p := ⟨w6.heap.size, 3, none⟩) (by dsimp only; omega) _))
      replace HP : Hid (PrX WA w2.heap.size w1.heap.size a b zs ys) := Lib.hid (by rw [hW]; exact (PrX.hi HP.out (by omega) _))
      replace HS : Hid (Src WA s) := Lib.hid (by rw [hW]; exact (Src.set_far HS.out (by dsimp only; omega) _))
      have hqsWA : WA.heap.size = w10.heap.size := by rw [hW]; simp [World.setCell]
      replace hls := HS.out.lt
      clear hW
      obtain ⟨S, hSd⟩ : ∃ S : World → Prop, ∀ w', S w' ↔ (w'.cell? ⟨w2.heap.size, 0, none⟩ = some (.slice a zs.length c) ∧ w'.cell? ⟨w2.heap.size, 1, none⟩ = some (.slice b ys.length d) ∧ w'.cell? ⟨w2.heap.size + 1, 0, none⟩ = some (.int .i64 p) ∧ w'.cell? ⟨w2.heap.size + 1, 1, none⟩ = some (.int .i64 q) ∧ w'.cell? ⟨w2.heap.size + 1, 2, none⟩ = some (.int .i64 t) ∧ w'.cell? ⟨w6.heap.size, 0, none⟩ = some (.int .i64 K0) ∧ w'.cell? ⟨w6.heap.size, 1, none⟩ = some (.bool dd) ∧ w'.cell? ⟨w6.heap.size, 2, none⟩ = some (.int .i64 L1) ∧ w'.cell? ⟨w6.heap.size, 3, none⟩ = some (.int .i64 U2)) := ⟨_, fun _ => Iff.rfl⟩
      have HSp : Hid (∀ w' : World, Bk w' (w2.heap.size) #[.slice a zs.length c, .slice b ys.length d] 51 → Bk w' (w2.heap.size + 1) #[.int .i64 p, .int .i64 q, .int .i64 t] 32 → Bk w' (w6.heap.size) #[.int .i64 K0, .bool dd, .int .i64 L1, .int .i64 U2] 61 → S w') := Lib.hid (fun w' bP bQ bS => (hSd w').2 ⟨bP.cell 0 rfl, bP.cell 1 rfl, bQ.cell 0 rfl, bQ.cell 1 rfl, bQ.cell 2 rfl, bS.cell 0 rfl, bS.cell 1 rfl, bS.cell 2 rfl, bS.cell 3 rfl⟩)
      have HSd := Lib.hid hSd
      clear hSd
      refine wp_region_held_drew (S := S) (by kernel_rfl) ?_ (fun hH => ?_)
      · exact (HSp.out _ bP bQ bS : S (World.drew WA))
      clear hH
      generalize hX : World.drew WA = V0
      replace bR : Bk V0 (w.heap.size) #[.slice none 0 0, .slice none 0 0] 51 := by rw [← hX]; exact bR
      replace bE : Bk V0 (w.heap.size + 1) #[.int .i64 0, .int .i64 0, .int .i64 0] 32 := by rw [← hX]; exact bE
      replace bT : Bk V0 (w.heap.size + 1 + 1) #[.int .i64 0, .bool false, .int .i64 0, .int .i64 0] 61 := by rw [← hX]; exact bT
      replace bP : Bk V0 (w2.heap.size) #[.slice a zs.length c, .slice b ys.length d] 51 := by rw [← hX]; exact bP
      replace bQ : Bk V0 (w2.heap.size + 1) #[.int .i64 p, .int .i64 q, .int .i64 t] 32 := by rw [← hX]; exact bQ
      replace bS : Bk V0 (w6.heap.size) #[.int .i64 K0, .bool dd, .int .i64 L1, .int .i64 U2] 61 := by rw [← hX]; exact bS
      have hb : Below WA.heap.size WA V0 := by rw [← hX]; exact (Below.refl _ _).drew
      clear hX
      replace HP := Lib.hid (HP.out.below (hb.mono (by omega)))
      replace HB := Lib.hid (bel_end HB.out hb)
      clear hb
      have hS := HSp.out _ bP bQ bS
      refine wpAnyH_take (i := 0) (oi := { dst := some 58, op := Go.Op.load 51 (Go.Operand.tmp 7), type := 51, pos := "l07_rays.go:181", after := #[], guard := none }) (v := ?_) rfl (by kernel_rfl) (by kernel_rfl) (by kernel_rfl) (fun _ _ _ h => h) (Or.inl ⟨by rfl, ?_⟩) hS ?_
      rotate_left
      · (intro w hSw; have hSw := (HSd.out w).1 hSw; go_split_ands; go_simp) <;> with_reducible rfl
      clear hS
      try simp only [Act.put, List.setIfInBounds_toArray, List.set_cons_zero, List.set_cons_succ]
      have hS := HSp.out _ bP bQ bS
      refine wpAnyH_take (i := 1) (oi := { dst := some 59, op := Go.Op.move (Go.Operand.tmp 8), type := 2, pos := "l07_rays.go:181", after := #[{ on := 4, ground := Go.Ground.gcOnly Go.Departure.lateStores }], guard := none }) (v := ?_) rfl (by kernel_rfl) (by kernel_rfl) (by kernel_rfl) (fun _ _ _ h => h) (Or.inl ⟨by rfl, ?_⟩) hS ?_
      rotate_left
      · (intro w hSw; have hSw := (HSd.out w).1 hSw; go_split_ands; go_simp) <;> with_reducible rfl
      clear hS
      try simp only [Act.put, List.setIfInBounds_toArray, List.set_cons_zero, List.set_cons_succ]
      have hS := HSp.out _ bP bQ bS
      refine wpAnyH_take (i := 2) (oi := { dst := some 60, op := Go.Op.load 32 (Go.Operand.tmp 9), type := 32, pos := "l07_rays.go:181", after := #[{ on := 5, ground := Go.Ground.gcOnly Go.Departure.lateStores }], guard := none }) (v := ?_) rfl (by kernel_rfl) (by kernel_rfl) (by kernel_rfl) (fun _ _ _ h => h) (Or.inl ⟨by rfl, ?_⟩) hS ?_
      rotate_left
      · (intro w hSw; have hSw := (HSd.out w).1 hSw; go_split_ands; go_simp) <;> with_reducible rfl
      clear hS
      try simp only [Act.put, List.setIfInBounds_toArray, List.set_cons_zero, List.set_cons_succ]
      have hS := HSp.out _ bP bQ bS
      refine wpAnyH_take (i := 3) (oi := { dst := some 61, op := Go.Op.load 61 (Go.Operand.tmp 11), type := 61, pos := "l07_rays.go:181", after := #[{ on := 6, ground := Go.Ground.gcOnly Go.Departure.lateStores }], guard := none }) (v := ?_) rfl (by kernel_rfl) (by kernel_rfl) (by kernel_rfl) (fun _ _ _ h => h) (Or.inl ⟨by rfl, ?_⟩) hS ?_
      rotate_left
      · (intro w hSw; have hSw := (HSd.out w).1 hSw; go_split_ands; go_simp) <;> with_reducible rfl
      clear hS
      try simp only [Act.put, List.setIfInBounds_toArray, List.set_cons_zero, List.set_cons_succ]
      refine wpAnyH_ready (rs := [4]) (by kernel_rfl) (by simp) ?_
      refine AllReadyH.cons (o := { dst := none, op := Go.Op.store 51 (Go.Operand.tmp 2) (Go.Operand.tmp 58), type := 0, pos := "l07_rays.go:181", after := #[{ on := 0, ground := Go.Ground.data }, { on := 0, ground := Go.Ground.phase }, { on := 1, ground := Go.Ground.textOnly Go.Departure.lateStores }, { on := 2, ground := Go.Ground.textOnly Go.Departure.lateStores }, { on := 3, ground := Go.Ground.textOnly Go.Departure.lateStores }], guard := none }) rfl (fun Kn hK => ?_) AllReadyH.nil
      have bR_0 := bR.cell 0 rfl
      have bR_1 := bR.cell 1 rfl
      have bR_f0 := bR.frozen 0
      have bR_f1 := bR.frozen 1
      have bR_l := bR.lt
      go_simp
      clear bR_0 bR_f0 bR_1 bR_f1 bR_l
      generalize hX : World.setCell _ _ _ = V1
      have hb : Below w.heap.size w V1 := by rw [← hX]; exact ((HB.out.setCell (p := ⟨w.heap.size, 0, none⟩) (by first | omega | (dsimp only; omega)) _).setCell (p := ⟨w.heap.size, 1, none⟩) (by first | omega | (dsimp only; omega)) _)
      replace HP : Hid (PrX V1 w2.heap.size w1.heap.size a b zs ys) := Lib.hid (by rw [← hX]; exact (PrX.lo (PrX.lo HP.out (by omega) _) (by omega) _))
      replace bE : Bk V1 (w.heap.size + 1) #[.int .i64 0, .int .i64 0, .int .i64 0] 32 := by rw [← hX]; exact (Bk.other (Bk.other bE (by omega) 0 _) (by omega) 1 _)
      replace bT : Bk V1 (w.heap.size + 1 + 1) #[.int .i64 0, .bool false, .int .i64 0, .int .i64 0] 61 := by rw [← hX]; exact (Bk.other (Bk.other bT (by omega) 0 _) (by omega) 1 _)
      replace bP : Bk V1 (w2.heap.size) #[.slice a zs.length c, .slice b ys.length d] 51 := by rw [← hX]; exact (Bk.other (Bk.other bP (by omega) 0 _) (by omega) 1 _)
      replace bQ : Bk V1 (w2.heap.size + 1) #[.int .i64 p, .int .i64 q, .int .i64 t] 32 := by rw [← hX]; exact (Bk.other (Bk.other bQ (by omega) 0 _) (by omega) 1 _)
      replace bS : Bk V1 (w6.heap.size) #[.int .i64 K0, .bool dd, .int .i64 L1, .int .i64 U2] 61 := by rw [← hX]; exact (Bk.other (Bk.other bS (by omega) 0 _) (by omega) 1 _)
      replace bR : Bk V1 (w.heap.size) #[.slice a zs.length c, .slice b ys.length d] 51 := by rw [← hX]; exact (Bk.set (Bk.set bR 0 _ rfl) 1 _ rfl)
      clear hX
      replace HB := Lib.hid hb
      clear hb
      refine hK.out _ _ (HSp.out _ bP bQ bS) (fun _ => ?_)
      clear hK Kn
      have hS := HSp.out _ bP bQ bS
      refine wpAnyH_take (i := 5) (oi := { dst := some 3, op := Go.Op.assign (Go.Operand.tmp 59), type := 2, pos := "l07_rays.go:181", after := #[{ on := 1, ground := Go.Ground.data }, { on := 4, ground := Go.Ground.chain }, { on := 0, ground := Go.Ground.phase }, { on := 1, ground := Go.Ground.phase }, { on := 2, ground := Go.Ground.textOnly Go.Departure.lateStores }, { on := 3, ground := Go.Ground.textOnly Go.Departure.lateStores }, { on := 4, ground := Go.Ground.phase }], guard := none }) (v := ?_) rfl (by kernel_rfl) (by kernel_rfl) (by kernel_rfl) (fun _ _ _ h => h) (Or.inl ⟨by rfl, ?_⟩) hS ?_
      rotate_left
      · (intro w hSw; have hSw := (HSd.out w).1 hSw; go_split_ands; go_simp) <;> with_reducible rfl
      clear hS
      try simp only [Act.put, List.setIfInBounds_toArray, List.set_cons_zero, List.set_cons_succ]
      refine wpAnyH_ready (rs := [6]) (by kernel_rfl) (by simp) ?_
      refine AllReadyH.cons (o := { dst := none, op := Go.Op.store 32 (Go.Operand.tmp 4) (Go.Operand.tmp 60), type := 0, pos := "l07_rays.go:181", after := #[{ on := 2, ground := Go.Ground.data }, { on := 5, ground := Go.Ground.chain }, { on := 0, ground := Go.Ground.phase }, { on := 1, ground := Go.Ground.phase }, { on := 2, ground := Go.Ground.phase }, { on := 3, ground := Go.Ground.textOnly Go.Departure.lateStores }, { on := 4, ground := Go.Ground.phase }, { on := 5, ground := Go.Ground.phase }], guard := none }) rfl (fun Kn hK => ?_) AllReadyH.nil
      have bE_0 := bE.cell 0 rfl
      have bE_1 := bE.cell 1 rfl
      have bE_2 := bE.cell 2 rfl
      have bE_f0 := bE.frozen 0
      have bE_f1 := bE.frozen 1
      have bE_f2 := bE.frozen 2
      have bE_l := bE.lt
      go_simp
      clear bE_0 bE_f0 bE_1 bE_f1 bE_2 bE_f2 bE_l
      generalize hX : World.setCell _ _ _ = V2
      have hb : Below w.heap.size w V2 := by rw [← hX]; exact (((HB.out.setCell (p := ⟨w.heap.size + 1, 0, none⟩) (by first | omega | (dsimp only; omega)) _).setCell (p := ⟨w.heap.size + 1, 1, none⟩) (by first | omega | (dsimp only; omega)) _).setCell (p := ⟨w.heap.size + 1, 2, none⟩) (by first | omega | (dsimp only; omega)) _)
      replace HP : Hid (PrX V2 w2.heap.size w1.heap.size a b zs ys) := Lib.hid (by rw [← hX]; exact (PrX.lo (PrX.lo (PrX.lo HP.out (by omega) _) (by omega) _) (by omega) _))
      replace bR : Bk V2 (w.heap.size) #[.slice a zs.length c, .slice b ys.length d] 51 := by rw [← hX]; exact (Bk.other (Bk.other (Bk.other bR (by omega) 0 _) (by omega) 1 _) (by omega) 2 _)
      replace bT : Bk V2 (w.heap.size + 1 + 1) #[.int .i64 0, .bool false, .int .i64 0, .int .i64 0] 61 := by rw [← hX]; exact (Bk.other (Bk.other (Bk.other bT (by omega) 0 _) (by omega) 1 _) (by omega) 2 _)
      replace bP : Bk V2 (w2.heap.size) #[.slice a zs.length c, .slice b ys.length d] 51 := by rw [← hX]; exact (Bk.other (Bk.other (Bk.other bP (by omega) 0 _) (by omega) 1 _) (by omega) 2 _)
      replace bQ : Bk V2 (w2.heap.size + 1) #[.int .i64 p, .int .i64 q, .int .i64 t] 32 := by rw [← hX]; exact (Bk.other (Bk.other (Bk.other bQ (by omega) 0 _) (by omega) 1 _) (by omega) 2 _)
      replace bS : Bk V2 (w6.heap.size) #[.int .i64 K0, .bool dd, .int .i64 L1, .int .i64 U2] 61 := by rw [← hX]; exact (Bk.other (Bk.other (Bk.other bS (by omega) 0 _) (by omega) 1 _) (by omega) 2 _)
      replace bE : Bk V2 (w.heap.size + 1) #[.int .i64 p, .int .i64 q, .int .i64 t] 32 := by rw [← hX]; exact (Bk.set (Bk.set (Bk.set bE 0 _ rfl) 1 _ rfl) 2 _ rfl)
      clear hX
      replace HB := Lib.hid hb
      clear hb
      refine hK.out _ _ (HSp.out _ bP bQ bS) (fun _ => ?_)
      clear hK Kn
      refine wpAnyH_ready (rs := [7]) (by kernel_rfl) (by simp) ?_
      refine AllReadyH.cons (o := { dst := none, op := Go.Op.store 61 (Go.Operand.tmp 5) (Go.Operand.tmp 61), type := 0, pos := "l07_rays.go:181", after := #[{ on := 3, ground := Go.Ground.data }, { on := 6, ground := Go.Ground.chain }, { on := 0, ground := Go.Ground.phase }, { on := 1, ground := Go.Ground.phase }, { on := 2, ground := Go.Ground.phase }, { on := 3, ground := Go.Ground.phase }, { on := 4, ground := Go.Ground.phase }, { on := 5, ground := Go.Ground.phase }, { on := 6, ground := Go.Ground.phase }], guard := none }) rfl (fun Kn hK => ?_) AllReadyH.nil
      have bT_0 := bT.cell 0 rfl
      have bT_1 := bT.cell 1 rfl
      have bT_2 := bT.cell 2 rfl
      have bT_3 := bT.cell 3 rfl
      have bT_f0 := bT.frozen 0
      have bT_f1 := bT.frozen 1
      have bT_f2 := bT.frozen 2
      have bT_f3 := bT.frozen 3
      have bT_l := bT.lt
      go_simp
      clear bT_0 bT_f0 bT_1 bT_f1 bT_2 bT_f2 bT_3 bT_f3 bT_l
      generalize hX : World.setCell _ _ _ = V3
      have hb : Below w.heap.size w V3 := by rw [← hX]; exact ((((HB.out.setCell (p := ⟨w.heap.size + 1 + 1, 0, none⟩) (by first | omega | (dsimp only; omega)) _).setCell (p := ⟨w.heap.size + 1 + 1, 1, none⟩) (by first | omega | (dsimp only; omega)) _).setCell (p := ⟨w.heap.size + 1 + 1, 2, none⟩) (by first | omega | (dsimp only; omega)) _).setCell (p := ⟨w.heap.size + 1 + 1, 3, none⟩) (by first | omega | (dsimp only; omega)) _)
      replace HP : Hid (PrX V3 w2.heap.size w1.heap.size a b zs ys) := Lib.hid (by rw [← hX]; exact (PrX.lo (PrX.lo (PrX.lo (PrX.lo HP.out (by omega) _) (by omega) _) (by omega) _) (by omega) _))
      replace bR : Bk V3 (w.heap.size) #[.slice a zs.length c, .slice b ys.length d] 51 := by rw [← hX]; exact (Bk.other (Bk.other (Bk.other (Bk.other bR (by omega) 0 _) (by omega) 1 _) (by omega) 2 _) (by omega) 3 _)
      replace bE : Bk V3 (w.heap.size + 1) #[.int .i64 p, .int .i64 q, .int .i64 t] 32 := by rw [← hX]; exact (Bk.other (Bk.other (Bk.other (Bk.other bE (by omega) 0 _) (by omega) 1 _) (by omega) 2 _) (by omega) 3 _)
      replace bP : Bk V3 (w2.heap.size) #[.slice a zs.length c, .slice b ys.length d] 51 := by rw [← hX]; exact (Bk.other (Bk.other (Bk.other (Bk.other bP (by omega) 0 _) (by omega) 1 _) (by omega) 2 _) (by omega) 3 _)
      replace bQ : Bk V3 (w2.heap.size + 1) #[.int .i64 p, .int .i64 q, .int .i64 t] 32 := by rw [← hX]; exact (Bk.other (Bk.other (Bk.other (Bk.other bQ (by omega) 0 _) (by omega) 1 _) (by omega) 2 _) (by omega) 3 _)
      replace bS : Bk V3 (w6.heap.size) #[.int .i64 K0, .bool dd, .int .i64 L1, .int .i64 U2] 61 := by rw [← hX]; exact (Bk.other (Bk.other (Bk.other (Bk.other bS (by omega) 0 _) (by omega) 1 _) (by omega) 2 _) (by omega) 3 _)
      replace bT : Bk V3 (w.heap.size + 1 + 1) #[.int .i64 K0, .bool dd, .int .i64 L1, .int .i64 U2] 61 := by rw [← hX]; exact (Bk.set (Bk.set (Bk.set (Bk.set bT 0 _ rfl) 1 _ rfl) 2 _ rfl) 3 _ rfl)
      clear hX
      replace HB := Lib.hid hb
      clear hb
      refine hK.out _ _ (HSp.out _ bP bQ bS) (fun _ => ?_)
      clear hK Kn
      refine wpAnyH_done (by kernel_rfl) ?_ _
      have bR_0 := bR.cell 0 rfl
      have bR_1 := bR.cell 1 rfl
      have bE_0 := bE.cell 0 rfl
      have bE_1 := bE.cell 1 rfl
      have bE_2 := bE.cell 2 rfl
      have bT_0 := bT.cell 0 rfl
      have bT_1 := bT.cell 1 rfl
      have bT_2 := bT.cell 2 rfl
      have bT_3 := bT.cell 3 rfl
      have hfz := HB.out.size
      have hPz : w2.heap.size ≤ V3.heap.size := by have := bS.lt; omega
      go_wp2
      exact bodyPost_ret (v := .tuple #[.agg #[.slice a zs.length c, .slice b ys.length d], .int .i64 x, .agg #[.int .i64 p, .int .i64 q, .int .i64 t], .agg #[.int .i64 K0, .bool dd, .int .i64 L1, .int .i64 U2]]) (by simp [results, Try.results109, go_sem, bR_0, bR_1, bE_0, bE_1, bE_2, bT_0, bT_1, bT_2, bT_3]) rfl ⟨a, b, c, d, zs, ys, x, p, q, t, _, _, _, _, rfl, HP.out.wide hPz (by omega), HB.out⟩
    case neg =>
      have v1b : (v == 1) = false := by simpa using v1
      go_upto_region 11 with fail
      obtain ⟨S, hSd⟩ : ∃ S : World → Prop, ∀ w', S w' ↔ (w'.cell? ⟨w2.heap.size, 0, none⟩ = some (.slice a zs.length c) ∧ w'.cell? ⟨w2.heap.size, 1, none⟩ = some (.slice b ys.length d) ∧ w'.cell? ⟨w2.heap.size + 1, 0, none⟩ = some (.int .i64 p) ∧ w'.cell? ⟨w2.heap.size + 1, 1, none⟩ = some (.int .i64 q) ∧ w'.cell? ⟨w2.heap.size + 1, 2, none⟩ = some (.int .i64 t) ∧ w'.cell? ⟨w6.heap.size, 0, none⟩ = some (.int .i64 K0) ∧ w'.cell? ⟨w6.heap.size, 1, none⟩ = some (.bool dd) ∧ w'.cell? ⟨w6.heap.size, 2, none⟩ = some (.int .i64 L1) ∧ w'.cell? ⟨w6.heap.size, 3, none⟩ = some (.int .i64 U1)) := ⟨_, fun _ => Iff.rfl⟩
      have HSp : Hid (∀ w' : World, Bk w' (w2.heap.size) #[.slice a zs.length c, .slice b ys.length d] 51 → Bk w' (w2.heap.size + 1) #[.int .i64 p, .int .i64 q, .int .i64 t] 32 → Bk w' (w6.heap.size) #[.int .i64 K0, .bool dd, .int .i64 L1, .int .i64 U1] 61 → S w') := Lib.hid (fun w' bP bQ bS => (hSd w').2 ⟨bP.cell 0 rfl, bP.cell 1 rfl, bQ.cell 0 rfl, bQ.cell 1 rfl, bQ.cell 2 rfl, bS.cell 0 rfl, bS.cell 1 rfl, bS.cell 2 rfl, bS.cell 3 rfl⟩)
      have HSd := Lib.hid hSd
      clear hSd
      refine wp_region_held_drew (S := S) (by kernel_rfl) ?_ (fun hH => ?_)
      · exact (HSp.out _ bP bQ bS : S (World.drew w9))
      clear hH
      generalize hX : World.drew w9 = V0
      replace bR : Bk V0 (w.heap.size) #[.slice none 0 0, .slice none 0 0] 51 := by rw [← hX]; exact bR
      replace bE : Bk V0 (w.heap.size + 1) #[.int .i64 0, .int .i64 0, .int .i64 0] 32 := by rw [← hX]; exact bE
      replace bT : Bk V0 (w.heap.size + 1 + 1) #[.int .i64 0, .bool false, .int .i64 0, .int .i64 0] 61 := by rw [← hX]; exact bT
      replace bP : Bk V0 (w2.heap.size) #[.slice a zs.length c, .slice b ys.length d] 51 := by rw [← hX]; exact bP
      replace bQ : Bk V0 (w2.heap.size + 1) #[.int .i64 p, .int .i64 q, .int .i64 t] 32 := by rw [← hX]; exact bQ
      replace bS : Bk V0 (w6.heap.size) #[.int .i64 K0, .bool dd, .int .i64 L1, .int .i64 U1] 61 := by rw [← hX]; exact bS
      have hb : Below w9.heap.size w9 V0 := by rw [← hX]; exact (Below.refl _ _).drew
      clear hX
      replace HP := Lib.hid (HP.out.below (hb.mono (by omega)))
      replace HB := Lib.hid (bel_end HB.out hb)
      clear hb
      have hS := HSp.out _ bP bQ bS
      refine wpAnyH_take (i := 0) (oi := { dst := some 58, op := Go.Op.load 51 (Go.Operand.tmp 7), type := 51, pos := "l07_rays.go:181", after := #[], guard := none }) (v := ?_) rfl (by kernel_rfl) (by kernel_rfl) (by kernel_rfl) (fun _ _ _ h => h) (Or.inl ⟨by rfl, ?_⟩) hS ?_
      rotate_left
      · (intro w hSw; have hSw := (HSd.out w).1 hSw; go_split_ands; go_simp) <;> with_reducible rfl
      clear hS
      try simp only [Act.put, List.setIfInBounds_toArray, List.set_cons_zero, List.set_cons_succ]
      have hS := HSp.out _ bP bQ bS
      refine wpAnyH_take (i := 1) (oi := { dst := some 59, op := Go.Op.move (Go.Operand.tmp 8), type := 2, pos := "l07_rays.go:181", after := #[{ on := 4, ground := Go.Ground.gcOnly Go.Departure.lateStores }], guard := none }) (v := ?_) rfl (by kernel_rfl) (by kernel_rfl) (by kernel_rfl) (fun _ _ _ h => h) (Or.inl ⟨by rfl, ?_⟩) hS ?_
      rotate_left
      · (intro w hSw; have hSw := (HSd.out w).1 hSw; go_split_ands; go_simp) <;> with_reducible rfl
      clear hS
      try simp only [Act.put, List.setIfInBounds_toArray, List.set_cons_zero, List.set_cons_succ]
      have hS := HSp.out _ bP bQ bS
      refine wpAnyH_take (i := 2) (oi := { dst := some 60, op := Go.Op.load 32 (Go.Operand.tmp 9), type := 32, pos := "l07_rays.go:181", after := #[{ on := 5, ground := Go.Ground.gcOnly Go.Departure.lateStores }], guard := none }) (v := ?_) rfl (by kernel_rfl) (by kernel_rfl) (by kernel_rfl) (fun _ _ _ h => h) (Or.inl ⟨by rfl, ?_⟩) hS ?_
      rotate_left
      · (intro w hSw; have hSw := (HSd.out w).1 hSw; go_split_ands; go_simp) <;> with_reducible rfl
      clear hS
      try simp only [Act.put, List.setIfInBounds_toArray, List.set_cons_zero, List.set_cons_succ]
      have hS := HSp.out _ bP bQ bS
      refine wpAnyH_take (i := 3) (oi := { dst := some 61, op := Go.Op.load 61 (Go.Operand.tmp 11), type := 61, pos := "l07_rays.go:181", after := #[{ on := 6, ground := Go.Ground.gcOnly Go.Departure.lateStores }], guard := none }) (v := ?_) rfl (by kernel_rfl) (by kernel_rfl) (by kernel_rfl) (fun _ _ _ h => h) (Or.inl ⟨by rfl, ?_⟩) hS ?_
      rotate_left
      · (intro w hSw; have hSw := (HSd.out w).1 hSw; go_split_ands; go_simp) <;> with_reducible rfl
      clear hS
      try simp only [Act.put, List.setIfInBounds_toArray, List.set_cons_zero, List.set_cons_succ]
      refine wpAnyH_ready (rs := [4]) (by kernel_rfl) (by simp) ?_
      refine AllReadyH.cons (o := { dst := none, op := Go.Op.store 51 (Go.Operand.tmp 2) (Go.Operand.tmp 58), type := 0, pos := "l07_rays.go:181", after := #[{ on := 0, ground := Go.Ground.data }, { on := 0, ground := Go.Ground.phase }, { on := 1, ground := Go.Ground.textOnly Go.Departure.lateStores }, { on := 2, ground := Go.Ground.textOnly Go.Departure.lateStores }, { on := 3, ground := Go.Ground.textOnly Go.Departure.lateStores }], guard := none }) rfl (fun Kn hK => ?_) AllReadyH.nil
      have bR_0 := bR.cell 0 rfl
      have bR_1 := bR.cell 1 rfl
      have bR_f0 := bR.frozen 0
      have bR_f1 := bR.frozen 1
      have bR_l := bR.lt
      go_simp
      clear bR_0 bR_f0 bR_1 bR_f1 bR_l
      generalize hX : World.setCell _ _ _ = V1
      have hb : Below w.heap.size w V1 := by rw [← hX]; exact ((HB.out.setCell (p := ⟨w.heap.size, 0, none⟩) (by first | omega | (dsimp only; omega)) _).setCell (p := ⟨w.heap.size, 1, none⟩) (by first | omega | (dsimp only; omega)) _)
      replace HP : Hid (PrX V1 w2.heap.size w1.heap.size a b zs ys) := Lib.hid (by rw [← hX]; exact (PrX.lo (PrX.lo HP.out (by omega) _) (by omega) _))
      replace bE : Bk V1 (w.heap.size + 1) #[.int .i64 0, .int .i64 0, .int .i64 0] 32 := by rw [← hX]; exact (Bk.other (Bk.other bE (by omega) 0 _) (by omega) 1 _)
      replace bT : Bk V1 (w.heap.size + 1 + 1) #[.int .i64 0, .bool false, .int .i64 0, .int .i64 0] 61 := by rw [← hX]; exact (Bk.other (Bk.other bT (by omega) 0 _) (by omega) 1 _)
      replace bP : Bk V1 (w2.heap.size) #[.slice a zs.length c, .slice b ys.length d] 51 := by rw [← hX]; exact (Bk.other (Bk.other bP (by omega) 0 _) (by omega) 1 _)
      replace bQ : Bk V1 (w2.heap.size + 1) #[.int .i64 p, .int .i64 q, .int .i64 t] 32 := by rw [← hX]; exact (Bk.other (Bk.other bQ (by omega) 0 _) (by omega) 1 _)
      replace bS : Bk V1 (w6.heap.size) #[.int .i64 K0, .bool dd, .int .i64 L1, .int .i64 U1] 61 := by rw [← hX]; exact (Bk.other (Bk.other bS (by omega) 0 _) (by omega) 1 _)
      replace bR : Bk V1 (w.heap.size) #[.slice a zs.length c, .slice b ys.length d] 51 := by rw [← hX]; exact (Bk.set (Bk.set bR 0 _ rfl) 1 _ rfl)
      clear hX
      replace HB := Lib.hid hb
      clear hb
      refine hK.out _ _ (HSp.out _ bP bQ bS) (fun _ => ?_)
      clear hK Kn
      have hS := HSp.out _ bP bQ bS
      refine wpAnyH_take (i := 5) (oi := { dst := some 3, op := Go.Op.assign (Go.Operand.tmp 59), type := 2, pos := "l07_rays.go:181", after := #[{ on := 1, ground := Go.Ground.data }, { on := 4, ground := Go.Ground.chain }, { on := 0, ground := Go.Ground.phase }, { on := 1, ground := Go.Ground.phase }, { on := 2, ground := Go.Ground.textOnly Go.Departure.lateStores }, { on := 3, ground := Go.Ground.textOnly Go.Departure.lateStores }, { on := 4, ground := Go.Ground.phase }], guard := none }) (v := ?_) rfl (by kernel_rfl) (by kernel_rfl) (by kernel_rfl) (fun _ _ _ h => h) (Or.inl ⟨by rfl, ?_⟩) hS ?_
      rotate_left
      · (intro w hSw; have hSw := (HSd.out w).1 hSw; go_split_ands; go_simp) <;> with_reducible rfl
      clear hS
      try simp only [Act.put, List.setIfInBounds_toArray, List.set_cons_zero, List.set_cons_succ]
      refine wpAnyH_ready (rs := [6]) (by kernel_rfl) (by simp) ?_
      refine AllReadyH.cons (o := { dst := none, op := Go.Op.store 32 (Go.Operand.tmp 4) (Go.Operand.tmp 60), type := 0, pos := "l07_rays.go:181", after := #[{ on := 2, ground := Go.Ground.data }, { on := 5, ground := Go.Ground.chain }, { on := 0, ground := Go.Ground.phase }, { on := 1, ground := Go.Ground.phase }, { on := 2, ground := Go.Ground.phase }, { on := 3, ground := Go.Ground.textOnly Go.Departure.lateStores }, { on := 4, ground := Go.Ground.phase }, { on := 5, ground := Go.Ground.phase }], guard := none }) rfl (fun Kn hK => ?_) AllReadyH.nil
      have bE_0 := bE.cell 0 rfl
      have bE_1 := bE.cell 1 rfl
      have bE_2 := bE.cell 2 rfl
      have bE_f0 := bE.frozen 0
      have bE_f1 := bE.frozen 1
      have bE_f2 := bE.frozen 2
      have bE_l := bE.lt
      go_simp
      clear bE_0 bE_f0 bE_1 bE_f1 bE_2 bE_f2 bE_l
      generalize hX : World.setCell _ _ _ = V2
      have hb : Below w.heap.size w V2 := by rw [← hX]; exact (((HB.out.setCell (p := ⟨w.heap.size + 1, 0, none⟩) (by first | omega | (dsimp only; omega)) _).setCell (p := ⟨w.heap.size + 1, 1, none⟩) (by first | omega | (dsimp only; omega)) _).setCell (p := ⟨w.heap.size + 1, 2, none⟩) (by first | omega | (dsimp only; omega)) _)
      replace HP : Hid (PrX V2 w2.heap.size w1.heap.size a b zs ys) := Lib.hid (by rw [← hX]; exact (PrX.lo (PrX.lo (PrX.lo HP.out (by omega) _) (by omega) _) (by omega) _))
      replace bR : Bk V2 (w.heap.size) #[.slice a zs.length c, .slice b ys.length d] 51 := by rw [← hX]; exact (Bk.other (Bk.other (Bk.other bR (by omega) 0 _) (by omega) 1 _) (by omega) 2 _)
      replace bT : Bk V2 (w.heap.size + 1 + 1) #[.int .i64 0, .bool false, .int .i64 0, .int .i64 0] 61 := by rw [← hX]; exact (Bk.other (Bk.other (Bk.other bT (by omega) 0 _) (by omega) 1 _) (by omega) 2 _)
      replace bP : Bk V2 (w2.heap.size) #[.slice a zs.length c, .slice b ys.length d] 51 := by rw [← hX]; exact (Bk.other (Bk.other (Bk.other bP (by omega) 0 _) (by omega) 1 _) (by omega) 2 _)
      replace bQ : Bk V2 (w2.heap.size + 1) #[.int .i64 p, .int .i64 q, .int .i64 t] 32 := by rw [← hX]; exact (Bk.other (Bk.other (Bk.other bQ (by omega) 0 _) (by omega) 1 _) (by omega) 2 _)
      replace bS : Bk V2 (w6.heap.size) #[.int .i64 K0, .bool dd, .int .i64 L1, .int .i64 U1] 61 := by rw [← hX]; exact (Bk.other (Bk.other (Bk.other bS (by omega) 0 _) (by omega) 1 _) (by omega) 2 _)
      replace bE : Bk V2 (w.heap.size + 1) #[.int .i64 p, .int .i64 q, .int .i64 t] 32 := by rw [← hX]; exact (Bk.set (Bk.set (Bk.set bE 0 _ rfl) 1 _ rfl) 2 _ rfl)
      clear hX
      replace HB := Lib.hid hb
      clear hb
      refine hK.out _ _ (HSp.out _ bP bQ bS) (fun _ => ?_)
      clear hK Kn
      refine wpAnyH_ready (rs := [7]) (by kernel_rfl) (by simp) ?_
      refine AllReadyH.cons (o := { dst := none, op := Go.Op.store 61 (Go.Operand.tmp 5) (Go.Operand.tmp 61), type := 0, pos := "l07_rays.go:181", after := #[{ on := 3, ground := Go.Ground.data }, { on := 6, ground := Go.Ground.chain }, { on := 0, ground := Go.Ground.phase }, { on := 1, ground := Go.Ground.phase }, { on := 2, ground := Go.Ground.phase }, { on := 3, ground := Go.Ground.phase }, { on := 4, ground := Go.Ground.phase }, { on := 5, ground := Go.Ground.phase }, { on := 6, ground := Go.Ground.phase }], guard := none }) rfl (fun Kn hK => ?_) AllReadyH.nil
      have bT_0 := bT.cell 0 rfl
      have bT_1 := bT.cell 1 rfl
      have bT_2 := bT.cell 2 rfl
      have bT_3 := bT.cell 3 rfl
      have bT_f0 := bT.frozen 0
      have bT_f1 := bT.frozen 1
      have bT_f2 := bT.frozen 2
      have bT_f3 := bT.frozen 3
      have bT_l := bT.lt
      go_simp
      clear bT_0 bT_f0 bT_1 bT_f1 bT_2 bT_f2 bT_3 bT_f3 bT_l
      generalize hX : World.setCell _ _ _ = V3
      have hb : Below w.heap.size w V3 := by rw [← hX]; exact ((((HB.out.setCell (p := ⟨w.heap.size + 1 + 1, 0, none⟩) (by first | omega | (dsimp only; omega)) _).setCell (p := ⟨w.heap.size + 1 + 1, 1, none⟩) (by first | omega | (dsimp only; omega)) _).setCell (p := ⟨w.heap.size + 1 + 1, 2, none⟩) (by first | omega | (dsimp only; omega)) _).setCell (p := ⟨w.heap.size + 1 + 1, 3, none⟩) (by first | omega | (dsimp only; omega)) _)
      replace HP : Hid (PrX V3 w2.heap.size w1.heap.size a b zs ys) := Lib.hid (by rw [← hX]; exact (PrX.lo (PrX.lo (PrX.lo (PrX.lo HP.out (by omega) _) (by omega) _) (by omega) _) (by omega) _))
      replace bR : Bk V3 (w.heap.size) #[.slice a zs.length c, .slice b ys.length d] 51 := by rw [← hX]; exact (Bk.other (Bk.other (Bk.other (Bk.other bR (by omega) 0 _) (by omega) 1 _) (by omega) 2 _) (by omega) 3 _)
      replace bE : Bk V3 (w.heap.size + 1) #[.int .i64 p, .int .i64 q, .int .i64 t] 32 := by rw [← hX]; exact (Bk.other (Bk.other (Bk.other (Bk.other bE (by omega) 0 _) (by omega) 1 _) (by omega) 2 _) (by omega) 3 _)
      replace bP : Bk V3 (w2.heap.size) #[.slice a zs.length c, .slice b ys.length d] 51 := by rw [← hX]; exact (Bk.other (Bk.other (Bk.other (Bk.other bP (by omega) 0 _) (by omega) 1 _) (by omega) 2 _) (by omega) 3 _)
      replace bQ : Bk V3 (w2.heap.size + 1) #[.int .i64 p, .int .i64 q, .int .i64 t] 32 := by rw [← hX]; exact (Bk.other (Bk.other (Bk.other (Bk.other bQ (by omega) 0 _) (by omega) 1 _) (by omega) 2 _) (by omega) 3 _)
      replace bS : Bk V3 (w6.heap.size) #[.int .i64 K0, .bool dd, .int .i64 L1, .int .i64 U1] 61 := by rw [← hX]; exact (Bk.other (Bk.other (Bk.other (Bk.other bS (by omega) 0 _) (by omega) 1 _) (by omega) 2 _) (by omega) 3 _)
      replace bT : Bk V3 (w.heap.size + 1 + 1) #[.int .i64 K0, .bool dd, .int .i64 L1, .int .i64 U1] 61 := by rw [← hX]; exact (Bk.set (Bk.set (Bk.set (Bk.set bT 0 _ rfl) 1 _ rfl) 2 _ rfl) 3 _ rfl)
      clear hX
      replace HB := Lib.hid hb
      clear hb
      refine hK.out _ _ (HSp.out _ bP bQ bS) (fun _ => ?_)
      clear hK Kn
      refine wpAnyH_done (by kernel_rfl) ?_ _
      have bR_0 := bR.cell 0 rfl
      have bR_1 := bR.cell 1 rfl
      have bE_0 := bE.cell 0 rfl
      have bE_1 := bE.cell 1 rfl
      have bE_2 := bE.cell 2 rfl
      have bT_0 := bT.cell 0 rfl
      have bT_1 := bT.cell 1 rfl
      have bT_2 := bT.cell 2 rfl
      have bT_3 := bT.cell 3 rfl
      have hfz := HB.out.size
      have hPz : w2.heap.size ≤ V3.heap.size := by have := bS.lt; omega
      go_wp2
      exact bodyPost_ret (v := .tuple #[.agg #[.slice a zs.length c, .slice b ys.length d], .int .i64 x, .agg #[.int .i64 p, .int .i64 q, .int .i64 t], .agg #[.int .i64 K0, .bool dd, .int .i64 L1, .int .i64 U1]]) (by simp [results, Try.results109, go_sem, bR_0, bR_1, bE_0, bE_1, bE_2, bT_0, bT_1, bT_2, bT_3]) rfl ⟨a, b, c, d, zs, ys, x, p, q, t, _, _, _, _, rfl, HP.out.wide hPz (by omega), HB.out⟩

set_option maxRecDepth 100000 in
set_option maxHeartbeats 4000000 in
theorem dsr_any (w : World) (a0 : Option Addr) (cap : Nat) (cs : List Int) (h : Code8 w w.heap.size a0 cs) :
    Calls Try.prog 50 #[.slice a0 cs.length cap] w (RsB w) := by
  have HC := Lib.hid h
  clear h
  go_enter Try.func50, Try.ntmps50
  go_wp2_with fail
  generalize hW : World.alloc _ _ = W
  have bR : Bk W (w.heap.size) #[.slice none 0 0, .slice none 0 0] 51 := by rw [← hW]; repeat (first | (refine Bk.new' ?_; (simp; done)) | refine Bk.alloc ?_ _)
  have bE : Bk W (w.heap.size + 1) #[.int .i64 0, .int .i64 0, .int .i64 0] 32 := by rw [← hW]; repeat (first | (refine Bk.new' ?_; (simp; done)) | refine Bk.alloc ?_ _)
  have bT : Bk W (w.heap.size + 1 + 1) #[.int .i64 0, .bool false, .int .i64 0, .int .i64 0] 61 := by rw [← hW]; repeat (first | (refine Bk.new' ?_; (simp; done)) | refine Bk.alloc ?_ _)
  have hb0 : Below w.heap.size w W := by rw [← hW]; exact (by repeat (first | exact Below.refl _ _ | (refine Below.alloc ?_ (by simp <;> omega) _) | (refine Below.setCell ?_ (by simp <;> omega) _) | (refine Below.drew ?_) | (refine bel_drewN ?_ _)))
  clear hW
  have hlT := bT.lt
  refine (dis_any _ _ _ cs ((HC.out.below hb0 (Nat.le_refl _)).more hb0.size)).mono ?_
  rintro e w1 ⟨a, b, c, d, zs, ys, x, p, q, t, K, dn, lo, hi, rfl, hp, hb⟩
  replace bR := bR.on hb
  replace bE := bE.on hb
  replace bT := bT.on hb
  have HB := Lib.hid (bel_end hb0 hb)
  have HP := Lib.hid hp
  clear hp hb hb0
  have bR_0 := bR.cell 0 rfl
  have bR_1 := bR.cell 1 rfl
  have bR_f0 := bR.frozen 0
  have bR_f1 := bR.frozen 1
  have bR_l := bR.lt
  have bE_0 := bE.cell 0 rfl
  have bE_1 := bE.cell 1 rfl
  have bE_2 := bE.cell 2 rfl
  have bE_f0 := bE.frozen 0
  have bE_f1 := bE.frozen 1
  have bE_f2 := bE.frozen 2
  have bE_l := bE.lt
  have bT_0 := bT.cell 0 rfl
  have bT_1 := bT.cell 1 rfl
  have bT_2 := bT.cell 2 rfl
  have bT_3 := bT.cell 3 rfl
  have bT_f0 := bT.frozen 0
  have bT_f1 := bT.frozen 1
  have bT_f2 := bT.frozen 2
  have bT_f3 := bT.frozen 3
  have bT_l := bT.lt
  go_wp2
  exact bodyPost_ret (v := .tuple #[.agg #[.slice a zs.length c, .slice b ys.length d], .int .i64 x, .agg #[.int .i64 p, .int .i64 q, .int .i64 t], .agg #[.int .i64 K, .bool dn, .int .i64 lo, .int .i64 hi]]) (by simp [results, Try.results50, go_sem, bR_0, bR_1, bE_0, bE_1, bE_2, bT_0, bT_1, bT_2, bT_3]) rfl ⟨a, b, c, d, zs, ys, x, p, q, t, K, dn, lo, hi, rfl, PrX.wide (B := w1.heap.size) (m := W.heap.size) (by repeat (first | (with_reducible exact HP.out) | (refine PrX.lo ?_ (by omega) _))) (by simp [World.setCell]) (by omega), by repeat (first | (with_reducible exact HB.out) | (refine Below.setCell ?_ (by first | (simp; done) | (simp; omega) | (dsimp only; omega)) _))⟩

set_option maxRecDepth 100000 in
set_option maxHeartbeats 4000000 in
theorem dff_any (w : World) (a0 : Option Addr) (cap : Nat) (cs : List Int) (h : Code8 w w.heap.size a0 cs) :
    Calls Try.prog 52 #[.slice a0 cs.length cap] w (Ry1 w) := by
  have HC := Lib.hid h
  clear h
  go_enter Try.func52, Try.ntmps52
  go_wp2_with fail
  generalize hW : World.alloc _ _ = W
  have bR : Bk W w.heap.size #[.slice none 0 0, .slice none 0 0] 51 := by rw [← hW]; exact (Bk.new' (by simp)).alloc _
  have bE : Bk W (w.heap.size + 1) #[.int .i64 0, .int .i64 0, .int .i64 0] 32 := by rw [← hW]; exact Bk.new' (by simp)
  have hb0 : Below w.heap.size w W := by rw [← hW]; exact (by repeat (first | exact Below.refl _ _ | (refine Below.alloc ?_ (by simp <;> omega) _) | (refine Below.setCell ?_ (by simp <;> omega) _) | (refine Below.drew ?_) | (refine bel_drewN ?_ _)))
  clear hW
  have hlE := bE.lt
  refine (from_any _ _ _ cs ((HC.out.below hb0 (Nat.le_refl _)).more hb0.size)).mono ?_
  rintro e w1 ⟨s, rfl, hs, hsrc, hb⟩
  replace bR := bR.on hb
  replace bE := bE.on hb
  have HB := Lib.hid (bel_end hb0 hb)
  have HS := Lib.hid hsrc
  have hl1 := bE.lt
  have hl0 := HS.out.lt
  clear hsrc hb hb0
  go_wp2_with fail
  refine (dry_any _ _ HS.out).mono ?_
  rintro e w2 ⟨a, b, c, d, zs, ys, x, p, q, t, rfl, hp, hg, hs2⟩
  replace bR := bR.kept hg (by simp; omega)
  replace bE := bE.kept hg (by simp; omega)
  have hsz := hg.size
  replace HB := Lib.hid (HB.out.trans (below_of_grown hg (by omega) (by have := HB.out.size; omega)))
  replace HS := Lib.hid hs2
  have HP := Lib.hid hp
  clear hg hs2 hp
  have r0 := bR.cell 0 rfl
  have r1 := bR.cell 1 rfl
  have rf0 := bR.frozen 0
  have rf1 := bR.frozen 1
  have rl := bR.lt
  have e0 := bE.cell 0 rfl
  have e1 := bE.cell 1 rfl
  have e2 := bE.cell 2 rfl
  have ef0 := bE.frozen 0
  have ef1 := bE.frozen 1
  have ef2 := bE.frozen 2
  have el := bE.lt
  go_wp2
  exact bodyPost_ret (v := .tuple #[.agg #[.slice a zs.length c, .slice b ys.length d], .int .i64 x, .agg #[.int .i64 p, .int .i64 q, .int .i64 t]]) (by simp [results, Try.results52, go_sem, r0, r1, e0, e1, e2]) rfl
    ⟨a, b, c, d, zs, ys, x, p, q, t, rfl, (HP.out.five (g := w.heap.size) (h := w.heap.size + 1) (by omega) (by omega)).n, five_set HB.out (Nat.le_refl _) (by omega)⟩

end Go.Proofs.Ytaaklnabomhleaa
