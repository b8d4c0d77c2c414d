/- Contracts of small functions of tracks, the program's and the model's. -/
import Derived.Test.YtkjpjhklnaehbaaBrC
import Derived.Test.YtkjpjhklnaehbaaDrw
import Derived.StillTailTactics
namespace Go.Proofs.Ytkjpjhklnaehbaa
open Go.ChangeShapes Go.WideShapes Go.ChangeAt Go.RowKit Go.Shelf Num
set_option linter.unusedVariables false
set_option linter.unusedSimpArgs false

theorem tkB_t {x y s t : Int} (h : tkB x y s t = true) : (-100000 ≤ x ∧ x ≤ 100000 ∧ -100000 ≤ y ∧ y ≤ 100000) ∧ (-1000 ≤ s ∧ s ≤ 1000 ∧ -1000 ≤ t ∧ t ≤ 1000) := by
  unfold tkB at h
  rw [Bool.and_eq_true] at h
  exact ⟨ptB_t h.1, ptB_t h.2⟩

set_option maxRecDepth 100000 in
set_option maxHeartbeats 4000000 in
theorem itv_any (w : World) (x y s t : Int) :
    Calls Try.prog 64 #[.agg #[.int .i64 x, .int .i64 y, .int .i64 s, .int .i64 t]] w fun e w' => e = .returned (.bool (tkB x y s t)) ∧ Below w.heap.size w w' := by
  obtain ⟨P, hP⟩ : ∃ q, ptB 100000 x y = q := ⟨_, rfl⟩
  obtain ⟨R, hR⟩ : ∃ q, ptB 1000 s t = q := ⟨_, rfl⟩
  have HV : Hid (tkB x y s t = (P && R)) := Lib.hid (by unfold tkB; rw [hP, hR])
  have KP : Hid (∀ W : World, Calls Try.prog 52 #[.agg #[.int .i64 x, .int .i64 y]] W fun e w' => e = .returned (.bool P) ∧ Below W.heap.size W w') := Lib.hid (fun W => by have := ipt_any W x y; rwa [hP] at this)
  have KR : Hid (∀ W : World, Calls Try.prog 48 #[.agg #[.int .i64 s, .int .i64 t], .int .i64 1000] W fun e w' => e = .returned (.bool R) ∧ Below W.heap.size W w') := Lib.hid (fun W => by have := iwi_any W 1000 s t (by omega) (by omega); rwa [hR] at this)
  clear hP hR
  go_enter Try.func64, Try.ntmps64
  go_wp2_with fail
  generalize hW : World.alloc _ _ = W
  have bX : Bk W (w.heap.size) #[.int .i64 x, .int .i64 y, .int .i64 s, .int .i64 t] 44 := by rw [← hW]; repeat (first | (refine Bk.new' ?_; (simp; done)) | refine Bk.alloc ?_ _)
  have HB : Hid (Below w.heap.size w W) := Lib.hid (by rw [← hW]; exact (by repeat (first | exact Below.refl _ _ | (refine Below.alloc ?_ (by simp <;> omega) _) | (refine Below.setCell ?_ (by simp <;> omega) _) | (refine Below.drew ?_) | (refine bel_drewN ?_ _))))
  clear hW
  refine (KP.out _).mono ?_
  rintro e w1 ⟨rfl, hb⟩
  replace bX := bX.on hb
  replace HB := Lib.hid (bel_end HB.out hb)
  clear hb
  cases hP : P
  case false =>
    subst hP
    have bX_0 := bX.cell 0 rfl
    have bX_1 := bX.cell 1 rfl
    have bX_2 := bX.cell 2 rfl
    have bX_3 := bX.cell 3 rfl
    have bX_l := bX.lt
    go_wp2
    go_ret
    exact ⟨ret_bool (by rw [HV.out]; rfl), HB.out⟩
  case true =>
    subst hP
    have bX_0 := bX.cell 0 rfl
    have bX_1 := bX.cell 1 rfl
    have bX_2 := bX.cell 2 rfl
    have bX_3 := bX.cell 3 rfl
    have bX_l := bX.lt
    go_wp2_with fail
    refine (KR.out _).mono ?_
    rintro e w2 ⟨rfl, hb⟩
    replace bX := bX.on hb
    replace HB := Lib.hid (bel_end HB.out hb)
    clear hb
    clear bX_0 bX_1 bX_2 bX_3 bX_l
    have bX_0 := bX.cell 0 rfl
    have bX_1 := bX.cell 1 rfl
    have bX_2 := bX.cell 2 rfl
    have bX_3 := bX.cell 3 rfl
    have bX_l := bX.lt
    go_wp2
    go_ret
    exact ⟨ret_bool (by rw [HV.out]; rfl), HB.out⟩

set_option maxRecDepth 100000 in
set_option maxHeartbeats 4000000 in
theorem ltk_any (w : World) (x y s t : Int) :
    Calls Try.prog 62 #[.agg #[.int .i64 x, .int .i64 y, .int .i64 s, .int .i64 t]] w fun e w' => e = .returned (.bool (tkB x y s t)) ∧ Below w.heap.size w w' := by
  obtain ⟨P, hP⟩ : ∃ q, ptB 100000 x y = q := ⟨_, rfl⟩
  obtain ⟨R, hR⟩ : ∃ q, ptB 1000 s t = q := ⟨_, rfl⟩
  have HV : Hid (tkB x y s t = (P && R)) := Lib.hid (by unfold tkB; rw [hP, hR])
  have KP : Hid (∀ W : World, Calls Try.prog 47 #[.agg #[.int .i64 x, .int .i64 y], .int .i64 100000] W fun e w' => e = .returned (.bool P) ∧ Below W.heap.size W w') := Lib.hid (fun W => by have := lpt_any W 100000 x y (by omega) (by omega); rwa [hP] at this)
  have KR : Hid (∀ W : World, Calls Try.prog 47 #[.agg #[.int .i64 s, .int .i64 t], .int .i64 1000] W fun e w' => e = .returned (.bool R) ∧ Below W.heap.size W w') := Lib.hid (fun W => by have := lpt_any W 1000 s t (by omega) (by omega); rwa [hR] at this)
  clear hP hR
  go_enter Try.func62, Try.ntmps62
  go_wp2_with fail
  generalize hW : World.alloc _ _ = W
  have bX : Bk W (w.heap.size) #[.int .i64 x, .int .i64 y, .int .i64 s, .int .i64 t] 44 := by rw [← hW]; repeat (first | (refine Bk.new' ?_; (simp; done)) | refine Bk.alloc ?_ _)
  have HB : Hid (Below w.heap.size w W) := Lib.hid (by rw [← hW]; exact (by repeat (first | exact Below.refl _ _ | (refine Below.alloc ?_ (by simp <;> omega) _) | (refine Below.setCell ?_ (by simp <;> omega) _) | (refine Below.drew ?_) | (refine bel_drewN ?_ _))))
  clear hW
  refine (KP.out _).mono ?_
  rintro e w1 ⟨rfl, hb⟩
  replace bX := bX.on hb
  replace HB := Lib.hid (bel_end HB.out hb)
  clear hb
  cases hP : P
  case false =>
    subst hP
    have bX_0 := bX.cell 0 rfl
    have bX_1 := bX.cell 1 rfl
    have bX_2 := bX.cell 2 rfl
    have bX_3 := bX.cell 3 rfl
    have bX_l := bX.lt
    go_wp2
    go_ret
    exact ⟨ret_bool (by rw [HV.out]; rfl), HB.out⟩
  case true =>
    subst hP
    have bX_0 := bX.cell 0 rfl
    have bX_1 := bX.cell 1 rfl
    have bX_2 := bX.cell 2 rfl
    have bX_3 := bX.cell 3 rfl
    have bX_l := bX.lt
    go_wp2_with fail
    refine (KR.out _).mono ?_
    rintro e w2 ⟨rfl, hb⟩
    replace bX := bX.on hb
    replace HB := Lib.hid (bel_end HB.out hb)
    clear hb
    clear bX_0 bX_1 bX_2 bX_3 bX_l
    have bX_0 := bX.cell 0 rfl
    have bX_1 := bX.cell 1 rfl
    have bX_2 := bX.cell 2 rfl
    have bX_3 := bX.cell 3 rfl
    have bX_l := bX.lt
    go_wp2
    go_ret
    exact ⟨ret_bool (by rw [HV.out]; rfl), HB.out⟩

set_option maxRecDepth 100000 in
set_option maxHeartbeats 2000000 in
theorem iti_any (w : World) (x : Int) :
    Calls Try.prog 65 #[.int .i64 x] w fun e w' => e = .returned (.bool (inB x 0 1000)) ∧ Below w.heap.size w w' := by
  by_cases h1 : 0 ≤ x
  · by_cases h2 : x ≤ 1000
    · go_enter Try.func65, Try.ntmps65
      go_wp2
      go_ret
      exact ⟨ret_bool (by rw [inB_mk h1 h2]), Below.refl _ _⟩
    · have h3 : Hid (1000 < x) := Lib.hid (by omega)
      go_enter Try.func65, Try.ntmps65
      go_wp2
      go_ret
      exact ⟨ret_bool (by rw [inB_hi h3.out]; (try simp); try (have := h3.out; omega)), Below.refl _ _⟩
  · have h3 : Hid (x < 0) := Lib.hid (by omega)
    go_enter Try.func65, Try.ntmps65
    go_wp2
    go_ret
    exact ⟨ret_bool (by rw [inB_lo h3.out]), Below.refl _ _⟩

set_option maxRecDepth 100000 in
set_option maxHeartbeats 4000000 in
theorem mov_any (w : World) (g : Nat) (x y s t u : Int) (x1 : -1000000 ≤ x) (x2 : x ≤ 1000000) (y1 : -1000000 ≤ y) (y2 : y ≤ 1000000) (s1 : -2000 ≤ s) (s2 : s ≤ 2000) (t1 : -2000 ≤ t) (t2 : t ≤ 2000) (u1 : 0 ≤ u) (u2 : u ≤ 1000) (hb : Bk w g #[.int .i64 x, .int .i64 y, .int .i64 s, .int .i64 t] 44) :
    Calls Try.prog 66 #[.pointer (some ⟨g, 0, none⟩), .int .i64 u] w fun e w' => e = .returned (.tuple #[]) ∧ Bk w' g #[.int .i64 (x + u * s), .int .i64 (y + u * t), .int .i64 s, .int .i64 t] 44 ∧ w.grownBy w' (some g) := by
  have m1 := mul_abs (a := u) (n := s) (A := 1000) (N := 2000) (by omega) (by omega)
  have m2 := mul_abs (a := u) (n := t) (A := 1000) (N := 2000) (by omega) (by omega)
  have a1 : IntKind.wrap .i64 (u * s) = u * s := IntWalk.i64_in _ (by omega)
  have a2 : IntKind.wrap .i64 (u * t) = u * t := IntWalk.i64_in _ (by omega)
  obtain ⟨X, hX⟩ : ∃ q, u * s = q := ⟨_, rfl⟩
  obtain ⟨Y, hY⟩ : ∃ q, u * t = q := ⟨_, rfl⟩
  rw [hX] at m1 a1
  rw [hY] at m2 a2
  have a3 : IntKind.wrap .i64 (x + X) = x + X := IntWalk.i64_in _ (by omega)
  have a4 : IntKind.wrap .i64 (y + Y) = y + Y := IntWalk.i64_in _ (by omega)
  rw [hX, hY]
  have w1_ : IntKind.wrap .i64 (u * s) = X := by rw [hX]; exact a1
  have w2_ : IntKind.wrap .i64 (u * t) = Y := by rw [hY]; exact a2
  clear hX hY m1 m2 a1 a2 x1 x2 y1 y2 s1 s2 t1 t2 u1 u2
  have HG := Lib.hid (grown_refl w g)
  have HB := Lib.hid hb
  have c0 := hb.cell 0 rfl
  have c1 := hb.cell 1 rfl
  have c2 := hb.cell 2 rfl
  have c3 := hb.cell 3 rfl
  have f0 := hb.frozen 0
  have f1 := hb.frozen 1
  have cl := hb.lt
  clear hb
  go_enter Try.func66, Try.ntmps66
  go_wp2
  go_still_tail 16, (by kernel_rfl)
  go_wp2
  clear c0 c1 c2 c3 f0 f1 cl
  generalize hW : World.drew _ = W1
  have b1 : Bk W1 g #[.int .i64 (x + X), .int .i64 y, .int .i64 s, .int .i64 t] 44 := by rw [← hW]; exact (HB.out.set 0 _ rfl).drew
  have hg : w.grownBy W1 (some g) := by rw [← hW]; exact grown_drewN (grown_set (grown_refl w g) 0 _) 1
  replace HG := Lib.hid hg
  clear hW hg
  replace HB := Lib.hid b1
  have c0 := b1.cell 0 rfl
  have c1 := b1.cell 1 rfl
  have c2 := b1.cell 2 rfl
  have c3 := b1.cell 3 rfl
  have f0 := b1.frozen 0
  have f1 := b1.frozen 1
  have cl := b1.lt
  clear b1
  go_still_tail 16, (by kernel_rfl)
  go_wp2
  go_end0
  exact ⟨rfl, (HB.out.set 1 _ rfl).drew, grown_drewN (grown_set HG.out 1 _) 1⟩

def okT (a1 a2 a3 a4 b1 b2 b3 b4 : Int) : Bool := tkB a1 a2 a3 a4 && tkB b1 b2 b3 b4
def ctR (a1 a2 a3 a4 b1 b2 b3 b4 : Int) : Int × Int × Int := if okT a1 a2 a3 a4 b1 b2 b3 b4 then ctT (b1 - a1) (b2 - a2) (b3 - a3) (b4 - a4) else (0, 0, 1)
def csR (a1 a2 a3 a4 b1 b2 b3 b4 : Int) : Int × Int × Int := if okT a1 a2 a3 a4 b1 b2 b3 b4 then rlT (lsN (b1 - a1) (b2 - a2) (b3 - a3) (b4 - a4)) (lsD (b1 - a1) (b2 - a2) (b3 - a3) (b4 - a4)) else (0, 0, 1)
def bdC (a1 a2 a3 a4 b1 b2 b3 b4 t : Int) : Int := if okT a1 a2 a3 a4 b1 b2 b3 b4 then (if inB t 0 1000 then 0 else 2) else 1
def bdR (a1 a2 a3 a4 b1 b2 b3 b4 t : Int) : Int := if bdC a1 a2 a3 a4 b1 b2 b3 b4 t = 0 then bdV (b1 - a1) (b2 - a2) (b3 - a3) (b4 - a4) t else 0
def dmC (a1 a2 a3 a4 b1 b2 b3 b4 : Int) : Int := if okT a1 a2 a3 a4 b1 b2 b3 b4 then 0 else 1
def dmB (a1 a2 a3 a4 b1 b2 b3 b4 : Int) : Bool := if okT a1 a2 a3 a4 b1 b2 b3 b4 then (lsN (b1 - a1) (b2 - a2) (b3 - a3) (b4 - a4) == 0) else false
structure Seen (X Y S T : Int) : Prop where
  x : -200000 ≤ X ∧ X ≤ 200000
  y : -200000 ≤ Y ∧ Y ≤ 200000
  s : -2000 ≤ S ∧ S ≤ 2000
  t : -2000 ≤ T ∧ T ≤ 2000
theorem okT_t {a1 a2 a3 a4 b1 b2 b3 b4 : Int} (h : okT a1 a2 a3 a4 b1 b2 b3 b4 = true) : tkB a1 a2 a3 a4 = true ∧ tkB b1 b2 b3 b4 = true ∧ Seen (b1 - a1) (b2 - a2) (b3 - a3) (b4 - a4) := by
  unfold okT at h
  rw [Bool.and_eq_true] at h
  have a := tkB_t h.1
  have b := tkB_t h.2
  exact ⟨h.1, h.2, ⟨by omega, by omega⟩, ⟨by omega, by omega⟩, ⟨by omega, by omega⟩, ⟨by omega, by omega⟩⟩
theorem Seen.sq {X Y S T : Int} (h : Seen X Y S T) : (-4000000000000000000 ≤ X * X ∧ X * X ≤ 4000000000000000000) ∧ (-4000000000000000000 ≤ Y * Y ∧ Y * Y ≤ 4000000000000000000) :=
  ⟨prd (A := 200000) (B := 200000) h.x.1 h.x.2 h.x.1 h.x.2 (by omega), prd (A := 200000) (B := 200000) h.y.1 h.y.2 h.y.1 h.y.2 (by omega)⟩
theorem Seen.pr {X Y S T : Int} (h : Seen X Y S T) : (-400000000 ≤ X * S ∧ X * S ≤ 400000000) ∧ (-400000000 ≤ Y * T ∧ Y * T ≤ 400000000) ∧ (-400000000 ≤ X * T ∧ X * T ≤ 400000000) ∧ (-400000000 ≤ Y * S ∧ Y * S ≤ 400000000) := by
  have a := mul_abs (a := X) (n := S) (A := 200000) (N := 2000) (by have := h.x; omega) (by have := h.s; omega)
  have b := mul_abs (a := Y) (n := T) (A := 200000) (N := 2000) (by have := h.y; omega) (by have := h.t; omega)
  have c := mul_abs (a := X) (n := T) (A := 200000) (N := 2000) (by have := h.x; omega) (by have := h.t; omega)
  have d := mul_abs (a := Y) (n := S) (A := 200000) (N := 2000) (by have := h.y; omega) (by have := h.s; omega)
  omega
theorem Seen.ss {X Y S T : Int} (h : Seen X Y S T) : (-4000000 ≤ S * S ∧ S * S ≤ 4000000) ∧ (-4000000 ≤ T * T ∧ T * T ≤ 4000000) := by
  have a := mul_abs (a := S) (n := S) (A := 2000) (N := 2000) (by have := h.s; omega) (by have := h.s; omega)
  have b := mul_abs (a := T) (n := T) (A := 2000) (N := 2000) (by have := h.t; omega) (by have := h.t; omega)
  omega
theorem Seen.xx {X Y S T : Int} (h : Seen X Y S T) : (-40000000000 ≤ X * X ∧ X * X ≤ 40000000000) ∧ (-40000000000 ≤ Y * Y ∧ Y * Y ≤ 40000000000) := by
  have a := mul_abs (a := X) (n := X) (A := 200000) (N := 200000) (by have := h.x; omega) (by have := h.x; omega)
  have b := mul_abs (a := Y) (n := Y) (A := 200000) (N := 200000) (by have := h.y; omega) (by have := h.y; omega)
  omega
theorem Seen.dt {X Y S T : Int} (h : Seen X Y S T) : (-800000000 ≤ dt2 X Y S T ∧ dt2 X Y S T ≤ 800000000) ∧ (-800000000 ≤ crs X Y S T ∧ crs X Y S T ≤ 800000000) ∧ (-8000000 ≤ dt2 S T S T ∧ dt2 S T S T ≤ 8000000) ∧ (-80000000000 ≤ dt2 X Y X Y ∧ dt2 X Y X Y ≤ 80000000000) := by
  have := h.pr
  have := h.ss
  have := h.xx
  unfold dt2 crs
  omega
theorem Seen.cc {X Y S T : Int} (h : Seen X Y S T) : -640000000000000000 ≤ crs X Y S T * crs X Y S T ∧ crs X Y S T * crs X Y S T ≤ 640000000000000000 := by
  have := h.dt.2.1
  have a := mul_abs (a := crs X Y S T) (n := crs X Y S T) (A := 800000000) (N := 800000000) (by omega) (by omega)
  omega
theorem Seen.ls {X Y S T : Int} (h : Seen X Y S T) : (-640000000000000000 ≤ lsN X Y S T ∧ lsN X Y S T ≤ 640000000000000000) ∧ (1 ≤ lsD X Y S T ∧ lsD X Y S T ≤ 8000000) := by
  have a := h.cc
  have b := h.dt
  have c := lsD_pos X Y S T
  unfold lsN
  unfold lsD at c ⊢
  split <;> omega

set_option maxRecDepth 100000 in
set_option maxHeartbeats 8000000 in
theorem ise_ok (w : World) (a1 a2 a3 a4 b1 b2 b3 b4 : Int) (hok : okT a1 a2 a3 a4 b1 b2 b3 b4 = true) :
    Calls Try.prog 68 #[.agg #[.int .i64 a1, .int .i64 a2, .int .i64 a3, .int .i64 a4], .agg #[.int .i64 b1, .int .i64 b2, .int .i64 b3, .int .i64 b4]] w fun e w' => e = .returned (.tuple #[.agg #[.int .i64 (b1 - a1), .int .i64 (b2 - a2), .int .i64 (b3 - a3), .int .i64 (b4 - a4)], .int .i64 0]) ∧ Below w.heap.size w w' := by
  obtain ⟨ha, hb, hs⟩ := okT_t hok
  have ba := tkB_t ha
  have bb := tkB_t hb
  have KA : Hid (∀ W : World, Calls Try.prog 64 #[.agg #[.int .i64 a1, .int .i64 a2, .int .i64 a3, .int .i64 a4]] W fun e w' => e = .returned (.bool true) ∧ Below W.heap.size W w') := Lib.hid (fun W => by have := itv_any W a1 a2 a3 a4; rwa [ha] at this)
  have KB : Hid (∀ W : World, Calls Try.prog 64 #[.agg #[.int .i64 b1, .int .i64 b2, .int .i64 b3, .int .i64 b4]] W fun e w' => e = .returned (.bool true) ∧ Below W.heap.size W w') := Lib.hid (fun W => by have := itv_any W b1 b2 b3 b4; rwa [hb] at this)
  have K1 : Hid (∀ W : World, Calls Try.prog 54 #[.agg #[.int .i64 b1, .int .i64 b2], .agg #[.int .i64 a1, .int .i64 a2]] W fun e w' => e = .returned (.agg #[.int .i64 (b1 - a1), .int .i64 (b2 - a2)]) ∧ Below W.heap.size W w') := Lib.hid (fun W => imn_any W b1 b2 a1 a2 (by omega) (by omega) (by omega) (by omega) (by omega) (by omega) (by omega) (by omega))
  have K2 : Hid (∀ W : World, Calls Try.prog 54 #[.agg #[.int .i64 b3, .int .i64 b4], .agg #[.int .i64 a3, .int .i64 a4]] W fun e w' => e = .returned (.agg #[.int .i64 (b3 - a3), .int .i64 (b4 - a4)]) ∧ Below W.heap.size W w') := Lib.hid (fun W => imn_any W b3 b4 a3 a4 (by omega) (by omega) (by omega) (by omega) (by omega) (by omega) (by omega) (by omega))
  obtain ⟨X, hX⟩ : ∃ u, b1 - a1 = u := ⟨_, rfl⟩
  obtain ⟨Y, hY⟩ : ∃ u, b2 - a2 = u := ⟨_, rfl⟩
  obtain ⟨M, hM⟩ : ∃ u, b3 - a3 = u := ⟨_, rfl⟩
  obtain ⟨N, hN⟩ : ∃ u, b4 - a4 = u := ⟨_, rfl⟩
  rw [hX, hY] at K1
  rw [hM, hN] at K2
  rw [hX, hY, hM, hN]
  clear hX hY hM hN ba bb ha hb hs hok
  go_enter Try.func68, Try.ntmps68
  go_wp2_with fail
  generalize hW : World.alloc _ _ = W
  have bA : Bk W (w.heap.size) #[.int .i64 a1, .int .i64 a2, .int .i64 a3, .int .i64 a4] 44 := by rw [← hW]; repeat (first | (refine Bk.new' ?_; (simp; done)) | refine Bk.alloc ?_ _)
  have bB : Bk W (w.heap.size + 1) #[.int .i64 b1, .int .i64 b2, .int .i64 b3, .int .i64 b4] 44 := by rw [← hW]; repeat (first | (refine Bk.new' ?_; (simp; done)) | refine Bk.alloc ?_ _)
  have bR : Bk W (w.heap.size + 1 + 1) #[.int .i64 0, .int .i64 0, .int .i64 0, .int .i64 0] 44 := by rw [← hW]; repeat (first | (refine Bk.new' ?_; (simp; done)) | refine Bk.alloc ?_ _)
  have HB : Hid (Below w.heap.size w W) := Lib.hid (by rw [← hW]; exact (by repeat (first | exact Below.refl _ _ | (refine Below.alloc ?_ (by simp <;> omega) _) | (refine Below.setCell ?_ (by simp <;> omega) _) | (refine Below.drew ?_) | (refine bel_drewN ?_ _))))
  clear hW
  refine (KA.out _).mono ?_
  rintro e w1 ⟨rfl, hb⟩
  replace bA := bA.on hb
  replace bB := bB.on hb
  replace bR := bR.on hb
  replace HB := Lib.hid (bel_end HB.out hb)
  clear hb
  have bA_0 := bA.cell 0 rfl
  have bA_1 := bA.cell 1 rfl
  have bA_2 := bA.cell 2 rfl
  have bA_3 := bA.cell 3 rfl
  have bA_l := bA.lt
  have bB_0 := bB.cell 0 rfl
  have bB_1 := bB.cell 1 rfl
  have bB_2 := bB.cell 2 rfl
  have bB_3 := bB.cell 3 rfl
  have bB_l := bB.lt
  have bR_0 := bR.cell 0 rfl
  have bR_1 := bR.cell 1 rfl
  have bR_2 := bR.cell 2 rfl
  have bR_3 := bR.cell 3 rfl
  have bR_l := bR.lt
  go_wp2_with fail
  refine (KB.out _).mono ?_
  rintro e w2 ⟨rfl, hb⟩
  replace bA := bA.on hb
  replace bB := bB.on hb
  replace bR := bR.on hb
  replace HB := Lib.hid (bel_end HB.out hb)
  clear hb
  clear bA_0 bA_1 bA_2 bA_3 bA_l bB_0 bB_1 bB_2 bB_3 bB_l bR_0 bR_1 bR_2 bR_3 bR_l
  have bA_0 := bA.cell 0 rfl
  have bA_1 := bA.cell 1 rfl
  have bA_2 := bA.cell 2 rfl
  have bA_3 := bA.cell 3 rfl
  have bA_l := bA.lt
  have bB_0 := bB.cell 0 rfl
  have bB_1 := bB.cell 1 rfl
  have bB_2 := bB.cell 2 rfl
  have bB_3 := bB.cell 3 rfl
  have bB_l := bB.lt
  have bR_0 := bR.cell 0 rfl
  have bR_1 := bR.cell 1 rfl
  have bR_2 := bR.cell 2 rfl
  have bR_3 := bR.cell 3 rfl
  have bR_l := bR.lt
  go_upto_region 3 with fail
  clear bA_0 bA_1 bA_2 bA_3 bA_l bB_0 bB_1 bB_2 bB_3 bB_l bR_0 bR_1 bR_2 bR_3 bR_l
  obtain ⟨S, hSd⟩ : ∃ S : World → Prop, ∀ w', S w' ↔ (w'.cell? ⟨w.heap.size, 0, none⟩ = some (.int .i64 a1) ∧ w'.cell? ⟨w.heap.size, 1, none⟩ = some (.int .i64 a2) ∧ w'.cell? ⟨w.heap.size, 2, none⟩ = some (.int .i64 a3) ∧ w'.cell? ⟨w.heap.size, 3, none⟩ = some (.int .i64 a4) ∧ w'.cell? ⟨w.heap.size + 1, 0, none⟩ = some (.int .i64 b1) ∧ w'.cell? ⟨w.heap.size + 1, 1, none⟩ = some (.int .i64 b2) ∧ w'.cell? ⟨w.heap.size + 1, 2, none⟩ = some (.int .i64 b3) ∧ w'.cell? ⟨w.heap.size + 1, 3, none⟩ = some (.int .i64 b4)) := ⟨_, fun _ => Iff.rfl⟩
  have HSp : Hid (∀ w' : World, Bk w' (w.heap.size) #[.int .i64 a1, .int .i64 a2, .int .i64 a3, .int .i64 a4] 44 → Bk w' (w.heap.size + 1) #[.int .i64 b1, .int .i64 b2, .int .i64 b3, .int .i64 b4] 44 → S w') := Lib.hid (fun w' bA bB => (hSd w').2 ⟨bA.cell 0 rfl, bA.cell 1 rfl, bA.cell 2 rfl, bA.cell 3 rfl, bB.cell 0 rfl, bB.cell 1 rfl, bB.cell 2 rfl, bB.cell 3 rfl⟩)
  have HSd := Lib.hid hSd
  clear hSd
  refine wp_region_held_drew (S := S) (by kernel_rfl) ?_ (fun hH => ?_)
  · exact (HSp.out _ bA bB : S (World.drew w2))
  clear hH
  generalize hX : World.drew w2 = V0
  replace bA : Bk V0 (w.heap.size) #[.int .i64 a1, .int .i64 a2, .int .i64 a3, .int .i64 a4] 44 := by rw [← hX]; exact bA
  replace bB : Bk V0 (w.heap.size + 1) #[.int .i64 b1, .int .i64 b2, .int .i64 b3, .int .i64 b4] 44 := by rw [← hX]; exact bB
  replace bR : Bk V0 (w.heap.size + 1 + 1) #[.int .i64 0, .int .i64 0, .int .i64 0, .int .i64 0] 44 := by rw [← hX]; exact bR
  have hb : Below w2.heap.size w2 V0 := by rw [← hX]; exact (Below.refl _ _).drew
  clear hX
  replace HB := Lib.hid (bel_end HB.out hb)
  clear hb
  have hS := HSp.out _ bA bB
  refine wpAnyH_take (i := 0) (oi := { dst := some 15, op := Go.Op.fieldAddr 44 (Go.Operand.tmp 3) 0, type := 0, pos := "l12_bearings.go:219", after := #[], guard := none }) (v := ?_) rfl (by kernel_rfl) (by kernel_rfl) (by kernel_rfl) (fun _ _ _ h => h) (Or.inl ⟨by rfl, ?_⟩) hS ?_
  rotate_left
  · (intro w hSw; have hSw := (HSd.out w).1 hSw; go_split_ands; go_simp) <;> with_reducible rfl
  clear hS
  try simp only [Act.put, List.setIfInBounds_toArray, List.set_cons_zero, List.set_cons_succ]
  have hS := HSp.out _ bA bB
  refine wpAnyH_take (i := 1) (oi := { dst := some 16, op := Go.Op.load 25 (Go.Operand.tmp 15), type := 25, pos := "l12_bearings.go:219", after := #[{ on := 0, ground := Go.Ground.data }], guard := none }) (v := ?_) rfl (by kernel_rfl) (by kernel_rfl) (by kernel_rfl) (fun _ _ _ h => h) (Or.inl ⟨by rfl, ?_⟩) hS ?_
  rotate_left
  · (intro w hSw; have hSw := (HSd.out w).1 hSw; go_split_ands; go_simp) <;> with_reducible rfl
  clear hS
  try simp only [Act.put, List.setIfInBounds_toArray, List.set_cons_zero, List.set_cons_succ]
  have hS := HSp.out _ bA bB
  refine wpAnyH_take (i := 2) (oi := { dst := some 17, op := Go.Op.fieldAddr 44 (Go.Operand.tmp 2) 0, type := 0, pos := "l12_bearings.go:219", after := #[], guard := none }) (v := ?_) rfl (by kernel_rfl) (by kernel_rfl) (by kernel_rfl) (fun _ _ _ h => h) (Or.inl ⟨by rfl, ?_⟩) hS ?_
  rotate_left
  · (intro w hSw; have hSw := (HSd.out w).1 hSw; go_split_ands; go_simp) <;> with_reducible rfl
  clear hS
  try simp only [Act.put, List.setIfInBounds_toArray, List.set_cons_zero, List.set_cons_succ]
  have hS := HSp.out _ bA bB
  refine wpAnyH_take (i := 3) (oi := { dst := some 18, op := Go.Op.load 25 (Go.Operand.tmp 17), type := 25, pos := "l12_bearings.go:219", after := #[{ on := 2, ground := Go.Ground.data }], guard := none }) (v := ?_) rfl (by kernel_rfl) (by kernel_rfl) (by kernel_rfl) (fun _ _ _ h => h) (Or.inl ⟨by rfl, ?_⟩) hS ?_
  rotate_left
  · (intro w hSw; have hSw := (HSd.out w).1 hSw; go_split_ands; go_simp) <;> with_reducible rfl
  clear hS
  try simp only [Act.put, List.setIfInBounds_toArray, List.set_cons_zero, List.set_cons_succ]
  have hS := HSp.out _ bA bB
  refine wpAnyH_take (i := 5) (oi := { dst := some 20, op := Go.Op.fieldAddr 44 (Go.Operand.tmp 3) 1, type := 0, pos := "l12_bearings.go:219", after := #[], guard := none }) (v := ?_) rfl (by kernel_rfl) (by kernel_rfl) (by kernel_rfl) (fun _ _ _ h => h) (Or.inl ⟨by rfl, ?_⟩) hS ?_
  rotate_left
  · (intro w hSw; have hSw := (HSd.out w).1 hSw; go_split_ands; go_simp) <;> with_reducible rfl
  clear hS
  try simp only [Act.put, List.setIfInBounds_toArray, List.set_cons_zero, List.set_cons_succ]
  have hS := HSp.out _ bA bB
  refine wpAnyH_take (i := 6) (oi := { dst := some 21, op := Go.Op.load 25 (Go.Operand.tmp 20), type := 25, pos := "l12_bearings.go:219", after := #[{ on := 5, ground := Go.Ground.data }], guard := none }) (v := ?_) rfl (by kernel_rfl) (by kernel_rfl) (by kernel_rfl) (fun _ _ _ h => h) (Or.inl ⟨by rfl, ?_⟩) hS ?_
  rotate_left
  · (intro w hSw; have hSw := (HSd.out w).1 hSw; go_split_ands; go_simp) <;> with_reducible rfl
  clear hS
  try simp only [Act.put, List.setIfInBounds_toArray, List.set_cons_zero, List.set_cons_succ]
  have hS := HSp.out _ bA bB
  refine wpAnyH_take (i := 7) (oi := { dst := some 22, op := Go.Op.fieldAddr 44 (Go.Operand.tmp 2) 1, type := 0, pos := "l12_bearings.go:219", after := #[], guard := none }) (v := ?_) rfl (by kernel_rfl) (by kernel_rfl) (by kernel_rfl) (fun _ _ _ h => h) (Or.inl ⟨by rfl, ?_⟩) hS ?_
  rotate_left
  · (intro w hSw; have hSw := (HSd.out w).1 hSw; go_split_ands; go_simp) <;> with_reducible rfl
  clear hS
  try simp only [Act.put, List.setIfInBounds_toArray, List.set_cons_zero, List.set_cons_succ]
  have hS := HSp.out _ bA bB
  refine wpAnyH_take (i := 8) (oi := { dst := some 23, op := Go.Op.load 25 (Go.Operand.tmp 22), type := 25, pos := "l12_bearings.go:219", after := #[{ on := 7, ground := Go.Ground.data }], guard := none }) (v := ?_) rfl (by kernel_rfl) (by kernel_rfl) (by kernel_rfl) (fun _ _ _ h => h) (Or.inl ⟨by rfl, ?_⟩) hS ?_
  rotate_left
  · (intro w hSw; have hSw := (HSd.out w).1 hSw; go_split_ands; go_simp) <;> with_reducible rfl
  clear hS
  try simp only [Act.put, List.setIfInBounds_toArray, List.set_cons_zero, List.set_cons_succ]
  refine wpAnyH_ready (rs := [4]) (by kernel_rfl) (by simp) ?_
  refine AllReadyH.cons (o := { dst := some 19, op := Go.Op.call { callee := Go.Callee.value (Go.Operand.func 54), args := #[Go.Operand.tmp 16, Go.Operand.tmp 18], argTypes := #[25, 25] }, type := 25, pos := "l12_bearings.go:219", after := #[{ on := 1, ground := Go.Ground.data }, { on := 3, ground := Go.Ground.data }], guard := none }) rfl (fun Kn hK => ?_) AllReadyH.nil
  first | go_at_call 54 | (go_simp; go_at_call 54)
  (with_reducible refine Calls.mono (K1.out  _) ?_)
  rintro e V1 ⟨rfl, hb⟩
  try dsimp only
  try simp only [Act.put, List.setIfInBounds_toArray, List.set_cons_zero, List.set_cons_succ]
  replace bA := bA.on hb
  replace bB := bB.on hb
  replace bR := bR.on hb
  replace HB := Lib.hid (bel_end HB.out hb)
  clear hb
  refine hK.out _ _ (HSp.out _ bA bB) (fun _ => ?_)
  clear hK Kn
  refine wpAnyH_ready (rs := [9]) (by kernel_rfl) (by simp) ?_
  refine AllReadyH.cons (o := { dst := some 24, op := Go.Op.call { callee := Go.Callee.value (Go.Operand.func 54), args := #[Go.Operand.tmp 21, Go.Operand.tmp 23], argTypes := #[25, 25] }, type := 25, pos := "l12_bearings.go:219", after := #[{ on := 6, ground := Go.Ground.data }, { on := 8, ground := Go.Ground.data }, { on := 4, ground := Go.Ground.chain }], guard := none }) rfl (fun Kn hK => ?_) AllReadyH.nil
  first | go_at_call 54 | (go_simp; go_at_call 54)
  (with_reducible refine Calls.mono (K2.out  _) ?_)
  rintro e V2 ⟨rfl, hb⟩
  try dsimp only
  try simp only [Act.put, List.setIfInBounds_toArray, List.set_cons_zero, List.set_cons_succ]
  replace bA := bA.on hb
  replace bB := bB.on hb
  replace bR := bR.on hb
  replace HB := Lib.hid (bel_end HB.out hb)
  clear hb
  refine hK.out _ _ (HSp.out _ bA bB) (fun _ => ?_)
  clear hK Kn
  have hS := HSp.out _ bA bB
  refine wpAnyH_take (i := 10) (oi := { dst := some 25, op := Go.Op.build 44 #[(0, Go.Operand.tmp 19), (1, Go.Operand.tmp 24)], type := 44, pos := "l12_bearings.go:219", after := #[{ on := 4, ground := Go.Ground.data }, { on := 9, ground := Go.Ground.data }], guard := none }) (v := ?_) rfl (by kernel_rfl) (by kernel_rfl) (by kernel_rfl) (fun _ _ _ h => h) (Or.inl ⟨by rfl, ?_⟩) hS ?_
  rotate_left
  · (intro w hSw; have hSw := (HSd.out w).1 hSw; go_split_ands; go_simp) <;> with_reducible rfl
  clear hS
  try simp only [Act.put, List.setIfInBounds_toArray, List.set_cons_zero, List.set_cons_succ]
  refine wpAnyH_ready (rs := [11]) (by kernel_rfl) (by simp) ?_
  refine AllReadyH.cons (o := { dst := none, op := Go.Op.store 44 (Go.Operand.tmp 4) (Go.Operand.tmp 25), type := 0, pos := "l12_bearings.go:219", after := #[{ on := 10, ground := Go.Ground.data }, { on := 9, ground := Go.Ground.chain }, { on := 0, ground := Go.Ground.phase }, { on := 1, ground := Go.Ground.phase }, { on := 2, ground := Go.Ground.phase }, { on := 3, ground := Go.Ground.phase }, { on := 4, ground := Go.Ground.phase }, { on := 5, ground := Go.Ground.phase }, { on := 6, ground := Go.Ground.phase }, { on := 7, ground := Go.Ground.phase }, { on := 8, ground := Go.Ground.phase }, { on := 9, ground := Go.Ground.phase }, { on := 10, ground := Go.Ground.phase }], guard := none }) rfl (fun Kn hK => ?_) AllReadyH.nil
  have bR_0 := bR.cell 0 rfl
  have bR_1 := bR.cell 1 rfl
  have bR_2 := bR.cell 2 rfl
  have bR_3 := bR.cell 3 rfl
  have bR_f0 := bR.frozen 0
  have bR_f1 := bR.frozen 1
  have bR_f2 := bR.frozen 2
  have bR_f3 := bR.frozen 3
  have bR_l := bR.lt
  go_simp
  clear bR_0 bR_f0 bR_1 bR_f1 bR_2 bR_f2 bR_3 bR_f3 bR_l
  generalize hX : World.setCell _ _ _ = V3
  have hb : Below w.heap.size w V3 := by rw [← hX]; exact ((((HB.out.setCell (p := ⟨w.heap.size + 1 + 1, 0, none⟩) (by first | omega | (dsimp only; omega)) _).setCell (p := ⟨w.heap.size + 1 + 1, 1, none⟩) (by first | omega | (dsimp only; omega)) _).setCell (p := ⟨w.heap.size + 1 + 1, 2, none⟩) (by first | omega | (dsimp only; omega)) _).setCell (p := ⟨w.heap.size + 1 + 1, 3, none⟩) (by first | omega | (dsimp only; omega)) _)
  replace bA : Bk V3 (w.heap.size) #[.int .i64 a1, .int .i64 a2, .int .i64 a3, .int .i64 a4] 44 := by rw [← hX]; exact (Bk.other (Bk.other (Bk.other (Bk.other bA (by omega) 0 _) (by omega) 1 _) (by omega) 2 _) (by omega) 3 _)
  replace bB : Bk V3 (w.heap.size + 1) #[.int .i64 b1, .int .i64 b2, .int .i64 b3, .int .i64 b4] 44 := by rw [← hX]; exact (Bk.other (Bk.other (Bk.other (Bk.other bB (by omega) 0 _) (by omega) 1 _) (by omega) 2 _) (by omega) 3 _)
  replace bR : Bk V3 (w.heap.size + 1 + 1) #[.int .i64 X, .int .i64 Y, .int .i64 M, .int .i64 N] 44 := by rw [← hX]; exact (Bk.set (Bk.set (Bk.set (Bk.set bR 0 _ rfl) 1 _ rfl) 2 _ rfl) 3 _ rfl)
  clear hX
  replace HB := Lib.hid hb
  clear hb
  refine hK.out _ _ (HSp.out _ bA bB) (fun _ => ?_)
  clear hK Kn
  have hS := HSp.out _ bA bB
  refine wpAnyH_take (i := 12) (oi := { dst := some 5, op := Go.Op.assign (Go.Operand.const (Go.Value.int Go.IntKind.i64 0)), type := 2, pos := "l12_bearings.go:219", after := #[{ on := 11, ground := Go.Ground.chain }, { on := 0, ground := Go.Ground.phase }, { on := 1, ground := Go.Ground.phase }, { on := 2, ground := Go.Ground.phase }, { on := 3, ground := Go.Ground.phase }, { on := 4, ground := Go.Ground.phase }, { on := 5, ground := Go.Ground.phase }, { on := 6, ground := Go.Ground.phase }, { on := 7, ground := Go.Ground.phase }, { on := 8, ground := Go.Ground.phase }, { on := 9, ground := Go.Ground.phase }, { on := 10, ground := Go.Ground.phase }, { on := 11, ground := Go.Ground.phase }], guard := none }) (v := ?_) rfl (by kernel_rfl) (by kernel_rfl) (by kernel_rfl) (fun _ _ _ h => h) (Or.inl ⟨by rfl, ?_⟩) hS ?_
  rotate_left
  · (intro w hSw; have hSw := (HSd.out w).1 hSw; go_split_ands; go_simp) <;> with_reducible rfl
  clear hS
  try simp only [Act.put, List.setIfInBounds_toArray, List.set_cons_zero, List.set_cons_succ]
  refine wpAnyH_done (by kernel_rfl) ?_ _
  have c0 := bR.cell 0 rfl
  have c1 := bR.cell 1 rfl
  have c2 := bR.cell 2 rfl
  have c3 := bR.cell 3 rfl
  go_wp2
  exact bodyPost_ret (v := .tuple #[.agg #[.int .i64 X, .int .i64 Y, .int .i64 M, .int .i64 N], .int .i64 0]) (by simp [results, Try.results68, go_sem, c0, c1, c2, c3]) rfl ⟨rfl, HB.out⟩

set_option maxRecDepth 100000 in
set_option maxHeartbeats 8000000 in
theorem ise_no (w : World) (a1 a2 a3 a4 b1 b2 b3 b4 : Int) (hok : okT a1 a2 a3 a4 b1 b2 b3 b4 = false) :
    Calls Try.prog 68 #[.agg #[.int .i64 a1, .int .i64 a2, .int .i64 a3, .int .i64 a4], .agg #[.int .i64 b1, .int .i64 b2, .int .i64 b3, .int .i64 b4]] w fun e w' => e = .returned (.tuple #[.agg #[.int .i64 0, .int .i64 0, .int .i64 0, .int .i64 0], .int .i64 1]) ∧ Below w.heap.size w w' := by
  obtain ⟨P, hP⟩ : ∃ q, tkB a1 a2 a3 a4 = q := ⟨_, rfl⟩
  obtain ⟨R, hR⟩ : ∃ q, tkB b1 b2 b3 b4 = q := ⟨_, rfl⟩
  unfold okT at hok
  rw [hP, hR] at hok
  have HO := Lib.hid hok
  have KA : Hid (∀ W : World, Calls Try.prog 64 #[.agg #[.int .i64 a1, .int .i64 a2, .int .i64 a3, .int .i64 a4]] W fun e w' => e = .returned (.bool P) ∧ Below W.heap.size W w') := Lib.hid (fun W => by have := itv_any W a1 a2 a3 a4; rwa [hP] at this)
  have KB : Hid (∀ W : World, Calls Try.prog 64 #[.agg #[.int .i64 b1, .int .i64 b2, .int .i64 b3, .int .i64 b4]] W fun e w' => e = .returned (.bool R) ∧ Below W.heap.size W w') := Lib.hid (fun W => by have := itv_any W b1 b2 b3 b4; rwa [hR] at this)
  clear hP hR hok
  go_enter Try.func68, Try.ntmps68
  go_wp2_with fail
  generalize hW : World.alloc _ _ = W
  have bA : Bk W (w.heap.size) #[.int .i64 a1, .int .i64 a2, .int .i64 a3, .int .i64 a4] 44 := by rw [← hW]; repeat (first | (refine Bk.new' ?_; (simp; done)) | refine Bk.alloc ?_ _)
  have bB : Bk W (w.heap.size + 1) #[.int .i64 b1, .int .i64 b2, .int .i64 b3, .int .i64 b4] 44 := by rw [← hW]; repeat (first | (refine Bk.new' ?_; (simp; done)) | refine Bk.alloc ?_ _)
  have bR : Bk W (w.heap.size + 1 + 1) #[.int .i64 0, .int .i64 0, .int .i64 0, .int .i64 0] 44 := by rw [← hW]; repeat (first | (refine Bk.new' ?_; (simp; done)) | refine Bk.alloc ?_ _)
  have HB : Hid (Below w.heap.size w W) := Lib.hid (by rw [← hW]; exact (by repeat (first | exact Below.refl _ _ | (refine Below.alloc ?_ (by simp <;> omega) _) | (refine Below.setCell ?_ (by simp <;> omega) _) | (refine Below.drew ?_) | (refine bel_drewN ?_ _))))
  clear hW
  refine (KA.out _).mono ?_
  rintro e w1 ⟨rfl, hb⟩
  replace bA := bA.on hb
  replace bB := bB.on hb
  replace bR := bR.on hb
  replace HB := Lib.hid (bel_end HB.out hb)
  clear hb
  cases hP : P
  case false =>
    subst hP
    have bA_0 := bA.cell 0 rfl
    have bA_1 := bA.cell 1 rfl
    have bA_2 := bA.cell 2 rfl
    have bA_3 := bA.cell 3 rfl
    have bA_l := bA.lt
    have bB_0 := bB.cell 0 rfl
    have bB_1 := bB.cell 1 rfl
    have bB_2 := bB.cell 2 rfl
    have bB_3 := bB.cell 3 rfl
    have bB_l := bB.lt
    have bR_0 := bR.cell 0 rfl
    have bR_1 := bR.cell 1 rfl
    have bR_2 := bR.cell 2 rfl
    have bR_3 := bR.cell 3 rfl
    have bR_l := bR.lt
    have bR_f0 := bR.frozen 0
    have bR_f1 := bR.frozen 1
    have bR_f2 := bR.frozen 2
    have bR_f3 := bR.frozen 3
    go_wp2
    exact bodyPost_ret (v := .tuple #[.agg #[.int .i64 0, .int .i64 0, .int .i64 0, .int .i64 0], .int .i64 1]) (by simp [results, Try.results68, go_sem, bR_0, bR_f0, bR_1, bR_f1, bR_2, bR_f2, bR_3, bR_f3, bR_l]) rfl ⟨rfl, (by repeat (first | exact HB.out | (refine Below.setCell ?_ (by simp <;> omega) _) | (refine Below.alloc ?_ (by simp <;> omega) _) | (refine Below.drew ?_)))⟩
  case true =>
    subst hP
    obtain rfl : R = false := HO.out
    have bA_0 := bA.cell 0 rfl
    have bA_1 := bA.cell 1 rfl
    have bA_2 := bA.cell 2 rfl
    have bA_3 := bA.cell 3 rfl
    have bA_l := bA.lt
    have bB_0 := bB.cell 0 rfl
    have bB_1 := bB.cell 1 rfl
    have bB_2 := bB.cell 2 rfl
    have bB_3 := bB.cell 3 rfl
    have bB_l := bB.lt
    have bR_0 := bR.cell 0 rfl
    have bR_1 := bR.cell 1 rfl
    have bR_2 := bR.cell 2 rfl
    have bR_3 := bR.cell 3 rfl
    have bR_l := bR.lt
    go_wp2_with fail
    refine (KB.out _).mono ?_
    rintro e w2 ⟨rfl, hb⟩
    replace bA := bA.on hb
    replace bB := bB.on hb
    replace bR := bR.on hb
    replace HB := Lib.hid (bel_end HB.out hb)
    clear hb
    clear bA_0 bA_1 bA_2 bA_3 bA_l bB_0 bB_1 bB_2 bB_3 bB_l bR_0 bR_1 bR_2 bR_3 bR_l
    have bA_0 := bA.cell 0 rfl
    have bA_1 := bA.cell 1 rfl
    have bA_2 := bA.cell 2 rfl
    have bA_3 := bA.cell 3 rfl
    have bA_l := bA.lt
    have bB_0 := bB.cell 0 rfl
    have bB_1 := bB.cell 1 rfl
    have bB_2 := bB.cell 2 rfl
    have bB_3 := bB.cell 3 rfl
    have bB_l := bB.lt
    have bR_0 := bR.cell 0 rfl
    have bR_1 := bR.cell 1 rfl
    have bR_2 := bR.cell 2 rfl
    have bR_3 := bR.cell 3 rfl
    have bR_l := bR.lt
    have bR_f0 := bR.frozen 0
    have bR_f1 := bR.frozen 1
    have bR_f2 := bR.frozen 2
    have bR_f3 := bR.frozen 3
    go_wp2
    exact bodyPost_ret (v := .tuple #[.agg #[.int .i64 0, .int .i64 0, .int .i64 0, .int .i64 0], .int .i64 1]) (by simp [results, Try.results68, go_sem, bR_0, bR_f0, bR_1, bR_f1, bR_2, bR_f2, bR_3, bR_f3, bR_l]) rfl ⟨rfl, (by repeat (first | exact HB.out | (refine Below.setCell ?_ (by simp <;> omega) _) | (refine Below.alloc ?_ (by simp <;> omega) _) | (refine Below.drew ?_)))⟩

set_option maxRecDepth 100000 in
set_option maxHeartbeats 8000000 in
theorem ils_any (w : World) (X Y S T : Int) (h : Seen X Y S T) :
    Calls Try.prog 70 #[.agg #[.int .i64 X, .int .i64 Y, .int .i64 S, .int .i64 T]] w fun e w' => e = .returned (.tuple #[.int .i64 (lsN X Y S T), .int .i64 (lsD X Y S T)]) ∧ Below w.heap.size w w' := by
  have p := h.pr
  have q := h.ss
  have r := h.xx
  have cb := h.cc
  have K1 : Hid (∀ W : World, Calls Try.prog 69 #[.agg #[.int .i64 X, .int .i64 Y], .agg #[.int .i64 S, .int .i64 T]] W fun e w' => e = .returned (.int .i64 (dt2 X Y S T)) ∧ Below W.heap.size W w') := Lib.hid (fun W => isc2_any W X Y S T (by omega) (by omega) (by omega) (by omega))
  have K2 : Hid (∀ W : World, Calls Try.prog 69 #[.agg #[.int .i64 X, .int .i64 Y], .agg #[.int .i64 X, .int .i64 Y]] W fun e w' => e = .returned (.int .i64 (dt2 X Y X Y)) ∧ Below W.heap.size W w') := Lib.hid (fun W => isc2_any W X Y X Y (by omega) (by omega) (by omega) (by omega))
  have K3 : Hid (∀ W : World, Calls Try.prog 69 #[.agg #[.int .i64 S, .int .i64 T], .agg #[.int .i64 S, .int .i64 T]] W fun e w' => e = .returned (.int .i64 (dt2 S T S T)) ∧ Below W.heap.size W w') := Lib.hid (fun W => isc2_any W S T S T (by omega) (by omega) (by omega) (by omega))
  have K4 : Hid (∀ W : World, Calls Try.prog 60 #[.agg #[.int .i64 X, .int .i64 Y], .agg #[.int .i64 S, .int .i64 T]] W fun e w' => e = .returned (.int .i64 (crs X Y S T)) ∧ Below W.heap.size W w') := Lib.hid (fun W => icr_any W X Y S T (by omega) (by omega) (by omega) (by omega))
  have HN : Hid (lsN X Y S T = if 0 ≤ dt2 X Y S T then dt2 X Y X Y else crs X Y S T * crs X Y S T) := Lib.hid rfl
  have HD : Hid (lsD X Y S T = if 0 ≤ dt2 X Y S T then 1 else dt2 S T S T) := Lib.hid rfl
  obtain ⟨D, hD⟩ : ∃ u, dt2 X Y S T = u := ⟨_, rfl⟩
  obtain ⟨E, hE⟩ : ∃ u, dt2 X Y X Y = u := ⟨_, rfl⟩
  obtain ⟨F, hF⟩ : ∃ u, dt2 S T S T = u := ⟨_, rfl⟩
  obtain ⟨C, hC⟩ : ∃ u, crs X Y S T = u := ⟨_, rfl⟩
  rw [hD] at K1 HN HD
  rw [hE] at K2 HN
  rw [hF] at K3 HD
  rw [hC] at K4 HN cb
  have ec : IntKind.wrap .i64 (C * C) = C * C := IntWalk.i64_in _ (by omega)
  obtain ⟨Z, hZ⟩ : ∃ u, C * C = u := ⟨_, rfl⟩
  rw [hZ] at HN ec
  have ec2 : IntKind.wrap .i64 (C * C) = Z := by rw [hZ]; exact ec
  clear hD hE hF hC hZ p q r cb ec h
  go_enter Try.func70, Try.ntmps70
  go_wp2_with fail
  generalize hW : World.alloc _ _ = W
  have bX : Bk W (w.heap.size) #[.int .i64 X, .int .i64 Y, .int .i64 S, .int .i64 T] 44 := by rw [← hW]; repeat (first | (refine Bk.new' ?_; (simp; done)) | refine Bk.alloc ?_ _)
  have HB : Hid (Below w.heap.size w W) := Lib.hid (by rw [← hW]; exact (by repeat (first | exact Below.refl _ _ | (refine Below.alloc ?_ (by simp <;> omega) _) | (refine Below.setCell ?_ (by simp <;> omega) _) | (refine Below.drew ?_) | (refine bel_drewN ?_ _))))
  clear hW
  refine (K1.out _).mono ?_
  rintro e w1 ⟨rfl, hb⟩
  replace bX := bX.on hb
  replace HB := Lib.hid (bel_end HB.out hb)
  clear hb
  by_cases hd : 0 ≤ D
  case pos =>
    have e1 : Hid (lsN X Y S T = E) := Lib.hid (by rw [HN.out]; exact if_pos hd)
    have e2 : Hid (lsD X Y S T = 1) := Lib.hid (by rw [HD.out]; exact if_pos hd)
    have bX_0 := bX.cell 0 rfl
    have bX_1 := bX.cell 1 rfl
    have bX_2 := bX.cell 2 rfl
    have bX_3 := bX.cell 3 rfl
    have bX_l := bX.lt
    go_wp2_with fail
    refine (K2.out _).mono ?_
    rintro e w2 ⟨rfl, hb⟩
    replace bX := bX.on hb
    replace HB := Lib.hid (bel_end HB.out hb)
    clear hb
    clear bX_0 bX_1 bX_2 bX_3 bX_l
    have bX_0 := bX.cell 0 rfl
    have bX_1 := bX.cell 1 rfl
    have bX_2 := bX.cell 2 rfl
    have bX_3 := bX.cell 3 rfl
    have bX_l := bX.lt
    go_wp2
    go_ret2
    exact ⟨ret2e e1.out e2.out, HB.out⟩
  case neg =>
    have e1 : Hid (lsN X Y S T = Z) := Lib.hid (by rw [HN.out]; exact if_neg hd)
    have e2 : Hid (lsD X Y S T = F) := Lib.hid (by rw [HD.out]; exact if_neg hd)
    have bX_0 := bX.cell 0 rfl
    have bX_1 := bX.cell 1 rfl
    have bX_2 := bX.cell 2 rfl
    have bX_3 := bX.cell 3 rfl
    have bX_l := bX.lt
    go_wp2_with fail
    refine (K4.out _).mono ?_
    rintro e w2 ⟨rfl, hb⟩
    replace bX := bX.on hb
    replace HB := Lib.hid (bel_end HB.out hb)
    clear hb
    clear bX_0 bX_1 bX_2 bX_3 bX_l
    have bX_0 := bX.cell 0 rfl
    have bX_1 := bX.cell 1 rfl
    have bX_2 := bX.cell 2 rfl
    have bX_3 := bX.cell 3 rfl
    have bX_l := bX.lt
    go_wp2_with fail
    refine (K3.out _).mono ?_
    rintro e w3 ⟨rfl, hb⟩
    replace bX := bX.on hb
    replace HB := Lib.hid (bel_end HB.out hb)
    clear hb
    clear bX_0 bX_1 bX_2 bX_3 bX_l
    have bX_0 := bX.cell 0 rfl
    have bX_1 := bX.cell 1 rfl
    have bX_2 := bX.cell 2 rfl
    have bX_3 := bX.cell 3 rfl
    have bX_l := bX.lt
    go_wp2
    go_ret2
    exact ⟨ret2e e1.out e2.out, HB.out⟩
end Go.Proofs.Ytkjpjhklnaehbaa
