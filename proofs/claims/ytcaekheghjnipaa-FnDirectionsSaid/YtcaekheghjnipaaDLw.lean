/- The walk of the law of directions. -/
import Derived.Test.YtcaekheghjnipaaDDir2
import Derived.Test.YtcaekheghjnipaaDirCd
import Derived.Test.YtcaekheghjnipaaDirMi
import Derived.Deep.RegionHeld3
import Derived.Deep.DeepCutAuto
namespace Go.Proofs.Ytcaekheghjnipaa
open Go.ChangeShapes Go.WideShapes Go.ChangeAt Go.RowKit Go.Shelf Num
set_option linter.unusedVariables false
attribute [local go_sem ↓] Go.wp_at_zero Go.wp_at_succ
theorem ms_pos {m n : Int} (h : mnB m n = true) : 0 < ms m n := by
  obtain ⟨p1, p2, p3, p4, p5, p6⟩ := mn_pos h
  exact lw_pos (g3_pos (by omega)) p2 (g3_2 _ _ _)
theorem mdT_cases {m n : Int} {d : Bool} {p q r : Int} (h : mdT m n d = (p, q, r, 0)) : mnB m n = true ∧ p = mc m n ∧ q = (if d then ms m n else -(ms m n)) ∧ r = mh m n := by
  cases hm : mnB m n
  · unfold mdT at h; rw [hm] at h; simp at h
  · unfold mdT at h; rw [hm] at h
    simp only [if_true, Prod.mk.injEq] at h
    exact ⟨rfl, h.1.symm, h.2.1.symm, h.2.2.1.symm⟩
theorem md_valid {m n : Int} {d : Bool} {p q r : Int} (h : mdT m n d = (p, q, r, 0)) : dirB p q r = true := by
  obtain ⟨hm, rfl, rfl, rfl⟩ := mdT_cases h
  cases d
  · exact (mn_ok hm).mir.b
  · exact (mn_ok hm).b
theorem md_fact (m n : Int) (d : Bool) (p q r c : Int) (h : mdT m n d = (p, q, r, c)) (h0 : c = 0) : dirB p q r = true ∧ decide (0 < q) = d ∧ ∀ p' q' r', mdT (m + 1) n d = (p', q', r', 0) → cdV p q r p' q' r' = 1 ∧ cdC p q r p' q' r' = 0 := by
  subst h0
  have hv := md_valid h
  obtain ⟨hm, e1, e2, e3⟩ := mdT_cases h
  refine ⟨hv, ?_, ?_⟩
  · have := ms_pos hm
    subst e2
    cases d
    · simp; omega
    · simpa using this
  · intro p' q' r' h'
    have hv' := md_valid h'
    obtain ⟨hm', f1, f2, f3⟩ := mdT_cases h'
    unfold cdV cdC
    rw [hv, hv']
    refine ⟨?_, rfl⟩
    subst e1 e3 f1 f3
    have := made_steeper hm hm'
    show sgn _ _ = 1
    unfold sgn
    rw [if_neg (by omega), if_pos this]
theorem mi_fact (x y z p q r c : Int) (h : miT x y z = (p, q, r, c)) (h0 : c = 0) : miT p q r = (x, y, z, 0) ∧ cdV x y z p q r = 0 ∧ cdC x y z p q r = 0 := by
  subst h0
  cases hv : dirB x y z
  · unfold miT at h; rw [hv] at h; simp at h
  · unfold miT at h; rw [hv] at h
    simp only [if_true, Prod.mk.injEq] at h
    obtain ⟨rfl, rfl, rfl, _⟩ := h
    have hm : dirB x (-y) z = true := by rw [dirB_mir]; exact hv
    refine ⟨?_, ?_, ?_⟩
    · unfold miT; rw [hm, Int.neg_neg]; rfl
    · unfold cdV; rw [hv, hm]; show sgn _ _ = 0; unfold sgn; rw [if_neg (by omega), if_neg (by omega)]
    · unfold cdC; rw [hv, hm]; rfl

set_option maxRecDepth 100000 in
set_option maxHeartbeats 4000000 in
theorem ldir (a0 : Option Addr) (len0 cap0 : Nat) (z0 : List Int) (w : World) (w0 : IsRow .u8 w a0 len0 cap0 z0) :
    Calls Try.prog 11 #[.slice a0 len0 cap0] w fun e w' => e = .returned (.bool true) ∧ Below w.heap.size w w' := by
  obtain ⟨hln, hc⟩ := Code8.of_row w0
  clear w0
  obtain ⟨cs, hcs⟩ : ∃ cs, z0.take len0 = cs := ⟨_, rfl⟩
  rw [hcs] at hln hc
  subst hln
  clear hcs
  have HC := Lib.hid hc
  clear hc
  by_cases hbig : 4096 < (cs.length : Int)
  · have HB0 : Hid (decide (4096 < (cs.length : Int)) = true) := Lib.hid (decide_eq_true hbig)
    clear hbig
    go_enter Try.func11, Try.ntmps11
    go_wp2_with fail
    refine (big_any _ _ _ _).mono ?_
    rw [HB0.out]
    rintro e w1 ⟨rfl, rfl⟩
    go_wp2
    go_ret
    exact ⟨rfl, Below.refl _ _⟩
  have HB0 : Hid (decide (4096 < (cs.length : Int)) = false) := Lib.hid (decide_eq_false hbig)
  clear hbig
  go_enter Try.func11, Try.ntmps11
  go_wp2_with fail
  refine (big_any _ _ _ _).mono ?_
  rw [HB0.out]
  rintro e w1 ⟨rfl, hw1⟩
  subst hw1
  go_wp2_with fail
  refine (dmk_any _ _ _ cs HC.out).mono ?_
  rintro e w1 ⟨m, n, d, rfl, hmb, hb⟩
  have HB := Lib.hid hb
  obtain ⟨⟨p1, q1, r1, e1⟩, hU⟩ : ∃ U, mdT m n d = U := ⟨_, rfl⟩
  have KA : Hid (∀ (w : World), Calls Try.prog 19 #[.int .i64 m, .int .i64 n, .bool d] w fun e w' => e = .returned (.tuple #[.agg #[.int .i64 p1, .int .i64 q1, .int .i64 r1], .int .i64 e1]) ∧ Below w.heap.size w w') := Lib.hid (fun w => by have := imd_any m n d w; rwa [hU] at this)
  have KB : Hid (∀ (w : World), Calls Try.prog 18 #[.int .i64 m, .int .i64 n, .bool d] w fun e w' => e = .returned (.tuple #[.agg #[.int .i64 p1, .int .i64 q1, .int .i64 r1], .int .i64 e1]) ∧ Below w.heap.size w w') := Lib.hid (fun w => by have := smd_any m n d w; rwa [hU] at this)
  obtain ⟨⟨p4, q4, r4, e4⟩, hV⟩ : ∃ U, mdT (m + 1) n d = U := ⟨_, rfl⟩
  have KC : Hid (∀ (w : World), Calls Try.prog 19 #[.int .i64 (m + 1), .int .i64 n, .bool d] w fun e w' => e = .returned (.tuple #[.agg #[.int .i64 p4, .int .i64 q4, .int .i64 r4], .int .i64 e4]) ∧ Below w.heap.size w w') := Lib.hid (fun w => by have := imd_any (m + 1) n d w; rwa [hV] at this)
  obtain ⟨k4, hk4⟩ : ∃ k, cdV p1 q1 r1 p4 q4 r4 = k := ⟨_, rfl⟩
  obtain ⟨f4, hf4⟩ : ∃ k, cdC p1 q1 r1 p4 q4 r4 = k := ⟨_, rfl⟩
  have KD : Hid (∀ (w : World), Calls Try.prog 24 #[.agg #[.int .i64 p1, .int .i64 q1, .int .i64 r1], .agg #[.int .i64 p4, .int .i64 q4, .int .i64 r4]] w fun e w' => e = .returned (.tuple #[.int .i64 k4, .int .i64 f4]) ∧ Below w.heap.size w w') := Lib.hid (fun w => by have := icm_any p1 q1 r1 p4 q4 r4 w; rwa [hk4, hf4] at this)
  have FA := Lib.hid (fun (h : e1 = 0) => md_fact m n d p1 q1 r1 e1 hU h)
  have FB : Hid (e1 = 0 → e4 = 0 → k4 = 1 ∧ f4 = 0) := Lib.hid (fun h h2 => by have := (md_fact m n d p1 q1 r1 e1 hU h).2.2 p4 q4 r4 (by rw [hV, h2]); rwa [hk4, hf4] at this)
  have KE : Hid (∀ (w : World), Calls Try.prog 17 #[.agg #[.int .i64 p1, .int .i64 q1, .int .i64 r1]] w fun e w' => e = .returned (.bool (dirB p1 q1 r1)) ∧ Below w.heap.size w w') := Lib.hid (fun w => by have := idr_any p1 q1 r1 w; exact this)
  have MB := Lib.hid hmb
  clear hU hV hk4 hf4 hmb
  clear hb
  go_wp2_with fail
  refine (KA.out _).mono ?_
  rintro e w2 ⟨rfl, hb⟩
  replace HB := Lib.hid (bel_end HB.out hb)
  clear hb
  go_wp2_with fail
  obtain ⟨W3, hW⟩ : ∃ W, W = (w2.alloc (.cells #[.int .i64 p1, .int .i64 q1, .int .i64 r1] 25)) := ⟨_, rfl⟩
  have hb : Below w2.heap.size w2 W3 := by rw [hW]; exact (by repeat (first | exact Below.refl _ _ | (refine Below.alloc ?_ (by simp <;> omega) _) | (refine Below.setCell ?_ (by simp <;> omega) _) | (refine Below.drew ?_) | (refine bel_drewN ?_ _)))
  have bA : Bk W3 (w2.heap.size) #[.int .i64 p1, .int .i64 q1, .int .i64 r1] 25 := by rw [hW]; exact (Bk.new' (by simp))
  replace HB := Lib.hid (bel_end HB.out hb)
  rw [← hW]
  clear hW hb
  refine (KB.out _).mono ?_
  rintro e w4 ⟨rfl, hb⟩
  replace bA := bA.on hb
  replace HB := Lib.hid (bel_end HB.out hb)
  clear KA KB
  clear hb
  have bA_0 := bA.cell 0 rfl
  have bA_1 := bA.cell 1 rfl
  have bA_2 := bA.cell 2 rfl
  have bA_l := bA.lt
  go_wp2_with fail
  obtain ⟨W5, hW⟩ : ∃ W, W = (w4.alloc (.cells #[.int .i64 p1, .int .i64 q1, .int .i64 r1] 25)) := ⟨_, rfl⟩
  have hb : Below w4.heap.size w4 W5 := by rw [hW]; exact (by repeat (first | exact Below.refl _ _ | (refine Below.alloc ?_ (by simp <;> omega) _) | (refine Below.setCell ?_ (by simp <;> omega) _) | (refine Below.drew ?_) | (refine bel_drewN ?_ _)))
  have bB : Bk W5 (w4.heap.size) #[.int .i64 p1, .int .i64 q1, .int .i64 r1] 25 := by rw [hW]; exact (Bk.new' (by simp))
  replace bA := bA.on hb
  replace HB := Lib.hid (bel_end HB.out hb)
  rw [← hW]
  clear bA_0 bA_1 bA_2 bA_l
  clear hW hb
  refine (dmd_any _ _ _ cs ((HC.out.below HB.out (Nat.le_refl _)).more HB.out.size)).mono ?_
  rintro e w6 ⟨x, y, z, rfl, hb⟩
  replace bA := bA.on hb
  replace bB := bB.on hb
  replace HB := Lib.hid (bel_end HB.out hb)
  obtain ⟨⟨p2, q2, r2, e2⟩, hU⟩ : ∃ U, miT x y z = U := ⟨_, rfl⟩
  have KA : Hid (∀ (w : World), Calls Try.prog 22 #[.agg #[.int .i64 x, .int .i64 y, .int .i64 z]] w fun e w' => e = .returned (.tuple #[.agg #[.int .i64 p2, .int .i64 q2, .int .i64 r2], .int .i64 e2]) ∧ Below w.heap.size w w') := Lib.hid (fun w => by have := imi_any x y z w; rwa [hU] at this)
  have KB : Hid (∀ (w : World), Calls Try.prog 21 #[.agg #[.int .i64 x, .int .i64 y, .int .i64 z]] w fun e w' => e = .returned (.tuple #[.agg #[.int .i64 p2, .int .i64 q2, .int .i64 r2], .int .i64 e2]) ∧ Below w.heap.size w w') := Lib.hid (fun w => by have := smi_any x y z w; rwa [hU] at this)
  obtain ⟨bd, hbd⟩ : ∃ b, dirB x y z = b := ⟨_, rfl⟩
  have KI : Hid (∀ (w : World), Calls Try.prog 17 #[.agg #[.int .i64 x, .int .i64 y, .int .i64 z]] w fun e w' => e = .returned (.bool bd) ∧ Below w.heap.size w w') := Lib.hid (fun w => by have := idr_any x y z w; rwa [hbd] at this)
  have KJ : Hid (∀ (w : World), Calls Try.prog 15 #[.agg #[.int .i64 x, .int .i64 y, .int .i64 z]] w fun e w' => e = .returned (.bool bd) ∧ Below w.heap.size w w') := Lib.hid (fun w => by have := sdr_any x y z w; rwa [hbd] at this)
  have KM : Hid (e2 = 0 → ∀ (w : World), Calls Try.prog 22 #[.agg #[.int .i64 p2, .int .i64 q2, .int .i64 r2]] w fun e w' => e = .returned (.tuple #[.agg #[.int .i64 x, .int .i64 y, .int .i64 z], .int .i64 0]) ∧ Below w.heap.size w w') := Lib.hid (fun h w => by have := imi_any p2 q2 r2 w; rwa [(mi_fact x y z p2 q2 r2 e2 hU h).1] at this)
  have KN : Hid (e2 = 0 → ∀ (w : World), Calls Try.prog 24 #[.agg #[.int .i64 x, .int .i64 y, .int .i64 z], .agg #[.int .i64 p2, .int .i64 q2, .int .i64 r2]] w fun e w' => e = .returned (.tuple #[.int .i64 0, .int .i64 0]) ∧ Below w.heap.size w w') := Lib.hid (fun h w => by have := icm_any x y z p2 q2 r2 w; rwa [(mi_fact x y z p2 q2 r2 e2 hU h).2.1, (mi_fact x y z p2 q2 r2 e2 hU h).2.2] at this)
  clear hU hbd
  clear hb
  have bA_0 := bA.cell 0 rfl
  have bA_1 := bA.cell 1 rfl
  have bA_2 := bA.cell 2 rfl
  have bA_l := bA.lt
  have bB_0 := bB.cell 0 rfl
  have bB_1 := bB.cell 1 rfl
  have bB_2 := bB.cell 2 rfl
  have bB_l := bB.lt
  go_wp2_with fail
  obtain ⟨W7, hW⟩ : ∃ W, W = (w6.alloc (.cells #[.int .i64 x, .int .i64 y, .int .i64 z] 25)) := ⟨_, rfl⟩
  have hb : Below w6.heap.size w6 W7 := by rw [hW]; exact (by repeat (first | exact Below.refl _ _ | (refine Below.alloc ?_ (by simp <;> omega) _) | (refine Below.setCell ?_ (by simp <;> omega) _) | (refine Below.drew ?_) | (refine bel_drewN ?_ _)))
  have bD : Bk W7 (w6.heap.size) #[.int .i64 x, .int .i64 y, .int .i64 z] 25 := by rw [hW]; exact (Bk.new' (by simp))
  replace bA := bA.on hb
  replace bB := bB.on hb
  replace HB := Lib.hid (bel_end HB.out hb)
  rw [← hW]
  clear bA_0 bA_1 bA_2 bA_l bB_0 bB_1 bB_2 bB_l
  clear hW hb
  have bA_0 := bA.cell 0 rfl
  have bA_1 := bA.cell 1 rfl
  have bA_2 := bA.cell 2 rfl
  have bA_l := bA.lt
  have bB_0 := bB.cell 0 rfl
  have bB_1 := bB.cell 1 rfl
  have bB_2 := bB.cell 2 rfl
  have bB_l := bB.lt
  have bD_0 := bD.cell 0 rfl
  have bD_1 := bD.cell 1 rfl
  have bD_2 := bD.cell 2 rfl
  have bD_l := bD.lt
  refine (KA.out _).mono ?_
  rintro e w8 ⟨rfl, hb⟩
  replace bA := bA.on hb
  replace bB := bB.on hb
  replace bD := bD.on hb
  replace HB := Lib.hid (bel_end HB.out hb)
  clear hb
  clear bA_0 bA_1 bA_2 bA_l bB_0 bB_1 bB_2 bB_l bD_0 bD_1 bD_2 bD_l
  have bA_0 := bA.cell 0 rfl
  have bA_1 := bA.cell 1 rfl
  have bA_2 := bA.cell 2 rfl
  have bA_l := bA.lt
  have bB_0 := bB.cell 0 rfl
  have bB_1 := bB.cell 1 rfl
  have bB_2 := bB.cell 2 rfl
  have bB_l := bB.lt
  have bD_0 := bD.cell 0 rfl
  have bD_1 := bD.cell 1 rfl
  have bD_2 := bD.cell 2 rfl
  have bD_l := bD.lt
  go_wp2_with fail
  obtain ⟨W9, hW⟩ : ∃ W, W = (w8.alloc (.cells #[.int .i64 p2, .int .i64 q2, .int .i64 r2] 25)) := ⟨_, rfl⟩
  have hb : Below w8.heap.size w8 W9 := by rw [hW]; exact (by repeat (first | exact Below.refl _ _ | (refine Below.alloc ?_ (by simp <;> omega) _) | (refine Below.setCell ?_ (by simp <;> omega) _) | (refine Below.drew ?_) | (refine bel_drewN ?_ _)))
  have bE : Bk W9 (w8.heap.size) #[.int .i64 p2, .int .i64 q2, .int .i64 r2] 25 := by rw [hW]; exact (Bk.new' (by simp))
  replace bA := bA.on hb
  replace bB := bB.on hb
  replace bD := bD.on hb
  replace HB := Lib.hid (bel_end HB.out hb)
  rw [← hW]
  clear bA_0 bA_1 bA_2 bA_l bB_0 bB_1 bB_2 bB_l bD_0 bD_1 bD_2 bD_l
  clear hW hb
  have bA_0 := bA.cell 0 rfl
  have bA_1 := bA.cell 1 rfl
  have bA_2 := bA.cell 2 rfl
  have bA_l := bA.lt
  have bB_0 := bB.cell 0 rfl
  have bB_1 := bB.cell 1 rfl
  have bB_2 := bB.cell 2 rfl
  have bB_l := bB.lt
  have bD_0 := bD.cell 0 rfl
  have bD_1 := bD.cell 1 rfl
  have bD_2 := bD.cell 2 rfl
  have bD_l := bD.lt
  have bE_0 := bE.cell 0 rfl
  have bE_1 := bE.cell 1 rfl
  have bE_2 := bE.cell 2 rfl
  have bE_l := bE.lt
  refine (KB.out _).mono ?_
  rintro e w10 ⟨rfl, hb⟩
  replace bA := bA.on hb
  replace bB := bB.on hb
  replace bD := bD.on hb
  replace bE := bE.on hb
  replace HB := Lib.hid (bel_end HB.out hb)
  clear KA KB
  clear hb
  clear bA_0 bA_1 bA_2 bA_l bB_0 bB_1 bB_2 bB_l bD_0 bD_1 bD_2 bD_l bE_0 bE_1 bE_2 bE_l
  have bA_0 := bA.cell 0 rfl
  have bA_1 := bA.cell 1 rfl
  have bA_2 := bA.cell 2 rfl
  have bA_l := bA.lt
  have bB_0 := bB.cell 0 rfl
  have bB_1 := bB.cell 1 rfl
  have bB_2 := bB.cell 2 rfl
  have bB_l := bB.lt
  have bD_0 := bD.cell 0 rfl
  have bD_1 := bD.cell 1 rfl
  have bD_2 := bD.cell 2 rfl
  have bD_l := bD.lt
  have bE_0 := bE.cell 0 rfl
  have bE_1 := bE.cell 1 rfl
  have bE_2 := bE.cell 2 rfl
  have bE_l := bE.lt
  go_wp2_with fail
  obtain ⟨W11, hW⟩ : ∃ W, W = (w10.alloc (.cells #[.int .i64 p2, .int .i64 q2, .int .i64 r2] 25)) := ⟨_, rfl⟩
  have hb : Below w10.heap.size w10 W11 := by rw [hW]; exact (by repeat (first | exact Below.refl _ _ | (refine Below.alloc ?_ (by simp <;> omega) _) | (refine Below.setCell ?_ (by simp <;> omega) _) | (refine Below.drew ?_) | (refine bel_drewN ?_ _)))
  have bF : Bk W11 (w10.heap.size) #[.int .i64 p2, .int .i64 q2, .int .i64 r2] 25 := by rw [hW]; exact (Bk.new' (by simp))
  replace bA := bA.on hb
  replace bB := bB.on hb
  replace bD := bD.on hb
  replace bE := bE.on hb
  replace HB := Lib.hid (bel_end HB.out hb)
  rw [← hW]
  clear bA_0 bA_1 bA_2 bA_l bB_0 bB_1 bB_2 bB_l bD_0 bD_1 bD_2 bD_l bE_0 bE_1 bE_2 bE_l
  clear hW hb
  refine (dcd_any _ _ _ cs ((HC.out.below HB.out (Nat.le_refl _)).more HB.out.size)).mono ?_
  rintro e w12 ⟨a1, a2, a3, b1, b2, b3, rfl, hb⟩
  replace bA := bA.on hb
  replace bB := bB.on hb
  replace bD := bD.on hb
  replace bE := bE.on hb
  replace bF := bF.on hb
  replace HB := Lib.hid (bel_end HB.out hb)
  obtain ⟨k3, hk3⟩ : ∃ k, cdV a1 a2 a3 b1 b2 b3 = k := ⟨_, rfl⟩
  obtain ⟨e3, he3⟩ : ∃ k, cdC a1 a2 a3 b1 b2 b3 = k := ⟨_, rfl⟩
  have KA : Hid (∀ (w : World), Calls Try.prog 24 #[.agg #[.int .i64 a1, .int .i64 a2, .int .i64 a3], .agg #[.int .i64 b1, .int .i64 b2, .int .i64 b3]] w fun e w' => e = .returned (.tuple #[.int .i64 k3, .int .i64 e3]) ∧ Below w.heap.size w w') := Lib.hid (fun w => by have := icm_any a1 a2 a3 b1 b2 b3 w; rwa [hk3, he3] at this)
  have KB : Hid (∀ (w : World), Calls Try.prog 23 #[.agg #[.int .i64 a1, .int .i64 a2, .int .i64 a3], .agg #[.int .i64 b1, .int .i64 b2, .int .i64 b3]] w fun e w' => e = .returned (.tuple #[.int .i64 k3, .int .i64 e3]) ∧ Below w.heap.size w w') := Lib.hid (fun w => by have := scm_any a1 a2 a3 b1 b2 b3 w; rwa [hk3, he3] at this)
  clear hk3 he3
  clear hb
  have bA_0 := bA.cell 0 rfl
  have bA_1 := bA.cell 1 rfl
  have bA_2 := bA.cell 2 rfl
  have bA_l := bA.lt
  have bB_0 := bB.cell 0 rfl
  have bB_1 := bB.cell 1 rfl
  have bB_2 := bB.cell 2 rfl
  have bB_l := bB.lt
  have bD_0 := bD.cell 0 rfl
  have bD_1 := bD.cell 1 rfl
  have bD_2 := bD.cell 2 rfl
  have bD_l := bD.lt
  have bE_0 := bE.cell 0 rfl
  have bE_1 := bE.cell 1 rfl
  have bE_2 := bE.cell 2 rfl
  have bE_l := bE.lt
  have bF_0 := bF.cell 0 rfl
  have bF_1 := bF.cell 1 rfl
  have bF_2 := bF.cell 2 rfl
  have bF_l := bF.lt
  go_wp2_with fail
  obtain ⟨W13, hW⟩ : ∃ W, W = ((w12.alloc (.cells #[.int .i64 a1, .int .i64 a2, .int .i64 a3] 25)).alloc (.cells #[.int .i64 b1, .int .i64 b2, .int .i64 b3] 25)) := ⟨_, rfl⟩
  have hb : Below w12.heap.size w12 W13 := by rw [hW]; exact (by repeat (first | exact Below.refl _ _ | (refine Below.alloc ?_ (by simp <;> omega) _) | (refine Below.setCell ?_ (by simp <;> omega) _) | (refine Below.drew ?_) | (refine bel_drewN ?_ _)))
  have bG : Bk W13 (w12.heap.size) #[.int .i64 a1, .int .i64 a2, .int .i64 a3] 25 := by rw [hW]; exact ((Bk.new' (by simp)).alloc _)
  have bH : Bk W13 (w12.heap.size + 1) #[.int .i64 b1, .int .i64 b2, .int .i64 b3] 25 := by rw [hW]; exact (Bk.new' (by simp))
  replace bA := bA.on hb
  replace bB := bB.on hb
  replace bD := bD.on hb
  replace bE := bE.on hb
  replace bF := bF.on hb
  replace HB := Lib.hid (bel_end HB.out hb)
  rw [← hW]
  clear bA_0 bA_1 bA_2 bA_l bB_0 bB_1 bB_2 bB_l bD_0 bD_1 bD_2 bD_l bE_0 bE_1 bE_2 bE_l bF_0 bF_1 bF_2 bF_l
  clear hW hb
  have bA_0 := bA.cell 0 rfl
  have bA_1 := bA.cell 1 rfl
  have bA_2 := bA.cell 2 rfl
  have bA_l := bA.lt
  have bB_0 := bB.cell 0 rfl
  have bB_1 := bB.cell 1 rfl
  have bB_2 := bB.cell 2 rfl
  have bB_l := bB.lt
  have bD_0 := bD.cell 0 rfl
  have bD_1 := bD.cell 1 rfl
  have bD_2 := bD.cell 2 rfl
  have bD_l := bD.lt
  have bE_0 := bE.cell 0 rfl
  have bE_1 := bE.cell 1 rfl
  have bE_2 := bE.cell 2 rfl
  have bE_l := bE.lt
  have bF_0 := bF.cell 0 rfl
  have bF_1 := bF.cell 1 rfl
  have bF_2 := bF.cell 2 rfl
  have bF_l := bF.lt
  have bG_0 := bG.cell 0 rfl
  have bG_1 := bG.cell 1 rfl
  have bG_2 := bG.cell 2 rfl
  have bG_l := bG.lt
  have bH_0 := bH.cell 0 rfl
  have bH_1 := bH.cell 1 rfl
  have bH_2 := bH.cell 2 rfl
  have bH_l := bH.lt
  refine (KA.out _).mono ?_
  rintro e w14 ⟨rfl, hb⟩
  replace bA := bA.on hb
  replace bB := bB.on hb
  replace bD := bD.on hb
  replace bE := bE.on hb
  replace bF := bF.on hb
  replace bG := bG.on hb
  replace bH := bH.on hb
  replace HB := Lib.hid (bel_end HB.out hb)
  clear hb
  clear bA_0 bA_1 bA_2 bA_l bB_0 bB_1 bB_2 bB_l bD_0 bD_1 bD_2 bD_l bE_0 bE_1 bE_2 bE_l bF_0 bF_1 bF_2 bF_l bG_0 bG_1 bG_2 bG_l bH_0 bH_1 bH_2 bH_l
  have bA_0 := bA.cell 0 rfl
  have bA_1 := bA.cell 1 rfl
  have bA_2 := bA.cell 2 rfl
  have bA_l := bA.lt
  have bB_0 := bB.cell 0 rfl
  have bB_1 := bB.cell 1 rfl
  have bB_2 := bB.cell 2 rfl
  have bB_l := bB.lt
  have bD_0 := bD.cell 0 rfl
  have bD_1 := bD.cell 1 rfl
  have bD_2 := bD.cell 2 rfl
  have bD_l := bD.lt
  have bE_0 := bE.cell 0 rfl
  have bE_1 := bE.cell 1 rfl
  have bE_2 := bE.cell 2 rfl
  have bE_l := bE.lt
  have bF_0 := bF.cell 0 rfl
  have bF_1 := bF.cell 1 rfl
  have bF_2 := bF.cell 2 rfl
  have bF_l := bF.lt
  have bG_0 := bG.cell 0 rfl
  have bG_1 := bG.cell 1 rfl
  have bG_2 := bG.cell 2 rfl
  have bG_l := bG.lt
  have bH_0 := bH.cell 0 rfl
  have bH_1 := bH.cell 1 rfl
  have bH_2 := bH.cell 2 rfl
  have bH_l := bH.lt
  go_wp2_with fail
  refine (KB.out _).mono ?_
  rintro e w15 ⟨rfl, hb⟩
  replace bA := bA.on hb
  replace bB := bB.on hb
  replace bD := bD.on hb
  replace bE := bE.on hb
  replace bF := bF.on hb
  replace bG := bG.on hb
  replace bH := bH.on hb
  replace HB := Lib.hid (bel_end HB.out hb)
  clear KA KB
  clear hb
  clear bA_0 bA_1 bA_2 bA_l bB_0 bB_1 bB_2 bB_l bD_0 bD_1 bD_2 bD_l bE_0 bE_1 bE_2 bE_l bF_0 bF_1 bF_2 bF_l bG_0 bG_1 bG_2 bG_l bH_0 bH_1 bH_2 bH_l
  clear bG
  clear bH
  go_upto_region 12 with fail
  go_cut [114] (fun s wx => s = .bool false ∧ Below w15.heap.size w15 wx)
  case first =>
    have at15 : ∀ (w' : World), Below w15.heap.size w15 w' → w'.cell? ⟨w2.heap.size, 0, none⟩ = some (.int .i64 p1) ∧ w'.cell? ⟨w2.heap.size, 1, none⟩ = some (.int .i64 q1) ∧ w'.cell? ⟨w2.heap.size, 2, none⟩ = some (.int .i64 r1) ∧ w'.cell? ⟨w4.heap.size, 0, none⟩ = some (.int .i64 p1) ∧ w'.cell? ⟨w4.heap.size, 1, none⟩ = some (.int .i64 q1) ∧ w'.cell? ⟨w4.heap.size, 2, none⟩ = some (.int .i64 r1) ∧ w'.cell? ⟨w6.heap.size, 0, none⟩ = some (.int .i64 x) ∧ w'.cell? ⟨w6.heap.size, 1, none⟩ = some (.int .i64 y) ∧ w'.cell? ⟨w6.heap.size, 2, none⟩ = some (.int .i64 z) ∧ w'.cell? ⟨w8.heap.size, 0, none⟩ = some (.int .i64 p2) ∧ w'.cell? ⟨w8.heap.size, 1, none⟩ = some (.int .i64 q2) ∧ w'.cell? ⟨w8.heap.size, 2, none⟩ = some (.int .i64 r2) ∧ w'.cell? ⟨w10.heap.size, 0, none⟩ = some (.int .i64 p2) ∧ w'.cell? ⟨w10.heap.size, 1, none⟩ = some (.int .i64 q2) ∧ w'.cell? ⟨w10.heap.size, 2, none⟩ = some (.int .i64 r2) ∧ Below w15.heap.size w15 w' := fun _ H => ⟨(bA.on H).cell 0 rfl, (bA.on H).cell 1 rfl, (bA.on H).cell 2 rfl, (bB.on H).cell 0 rfl, (bB.on H).cell 1 rfl, (bB.on H).cell 2 rfl, (bD.on H).cell 0 rfl, (bD.on H).cell 1 rfl, (bD.on H).cell 2 rfl, (bE.on H).cell 0 rfl, (bE.on H).cell 1 rfl, (bE.on H).cell 2 rfl, (bF.on H).cell 0 rfl, (bF.on H).cell 1 rfl, (bF.on H).cell 2 rfl, H⟩
    have AT := Lib.hid at15
    clear at15
    go_region_held3 (fun w' => w'.cell? ⟨w2.heap.size, 0, none⟩ = some (.int .i64 p1) ∧ w'.cell? ⟨w2.heap.size, 1, none⟩ = some (.int .i64 q1) ∧ w'.cell? ⟨w2.heap.size, 2, none⟩ = some (.int .i64 r1) ∧ w'.cell? ⟨w4.heap.size, 0, none⟩ = some (.int .i64 p1) ∧ w'.cell? ⟨w4.heap.size, 1, none⟩ = some (.int .i64 q1) ∧ w'.cell? ⟨w4.heap.size, 2, none⟩ = some (.int .i64 r1) ∧ w'.cell? ⟨w6.heap.size, 0, none⟩ = some (.int .i64 x) ∧ w'.cell? ⟨w6.heap.size, 1, none⟩ = some (.int .i64 y) ∧ w'.cell? ⟨w6.heap.size, 2, none⟩ = some (.int .i64 z) ∧ w'.cell? ⟨w8.heap.size, 0, none⟩ = some (.int .i64 p2) ∧ w'.cell? ⟨w8.heap.size, 1, none⟩ = some (.int .i64 q2) ∧ w'.cell? ⟨w8.heap.size, 2, none⟩ = some (.int .i64 r2) ∧ w'.cell? ⟨w10.heap.size, 0, none⟩ = some (.int .i64 p2) ∧ w'.cell? ⟨w10.heap.size, 1, none⟩ = some (.int .i64 q2) ∧ w'.cell? ⟨w10.heap.size, 2, none⟩ = some (.int .i64 r2) ∧ Below w15.heap.size w15 w')
      (first
        | (exact AT.out _ (Below.refl _ w15).drew)
        | (go_split_ands; (with_reducible exact AT.out _ hkB)))
      (first
        | (go_at_call 17; (with_reducible refine Calls.mono (KI.out _) ?_); rintro e wA ⟨rfl, hbA⟩; have hkB := bel_in hbA (by go_split_ands; assumption) (Nat.le_refl _))
        | (go_at_call 15; (with_reducible refine Calls.mono (KJ.out _) ?_); rintro e wB ⟨rfl, hbB⟩; have hkB := bel_in hbB (by go_split_ands; assumption) (Nat.le_refl _)))
    all_goals (go_wp2_with fail; go_meet; go_split_ands)
    all_goals (exact ⟨rfl, hkB⟩)
  case rest =>
    obtain ⟨rfl, hb⟩ := hcut
    clear KI KJ
    replace bA := bA.on hb
    replace bB := bB.on hb
    replace bD := bD.on hb
    replace bE := bE.on hb
    replace bF := bF.on hb
    replace HB := Lib.hid (bel_end HB.out hb)
    clear hb bB bF
    by_cases h2 : e2 = 0
    · have KM2 := Lib.hid (KM.out h2)
      have KN2 := Lib.hid (KN.out h2)
      subst h2
      clear KM KN
      have bA_0 := bA.cell 0 rfl
      have bA_1 := bA.cell 1 rfl
      have bA_2 := bA.cell 2 rfl
      have bA_l := bA.lt
      have bD_0 := bD.cell 0 rfl
      have bD_1 := bD.cell 1 rfl
      have bD_2 := bD.cell 2 rfl
      have bD_l := bD.lt
      have bE_0 := bE.cell 0 rfl
      have bE_1 := bE.cell 1 rfl
      have bE_2 := bE.cell 2 rfl
      have bE_l := bE.lt
      go_wp2_with fail
      refine (KM2.out _).mono ?_
      rintro e w16 ⟨rfl, hb⟩
      replace bA := bA.on hb
      replace bD := bD.on hb
      replace bE := bE.on hb
      replace HB := Lib.hid (bel_end HB.out hb)
      clear hb
      clear bA_0 bA_1 bA_2 bA_l bD_0 bD_1 bD_2 bD_l bE_0 bE_1 bE_2 bE_l
      have bA_0 := bA.cell 0 rfl
      have bA_1 := bA.cell 1 rfl
      have bA_2 := bA.cell 2 rfl
      have bA_l := bA.lt
      have bD_0 := bD.cell 0 rfl
      have bD_1 := bD.cell 1 rfl
      have bD_2 := bD.cell 2 rfl
      have bD_l := bD.lt
      have bE_0 := bE.cell 0 rfl
      have bE_1 := bE.cell 1 rfl
      have bE_2 := bE.cell 2 rfl
      have bE_l := bE.lt
      go_wp2_with fail
      obtain ⟨W17, hW⟩ : ∃ W, W = (w16.alloc (.cells #[.int .i64 x, .int .i64 y, .int .i64 z] 25)) := ⟨_, rfl⟩
      have hb : Below w16.heap.size w16 W17 := by rw [hW]; exact (by repeat (first | exact Below.refl _ _ | (refine Below.alloc ?_ (by simp <;> omega) _) | (refine Below.setCell ?_ (by simp <;> omega) _) | (refine Below.drew ?_) | (refine bel_drewN ?_ _)))
      have bJ : Bk W17 (w16.heap.size) #[.int .i64 x, .int .i64 y, .int .i64 z] 25 := by rw [hW]; exact (Bk.new' (by simp))
      replace bA := bA.on hb
      replace bD := bD.on hb
      replace bE := bE.on hb
      replace HB := Lib.hid (bel_end HB.out hb)
      rw [← hW]
      clear bA_0 bA_1 bA_2 bA_l bD_0 bD_1 bD_2 bD_l bE_0 bE_1 bE_2 bE_l
      clear hW hb
      have bA_0 := bA.cell 0 rfl
      have bA_1 := bA.cell 1 rfl
      have bA_2 := bA.cell 2 rfl
      have bA_l := bA.lt
      have bD_0 := bD.cell 0 rfl
      have bD_1 := bD.cell 1 rfl
      have bD_2 := bD.cell 2 rfl
      have bD_l := bD.lt
      have bE_0 := bE.cell 0 rfl
      have bE_1 := bE.cell 1 rfl
      have bE_2 := bE.cell 2 rfl
      have bE_l := bE.lt
      have bJ_0 := bJ.cell 0 rfl
      have bJ_1 := bJ.cell 1 rfl
      have bJ_2 := bJ.cell 2 rfl
      have bJ_l := bJ.lt
      refine (KN2.out _).mono ?_
      rintro e w18 ⟨rfl, hb⟩
      replace bA := bA.on hb
      replace bD := bD.on hb
      replace bE := bE.on hb
      replace bJ := bJ.on hb
      replace HB := Lib.hid (bel_end HB.out hb)
      clear hb
      clear bA_0 bA_1 bA_2 bA_l bD_0 bD_1 bD_2 bD_l bE_0 bE_1 bE_2 bE_l bJ_0 bJ_1 bJ_2 bJ_l
      clear KM2 KN2
      have bA_0 := bA.cell 0 rfl
      have bA_1 := bA.cell 1 rfl
      have bA_2 := bA.cell 2 rfl
      have bA_l := bA.lt
      have bD_0 := bD.cell 0 rfl
      have bD_1 := bD.cell 1 rfl
      have bD_2 := bD.cell 2 rfl
      have bD_l := bD.lt
      have bE_0 := bE.cell 0 rfl
      have bE_1 := bE.cell 1 rfl
      have bE_2 := bE.cell 2 rfl
      have bE_l := bE.lt
      have bJ_0 := bJ.cell 0 rfl
      have bJ_1 := bJ.cell 1 rfl
      have bJ_2 := bJ.cell 2 rfl
      have bJ_l := bJ.lt
      go_upto_region 19 with fail
      clear bA_0 bA_1 bA_2 bA_l bD_0 bD_1 bD_2 bD_l bE_0 bE_1 bE_2 bE_l bJ_0 bJ_1 bJ_2 bJ_l
      by_cases h1 : e1 = 0
      · obtain ⟨fa1, fa2, -⟩ := FA.out h1
        have FB2 := Lib.hid (FB.out h1)
        subst h1
        obtain ⟨mb1, mb2⟩ := MB.out
        clear FA FB MB
        have bA_0 := bA.cell 0 rfl
        have bA_1 := bA.cell 1 rfl
        have bA_2 := bA.cell 2 rfl
        have bA_l := bA.lt
        have bD_0 := bD.cell 0 rfl
        have bD_1 := bD.cell 1 rfl
        have bD_2 := bD.cell 2 rfl
        have bD_l := bD.lt
        have bE_0 := bE.cell 0 rfl
        have bE_1 := bE.cell 1 rfl
        have bE_2 := bE.cell 2 rfl
        have bE_l := bE.lt
        have bJ_0 := bJ.cell 0 rfl
        have bJ_1 := bJ.cell 1 rfl
        have bJ_2 := bJ.cell 2 rfl
        have bJ_l := bJ.lt
        go_wp2_with fail
        refine (KC.out _).mono ?_
        rintro e w19 ⟨rfl, hb⟩
        replace bA := bA.on hb
        replace bD := bD.on hb
        replace bE := bE.on hb
        replace bJ := bJ.on hb
        replace HB := Lib.hid (bel_end HB.out hb)
        clear hb
        clear bA_0 bA_1 bA_2 bA_l bD_0 bD_1 bD_2 bD_l bE_0 bE_1 bE_2 bE_l bJ_0 bJ_1 bJ_2 bJ_l
        have bA_0 := bA.cell 0 rfl
        have bA_1 := bA.cell 1 rfl
        have bA_2 := bA.cell 2 rfl
        have bA_l := bA.lt
        have bD_0 := bD.cell 0 rfl
        have bD_1 := bD.cell 1 rfl
        have bD_2 := bD.cell 2 rfl
        have bD_l := bD.lt
        have bE_0 := bE.cell 0 rfl
        have bE_1 := bE.cell 1 rfl
        have bE_2 := bE.cell 2 rfl
        have bE_l := bE.lt
        have bJ_0 := bJ.cell 0 rfl
        have bJ_1 := bJ.cell 1 rfl
        have bJ_2 := bJ.cell 2 rfl
        have bJ_l := bJ.lt
        go_wp2_with fail
        obtain ⟨W20, hW⟩ : ∃ W, W = (w19.alloc (.cells #[.int .i64 p4, .int .i64 q4, .int .i64 r4] 25)) := ⟨_, rfl⟩
        have hb : Below w19.heap.size w19 W20 := by rw [hW]; exact (by repeat (first | exact Below.refl _ _ | (refine Below.alloc ?_ (by simp <;> omega) _) | (refine Below.setCell ?_ (by simp <;> omega) _) | (refine Below.drew ?_) | (refine bel_drewN ?_ _)))
        have bI : Bk W20 (w19.heap.size) #[.int .i64 p4, .int .i64 q4, .int .i64 r4] 25 := by rw [hW]; exact (Bk.new' (by simp))
        replace bA := bA.on hb
        replace bD := bD.on hb
        replace bE := bE.on hb
        replace bJ := bJ.on hb
        replace HB := Lib.hid (bel_end HB.out hb)
        rw [← hW]
        clear bA_0 bA_1 bA_2 bA_l bD_0 bD_1 bD_2 bD_l bE_0 bE_1 bE_2 bE_l bJ_0 bJ_1 bJ_2 bJ_l
        clear hW hb
        have bA_0 := bA.cell 0 rfl
        have bA_1 := bA.cell 1 rfl
        have bA_2 := bA.cell 2 rfl
        have bA_l := bA.lt
        have bD_0 := bD.cell 0 rfl
        have bD_1 := bD.cell 1 rfl
        have bD_2 := bD.cell 2 rfl
        have bD_l := bD.lt
        have bE_0 := bE.cell 0 rfl
        have bE_1 := bE.cell 1 rfl
        have bE_2 := bE.cell 2 rfl
        have bE_l := bE.lt
        have bJ_0 := bJ.cell 0 rfl
        have bJ_1 := bJ.cell 1 rfl
        have bJ_2 := bJ.cell 2 rfl
        have bJ_l := bJ.lt
        have bI_0 := bI.cell 0 rfl
        have bI_1 := bI.cell 1 rfl
        have bI_2 := bI.cell 2 rfl
        have bI_l := bI.lt
        refine (KD.out _).mono ?_
        rintro e w21 ⟨rfl, hb⟩
        replace bA := bA.on hb
        replace bD := bD.on hb
        replace bE := bE.on hb
        replace bJ := bJ.on hb
        replace bI := bI.on hb
        replace HB := Lib.hid (bel_end HB.out hb)
        clear hb
        clear bA_0 bA_1 bA_2 bA_l bD_0 bD_1 bD_2 bD_l bE_0 bE_1 bE_2 bE_l bJ_0 bJ_1 bJ_2 bJ_l bI_0 bI_1 bI_2 bI_l
        have bA_0 := bA.cell 0 rfl
        have bA_1 := bA.cell 1 rfl
        have bA_2 := bA.cell 2 rfl
        have bA_l := bA.lt
        have bD_0 := bD.cell 0 rfl
        have bD_1 := bD.cell 1 rfl
        have bD_2 := bD.cell 2 rfl
        have bD_l := bD.lt
        have bE_0 := bE.cell 0 rfl
        have bE_1 := bE.cell 1 rfl
        have bE_2 := bE.cell 2 rfl
        have bE_l := bE.lt
        have bJ_0 := bJ.cell 0 rfl
        have bJ_1 := bJ.cell 1 rfl
        have bJ_2 := bJ.cell 2 rfl
        have bJ_l := bJ.lt
        have bI_0 := bI.cell 0 rfl
        have bI_1 := bI.cell 1 rfl
        have bI_2 := bI.cell 2 rfl
        have bI_l := bI.lt
        go_wp2_with fail
        refine (KE.out _).mono ?_
        rintro e w22 ⟨rfl, hb⟩
        replace bA := bA.on hb
        replace bD := bD.on hb
        replace bE := bE.on hb
        replace bJ := bJ.on hb
        replace bI := bI.on hb
        replace HB := Lib.hid (bel_end HB.out hb)
        clear hb
        clear bA_0 bA_1 bA_2 bA_l bD_0 bD_1 bD_2 bD_l bE_0 bE_1 bE_2 bE_l bJ_0 bJ_1 bJ_2 bJ_l bI_0 bI_1 bI_2 bI_l
        have bA_0 := bA.cell 0 rfl
        have bA_1 := bA.cell 1 rfl
        have bA_2 := bA.cell 2 rfl
        have bA_l := bA.lt
        have bD_0 := bD.cell 0 rfl
        have bD_1 := bD.cell 1 rfl
        have bD_2 := bD.cell 2 rfl
        have bD_l := bD.lt
        have bE_0 := bE.cell 0 rfl
        have bE_1 := bE.cell 1 rfl
        have bE_2 := bE.cell 2 rfl
        have bE_l := bE.lt
        have bJ_0 := bJ.cell 0 rfl
        have bJ_1 := bJ.cell 1 rfl
        have bJ_2 := bJ.cell 2 rfl
        have bJ_l := bJ.lt
        have bI_0 := bI.cell 0 rfl
        have bI_1 := bI.cell 1 rfl
        have bI_2 := bI.cell 2 rfl
        have bI_l := bI.lt
        by_cases h4 : e4 = 0
        · obtain ⟨rfl, rfl⟩ := FB2.out h4
          subst h4
          clear FB2
          cases d
          · have hq : ¬ 0 < q1 := of_decide_eq_false fa2
            have FA2 := Lib.hid fa2
            clear fa2
            go_wp2
            go_ret
            exact ⟨ret_bool (by first | rfl | (rw [FA2.out]; rfl)), HB.out⟩
          · have hq : 0 < q1 := of_decide_eq_true fa2
            have FA2 := Lib.hid fa2
            clear fa2
            go_wp2
            go_ret
            exact ⟨ret_bool (by first | rfl | (rw [FA2.out]; rfl)), HB.out⟩
        · have h5 : (e4 != 0) = true := by simpa using h4
          clear FB2
          cases d
          · have hq : ¬ 0 < q1 := of_decide_eq_false fa2
            have FA2 := Lib.hid fa2
            clear fa2
            go_wp2
            go_ret
            exact ⟨ret_bool (by first | rfl | (rw [FA2.out]; rfl)), HB.out⟩
          · have hq : 0 < q1 := of_decide_eq_true fa2
            have FA2 := Lib.hid fa2
            clear fa2
            go_wp2
            go_ret
            exact ⟨ret_bool (by first | rfl | (rw [FA2.out]; rfl)), HB.out⟩
      · have h1b : (e1 != 0) = true := by simpa using h1
        go_wp2
        go_ret
        exact ⟨rfl, HB.out⟩
    · have h2b : (e2 == 0) = false := by simpa using h2
      clear KM KN
      have bA_0 := bA.cell 0 rfl
      have bA_1 := bA.cell 1 rfl
      have bA_2 := bA.cell 2 rfl
      have bA_l := bA.lt
      have bD_0 := bD.cell 0 rfl
      have bD_1 := bD.cell 1 rfl
      have bD_2 := bD.cell 2 rfl
      have bD_l := bD.lt
      have bE_0 := bE.cell 0 rfl
      have bE_1 := bE.cell 1 rfl
      have bE_2 := bE.cell 2 rfl
      have bE_l := bE.lt
      go_upto_region 19 with fail
      clear bA_0 bA_1 bA_2 bA_l bD_0 bD_1 bD_2 bD_l bE_0 bE_1 bE_2 bE_l
      by_cases h1 : e1 = 0
      · obtain ⟨fa1, fa2, -⟩ := FA.out h1
        have FB2 := Lib.hid (FB.out h1)
        subst h1
        obtain ⟨mb1, mb2⟩ := MB.out
        clear FA FB MB
        have bA_0 := bA.cell 0 rfl
        have bA_1 := bA.cell 1 rfl
        have bA_2 := bA.cell 2 rfl
        have bA_l := bA.lt
        have bD_0 := bD.cell 0 rfl
        have bD_1 := bD.cell 1 rfl
        have bD_2 := bD.cell 2 rfl
        have bD_l := bD.lt
        have bE_0 := bE.cell 0 rfl
        have bE_1 := bE.cell 1 rfl
        have bE_2 := bE.cell 2 rfl
        have bE_l := bE.lt
        go_wp2_with fail
        refine (KC.out _).mono ?_
        rintro e w16 ⟨rfl, hb⟩
        replace bA := bA.on hb
        replace bD := bD.on hb
        replace bE := bE.on hb
        replace HB := Lib.hid (bel_end HB.out hb)
        clear hb
        clear bA_0 bA_1 bA_2 bA_l bD_0 bD_1 bD_2 bD_l bE_0 bE_1 bE_2 bE_l
        have bA_0 := bA.cell 0 rfl
        have bA_1 := bA.cell 1 rfl
        have bA_2 := bA.cell 2 rfl
        have bA_l := bA.lt
        have bD_0 := bD.cell 0 rfl
        have bD_1 := bD.cell 1 rfl
        have bD_2 := bD.cell 2 rfl
        have bD_l := bD.lt
        have bE_0 := bE.cell 0 rfl
        have bE_1 := bE.cell 1 rfl
        have bE_2 := bE.cell 2 rfl
        have bE_l := bE.lt
        go_wp2_with fail
        obtain ⟨W17, hW⟩ : ∃ W, W = (w16.alloc (.cells #[.int .i64 p4, .int .i64 q4, .int .i64 r4] 25)) := ⟨_, rfl⟩
        have hb : Below w16.heap.size w16 W17 := by rw [hW]; exact (by repeat (first | exact Below.refl _ _ | (refine Below.alloc ?_ (by simp <;> omega) _) | (refine Below.setCell ?_ (by simp <;> omega) _) | (refine Below.drew ?_) | (refine bel_drewN ?_ _)))
        have bI : Bk W17 (w16.heap.size) #[.int .i64 p4, .int .i64 q4, .int .i64 r4] 25 := by rw [hW]; exact (Bk.new' (by simp))
        replace bA := bA.on hb
        replace bD := bD.on hb
        replace bE := bE.on hb
        replace HB := Lib.hid (bel_end HB.out hb)
        rw [← hW]
        clear bA_0 bA_1 bA_2 bA_l bD_0 bD_1 bD_2 bD_l bE_0 bE_1 bE_2 bE_l
        clear hW hb
        have bA_0 := bA.cell 0 rfl
        have bA_1 := bA.cell 1 rfl
        have bA_2 := bA.cell 2 rfl
        have bA_l := bA.lt
        have bD_0 := bD.cell 0 rfl
        have bD_1 := bD.cell 1 rfl
        have bD_2 := bD.cell 2 rfl
        have bD_l := bD.lt
        have bE_0 := bE.cell 0 rfl
        have bE_1 := bE.cell 1 rfl
        have bE_2 := bE.cell 2 rfl
        have bE_l := bE.lt
        have bI_0 := bI.cell 0 rfl
        have bI_1 := bI.cell 1 rfl
        have bI_2 := bI.cell 2 rfl
        have bI_l := bI.lt
        refine (KD.out _).mono ?_
        rintro e w18 ⟨rfl, hb⟩
        replace bA := bA.on hb
        replace bD := bD.on hb
        replace bE := bE.on hb
        replace bI := bI.on hb
        replace HB := Lib.hid (bel_end HB.out hb)
        clear hb
        clear bA_0 bA_1 bA_2 bA_l bD_0 bD_1 bD_2 bD_l bE_0 bE_1 bE_2 bE_l bI_0 bI_1 bI_2 bI_l
        have bA_0 := bA.cell 0 rfl
        have bA_1 := bA.cell 1 rfl
        have bA_2 := bA.cell 2 rfl
        have bA_l := bA.lt
        have bD_0 := bD.cell 0 rfl
        have bD_1 := bD.cell 1 rfl
        have bD_2 := bD.cell 2 rfl
        have bD_l := bD.lt
        have bE_0 := bE.cell 0 rfl
        have bE_1 := bE.cell 1 rfl
        have bE_2 := bE.cell 2 rfl
        have bE_l := bE.lt
        have bI_0 := bI.cell 0 rfl
        have bI_1 := bI.cell 1 rfl
        have bI_2 := bI.cell 2 rfl
        have bI_l := bI.lt
        go_wp2_with fail
        refine (KE.out _).mono ?_
        rintro e w19 ⟨rfl, hb⟩
        replace bA := bA.on hb
        replace bD := bD.on hb
        replace bE := bE.on hb
        replace bI := bI.on hb
        replace HB := Lib.hid (bel_end HB.out hb)
        clear hb
        clear bA_0 bA_1 bA_2 bA_l bD_0 bD_1 bD_2 bD_l bE_0 bE_1 bE_2 bE_l bI_0 bI_1 bI_2 bI_l
        have bA_0 := bA.cell 0 rfl
        have bA_1 := bA.cell 1 rfl
        have bA_2 := bA.cell 2 rfl
        have bA_l := bA.lt
        have bD_0 := bD.cell 0 rfl
        have bD_1 := bD.cell 1 rfl
        have bD_2 := bD.cell 2 rfl
        have bD_l := bD.lt
        have bE_0 := bE.cell 0 rfl
        have bE_1 := bE.cell 1 rfl
        have bE_2 := bE.cell 2 rfl
        have bE_l := bE.lt
        have bI_0 := bI.cell 0 rfl
        have bI_1 := bI.cell 1 rfl
        have bI_2 := bI.cell 2 rfl
        have bI_l := bI.lt
        by_cases h4 : e4 = 0
        · obtain ⟨rfl, rfl⟩ := FB2.out h4
          subst h4
          clear FB2
          cases d
          · have hq : ¬ 0 < q1 := of_decide_eq_false fa2
            have FA2 := Lib.hid fa2
            clear fa2
            go_wp2
            go_ret
            exact ⟨ret_bool (by first | rfl | (rw [FA2.out]; rfl)), HB.out⟩
          · have hq : 0 < q1 := of_decide_eq_true fa2
            have FA2 := Lib.hid fa2
            clear fa2
            go_wp2
            go_ret
            exact ⟨ret_bool (by first | rfl | (rw [FA2.out]; rfl)), HB.out⟩
        · have h5 : (e4 != 0) = true := by simpa using h4
          clear FB2
          cases d
          · have hq : ¬ 0 < q1 := of_decide_eq_false fa2
            have FA2 := Lib.hid fa2
            clear fa2
            go_wp2
            go_ret
            exact ⟨ret_bool (by first | rfl | (rw [FA2.out]; rfl)), HB.out⟩
          · have hq : 0 < q1 := of_decide_eq_true fa2
            have FA2 := Lib.hid fa2
            clear fa2
            go_wp2
            go_ret
            exact ⟨ret_bool (by first | rfl | (rw [FA2.out]; rfl)), HB.out⟩
      · have h1b : (e1 != 0) = true := by simpa using h1
        go_wp2
        go_ret
        exact ⟨rfl, HB.out⟩
end Go.Proofs.Ytcaekheghjnipaa
