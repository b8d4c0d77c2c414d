/- Contracts of fans: IsFan, LiesBetween, the program's and the model's. -/
import Derived.Test.YtaaklnabomhleaaOwD
import Derived.Test.YtaaklnabomhleaaDrc
import Derived.Test.YtaaklnabomhleaaDrm
import Derived.Handy
import Derived.Outline
import Derived.LoopTactic
import Derived.Deep.RegionHeld3
import Derived.Deep.DeepCutAuto
import Derived.Deep.RegionWith
namespace Go.Proofs.Ytaaklnabomhleaa
open Go.ChangeShapes Go.WideShapes Go.ChangeAt Go.RowKit Go.Shelf Num
set_option linter.unusedVariables false
set_option linter.unusedSimpArgs false

/-- do three numbers give a fan? -/
def fanB (n lo hi : Int) : Bool := mnB hi n && decide (1 ≤ lo) && decide (lo ≤ hi)
theorem fanB_t {n lo hi : Int} (h : fanB n lo hi = true) : 1 ≤ lo ∧ lo ≤ hi ∧ hi < n ∧ n ≤ 1000 ∧ n * n + hi * hi ≤ 1000 := by
  unfold fanB at h
  simp only [Bool.and_eq_true, decide_eq_true_eq] at h
  obtain ⟨⟨h1, h2⟩, h3⟩ := h
  obtain ⟨m1, m2, m3, m4⟩ := mnB_t h1
  exact ⟨h2, h3, m2, m3, m4⟩
theorem fanB_mk {n lo hi : Int} (h1 : 1 ≤ lo) (h2 : lo ≤ hi) (h3 : hi < n) (h4 : n ≤ 1000) (h5 : n * n + hi * hi ≤ 1000) : fanB n lo hi = true := by
  unfold fanB mnB
  simp only [Bool.and_eq_true, decide_eq_true_eq]
  exact ⟨⟨⟨⟨⟨by omega, h3⟩, h4⟩, h5⟩, h1⟩, h2⟩
theorem fanB_f {n lo hi : Int} (h : ¬ (1 ≤ lo ∧ lo ≤ hi ∧ hi < n ∧ n ≤ 1000 ∧ n * n + hi * hi ≤ 1000)) : fanB n lo hi = false := by
  cases e : fanB n lo hi
  · rfl
  · exact absurd (fanB_t e) h
theorem sgn_flip (a b : Int) : sgn a b = - sgn b a := by
  unfold sgn
  rcases Int.lt_trichotomy a b with h | h | h
  · rw [if_pos h, if_neg (by omega), if_pos h]
  · rw [if_neg (by omega), if_neg (by omega), if_neg (by omega), if_neg (by omega)]; rfl
  · rw [if_neg (by omega), if_pos h, if_pos h]; rfl
theorem sgn_bd (a b : Int) : sgn a b = -1 ∨ sgn a b = 0 ∨ sgn a b = 1 := by unfold sgn; split; simp; split <;> simp
/-- does the third direction lie between the others? -/
def lbB (c s h x y z u v t : Int) : Bool := dirB c s h && dirB x y z && dirB u v t && (decide (0 < s) == decide (0 < y)) && (decide (0 < s) == decide (0 < v)) && decide (sgn (c * t) (u * h) * sgn (x * t) (u * z) ≤ 0)
theorem bneB {a b : Bool} (h : (a != b) = true) : (a == b) = false := by cases a <;> cases b <;> simp_all
/-- as the program asks for it -/
theorem lb_impl (c s h x y z u v t : Int) : lbB c s h x y z u v t = (!((decide (0 < s) != decide (0 < v)) || (decide (0 < v) != decide (0 < y))) && (cdC c s h u v t == 0) && (cdC u v t x y z == 0) && decide (0 ≤ cdV c s h u v t * cdV u v t x y z)) := by
  unfold lbB cdC cdV
  obtain ⟨A, hA⟩ : ∃ A, sgn (c * t) (u * h) = A := ⟨_, rfl⟩
  obtain ⟨B, hB⟩ : ∃ A, sgn (x * t) (u * z) = A := ⟨_, rfl⟩
  rw [sgn_flip (u * z) (x * t), hB, hA]
  have e : decide (A * B ≤ 0) = decide (0 ≤ A * -B) := by
    rw [Int.mul_neg]
    by_cases g : A * B ≤ 0
    · rw [decide_eq_true g, decide_eq_true (by omega)]
    · rw [decide_eq_false g, decide_eq_false (by omega)]
  rw [e]
  clear hA hB e
  generalize decide (0 < s) = d1
  generalize decide (0 < v) = d3
  generalize decide (0 < y) = d2
  cases dirB c s h <;> cases dirB x y z <;> cases dirB u v t <;> cases d1 <;> cases d2 <;> cases d3 <;> first | rfl | (simp; done)

set_option maxRecDepth 100000 in
set_option maxHeartbeats 2000000 in
theorem isf_any (n lo hi : Int) (w : World) :
    Calls Try.prog 18 #[.int .i64 n, .int .i64 lo, .int .i64 hi] w fun e w' => e = .returned (.bool (fanB n lo hi)) ∧ Below w.heap.size w w' := by
  obtain ⟨⟨p, q, r, k⟩, hU⟩ : ∃ U, mdT hi n true = U := ⟨_, rfl⟩
  have hk : (k == 0) = mnB hi n := by
    have e : k = (mdT hi n true).2.2.2 := by rw [hU]
    rw [e]
    unfold mdT
    cases mnB hi n <;> rfl
  have HF : Hid (fanB n lo hi = (decide (1 ≤ lo) && decide (lo ≤ hi) && (k == 0))) := Lib.hid (by unfold fanB; rw [hk]; cases mnB hi n <;> simp)
  have K : Hid (∀ w : World, Calls Try.prog 73 #[.int .i64 hi, .int .i64 n, .bool true] w fun e w' => e = .returned (.tuple #[.agg #[.int .i64 p, .int .i64 q, .int .i64 r], .int .i64 k]) ∧ Below w.heap.size w w') := Lib.hid (fun w => by have := imd_any hi n true w; rw [hU] at this; exact this)
  clear hU hk
  cases hk : (k == 0) <;> by_cases g1 : 1 ≤ lo <;> by_cases g2 : lo ≤ hi
  all_goals
    have HR := HF.out
    rw [hk] at HR
    first | rw [decide_eq_true g1] at HR | rw [decide_eq_false g1] at HR
    first | rw [decide_eq_true g2] at HR | rw [decide_eq_false g2] at HR
    have HQ := Lib.hid HR
    clear HR HF
    go_enter Try.func18, Try.ntmps18
    go_wp2_with fail
    refine (K.out _).mono ?_
    rintro e w1 ⟨rfl, hb⟩
    have HB := Lib.hid hb
    clear hb
    go_wp2
    go_ret
    exact ⟨ret_bool HQ.out.symm, by first | exact bel_end HB.out (by repeat (first | exact Below.refl _ _ | (refine Below.alloc ?_ (by simp <;> omega) _) | (refine Below.setCell ?_ (by simp <;> omega) _) | (refine Below.drew ?_) | (refine bel_drewN ?_ _))) | exact HB.out⟩

set_option maxRecDepth 100000 in
set_option maxHeartbeats 2000000 in
theorem sisf_any (n lo hi : Int) (w : World) :
    Calls Try.prog 17 #[.int .i64 n, .int .i64 lo, .int .i64 hi] w fun e w' => e = .returned (.bool (fanB n lo hi)) ∧ Below w.heap.size w w' := by
  cases h1 : inB n 2 1000
  · have H : Hid (fanB n lo hi = false) := Lib.hid (fanB_f (fun g => by have := inB_f h1; omega))
    go_enter Try.func17, Try.ntmps17
    go_wp2_with (go_at_call 72; refine (lin_any _ _ _ _).mono ?_; rintro e w' ⟨rfl, rfl⟩)
    go_ret
    exact ⟨ret_bool H.out.symm, (by repeat (first | exact Below.refl _ _ | (refine Below.alloc ?_ (by simp <;> omega) _) | (refine Below.setCell ?_ (by simp <;> omega) _) | (refine Below.drew ?_) | (refine bel_drewN ?_ _)))⟩
  have b1 := inB_t h1
  have e7 : IntKind.wrap .i64 (n - 1) = n - 1 := IntWalk.i64_in _ (by omega)
  cases h2 : inB hi 1 (n - 1)
  · have H : Hid (fanB n lo hi = false) := Lib.hid (fanB_f (fun g => by have := inB_f h2; omega))
    go_enter Try.func17, Try.ntmps17
    go_wp2_with (go_at_call 72; refine (lin_any _ _ _ _).mono ?_; rintro e w' ⟨rfl, rfl⟩)
    go_ret
    exact ⟨ret_bool H.out.symm, (by repeat (first | exact Below.refl _ _ | (refine Below.alloc ?_ (by simp <;> omega) _) | (refine Below.setCell ?_ (by simp <;> omega) _) | (refine Below.drew ?_) | (refine bel_drewN ?_ _)))⟩
  have b2 := inB_t h2
  cases h3 : inB lo 1 hi
  · have H : Hid (fanB n lo hi = false) := Lib.hid (fanB_f (fun g => by have := inB_f h3; omega))
    go_enter Try.func17, Try.ntmps17
    go_wp2_with (go_at_call 72; refine (lin_any _ _ _ _).mono ?_; rintro e w' ⟨rfl, rfl⟩)
    go_ret
    exact ⟨ret_bool H.out.symm, (by repeat (first | exact Below.refl _ _ | (refine Below.alloc ?_ (by simp <;> omega) _) | (refine Below.setCell ?_ (by simp <;> omega) _) | (refine Below.drew ?_) | (refine bel_drewN ?_ _)))⟩
  have b3 := inB_t h3
  have e1 : IntKind.wrap .i64 (n * n) = n * n := wr_mul (A := 1000) (B := 1000) (by omega) (by omega) (by omega) (by omega) (by omega) (by omega)
  have qe1 := mul_abs (a := n) (n := n) (A := 1000) (N := 1000) (by omega) (by omega)
  have e2 : IntKind.wrap .i64 (hi * hi) = hi * hi := wr_mul (A := 1000) (B := 1000) (by omega) (by omega) (by omega) (by omega) (by omega) (by omega)
  have qe2 := mul_abs (a := hi) (n := hi) (A := 1000) (N := 1000) (by omega) (by omega)
  have e5 : IntKind.wrap .i64 (n * n + hi * hi) = n * n + hi * hi := IntWalk.i64_in _ (by omega)
  by_cases h4 : n * n + hi * hi ≤ 1000
  · have H : Hid (fanB n lo hi = true) := Lib.hid (fanB_mk b3.1 b3.2 (by omega) b1.2 h4)
    clear qe1 qe2 b1 b2 b3
    go_enter Try.func17, Try.ntmps17
    go_wp2_with (go_at_call 72; refine (lin_any _ _ _ _).mono ?_; rintro e w' ⟨rfl, rfl⟩)
    go_ret
    exact ⟨ret_bool (by rw [H.out]; (try simp [h4])), (by repeat (first | exact Below.refl _ _ | (refine Below.alloc ?_ (by simp <;> omega) _) | (refine Below.setCell ?_ (by simp <;> omega) _) | (refine Below.drew ?_) | (refine bel_drewN ?_ _)))⟩
  · have H : Hid (fanB n lo hi = false) := Lib.hid (fanB_f (fun g => h4 g.2.2.2.2))
    clear qe1 qe2 b1 b2 b3
    go_enter Try.func17, Try.ntmps17
    go_wp2_with (go_at_call 72; refine (lin_any _ _ _ _).mono ?_; rintro e w' ⟨rfl, rfl⟩)
    go_ret
    exact ⟨ret_bool (by rw [H.out]; (try simp [h4])), (by repeat (first | exact Below.refl _ _ | (refine Below.alloc ?_ (by simp <;> omega) _) | (refine Below.setCell ?_ (by simp <;> omega) _) | (refine Below.drew ?_) | (refine bel_drewN ?_ _)))⟩

set_option maxRecDepth 100000 in
set_option maxHeartbeats 2000000 in
theorem gdw_any (c s h : Int) (w : World) :
    Calls Try.prog 80 #[.agg #[.int .i64 c, .int .i64 s, .int .i64 h]] w fun e w' => e = .returned (.bool (decide (0 < s))) ∧ Below w.heap.size w w' := by
  by_cases g : 0 < s
  all_goals
    first | rw [decide_eq_true g] | rw [decide_eq_false g]
    go_enter Try.func80, Try.ntmps80
    go_wp2
    go_ret
    exact ⟨rfl, (by repeat (first | exact Below.refl _ _ | (refine Below.alloc ?_ (by simp <;> omega) _) | (refine Below.setCell ?_ (by simp <;> omega) _) | (refine Below.drew ?_) | (refine bel_drewN ?_ _)))⟩

set_option maxRecDepth 100000 in
set_option maxHeartbeats 2000000 in
theorem alk_any (c s h x y z : Int) (w : World) :
    Calls Try.prog 78 #[.agg #[.int .i64 c, .int .i64 s, .int .i64 h], .agg #[.int .i64 x, .int .i64 y, .int .i64 z]] w fun e w' => e = .returned (.bool (decide (0 < s) == decide (0 < y))) ∧ Below w.heap.size w w' := by
  by_cases g : 0 < s <;> by_cases g2 : 0 < y
  all_goals
    first | rw [decide_eq_true g] | rw [decide_eq_false g]
    first | rw [decide_eq_true g2] | rw [decide_eq_false g2]
    go_enter Try.func78, Try.ntmps78
    go_wp2
    go_ret
    exact ⟨rfl, (by repeat (first | exact Below.refl _ _ | (refine Below.alloc ?_ (by simp <;> omega) _) | (refine Below.setCell ?_ (by simp <;> omega) _) | (refine Below.drew ?_) | (refine bel_drewN ?_ _)))⟩

set_option maxRecDepth 100000 in
set_option maxHeartbeats 8000000 in
theorem ilb_any (c s h x y z u v t : Int) (w : World) :
    Calls Try.prog 26 #[.agg #[.int .i64 c, .int .i64 s, .int .i64 h], .agg #[.int .i64 x, .int .i64 y, .int .i64 z], .agg #[.int .i64 u, .int .i64 v, .int .i64 t]] w fun e w' => e = .returned (.bool (lbB c s h x y z u v t)) ∧ Below w.heap.size w w' := by
  have HF := lb_impl c s h x y z u v t
  obtain ⟨d1, hd1⟩ : ∃ q, decide (0 < s) = q := ⟨_, rfl⟩
  obtain ⟨d2, hd2⟩ : ∃ q, decide (0 < y) = q := ⟨_, rfl⟩
  obtain ⟨d3, hd3⟩ : ∃ q, decide (0 < v) = q := ⟨_, rfl⟩
  obtain ⟨V1, hV1⟩ : ∃ q, cdV c s h u v t = q := ⟨_, rfl⟩
  obtain ⟨C1, hC1⟩ : ∃ q, cdC c s h u v t = q := ⟨_, rfl⟩
  obtain ⟨V2, hV2⟩ : ∃ q, cdV u v t x y z = q := ⟨_, rfl⟩
  obtain ⟨C2, hC2⟩ : ∃ q, cdC u v t x y z = q := ⟨_, rfl⟩
  rw [hd1, hd2, hd3, hV1, hV2, hC1, hC2] at HF
  have bd : ∀ c s h x y z : Int, cdV c s h x y z = -1 ∨ cdV c s h x y z = 0 ∨ cdV c s h x y z = 1 := by intro c s h x y z; unfold cdV; split; exact sgn_bd _ _; simp
  have v1 := bd c s h u v t
  have v2 := bd u v t x y z
  rw [hV1] at v1
  rw [hV2] at v2
  have vv : -1 ≤ V1 * V2 ∧ V1 * V2 ≤ 1 := by rcases v1 with e | e | e <;> rcases v2 with g | g | g <;> rw [e, g] <;> decide
  have ew : IntKind.wrap .i64 (V1 * V2) = V1 * V2 := IntWalk.i64_in _ (by omega)
  have K1 : Hid (∀ W : World, Calls Try.prog 80 #[.agg #[.int .i64 c, .int .i64 s, .int .i64 h]] W fun e w' => e = .returned (.bool d1) ∧ Below W.heap.size W w') := Lib.hid (fun W => by have := gdw_any c s h W; rwa [hd1] at this)
  have K2 : Hid (∀ W : World, Calls Try.prog 80 #[.agg #[.int .i64 x, .int .i64 y, .int .i64 z]] W fun e w' => e = .returned (.bool d2) ∧ Below W.heap.size W w') := Lib.hid (fun W => by have := gdw_any x y z W; rwa [hd2] at this)
  have K3 : Hid (∀ W : World, Calls Try.prog 80 #[.agg #[.int .i64 u, .int .i64 v, .int .i64 t]] W fun e w' => e = .returned (.bool d3) ∧ Below W.heap.size W w') := Lib.hid (fun W => by have := gdw_any u v t W; rwa [hd3] at this)
  have KC1 : Hid (∀ W : World, Calls Try.prog 31 #[.agg #[.int .i64 c, .int .i64 s, .int .i64 h], .agg #[.int .i64 u, .int .i64 v, .int .i64 t]] W fun e w' => e = .returned (.tuple #[.int .i64 V1, .int .i64 C1]) ∧ Below W.heap.size W w') := Lib.hid (fun W => by have := icm_any c s h u v t W; rwa [hV1, hC1] at this)
  have KC2 : Hid (∀ W : World, Calls Try.prog 31 #[.agg #[.int .i64 u, .int .i64 v, .int .i64 t], .agg #[.int .i64 x, .int .i64 y, .int .i64 z]] W fun e w' => e = .returned (.tuple #[.int .i64 V2, .int .i64 C2]) ∧ Below W.heap.size W w') := Lib.hid (fun W => by have := icm_any u v t x y z W; rwa [hV2, hC2] at this)
  have HF := Lib.hid HF
  clear hd1 hd2 hd3 hV1 hV2 hC1 hC2 bd v1 v2 vv
  go_enter Try.func26, Try.ntmps26
  go_upto_region 1 with fail
  generalize hW : World.alloc _ _ = W
  have bX : Bk W (w.heap.size) #[.int .i64 c, .int .i64 s, .int .i64 h] 32 := by rw [← hW]; repeat (first | (refine Bk.new' ?_; (simp; done)) | refine Bk.alloc ?_ _)
  have bY : Bk W (w.heap.size + 1) #[.int .i64 x, .int .i64 y, .int .i64 z] 32 := by rw [← hW]; repeat (first | (refine Bk.new' ?_; (simp; done)) | refine Bk.alloc ?_ _)
  have bZ : Bk W (w.heap.size + 1 + 1) #[.int .i64 u, .int .i64 v, .int .i64 t] 32 := by rw [← hW]; repeat (first | (refine Bk.new' ?_; (simp; done)) | refine Bk.alloc ?_ _)
  have HB : Hid (Below w.heap.size w W) := Lib.hid (by rw [← hW]; exact (by repeat (first | exact Below.refl _ _ | (refine Below.alloc ?_ (by simp <;> omega) _) | (refine Below.setCell ?_ (by simp <;> omega) _) | (refine Below.drew ?_) | (refine bel_drewN ?_ _))))
  clear hW
  obtain ⟨g, hg⟩ : ∃ g, (d3 != d2) = g := ⟨_, rfl⟩
  cases d1 <;> cases d3
  case false.true | true.false =>
    have HW : Hid (Below W.heap.size W W) := Lib.hid (Below.refl _ _)
    have HR : Hid (lbB c s h x y z u v t = false) := Lib.hid (by rw [HF.out]; rfl)
    obtain ⟨S, hSd⟩ : ∃ S : World → Prop, ∀ w', S w' ↔ (w'.cell? ⟨w.heap.size, 0, none⟩ = some (.int .i64 c) ∧ w'.cell? ⟨w.heap.size, 1, none⟩ = some (.int .i64 s) ∧ w'.cell? ⟨w.heap.size, 2, none⟩ = some (.int .i64 h) ∧ w'.cell? ⟨w.heap.size + 1 + 1, 0, none⟩ = some (.int .i64 u) ∧ w'.cell? ⟨w.heap.size + 1 + 1, 1, none⟩ = some (.int .i64 v) ∧ w'.cell? ⟨w.heap.size + 1 + 1, 2, none⟩ = some (.int .i64 t)) := ⟨_, fun _ => Iff.rfl⟩
    have HSp : Hid (∀ w' : World, Bk w' (w.heap.size) #[.int .i64 c, .int .i64 s, .int .i64 h] 32 → Bk w' (w.heap.size + 1 + 1) #[.int .i64 u, .int .i64 v, .int .i64 t] 32 → S w') := Lib.hid (fun w' bX bZ => (hSd w').2 ⟨bX.cell 0 rfl, bX.cell 1 rfl, bX.cell 2 rfl, bZ.cell 0 rfl, bZ.cell 1 rfl, bZ.cell 2 rfl⟩)
    have HSd := Lib.hid hSd
    clear hSd
    refine wp_region_held_drew (S := S) (by kernel_rfl) ?_ (fun hH => ?_)
    · exact (HSp.out _ bX bZ : S (World.drew W))
    clear hH
    generalize hX : World.drew W = V0
    replace bX : Bk V0 (w.heap.size) #[.int .i64 c, .int .i64 s, .int .i64 h] 32 := by rw [← hX]; exact bX
    replace bZ : Bk V0 (w.heap.size + 1 + 1) #[.int .i64 u, .int .i64 v, .int .i64 t] 32 := by rw [← hX]; exact bZ
    have hb : Below W.heap.size W V0 := by rw [← hX]; exact (Below.refl _ _).drew
    clear hX
    replace HW := Lib.hid (bel_end HW.out hb)
    clear hb
    have hS := HSp.out _ bX bZ
    refine wpAnyH_take (i := 0) (oi := { dst := some 10, op := Go.Op.load 32 (Go.Operand.tmp 3), type := 32, pos := "l08_sectors.go:68", after := #[], guard := none }) (v := ?_) rfl (by kernel_rfl) (by kernel_rfl) (by kernel_rfl) (fun _ _ _ h => h) (Or.inl ⟨by rfl, ?_⟩) hS ?_
    rotate_left
    · (intro w hSw; have hSw := (HSd.out w).1 hSw; go_split_ands; go_simp) <;> with_reducible rfl
    clear hS
    try simp only [Act.put, List.setIfInBounds_toArray, List.set_cons_zero, List.set_cons_succ]
    have hS := HSp.out _ bX bZ
    refine wpAnyH_take (i := 2) (oi := { dst := some 12, op := Go.Op.load 32 (Go.Operand.tmp 5), type := 32, pos := "l08_sectors.go:68", after := #[], guard := none }) (v := ?_) rfl (by kernel_rfl) (by kernel_rfl) (by kernel_rfl) (fun _ _ _ h => h) (Or.inl ⟨by rfl, ?_⟩) hS ?_
    rotate_left
    · (intro w hSw; have hSw := (HSd.out w).1 hSw; go_split_ands; go_simp) <;> with_reducible rfl
    clear hS
    try simp only [Act.put, List.setIfInBounds_toArray, List.set_cons_zero, List.set_cons_succ]
    refine wpAnyH_ready (rs := [1]) (by kernel_rfl) (by simp) ?_
    refine AllReadyH.cons (o := { dst := some 11, op := Go.Op.call { callee := Go.Callee.value (Go.Operand.func 80), args := #[Go.Operand.tmp 10], argTypes := #[32] }, type := 4, pos := "l08_sectors.go:68", after := #[{ on := 0, ground := Go.Ground.data }], guard := none }) rfl (fun Kn hK => ?_) AllReadyH.nil
    first | go_at_call 80 | (go_simp; go_at_call 80)
    (with_reducible refine Calls.mono (K1.out _) ?_)
    rintro e V1 ⟨rfl, hb⟩
    try dsimp only
    try simp only [Act.put, List.setIfInBounds_toArray, List.set_cons_zero, List.set_cons_succ]
    replace bX := bX.on hb
    replace bZ := bZ.on hb
    replace HW := Lib.hid (bel_end HW.out hb)
    clear hb
    refine hK.out _ _ (HSp.out _ bX bZ) (fun _ => ?_)
    clear hK Kn
    refine wpAnyH_ready (rs := [3]) (by kernel_rfl) (by simp) ?_
    refine AllReadyH.cons (o := { dst := some 13, op := Go.Op.call { callee := Go.Callee.value (Go.Operand.func 80), args := #[Go.Operand.tmp 12], argTypes := #[32] }, type := 4, pos := "l08_sectors.go:68", after := #[{ on := 2, ground := Go.Ground.data }, { on := 1, ground := Go.Ground.chain }], guard := none }) rfl (fun Kn hK => ?_) AllReadyH.nil
    first | go_at_call 80 | (go_simp; go_at_call 80)
    (with_reducible refine Calls.mono (K3.out _) ?_)
    rintro e V2 ⟨rfl, hb⟩
    try dsimp only
    try simp only [Act.put, List.setIfInBounds_toArray, List.set_cons_zero, List.set_cons_succ]
    replace bX := bX.on hb
    replace bZ := bZ.on hb
    replace HW := Lib.hid (bel_end HW.out hb)
    clear hb
    refine hK.out _ _ (HSp.out _ bX bZ) (fun _ => ?_)
    clear hK Kn
    have hS := HSp.out _ bX bZ
    refine wpAnyH_take (i := 4) (oi := { dst := some 14, op := Go.Op.binOp Go.BinOp.neq 4 (Go.Operand.tmp 11) (Go.Operand.tmp 13) 4, type := 4, pos := "l08_sectors.go:68", after := #[{ on := 1, ground := Go.Ground.data }, { on := 3, ground := Go.Ground.data }], guard := none }) (v := ?_) rfl (by kernel_rfl) (by kernel_rfl) (by kernel_rfl) (fun _ _ _ h => h) (Or.inl ⟨by rfl, ?_⟩) hS ?_
    rotate_left
    · (intro w hSw; have hSw := (HSd.out w).1 hSw; go_split_ands; go_simp) <;> with_reducible rfl
    clear hS
    try simp only [Act.put, List.setIfInBounds_toArray, List.set_cons_zero, List.set_cons_succ]
    have hS := HSp.out _ bX bZ
    refine wpAnyH_take (i := 5) (oi := { dst := some 15, op := Go.Op.move (Go.Operand.tmp 14), type := 4, pos := "l08_sectors.go:68", after := #[{ on := 4, ground := Go.Ground.data }, { on := 3, ground := Go.Ground.chain }], guard := none }) (v := ?_) rfl (by kernel_rfl) (by kernel_rfl) (by kernel_rfl) (fun _ _ _ h => h) (Or.inl ⟨by rfl, ?_⟩) hS ?_
    rotate_left
    · (intro w hSw; have hSw := (HSd.out w).1 hSw; go_split_ands; go_simp) <;> with_reducible rfl
    clear hS
    try simp only [Act.put, List.setIfInBounds_toArray, List.set_cons_zero, List.set_cons_succ]
    have hS := HSp.out _ bX bZ
    refine wpAnyH_take (i := 6) (oi := { dst := some 16, op := Go.Op.load 32 (Go.Operand.tmp 5), type := 32, pos := "l08_sectors.go:68", after := #[{ on := 5, ground := Go.Ground.guard }], guard := some (5, false) }) (v := undef) rfl (by kernel_rfl) (by kernel_rfl) (by kernel_rfl) (fun _ _ _ h => h) (Or.inr ⟨by rfl, rfl⟩) hS ?_
    clear hS
    try simp only [Act.put, List.setIfInBounds_toArray, List.set_cons_zero, List.set_cons_succ]
    have hS := HSp.out _ bX bZ
    refine wpAnyH_take (i := 7) (oi := { dst := some 17, op := Go.Op.call { callee := Go.Callee.value (Go.Operand.func 80), args := #[Go.Operand.tmp 16], argTypes := #[32] }, type := 4, pos := "l08_sectors.go:68", after := #[{ on := 6, ground := Go.Ground.data }, { on := 5, ground := Go.Ground.chain }, { on := 5, ground := Go.Ground.guard }], guard := some (5, false) }) (v := undef) rfl (by kernel_rfl) (by kernel_rfl) (by kernel_rfl) (fun _ _ _ h => h) (Or.inr ⟨by rfl, rfl⟩) hS ?_
    clear hS
    try simp only [Act.put, List.setIfInBounds_toArray, List.set_cons_zero, List.set_cons_succ]
    have hS := HSp.out _ bX bZ
    refine wpAnyH_take (i := 8) (oi := { dst := some 18, op := Go.Op.load 32 (Go.Operand.tmp 4), type := 32, pos := "l08_sectors.go:68", after := #[{ on := 5, ground := Go.Ground.guard }], guard := some (5, false) }) (v := undef) rfl (by kernel_rfl) (by kernel_rfl) (by kernel_rfl) (fun _ _ _ h => h) (Or.inr ⟨by rfl, rfl⟩) hS ?_
    clear hS
    try simp only [Act.put, List.setIfInBounds_toArray, List.set_cons_zero, List.set_cons_succ]
    have hS := HSp.out _ bX bZ
    refine wpAnyH_take (i := 9) (oi := { dst := some 19, op := Go.Op.call { callee := Go.Callee.value (Go.Operand.func 80), args := #[Go.Operand.tmp 18], argTypes := #[32] }, type := 4, pos := "l08_sectors.go:68", after := #[{ on := 8, ground := Go.Ground.data }, { on := 7, ground := Go.Ground.chain }, { on := 5, ground := Go.Ground.guard }], guard := some (5, false) }) (v := undef) rfl (by kernel_rfl) (by kernel_rfl) (by kernel_rfl) (fun _ _ _ h => h) (Or.inr ⟨by rfl, rfl⟩) hS ?_
    clear hS
    try simp only [Act.put, List.setIfInBounds_toArray, List.set_cons_zero, List.set_cons_succ]
    have hS := HSp.out _ bX bZ
    refine wpAnyH_take (i := 10) (oi := { dst := some 20, op := Go.Op.binOp Go.BinOp.neq 4 (Go.Operand.tmp 17) (Go.Operand.tmp 19) 4, type := 4, pos := "l08_sectors.go:68", after := #[{ on := 7, ground := Go.Ground.data }, { on := 9, ground := Go.Ground.data }, { on := 5, ground := Go.Ground.guard }], guard := some (5, false) }) (v := undef) rfl (by kernel_rfl) (by kernel_rfl) (by kernel_rfl) (fun _ _ _ h => h) (Or.inr ⟨by rfl, rfl⟩) hS ?_
    clear hS
    try simp only [Act.put, List.setIfInBounds_toArray, List.set_cons_zero, List.set_cons_succ]
    have hS := HSp.out _ bX bZ
    refine wpAnyH_take (i := 11) (oi := { dst := some 21, op := Go.Op.pick (Go.Operand.tmp 15) (Go.Operand.const (Go.Value.bool true)) (Go.Operand.tmp 20), type := 4, pos := "l08_sectors.go:68", after := #[{ on := 5, ground := Go.Ground.data }, { on := 10, ground := Go.Ground.data }], guard := none }) (v := ?_) rfl (by kernel_rfl) (by kernel_rfl) (by kernel_rfl) (fun _ _ _ h => h) (Or.inl ⟨by rfl, ?_⟩) hS ?_
    rotate_left
    · (intro w hSw; have hSw := (HSd.out w).1 hSw; go_split_ands; go_simp) <;> with_reducible rfl
    clear hS
    try simp only [Act.put, List.setIfInBounds_toArray, List.set_cons_zero, List.set_cons_succ]
    refine wpAnyH_done (by kernel_rfl) ?_ _
    go_wp2
    go_ret
    exact ⟨ret_bool HR.out.symm, bel_end HB.out HW.out⟩
  case false.false | true.true =>
    go_cut [21] (fun q wx => q = .bool g ∧ Below W.heap.size W wx)
    case first =>
      have HW : Hid (Below W.heap.size W W) := Lib.hid (Below.refl _ _)
      obtain ⟨S, hSd⟩ : ∃ S : World → Prop, ∀ w', S w' ↔ (w'.cell? ⟨w.heap.size, 0, none⟩ = some (.int .i64 c) ∧ w'.cell? ⟨w.heap.size, 1, none⟩ = some (.int .i64 s) ∧ w'.cell? ⟨w.heap.size, 2, none⟩ = some (.int .i64 h) ∧ w'.cell? ⟨w.heap.size + 1 + 1, 0, none⟩ = some (.int .i64 u) ∧ w'.cell? ⟨w.heap.size + 1 + 1, 1, none⟩ = some (.int .i64 v) ∧ w'.cell? ⟨w.heap.size + 1 + 1, 2, none⟩ = some (.int .i64 t) ∧ w'.cell? ⟨w.heap.size + 1, 0, none⟩ = some (.int .i64 x) ∧ w'.cell? ⟨w.heap.size + 1, 1, none⟩ = some (.int .i64 y) ∧ w'.cell? ⟨w.heap.size + 1, 2, none⟩ = some (.int .i64 z)) := ⟨_, fun _ => Iff.rfl⟩
      have HSp : Hid (∀ w' : World, Bk w' (w.heap.size) #[.int .i64 c, .int .i64 s, .int .i64 h] 32 → Bk w' (w.heap.size + 1 + 1) #[.int .i64 u, .int .i64 v, .int .i64 t] 32 → Bk w' (w.heap.size + 1) #[.int .i64 x, .int .i64 y, .int .i64 z] 32 → S w') := Lib.hid (fun w' bX bZ bY => (hSd w').2 ⟨bX.cell 0 rfl, bX.cell 1 rfl, bX.cell 2 rfl, bZ.cell 0 rfl, bZ.cell 1 rfl, bZ.cell 2 rfl, bY.cell 0 rfl, bY.cell 1 rfl, bY.cell 2 rfl⟩)
      have HSd := Lib.hid hSd
      clear hSd
      refine wp_region_held_drew (S := S) (by kernel_rfl) ?_ (fun hH => ?_)
      · exact (HSp.out _ bX bZ bY : S (World.drew W))
      clear hH
      generalize hX : World.drew W = V0
      replace bX : Bk V0 (w.heap.size) #[.int .i64 c, .int .i64 s, .int .i64 h] 32 := by rw [← hX]; exact bX
      replace bY : Bk V0 (w.heap.size + 1) #[.int .i64 x, .int .i64 y, .int .i64 z] 32 := by rw [← hX]; exact bY
      replace bZ : Bk V0 (w.heap.size + 1 + 1) #[.int .i64 u, .int .i64 v, .int .i64 t] 32 := by rw [← hX]; exact bZ
      have hb : Below W.heap.size W V0 := by rw [← hX]; exact (Below.refl _ _).drew
      clear hX
      replace HW := Lib.hid (bel_end HW.out hb)
      clear hb
      have hS := HSp.out _ bX bZ bY
      refine wpAnyH_take (i := 0) (oi := { dst := some 10, op := Go.Op.load 32 (Go.Operand.tmp 3), type := 32, pos := "l08_sectors.go:68", after := #[], guard := none }) (v := ?_) rfl (by kernel_rfl) (by kernel_rfl) (by kernel_rfl) (fun _ _ _ h => h) (Or.inl ⟨by rfl, ?_⟩) hS ?_
      rotate_left
      · (intro w hSw; have hSw := (HSd.out w).1 hSw; go_split_ands; go_simp) <;> with_reducible rfl
      clear hS
      try simp only [Act.put, List.setIfInBounds_toArray, List.set_cons_zero, List.set_cons_succ]
      have hS := HSp.out _ bX bZ bY
      refine wpAnyH_take (i := 2) (oi := { dst := some 12, op := Go.Op.load 32 (Go.Operand.tmp 5), type := 32, pos := "l08_sectors.go:68", after := #[], guard := none }) (v := ?_) rfl (by kernel_rfl) (by kernel_rfl) (by kernel_rfl) (fun _ _ _ h => h) (Or.inl ⟨by rfl, ?_⟩) hS ?_
      rotate_left
      · (intro w hSw; have hSw := (HSd.out w).1 hSw; go_split_ands; go_simp) <;> with_reducible rfl
      clear hS
      try simp only [Act.put, List.setIfInBounds_toArray, List.set_cons_zero, List.set_cons_succ]
      refine wpAnyH_ready (rs := [1]) (by kernel_rfl) (by simp) ?_
      refine AllReadyH.cons (o := { dst := some 11, op := Go.Op.call { callee := Go.Callee.value (Go.Operand.func 80), args := #[Go.Operand.tmp 10], argTypes := #[32] }, type := 4, pos := "l08_sectors.go:68", after := #[{ on := 0, ground := Go.Ground.data }], guard := none }) rfl (fun Kn hK => ?_) AllReadyH.nil
      first | go_at_call 80 | (go_simp; go_at_call 80)
      (with_reducible refine Calls.mono (K1.out _) ?_)
      rintro e V1 ⟨rfl, hb⟩
      try dsimp only
      try simp only [Act.put, List.setIfInBounds_toArray, List.set_cons_zero, List.set_cons_succ]
      replace bX := bX.on hb
      replace bY := bY.on hb
      replace bZ := bZ.on hb
      replace HW := Lib.hid (bel_end HW.out hb)
      clear hb
      refine hK.out _ _ (HSp.out _ bX bZ bY) (fun _ => ?_)
      clear hK Kn
      refine wpAnyH_ready (rs := [3]) (by kernel_rfl) (by simp) ?_
      refine AllReadyH.cons (o := { dst := some 13, op := Go.Op.call { callee := Go.Callee.value (Go.Operand.func 80), args := #[Go.Operand.tmp 12], argTypes := #[32] }, type := 4, pos := "l08_sectors.go:68", after := #[{ on := 2, ground := Go.Ground.data }, { on := 1, ground := Go.Ground.chain }], guard := none }) rfl (fun Kn hK => ?_) AllReadyH.nil
      first | go_at_call 80 | (go_simp; go_at_call 80)
      (with_reducible refine Calls.mono (K3.out _) ?_)
      rintro e V2 ⟨rfl, hb⟩
      try dsimp only
      try simp only [Act.put, List.setIfInBounds_toArray, List.set_cons_zero, List.set_cons_succ]
      replace bX := bX.on hb
      replace bY := bY.on hb
      replace bZ := bZ.on hb
      replace HW := Lib.hid (bel_end HW.out hb)
      clear hb
      refine hK.out _ _ (HSp.out _ bX bZ bY) (fun _ => ?_)
      clear hK Kn
      have hS := HSp.out _ bX bZ bY
      refine wpAnyH_take (i := 4) (oi := { dst := some 14, op := Go.Op.binOp Go.BinOp.neq 4 (Go.Operand.tmp 11) (Go.Operand.tmp 13) 4, type := 4, pos := "l08_sectors.go:68", after := #[{ on := 1, ground := Go.Ground.data }, { on := 3, ground := Go.Ground.data }], guard := none }) (v := ?_) rfl (by kernel_rfl) (by kernel_rfl) (by kernel_rfl) (fun _ _ _ h => h) (Or.inl ⟨by rfl, ?_⟩) hS ?_
      rotate_left
      · (intro w hSw; have hSw := (HSd.out w).1 hSw; go_split_ands; go_simp) <;> with_reducible rfl
      clear hS
      try simp only [Act.put, List.setIfInBounds_toArray, List.set_cons_zero, List.set_cons_succ]
      have hS := HSp.out _ bX bZ bY
      refine wpAnyH_take (i := 5) (oi := { dst := some 15, op := Go.Op.move (Go.Operand.tmp 14), type := 4, pos := "l08_sectors.go:68", after := #[{ on := 4, ground := Go.Ground.data }, { on := 3, ground := Go.Ground.chain }], guard := none }) (v := ?_) rfl (by kernel_rfl) (by kernel_rfl) (by kernel_rfl) (fun _ _ _ h => h) (Or.inl ⟨by rfl, ?_⟩) hS ?_
      rotate_left
      · (intro w hSw; have hSw := (HSd.out w).1 hSw; go_split_ands; go_simp) <;> with_reducible rfl
      clear hS
      try simp only [Act.put, List.setIfInBounds_toArray, List.set_cons_zero, List.set_cons_succ]
      have hS := HSp.out _ bX bZ bY
      refine wpAnyH_take (i := 6) (oi := { dst := some 16, op := Go.Op.load 32 (Go.Operand.tmp 5), type := 32, pos := "l08_sectors.go:68", after := #[{ on := 5, ground := Go.Ground.guard }], guard := some (5, false) }) (v := ?_) rfl (by kernel_rfl) (by kernel_rfl) (by kernel_rfl) (fun _ _ _ h => h) (Or.inl ⟨by rfl, ?_⟩) hS ?_
      rotate_left
      · (intro w hSw; have hSw := (HSd.out w).1 hSw; go_split_ands; go_simp) <;> with_reducible rfl
      clear hS
      try simp only [Act.put, List.setIfInBounds_toArray, List.set_cons_zero, List.set_cons_succ]
      have hS := HSp.out _ bX bZ bY
      refine wpAnyH_take (i := 8) (oi := { dst := some 18, op := Go.Op.load 32 (Go.Operand.tmp 4), type := 32, pos := "l08_sectors.go:68", after := #[{ on := 5, ground := Go.Ground.guard }], guard := some (5, false) }) (v := ?_) rfl (by kernel_rfl) (by kernel_rfl) (by kernel_rfl) (fun _ _ _ h => h) (Or.inl ⟨by rfl, ?_⟩) hS ?_
      rotate_left
      · (intro w hSw; have hSw := (HSd.out w).1 hSw; go_split_ands; go_simp) <;> with_reducible rfl
      clear hS
      try simp only [Act.put, List.setIfInBounds_toArray, List.set_cons_zero, List.set_cons_succ]
      refine wpAnyH_ready (rs := [7]) (by kernel_rfl) (by simp) ?_
      refine AllReadyH.cons (o := { dst := some 17, op := Go.Op.call { callee := Go.Callee.value (Go.Operand.func 80), args := #[Go.Operand.tmp 16], argTypes := #[32] }, type := 4, pos := "l08_sectors.go:68", after := #[{ on := 6, ground := Go.Ground.data }, { on := 5, ground := Go.Ground.chain }, { on := 5, ground := Go.Ground.guard }], guard := some (5, false) }) rfl (fun Kn hK => ?_) AllReadyH.nil
      first | go_at_call 80 | (go_simp; go_at_call 80)
      (with_reducible refine Calls.mono (K3.out _) ?_)
      rintro e V3 ⟨rfl, hb⟩
      try dsimp only
      try simp only [Act.put, List.setIfInBounds_toArray, List.set_cons_zero, List.set_cons_succ]
      replace bX := bX.on hb
      replace bY := bY.on hb
      replace bZ := bZ.on hb
      replace HW := Lib.hid (bel_end HW.out hb)
      clear hb
      refine hK.out _ _ (HSp.out _ bX bZ bY) (fun _ => ?_)
      clear hK Kn
      refine wpAnyH_ready (rs := [9]) (by kernel_rfl) (by simp) ?_
      refine AllReadyH.cons (o := { dst := some 19, op := Go.Op.call { callee := Go.Callee.value (Go.Operand.func 80), args := #[Go.Operand.tmp 18], argTypes := #[32] }, type := 4, pos := "l08_sectors.go:68", after := #[{ on := 8, ground := Go.Ground.data }, { on := 7, ground := Go.Ground.chain }, { on := 5, ground := Go.Ground.guard }], guard := some (5, false) }) rfl (fun Kn hK => ?_) AllReadyH.nil
      first | go_at_call 80 | (go_simp; go_at_call 80)
      (with_reducible refine Calls.mono (K2.out _) ?_)
      rintro e V4 ⟨rfl, hb⟩
      try dsimp only
      try simp only [Act.put, List.setIfInBounds_toArray, List.set_cons_zero, List.set_cons_succ]
      replace bX := bX.on hb
      replace bY := bY.on hb
      replace bZ := bZ.on hb
      replace HW := Lib.hid (bel_end HW.out hb)
      clear hb
      refine hK.out _ _ (HSp.out _ bX bZ bY) (fun _ => ?_)
      clear hK Kn
      have hS := HSp.out _ bX bZ bY
      refine wpAnyH_take (i := 10) (oi := { dst := some 20, op := Go.Op.binOp Go.BinOp.neq 4 (Go.Operand.tmp 17) (Go.Operand.tmp 19) 4, type := 4, pos := "l08_sectors.go:68", after := #[{ on := 7, ground := Go.Ground.data }, { on := 9, ground := Go.Ground.data }, { on := 5, ground := Go.Ground.guard }], guard := some (5, false) }) (v := ?_) rfl (by kernel_rfl) (by kernel_rfl) (by kernel_rfl) (fun _ _ _ h => h) (Or.inl ⟨by rfl, ?_⟩) hS ?_
      rotate_left
      · (intro w hSw; have hSw := (HSd.out w).1 hSw; go_split_ands; go_simp) <;> with_reducible rfl
      clear hS
      try simp only [Act.put, List.setIfInBounds_toArray, List.set_cons_zero, List.set_cons_succ]
      have hS := HSp.out _ bX bZ bY
      refine wpAnyH_take (i := 11) (oi := { dst := some 21, op := Go.Op.pick (Go.Operand.tmp 15) (Go.Operand.const (Go.Value.bool true)) (Go.Operand.tmp 20), type := 4, pos := "l08_sectors.go:68", after := #[{ on := 5, ground := Go.Ground.data }, { on := 10, ground := Go.Ground.data }], guard := none }) (v := ?_) rfl (by kernel_rfl) (by kernel_rfl) (by kernel_rfl) (fun _ _ _ h => h) (Or.inl ⟨by rfl, ?_⟩) hS ?_
      rotate_left
      · (intro w hSw; have hSw := (HSd.out w).1 hSw; go_split_ands; go_simp) <;> with_reducible rfl
      clear hS
      try simp only [Act.put, List.setIfInBounds_toArray, List.set_cons_zero, List.set_cons_succ]
      refine wpAnyH_done (by kernel_rfl) ?_ _
      go_wp2_with fail
      go_meet
      exact ⟨by rw [← hg]; cases d2 <;> rfl, HW.out⟩
    case rest =>
      obtain ⟨rfl, hb⟩ := hcut
      replace bX := bX.on hb
      replace bY := bY.on hb
      replace bZ := bZ.on hb
      replace HB := Lib.hid (bel_end HB.out hb)
      clear hb
      cases g
      case true =>
        have HR : Hid (lbB c s h x y z u v t = false) := Lib.hid (by rw [HF.out, hg]; rfl)
        go_wp2
        go_ret
        exact ⟨ret_bool HR.out.symm, HB.out⟩
      case false =>
        have HF := Lib.hid (show lbB c s h x y z u v t = ((C1 == 0) && (C2 == 0) && decide (0 ≤ V1 * V2)) from by rw [HF.out, hg]; rfl)
        clear hg
        have bX_0 := bX.cell 0 rfl
        have bX_1 := bX.cell 1 rfl
        have bX_2 := bX.cell 2 rfl
        have bX_l := bX.lt
        have bY_0 := bY.cell 0 rfl
        have bY_1 := bY.cell 1 rfl
        have bY_2 := bY.cell 2 rfl
        have bY_l := bY.lt
        have bZ_0 := bZ.cell 0 rfl
        have bZ_1 := bZ.cell 1 rfl
        have bZ_2 := bZ.cell 2 rfl
        have bZ_l := bZ.lt
        go_wp2_with fail
        refine (KC1.out _).mono ?_
        rintro e w1 ⟨rfl, hb⟩
        replace bX := bX.on hb
        replace bY := bY.on hb
        replace bZ := bZ.on hb
        replace HB := Lib.hid (bel_end HB.out hb)
        clear hb
        clear bX_0 bX_1 bX_2 bX_l bY_0 bY_1 bY_2 bY_l bZ_0 bZ_1 bZ_2 bZ_l
        cases a1 : (C1 == 0)
        case false =>
          have a2 : (C1 != 0) = true := by simp [bne, a1]
          have HR : Hid (lbB c s h x y z u v t = false) := Lib.hid (by rw [HF.out, a1]; rfl)
          go_wp2
          go_ret
          exact ⟨ret_bool HR.out.symm, HB.out⟩
        case true =>
          have a2 : (C1 != 0) = false := by simp [bne, a1]
          have bX_0 := bX.cell 0 rfl
          have bX_1 := bX.cell 1 rfl
          have bX_2 := bX.cell 2 rfl
          have bX_l := bX.lt
          have bY_0 := bY.cell 0 rfl
          have bY_1 := bY.cell 1 rfl
          have bY_2 := bY.cell 2 rfl
          have bY_l := bY.lt
          have bZ_0 := bZ.cell 0 rfl
          have bZ_1 := bZ.cell 1 rfl
          have bZ_2 := bZ.cell 2 rfl
          have bZ_l := bZ.lt
          go_wp2_with fail
          refine (KC2.out _).mono ?_
          rintro e w2 ⟨rfl, hb⟩
          replace bX := bX.on hb
          replace bY := bY.on hb
          replace bZ := bZ.on hb
          replace HB := Lib.hid (bel_end HB.out hb)
          clear hb
          clear bX_0 bX_1 bX_2 bX_l bY_0 bY_1 bY_2 bY_l bZ_0 bZ_1 bZ_2 bZ_l
          cases c1 : (C2 == 0)
          case false =>
            have c2 : (C2 != 0) = true := by simp [bne, c1]
            have HR : Hid (lbB c s h x y z u v t = false) := Lib.hid (by rw [HF.out, a1, c1]; rfl)
            go_wp2
            go_ret
            exact ⟨ret_bool HR.out.symm, HB.out⟩
          case true =>
            have c2 : (C2 != 0) = false := by simp [bne, c1]
            have HR : Hid (lbB c s h x y z u v t = decide (0 ≤ V1 * V2)) := Lib.hid (by rw [HF.out, a1, c1]; rfl)
            clear a1 c1 HF
            by_cases p : 0 ≤ V1 * V2
            all_goals
              go_wp2
              go_ret
              exact ⟨ret_bool (by rw [HR.out]; (try simp [p])), HB.out⟩

set_option maxRecDepth 100000 in
set_option maxHeartbeats 8000000 in
theorem slb_any (c s h x y z u v t : Int) (w : World) :
    Calls Try.prog 24 #[.agg #[.int .i64 c, .int .i64 s, .int .i64 h], .agg #[.int .i64 x, .int .i64 y, .int .i64 z], .agg #[.int .i64 u, .int .i64 v, .int .i64 t]] w fun e w' => e = .returned (.bool (lbB c s h x y z u v t)) ∧ Below w.heap.size w w' := by
  obtain ⟨A, hA⟩ : ∃ q, sgn (c * t) (u * h) = q := ⟨_, rfl⟩
  obtain ⟨Q, hQ⟩ : ∃ q, sgn (x * t) (u * z) = q := ⟨_, rfl⟩
  have v1 := sgn_bd (c * t) (u * h)
  have v2 := sgn_bd (x * t) (u * z)
  rw [hA] at v1
  rw [hQ] at v2
  have vv : -1 ≤ A * Q ∧ A * Q ≤ 1 := by rcases v1 with e | e | e <;> rcases v2 with g | g | g <;> rw [e, g] <;> decide
  have ew : IntKind.wrap .i64 (A * Q) = A * Q := IntWalk.i64_in _ (by omega)
  clear v1 v2 vv
  have HF : Hid (lbB c s h x y z u v t = (dirB c s h && dirB x y z && dirB u v t && (decide (0 < s) == decide (0 < y)) && (decide (0 < s) == decide (0 < v)) && decide (A * Q ≤ 0))) := Lib.hid (by unfold lbB; rw [hA, hQ])
  obtain ⟨D1, hD1⟩ : ∃ q, dirB c s h = q := ⟨_, rfl⟩
  have KD1 : Hid (∀ W : World, Calls Try.prog 77 #[.agg #[.int .i64 c, .int .i64 s, .int .i64 h]] W fun e w' => e = .returned (.bool D1) ∧ Below W.heap.size W w') := Lib.hid (fun W => by have := sdr_any c s h W; rwa [hD1] at this)
  obtain ⟨D2, hD2⟩ : ∃ q, dirB x y z = q := ⟨_, rfl⟩
  have KD2 : Hid (∀ W : World, Calls Try.prog 77 #[.agg #[.int .i64 x, .int .i64 y, .int .i64 z]] W fun e w' => e = .returned (.bool D2) ∧ Below W.heap.size W w') := Lib.hid (fun W => by have := sdr_any x y z W; rwa [hD2] at this)
  obtain ⟨D3, hD3⟩ : ∃ q, dirB u v t = q := ⟨_, rfl⟩
  have KD3 : Hid (∀ W : World, Calls Try.prog 77 #[.agg #[.int .i64 u, .int .i64 v, .int .i64 t]] W fun e w' => e = .returned (.bool D3) ∧ Below W.heap.size W w') := Lib.hid (fun W => by have := sdr_any u v t W; rwa [hD3] at this)
  obtain ⟨L1, hL1⟩ : ∃ q, (decide (0 < s) == decide (0 < y)) = q := ⟨_, rfl⟩
  have KL1 : Hid (∀ W : World, Calls Try.prog 78 #[.agg #[.int .i64 c, .int .i64 s, .int .i64 h], .agg #[.int .i64 x, .int .i64 y, .int .i64 z]] W fun e w' => e = .returned (.bool L1) ∧ Below W.heap.size W w') := Lib.hid (fun W => by have := alk_any c s h x y z W; rwa [hL1] at this)
  obtain ⟨L2, hL2⟩ : ∃ q, (decide (0 < s) == decide (0 < v)) = q := ⟨_, rfl⟩
  have KL2 : Hid (∀ W : World, Calls Try.prog 78 #[.agg #[.int .i64 c, .int .i64 s, .int .i64 h], .agg #[.int .i64 u, .int .i64 v, .int .i64 t]] W fun e w' => e = .returned (.bool L2) ∧ Below W.heap.size W w') := Lib.hid (fun W => by have := alk_any c s h u v t W; rwa [hL2] at this)
  rw [hD1, hD2, hD3, hL1, hL2] at HF
  have KA : Hid (D1 = true → D3 = true → ∀ W : World, Calls Try.prog 79 #[.agg #[.int .i64 c, .int .i64 s, .int .i64 h], .agg #[.int .i64 u, .int .i64 v, .int .i64 t]] W fun e w' => e = .returned (.int .i64 A) ∧ Below W.heap.size W w') := Lib.hid (fun e1 e3 W => by have := lco_any c s h u v t (dirB_t (hD1.trans e1)) (dirB_t (hD3.trans e3)) W; rwa [hA] at this)
  have KQ : Hid (D2 = true → D3 = true → ∀ W : World, Calls Try.prog 79 #[.agg #[.int .i64 x, .int .i64 y, .int .i64 z], .agg #[.int .i64 u, .int .i64 v, .int .i64 t]] W fun e w' => e = .returned (.int .i64 Q) ∧ Below W.heap.size W w') := Lib.hid (fun e1 e3 W => by have := lco_any x y z u v t (dirB_t (hD2.trans e1)) (dirB_t (hD3.trans e3)) W; rwa [hQ] at this)
  clear hA hQ hD1 hD2 hD3 hL1 hL2
  go_enter Try.func24, Try.ntmps24
  go_wp2_with fail
  generalize hW : World.alloc _ _ = W
  have bX : Bk W (w.heap.size) #[.int .i64 c, .int .i64 s, .int .i64 h] 32 := by rw [← hW]; repeat (first | (refine Bk.new' ?_; (simp; done)) | refine Bk.alloc ?_ _)
  have bY : Bk W (w.heap.size + 1) #[.int .i64 x, .int .i64 y, .int .i64 z] 32 := by rw [← hW]; repeat (first | (refine Bk.new' ?_; (simp; done)) | refine Bk.alloc ?_ _)
  have bZ : Bk W (w.heap.size + 1 + 1) #[.int .i64 u, .int .i64 v, .int .i64 t] 32 := by rw [← hW]; repeat (first | (refine Bk.new' ?_; (simp; done)) | refine Bk.alloc ?_ _)
  have HB : Hid (Below w.heap.size w W) := Lib.hid (by rw [← hW]; exact (by repeat (first | exact Below.refl _ _ | (refine Below.alloc ?_ (by simp <;> omega) _) | (refine Below.setCell ?_ (by simp <;> omega) _) | (refine Below.drew ?_) | (refine bel_drewN ?_ _))))
  clear hW
  skip
  refine (KD1.out _).mono ?_
  rintro e w1 ⟨rfl, hb⟩
  replace bX := bX.on hb
  replace bY := bY.on hb
  replace bZ := bZ.on hb
  replace HB := Lib.hid (bel_end HB.out hb)
  clear hb
  cases hD1 : D1
  case false =>
    have HR : Hid (lbB c s h x y z u v t = false) := Lib.hid (by rw [HF.out]; simp only [hD1, Bool.and_false, Bool.false_and])
    have bX_0 := bX.cell 0 rfl
    have bX_1 := bX.cell 1 rfl
    have bX_2 := bX.cell 2 rfl
    have bX_l := bX.lt
    have bY_0 := bY.cell 0 rfl
    have bY_1 := bY.cell 1 rfl
    have bY_2 := bY.cell 2 rfl
    have bY_l := bY.lt
    have bZ_0 := bZ.cell 0 rfl
    have bZ_1 := bZ.cell 1 rfl
    have bZ_2 := bZ.cell 2 rfl
    have bZ_l := bZ.lt
    go_wp2
    go_ret
    exact ⟨ret_bool HR.out.symm, HB.out⟩
  case true =>
    subst hD1
    have bX_0 := bX.cell 0 rfl
    have bX_1 := bX.cell 1 rfl
    have bX_2 := bX.cell 2 rfl
    have bX_l := bX.lt
    have bY_0 := bY.cell 0 rfl
    have bY_1 := bY.cell 1 rfl
    have bY_2 := bY.cell 2 rfl
    have bY_l := bY.lt
    have bZ_0 := bZ.cell 0 rfl
    have bZ_1 := bZ.cell 1 rfl
    have bZ_2 := bZ.cell 2 rfl
    have bZ_l := bZ.lt
    go_wp2_with fail
    refine (KD2.out _).mono ?_
    rintro e w2 ⟨rfl, hb⟩
    replace bX := bX.on hb
    replace bY := bY.on hb
    replace bZ := bZ.on hb
    replace HB := Lib.hid (bel_end HB.out hb)
    clear hb
    clear bX_0 bX_1 bX_2 bX_l bY_0 bY_1 bY_2 bY_l bZ_0 bZ_1 bZ_2 bZ_l
    cases hD2 : D2
    case false =>
      have HR : Hid (lbB c s h x y z u v t = false) := Lib.hid (by rw [HF.out]; simp only [hD2, Bool.and_false, Bool.false_and])
      have bX_0 := bX.cell 0 rfl
      have bX_1 := bX.cell 1 rfl
      have bX_2 := bX.cell 2 rfl
      have bX_l := bX.lt
      have bY_0 := bY.cell 0 rfl
      have bY_1 := bY.cell 1 rfl
      have bY_2 := bY.cell 2 rfl
      have bY_l := bY.lt
      have bZ_0 := bZ.cell 0 rfl
      have bZ_1 := bZ.cell 1 rfl
      have bZ_2 := bZ.cell 2 rfl
      have bZ_l := bZ.lt
      go_wp2
      go_ret
      exact ⟨ret_bool HR.out.symm, HB.out⟩
    case true =>
      subst hD2
      have bX_0 := bX.cell 0 rfl
      have bX_1 := bX.cell 1 rfl
      have bX_2 := bX.cell 2 rfl
      have bX_l := bX.lt
      have bY_0 := bY.cell 0 rfl
      have bY_1 := bY.cell 1 rfl
      have bY_2 := bY.cell 2 rfl
      have bY_l := bY.lt
      have bZ_0 := bZ.cell 0 rfl
      have bZ_1 := bZ.cell 1 rfl
      have bZ_2 := bZ.cell 2 rfl
      have bZ_l := bZ.lt
      go_wp2_with fail
      refine (KD3.out _).mono ?_
      rintro e w3 ⟨rfl, hb⟩
      replace bX := bX.on hb
      replace bY := bY.on hb
      replace bZ := bZ.on hb
      replace HB := Lib.hid (bel_end HB.out hb)
      clear hb
      clear bX_0 bX_1 bX_2 bX_l bY_0 bY_1 bY_2 bY_l bZ_0 bZ_1 bZ_2 bZ_l
      cases hD3 : D3
      case false =>
        have HR : Hid (lbB c s h x y z u v t = false) := Lib.hid (by rw [HF.out]; simp only [hD3, Bool.and_false, Bool.false_and])
        have bX_0 := bX.cell 0 rfl
        have bX_1 := bX.cell 1 rfl
        have bX_2 := bX.cell 2 rfl
        have bX_l := bX.lt
        have bY_0 := bY.cell 0 rfl
        have bY_1 := bY.cell 1 rfl
        have bY_2 := bY.cell 2 rfl
        have bY_l := bY.lt
        have bZ_0 := bZ.cell 0 rfl
        have bZ_1 := bZ.cell 1 rfl
        have bZ_2 := bZ.cell 2 rfl
        have bZ_l := bZ.lt
        go_wp2
        go_ret
        exact ⟨ret_bool HR.out.symm, HB.out⟩
      case true =>
        subst hD3
        have bX_0 := bX.cell 0 rfl
        have bX_1 := bX.cell 1 rfl
        have bX_2 := bX.cell 2 rfl
        have bX_l := bX.lt
        have bY_0 := bY.cell 0 rfl
        have bY_1 := bY.cell 1 rfl
        have bY_2 := bY.cell 2 rfl
        have bY_l := bY.lt
        have bZ_0 := bZ.cell 0 rfl
        have bZ_1 := bZ.cell 1 rfl
        have bZ_2 := bZ.cell 2 rfl
        have bZ_l := bZ.lt
        go_wp2_with fail
        refine (KL1.out _).mono ?_
        rintro e w4 ⟨rfl, hb⟩
        replace bX := bX.on hb
        replace bY := bY.on hb
        replace bZ := bZ.on hb
        replace HB := Lib.hid (bel_end HB.out hb)
        clear hb
        clear bX_0 bX_1 bX_2 bX_l bY_0 bY_1 bY_2 bY_l bZ_0 bZ_1 bZ_2 bZ_l
        cases hL1 : L1
        case false =>
          have HR : Hid (lbB c s h x y z u v t = false) := Lib.hid (by rw [HF.out]; simp only [hL1, Bool.and_false, Bool.false_and])
          have bX_0 := bX.cell 0 rfl
          have bX_1 := bX.cell 1 rfl
          have bX_2 := bX.cell 2 rfl
          have bX_l := bX.lt
          have bY_0 := bY.cell 0 rfl
          have bY_1 := bY.cell 1 rfl
          have bY_2 := bY.cell 2 rfl
          have bY_l := bY.lt
          have bZ_0 := bZ.cell 0 rfl
          have bZ_1 := bZ.cell 1 rfl
          have bZ_2 := bZ.cell 2 rfl
          have bZ_l := bZ.lt
          go_wp2
          go_ret
          exact ⟨ret_bool HR.out.symm, HB.out⟩
        case true =>
          subst hL1
          have bX_0 := bX.cell 0 rfl
          have bX_1 := bX.cell 1 rfl
          have bX_2 := bX.cell 2 rfl
          have bX_l := bX.lt
          have bY_0 := bY.cell 0 rfl
          have bY_1 := bY.cell 1 rfl
          have bY_2 := bY.cell 2 rfl
          have bY_l := bY.lt
          have bZ_0 := bZ.cell 0 rfl
          have bZ_1 := bZ.cell 1 rfl
          have bZ_2 := bZ.cell 2 rfl
          have bZ_l := bZ.lt
          go_wp2_with fail
          refine (KL2.out _).mono ?_
          rintro e w5 ⟨rfl, hb⟩
          replace bX := bX.on hb
          replace bY := bY.on hb
          replace bZ := bZ.on hb
          replace HB := Lib.hid (bel_end HB.out hb)
          clear hb
          clear bX_0 bX_1 bX_2 bX_l bY_0 bY_1 bY_2 bY_l bZ_0 bZ_1 bZ_2 bZ_l
          cases hL2 : L2
          case false =>
            have HR : Hid (lbB c s h x y z u v t = false) := Lib.hid (by rw [HF.out]; simp only [hL2, Bool.and_false, Bool.false_and])
            have bX_0 := bX.cell 0 rfl
            have bX_1 := bX.cell 1 rfl
            have bX_2 := bX.cell 2 rfl
            have bX_l := bX.lt
            have bY_0 := bY.cell 0 rfl
            have bY_1 := bY.cell 1 rfl
            have bY_2 := bY.cell 2 rfl
            have bY_l := bY.lt
            have bZ_0 := bZ.cell 0 rfl
            have bZ_1 := bZ.cell 1 rfl
            have bZ_2 := bZ.cell 2 rfl
            have bZ_l := bZ.lt
            go_wp2
            go_ret
            exact ⟨ret_bool HR.out.symm, HB.out⟩
          case true =>
            subst hL2
            have HR : Hid (lbB c s h x y z u v t = decide (A * Q ≤ 0)) := Lib.hid (by rw [HF.out]; rfl)
            clear HF
            have bX_0 := bX.cell 0 rfl
            have bX_1 := bX.cell 1 rfl
            have bX_2 := bX.cell 2 rfl
            have bX_l := bX.lt
            have bY_0 := bY.cell 0 rfl
            have bY_1 := bY.cell 1 rfl
            have bY_2 := bY.cell 2 rfl
            have bY_l := bY.lt
            have bZ_0 := bZ.cell 0 rfl
            have bZ_1 := bZ.cell 1 rfl
            have bZ_2 := bZ.cell 2 rfl
            have bZ_l := bZ.lt
            go_upto_region 3 with fail
            clear bX_0 bX_1 bX_2 bX_l bY_0 bY_1 bY_2 bY_l bZ_0 bZ_1 bZ_2 bZ_l
            go_cut [6] (fun q wx => q = .bool (decide (A * Q ≤ 0)) ∧ Below w5.heap.size w5 wx)
            case first =>
              have HW : Hid (Below w5.heap.size w5 w5) := Lib.hid (Below.refl _ _)
              obtain ⟨S, hSd⟩ : ∃ S : World → Prop, ∀ w', S w' ↔ (w'.cell? ⟨w.heap.size, 0, none⟩ = some (.int .i64 c) ∧ w'.cell? ⟨w.heap.size, 1, none⟩ = some (.int .i64 s) ∧ w'.cell? ⟨w.heap.size, 2, none⟩ = some (.int .i64 h) ∧ w'.cell? ⟨w.heap.size + 1 + 1, 0, none⟩ = some (.int .i64 u) ∧ w'.cell? ⟨w.heap.size + 1 + 1, 1, none⟩ = some (.int .i64 v) ∧ w'.cell? ⟨w.heap.size + 1 + 1, 2, none⟩ = some (.int .i64 t) ∧ w'.cell? ⟨w.heap.size + 1, 0, none⟩ = some (.int .i64 x) ∧ w'.cell? ⟨w.heap.size + 1, 1, none⟩ = some (.int .i64 y) ∧ w'.cell? ⟨w.heap.size + 1, 2, none⟩ = some (.int .i64 z)) := ⟨_, fun _ => Iff.rfl⟩
              have HSp : Hid (∀ w' : World, Bk w' (w.heap.size) #[.int .i64 c, .int .i64 s, .int .i64 h] 32 → Bk w' (w.heap.size + 1 + 1) #[.int .i64 u, .int .i64 v, .int .i64 t] 32 → Bk w' (w.heap.size + 1) #[.int .i64 x, .int .i64 y, .int .i64 z] 32 → S w') := Lib.hid (fun w' bX bZ bY => (hSd w').2 ⟨bX.cell 0 rfl, bX.cell 1 rfl, bX.cell 2 rfl, bZ.cell 0 rfl, bZ.cell 1 rfl, bZ.cell 2 rfl, bY.cell 0 rfl, bY.cell 1 rfl, bY.cell 2 rfl⟩)
              have HSd := Lib.hid hSd
              clear hSd
              refine wp_region_held_drew (S := S) (by kernel_rfl) ?_ (fun hH => ?_)
              · exact (HSp.out _ bX bZ bY : S (World.drew w5))
              clear hH
              generalize hX : World.drew w5 = V0
              replace bX : Bk V0 (w.heap.size) #[.int .i64 c, .int .i64 s, .int .i64 h] 32 := by rw [← hX]; exact bX
              replace bY : Bk V0 (w.heap.size + 1) #[.int .i64 x, .int .i64 y, .int .i64 z] 32 := by rw [← hX]; exact bY
              replace bZ : Bk V0 (w.heap.size + 1 + 1) #[.int .i64 u, .int .i64 v, .int .i64 t] 32 := by rw [← hX]; exact bZ
              have hb : Below w5.heap.size w5 V0 := by rw [← hX]; exact (Below.refl _ _).drew
              clear hX
              replace HW := Lib.hid (bel_end HW.out hb)
              clear hb
              have hS := HSp.out _ bX bZ bY
              refine wpAnyH_take (i := 0) (oi := { dst := some 32, op := Go.Op.load 32 (Go.Operand.tmp 3), type := 32, pos := "l08_sectors.go:33", after := #[], guard := none }) (v := ?_) rfl (by kernel_rfl) (by kernel_rfl) (by kernel_rfl) (fun _ _ _ h => h) (Or.inl ⟨by rfl, ?_⟩) hS ?_
              rotate_left
              · (intro w hSw; have hSw := (HSd.out w).1 hSw; go_split_ands; go_simp) <;> with_reducible rfl
              clear hS
              try simp only [Act.put, List.setIfInBounds_toArray, List.set_cons_zero, List.set_cons_succ]
              have hS := HSp.out _ bX bZ bY
              refine wpAnyH_take (i := 1) (oi := { dst := some 33, op := Go.Op.load 32 (Go.Operand.tmp 5), type := 32, pos := "l08_sectors.go:33", after := #[], guard := none }) (v := ?_) rfl (by kernel_rfl) (by kernel_rfl) (by kernel_rfl) (fun _ _ _ h => h) (Or.inl ⟨by rfl, ?_⟩) hS ?_
              rotate_left
              · (intro w hSw; have hSw := (HSd.out w).1 hSw; go_split_ands; go_simp) <;> with_reducible rfl
              clear hS
              try simp only [Act.put, List.setIfInBounds_toArray, List.set_cons_zero, List.set_cons_succ]
              have hS := HSp.out _ bX bZ bY
              refine wpAnyH_take (i := 3) (oi := { dst := some 35, op := Go.Op.load 32 (Go.Operand.tmp 4), type := 32, pos := "l08_sectors.go:33", after := #[], guard := none }) (v := ?_) rfl (by kernel_rfl) (by kernel_rfl) (by kernel_rfl) (fun _ _ _ h => h) (Or.inl ⟨by rfl, ?_⟩) hS ?_
              rotate_left
              · (intro w hSw; have hSw := (HSd.out w).1 hSw; go_split_ands; go_simp) <;> with_reducible rfl
              clear hS
              try simp only [Act.put, List.setIfInBounds_toArray, List.set_cons_zero, List.set_cons_succ]
              have hS := HSp.out _ bX bZ bY
              refine wpAnyH_take (i := 4) (oi := { dst := some 36, op := Go.Op.load 32 (Go.Operand.tmp 5), type := 32, pos := "l08_sectors.go:33", after := #[], guard := none }) (v := ?_) rfl (by kernel_rfl) (by kernel_rfl) (by kernel_rfl) (fun _ _ _ h => h) (Or.inl ⟨by rfl, ?_⟩) hS ?_
              rotate_left
              · (intro w hSw; have hSw := (HSd.out w).1 hSw; go_split_ands; go_simp) <;> with_reducible rfl
              clear hS
              try simp only [Act.put, List.setIfInBounds_toArray, List.set_cons_zero, List.set_cons_succ]
              refine wpAnyH_ready (rs := [2]) (by kernel_rfl) (by simp) ?_
              refine AllReadyH.cons (o := { dst := some 34, op := Go.Op.call { callee := Go.Callee.value (Go.Operand.func 79), args := #[Go.Operand.tmp 32, Go.Operand.tmp 33], argTypes := #[32, 32] }, type := 2, pos := "l08_sectors.go:33", after := #[{ on := 0, ground := Go.Ground.data }, { on := 1, ground := Go.Ground.data }], guard := none }) rfl (fun Kn hK => ?_) AllReadyH.nil
              first | go_at_call 79 | (go_simp; go_at_call 79)
              (with_reducible refine Calls.mono (KA.out (by first | rfl | trivial) (by first | rfl | trivial) _) ?_)
              rintro e V1 ⟨rfl, hb⟩
              try dsimp only
              try simp only [Act.put, List.setIfInBounds_toArray, List.set_cons_zero, List.set_cons_succ]
              replace bX := bX.on hb
              replace bY := bY.on hb
              replace bZ := bZ.on hb
              replace HW := Lib.hid (bel_end HW.out hb)
              clear hb
              refine hK.out _ _ (HSp.out _ bX bZ bY) (fun _ => ?_)
              clear hK Kn
              refine wpAnyH_ready (rs := [5]) (by kernel_rfl) (by simp) ?_
              refine AllReadyH.cons (o := { dst := some 37, op := Go.Op.call { callee := Go.Callee.value (Go.Operand.func 79), args := #[Go.Operand.tmp 35, Go.Operand.tmp 36], argTypes := #[32, 32] }, type := 2, pos := "l08_sectors.go:33", after := #[{ on := 3, ground := Go.Ground.data }, { on := 4, ground := Go.Ground.data }, { on := 2, ground := Go.Ground.chain }], guard := none }) rfl (fun Kn hK => ?_) AllReadyH.nil
              first | go_at_call 79 | (go_simp; go_at_call 79)
              (with_reducible refine Calls.mono (KQ.out (by first | rfl | trivial) (by first | rfl | trivial) _) ?_)
              rintro e V2 ⟨rfl, hb⟩
              try dsimp only
              try simp only [Act.put, List.setIfInBounds_toArray, List.set_cons_zero, List.set_cons_succ]
              replace bX := bX.on hb
              replace bY := bY.on hb
              replace bZ := bZ.on hb
              replace HW := Lib.hid (bel_end HW.out hb)
              clear hb
              refine hK.out _ _ (HSp.out _ bX bZ bY) (fun _ => ?_)
              clear hK Kn
              have hS := HSp.out _ bX bZ bY
              refine wpAnyH_take (i := 6) (oi := { dst := some 38, op := Go.Op.binOp Go.BinOp.mul 2 (Go.Operand.tmp 34) (Go.Operand.tmp 37) 2, type := 2, pos := "l08_sectors.go:33", after := #[{ on := 2, ground := Go.Ground.data }, { on := 5, ground := Go.Ground.data }], guard := none }) (v := ?_) rfl (by kernel_rfl) (by kernel_rfl) (by kernel_rfl) (fun _ _ _ h => h) (Or.inl ⟨by rfl, ?_⟩) hS ?_
              rotate_left
              · (intro w hSw; have hSw := (HSd.out w).1 hSw; go_split_ands; go_simp) <;> with_reducible rfl
              clear hS
              try simp only [Act.put, List.setIfInBounds_toArray, List.set_cons_zero, List.set_cons_succ]
              have hS := HSp.out _ bX bZ bY
              refine wpAnyH_take (i := 7) (oi := { dst := some 39, op := Go.Op.binOp Go.BinOp.leq 2 (Go.Operand.tmp 38) (Go.Operand.const (Go.Value.int Go.IntKind.i64 0)) 2, type := 4, pos := "l08_sectors.go:33", after := #[{ on := 6, ground := Go.Ground.data }], guard := none }) (v := ?_) rfl (by kernel_rfl) (by kernel_rfl) (by kernel_rfl) (fun _ _ _ h => h) (Or.inl ⟨by rfl, ?_⟩) hS ?_
              rotate_left
              · (intro w hSw; have hSw := (HSd.out w).1 hSw; go_split_ands; go_simp) <;> with_reducible rfl
              clear hS
              try simp only [Act.put, List.setIfInBounds_toArray, List.set_cons_zero, List.set_cons_succ]
              have hS := HSp.out _ bX bZ bY
              refine wpAnyH_take (i := 8) (oi := { dst := some 6, op := Go.Op.assign (Go.Operand.tmp 39), type := 4, pos := "l08_sectors.go:33", after := #[{ on := 7, ground := Go.Ground.data }, { on := 5, ground := Go.Ground.chain }, { on := 0, ground := Go.Ground.phase }, { on := 1, ground := Go.Ground.phase }, { on := 2, ground := Go.Ground.phase }, { on := 3, ground := Go.Ground.phase }, { on := 4, ground := Go.Ground.phase }, { on := 5, ground := Go.Ground.phase }, { on := 6, ground := Go.Ground.phase }, { on := 7, ground := Go.Ground.phase }], guard := none }) (v := ?_) rfl (by kernel_rfl) (by kernel_rfl) (by kernel_rfl) (fun _ _ _ h => h) (Or.inl ⟨by rfl, ?_⟩) hS ?_
              rotate_left
              · (intro w hSw; have hSw := (HSd.out w).1 hSw; go_split_ands; go_simp) <;> with_reducible rfl
              clear hS
              try simp only [Act.put, List.setIfInBounds_toArray, List.set_cons_zero, List.set_cons_succ]
              refine wpAnyH_done (by kernel_rfl) ?_ _
              go_wp2_with fail
              go_meet
              exact ⟨rfl, HW.out⟩
            case rest =>
              obtain ⟨rfl, hb⟩ := hcut
              replace HB := Lib.hid (bel_end HB.out hb)
              clear hb
              go_wp2
              go_ret
              exact ⟨ret_bool HR.out.symm, HB.out⟩
end Go.Proofs.Ytaaklnabomhleaa
