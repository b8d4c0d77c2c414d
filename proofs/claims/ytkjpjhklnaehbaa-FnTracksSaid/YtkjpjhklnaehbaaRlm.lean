/- Contracts of fractions in lowest terms whose only error is the limit, the program's and the model's. -/
import Derived.Test.YtkjpjhklnaehbaaBrM
import Derived.Test.YtkjpjhklnaehbaaRts
import Derived.Test.YtkjpjhklnaehbaaPrs
namespace Go.Proofs.Ytkjpjhklnaehbaa
open Go.ChangeShapes Go.WideShapes Go.ChangeAt Go.RowKit Go.Shelf Num
set_option linter.unusedVariables false
set_option linter.unusedSimpArgs false

theorem res3r {p q r : Int} {T : Int × Int × Int} (h : T = (p, q, r)) : Ending.returned (.tuple #[.agg #[.int .i64 p, .int .i64 q], .int .i64 r]) = .returned (.tuple #[.agg #[.int .i64 T.1, .int .i64 T.2.1], .int .i64 T.2.2]) := by rw [h]

set_option maxRecDepth 100000 in
set_option maxHeartbeats 2000000 in
theorem irl_any (w : World) (n d : Int) (n1 : -9000000000000000000 ≤ n) (n2 : n ≤ 9000000000000000000) (d1 : -9000000000000000000 ≤ d) (d2 : d ≤ 9000000000000000000) (h0 : ¬ d = 0) :
    Calls Try.prog 61 #[.int .i64 n, .int .i64 d] w fun e w' => e = .returned (.tuple #[.agg #[.int .i64 (rlT n d).1, .int .i64 (rlT n d).2.1], .int .i64 (rlT n d).2.2]) ∧ Below w.heap.size w w' := by
  obtain ⟨⟨p, q, e⟩, hT⟩ : ∃ T, mkT n d = T := ⟨_, rfl⟩
  have K : Hid (∀ W : World, Calls Try.prog 84 #[.int .i64 n, .int .i64 d] W fun e' w' => e' = .returned (.tuple #[.agg #[.int .i64 p, .int .i64 q], .int .i64 e]) ∧ Below W.heap.size W w') := Lib.hid (fun W => rof_is hT n1 n2 d1 d2 h0 W)
  by_cases he : e = 0
  case pos =>
    subst he
    have HT : Hid (rlT n d = (p, q, 0)) := Lib.hid (by unfold rlT; rw [hT]; rfl)
    clear hT
    go_enter Try.func61, Try.ntmps61
    go_wp2_with fail
    generalize hW : World.alloc _ _ = W
    have bR : Bk W (w.heap.size) #[.int .i64 0, .int .i64 0] 34 := by rw [← hW]; repeat (first | (refine Bk.new' ?_; (simp; done)) | refine Bk.alloc ?_ _)
    have HB : Hid (Below w.heap.size w W) := Lib.hid (by rw [← hW]; exact (by repeat (first | exact Below.refl _ _ | (refine Below.alloc ?_ (by simp <;> omega) _) | (refine Below.setCell ?_ (by simp <;> omega) _) | (refine Below.drew ?_) | (refine bel_drewN ?_ _))))
    clear hW
    (with_reducible refine Calls.mono (K.out _) ?_)
    rintro e' w1 ⟨rfl, hb⟩
    replace bR := bR.on hb
    replace HB := Lib.hid (bel_end HB.out hb)
    clear hb
    have bR_0 := bR.cell 0 rfl
    have bR_1 := bR.cell 1 rfl
    have bR_f0 := bR.frozen 0
    have bR_f1 := bR.frozen 1
    have bR_l := bR.lt
    go_wp2
    exact bodyPost_ret (v := .tuple #[.agg #[.int .i64 p, .int .i64 q], .int .i64 0]) (by simp [results, Try.results61, go_sem, bR_0, bR_1, bR_l, bR_f0, bR_f1]) rfl ⟨res3r HT.out, (by repeat (first | exact HB.out | (refine Below.setCell ?_ (by simp <;> omega) _) | (refine Below.alloc ?_ (by simp <;> omega) _) | (refine Below.drew ?_)))⟩
  case neg =>
    have HT : Hid (rlT n d = (0, 0, 3)) := Lib.hid (by unfold rlT; rw [hT]; exact if_neg he)
    have he2 : (e != 0) = true := by simpa using he
    clear hT he
    go_enter Try.func61, Try.ntmps61
    go_wp2_with fail
    generalize hW : World.alloc _ _ = W
    have bR : Bk W (w.heap.size) #[.int .i64 0, .int .i64 0] 34 := by rw [← hW]; repeat (first | (refine Bk.new' ?_; (simp; done)) | refine Bk.alloc ?_ _)
    have HB : Hid (Below w.heap.size w W) := Lib.hid (by rw [← hW]; exact (by repeat (first | exact Below.refl _ _ | (refine Below.alloc ?_ (by simp <;> omega) _) | (refine Below.setCell ?_ (by simp <;> omega) _) | (refine Below.drew ?_) | (refine bel_drewN ?_ _))))
    clear hW
    (with_reducible refine Calls.mono (K.out _) ?_)
    rintro e' w1 ⟨rfl, hb⟩
    replace bR := bR.on hb
    replace HB := Lib.hid (bel_end HB.out hb)
    clear hb
    have bR_0 := bR.cell 0 rfl
    have bR_1 := bR.cell 1 rfl
    have bR_f0 := bR.frozen 0
    have bR_f1 := bR.frozen 1
    have bR_l := bR.lt
    go_wp2
    exact bodyPost_ret (v := .tuple #[.agg #[.int .i64 0, .int .i64 0], .int .i64 3]) (by simp [results, Try.results61, go_sem, bR_0, bR_1, bR_l, bR_f0, bR_f1]) rfl ⟨res3r HT.out, (by repeat (first | exact HB.out | (refine Below.setCell ?_ (by simp <;> omega) _) | (refine Below.alloc ?_ (by simp <;> omega) _) | (refine Below.drew ?_)))⟩
theorem irl_is {n d : Int} {U : Int × Int × Int} (hU : rlT n d = U) (n1 : -9000000000000000000 ≤ n) (n2 : n ≤ 9000000000000000000) (d1 : -9000000000000000000 ≤ d) (d2 : d ≤ 9000000000000000000) (h0 : ¬ d = 0) (w : World) :
    Calls Try.prog 61 #[.int .i64 n, .int .i64 d] w fun e w' => e = .returned (.tuple #[.agg #[.int .i64 U.1, .int .i64 U.2.1], .int .i64 U.2.2]) ∧ Below w.heap.size w w' := by subst hU; exact irl_any w n d n1 n2 d1 d2 h0

set_option maxRecDepth 100000 in
set_option maxHeartbeats 2000000 in
theorem lrl_any (w : World) (n d : Int) (n1 : -9000000000000000000 ≤ n) (n2 : n ≤ 9000000000000000000) (d1 : -9000000000000000000 ≤ d) (d2 : d ≤ 9000000000000000000) (h0 : ¬ d = 0) :
    Calls Try.prog 59 #[.int .i64 n, .int .i64 d] w fun e w' => e = .returned (.tuple #[.agg #[.int .i64 (rlT n d).1, .int .i64 (rlT n d).2.1], .int .i64 (rlT n d).2.2]) ∧ Below w.heap.size w w' := by
  obtain ⟨⟨p, q, e⟩, hT⟩ : ∃ T, mkT n d = T := ⟨_, rfl⟩
  have K : Hid (∀ W : World, Calls Try.prog 83 #[.int .i64 n, .int .i64 d] W fun e' w' => e' = .returned (.tuple #[.agg #[.int .i64 p, .int .i64 q], .int .i64 e]) ∧ Below W.heap.size W w') := Lib.hid (fun W => lmk_is hT n1 n2 d1 d2 h0 W)
  by_cases he : e = 0
  case pos =>
    subst he
    have HT : Hid (rlT n d = (p, q, 0)) := Lib.hid (by unfold rlT; rw [hT]; rfl)
    clear hT
    go_enter Try.func59, Try.ntmps59
    go_wp2_with fail
    generalize hW : World.alloc _ _ = W
    have bR : Bk W (w.heap.size) #[.int .i64 0, .int .i64 0] 34 := by rw [← hW]; repeat (first | (refine Bk.new' ?_; (simp; done)) | refine Bk.alloc ?_ _)
    have HB : Hid (Below w.heap.size w W) := Lib.hid (by rw [← hW]; exact (by repeat (first | exact Below.refl _ _ | (refine Below.alloc ?_ (by simp <;> omega) _) | (refine Below.setCell ?_ (by simp <;> omega) _) | (refine Below.drew ?_) | (refine bel_drewN ?_ _))))
    clear hW
    (with_reducible refine Calls.mono (K.out _) ?_)
    rintro e' w1 ⟨rfl, hb⟩
    replace bR := bR.on hb
    replace HB := Lib.hid (bel_end HB.out hb)
    clear hb
    have bR_0 := bR.cell 0 rfl
    have bR_1 := bR.cell 1 rfl
    have bR_f0 := bR.frozen 0
    have bR_f1 := bR.frozen 1
    have bR_l := bR.lt
    go_wp2
    exact bodyPost_ret (v := .tuple #[.agg #[.int .i64 p, .int .i64 q], .int .i64 0]) (by simp [results, Try.results59, go_sem, bR_0, bR_1, bR_l, bR_f0, bR_f1]) rfl ⟨res3r HT.out, (by repeat (first | exact HB.out | (refine Below.setCell ?_ (by simp <;> omega) _) | (refine Below.alloc ?_ (by simp <;> omega) _) | (refine Below.drew ?_)))⟩
  case neg =>
    have HT : Hid (rlT n d = (0, 0, 3)) := Lib.hid (by unfold rlT; rw [hT]; exact if_neg he)
    have he2 : (e != 0) = true := by simpa using he
    clear hT he
    go_enter Try.func59, Try.ntmps59
    go_wp2_with fail
    generalize hW : World.alloc _ _ = W
    have bR : Bk W (w.heap.size) #[.int .i64 0, .int .i64 0] 34 := by rw [← hW]; repeat (first | (refine Bk.new' ?_; (simp; done)) | refine Bk.alloc ?_ _)
    have HB : Hid (Below w.heap.size w W) := Lib.hid (by rw [← hW]; exact (by repeat (first | exact Below.refl _ _ | (refine Below.alloc ?_ (by simp <;> omega) _) | (refine Below.setCell ?_ (by simp <;> omega) _) | (refine Below.drew ?_) | (refine bel_drewN ?_ _))))
    clear hW
    (with_reducible refine Calls.mono (K.out _) ?_)
    rintro e' w1 ⟨rfl, hb⟩
    replace bR := bR.on hb
    replace HB := Lib.hid (bel_end HB.out hb)
    clear hb
    have bR_0 := bR.cell 0 rfl
    have bR_1 := bR.cell 1 rfl
    have bR_f0 := bR.frozen 0
    have bR_f1 := bR.frozen 1
    have bR_l := bR.lt
    go_wp2
    exact bodyPost_ret (v := .tuple #[.agg #[.int .i64 0, .int .i64 0], .int .i64 3]) (by simp [results, Try.results59, go_sem, bR_0, bR_1, bR_l, bR_f0, bR_f1]) rfl ⟨res3r HT.out, (by repeat (first | exact HB.out | (refine Below.setCell ?_ (by simp <;> omega) _) | (refine Below.alloc ?_ (by simp <;> omega) _) | (refine Below.drew ?_)))⟩
theorem lrl_is {n d : Int} {U : Int × Int × Int} (hU : rlT n d = U) (n1 : -9000000000000000000 ≤ n) (n2 : n ≤ 9000000000000000000) (d1 : -9000000000000000000 ≤ d) (d2 : d ≤ 9000000000000000000) (h0 : ¬ d = 0) (w : World) :
    Calls Try.prog 59 #[.int .i64 n, .int .i64 d] w fun e w' => e = .returned (.tuple #[.agg #[.int .i64 U.1, .int .i64 U.2.1], .int .i64 U.2.2]) ∧ Below w.heap.size w w' := by subst hU; exact lrl_any w n d n1 n2 d1 d2 h0
end Go.Proofs.Ytkjpjhklnaehbaa
