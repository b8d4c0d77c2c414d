/- The walks of the exact laws of CaseCount, TailCount, LeastThreshold, BestThreshold, LeastTrials, ConfirmCount, ConfirmPatterns: each returns true and writes nothing that was there. -/
import Derived.Test.YtgdnapioboodbaaThY
namespace Go.Proofs.Ytgdnapioboodbaa
open Go.ChangeShapes Go.WideShapes Go.ChangeAt Go.RowKit Go.Shelf Num
set_option linter.unusedVariables false
set_option linter.unusedSimpArgs false

set_option maxRecDepth 100000 in
set_option maxHeartbeats 4000000 in
theorem lecc (n : Int) (v0 : (Lit.int .i64 n).wf = true) (w : World) :
    Calls Try.prog 6 #[.int .i64 n] w fun e w' => e = .returned (.bool true) ∧ Below w.heap.size w w' := by
  clear v0
  obtain ⟨⟨P, Q⟩, hT⟩ : ∃ qq, ccT n = qq := ⟨_, rfl⟩
  have K1 : Hid (∀ W : World, Calls Try.prog 19 #[.int .i64 n] W fun e w' => e = .returned (.tuple #[.int .i64 P, .int .i64 Q]) ∧ W = w') := Lib.hid (fun W => by have := lcc_any W n; rwa [hT] at this)
  have K2 : Hid (∀ W : World, Calls Try.prog 18 #[.int .i64 n] W fun e w' => e = .returned (.tuple #[.int .i64 P, .int .i64 Q]) ∧ W = w') := Lib.hid (fun W => by have := icc_any W n; rwa [hT] at this)
  clear hT
  go_enter Try.func6, Try.ntmps6
  go_wp2_with (first | (go_at_call 19; with_reducible refine Calls.mono (K1.out _) ?_; rintro e wa ⟨rfl, rfl⟩) | (go_at_call 18; with_reducible refine Calls.mono (K2.out _) ?_; rintro e wb ⟨rfl, rfl⟩))
  go_ret
  exact ⟨rfl, Below.refl _ _⟩

set_option maxRecDepth 100000 in
set_option maxHeartbeats 4000000 in
theorem letc (n a m : Int) (v0 : (Lit.int .i64 n).wf = true) (v1 : (Lit.int .i64 a).wf = true) (v2 : (Lit.int .i64 m).wf = true) (w : World) :
    Calls Try.prog 7 #[.int .i64 n, .int .i64 a, .int .i64 m] w fun e w' => e = .returned (.bool true) ∧ Below w.heap.size w w' := by
  clear v0 v1 v2
  obtain ⟨⟨P, Q⟩, hT⟩ : ∃ qq, tcT n a m = qq := ⟨_, rfl⟩
  have K1 : Hid (∀ W : World, Calls Try.prog 17 #[.int .i64 n, .int .i64 a, .int .i64 m] W fun e w' => e = .returned (.tuple #[.int .i64 P, .int .i64 Q]) ∧ W = w') := Lib.hid (fun W => by have := ltc_any W n a m; rwa [hT] at this)
  have K2 : Hid (∀ W : World, Calls Try.prog 16 #[.int .i64 n, .int .i64 a, .int .i64 m] W fun e w' => e = .returned (.tuple #[.int .i64 P, .int .i64 Q]) ∧ Below W.heap.size W w') := Lib.hid (fun W => by have := itc_any W n a m; rwa [hT] at this)
  clear hT
  go_enter Try.func7, Try.ntmps7
  go_wp2_with (first | (go_at_call 17; with_reducible refine Calls.mono (K1.out _) ?_; rintro e wa ⟨rfl, rfl⟩) | (go_at_call 16; with_reducible refine Calls.mono (K2.out _) ?_; rintro e wb ⟨rfl, hbb⟩))
  go_ret
  exact ⟨rfl, hbb⟩

set_option maxRecDepth 100000 in
set_option maxHeartbeats 4000000 in
theorem lelt (n a x d : Int) (v0 : (Lit.int .i64 n).wf = true) (v1 : (Lit.int .i64 a).wf = true) (v2 : (Lit.int .i64 x).wf = true) (v3 : (Lit.int .i64 d).wf = true) (w : World) :
    Calls Try.prog 8 #[.int .i64 n, .int .i64 a, .int .i64 x, .int .i64 d] w fun e w' => e = .returned (.bool true) ∧ Below w.heap.size w w' := by
  clear v0 v1 v2 v3
  obtain ⟨⟨P, Q⟩, hT⟩ : ∃ qq, ltT n a x d = qq := ⟨_, rfl⟩
  have K1 : Hid (∀ W : World, Calls Try.prog 22 #[.int .i64 n, .int .i64 a, .int .i64 x, .int .i64 d] W fun e w' => e = .returned (.tuple #[.int .i64 P, .int .i64 Q]) ∧ W = w') := Lib.hid (fun W => by have := llt_any W n a x d; rwa [hT] at this)
  have K2 : Hid (∀ W : World, Calls Try.prog 21 #[.int .i64 n, .int .i64 a, .int .i64 x, .int .i64 d] W fun e w' => e = .returned (.tuple #[.int .i64 P, .int .i64 Q]) ∧ Below W.heap.size W w') := Lib.hid (fun W => by have := ilt_any W n a x d; rwa [hT] at this)
  clear hT
  go_enter Try.func8, Try.ntmps8
  go_wp2_with (first | (go_at_call 22; with_reducible refine Calls.mono (K1.out _) ?_; rintro e wa ⟨rfl, rfl⟩) | (go_at_call 21; with_reducible refine Calls.mono (K2.out _) ?_; rintro e wb ⟨rfl, hbb⟩))
  go_ret
  exact ⟨rfl, hbb⟩

set_option maxRecDepth 100000 in
set_option maxHeartbeats 4000000 in
theorem lebt (n p q : Int) (v0 : (Lit.int .i64 n).wf = true) (v1 : (Lit.int .i64 p).wf = true) (v2 : (Lit.int .i64 q).wf = true) (w : World) :
    Calls Try.prog 9 #[.int .i64 n, .int .i64 p, .int .i64 q] w fun e w' => e = .returned (.bool true) ∧ Below w.heap.size w w' := by
  clear v0 v1 v2
  obtain ⟨⟨P, Q⟩, hT⟩ : ∃ qq, btT n p q = qq := ⟨_, rfl⟩
  have K1 : Hid (∀ W : World, Calls Try.prog 25 #[.int .i64 n, .int .i64 p, .int .i64 q] W fun e w' => e = .returned (.tuple #[.int .i64 P, .int .i64 Q]) ∧ W = w') := Lib.hid (fun W => by have := lbt_any W n p q; rwa [hT] at this)
  have K2 : Hid (∀ W : World, Calls Try.prog 24 #[.int .i64 n, .int .i64 p, .int .i64 q] W fun e w' => e = .returned (.tuple #[.int .i64 P, .int .i64 Q]) ∧ Below W.heap.size W w') := Lib.hid (fun W => by have := ibt_any W n p q; rwa [hT] at this)
  clear hT
  go_enter Try.func9, Try.ntmps9
  go_wp2_with (first | (go_at_call 25; with_reducible refine Calls.mono (K1.out _) ?_; rintro e wa ⟨rfl, rfl⟩) | (go_at_call 24; with_reducible refine Calls.mono (K2.out _) ?_; rintro e wb ⟨rfl, hbb⟩))
  go_ret
  exact ⟨rfl, hbb⟩

set_option maxRecDepth 100000 in
set_option maxHeartbeats 4000000 in
theorem letr (a x d : Int) (v0 : (Lit.int .i64 a).wf = true) (v1 : (Lit.int .i64 x).wf = true) (v2 : (Lit.int .i64 d).wf = true) (w : World) :
    Calls Try.prog 10 #[.int .i64 a, .int .i64 x, .int .i64 d] w fun e w' => e = .returned (.bool true) ∧ Below w.heap.size w w' := by
  clear v0 v1 v2
  obtain ⟨⟨P, Q⟩, hT⟩ : ∃ qq, trT a x d = qq := ⟨_, rfl⟩
  have K1 : Hid (∀ W : World, Calls Try.prog 28 #[.int .i64 a, .int .i64 x, .int .i64 d] W fun e w' => e = .returned (.tuple #[.int .i64 P, .int .i64 Q]) ∧ W = w') := Lib.hid (fun W => by have := ltr_any W a x d; rwa [hT] at this)
  have K2 : Hid (∀ W : World, Calls Try.prog 27 #[.int .i64 a, .int .i64 x, .int .i64 d] W fun e w' => e = .returned (.tuple #[.int .i64 P, .int .i64 Q]) ∧ Below W.heap.size W w') := Lib.hid (fun W => by have := itr_any W a x d; rwa [hT] at this)
  clear hT
  go_enter Try.func10, Try.ntmps10
  go_wp2_with (first | (go_at_call 28; with_reducible refine Calls.mono (K1.out _) ?_; rintro e wa ⟨rfl, rfl⟩) | (go_at_call 27; with_reducible refine Calls.mono (K2.out _) ?_; rintro e wb ⟨rfl, hbb⟩))
  go_ret
  exact ⟨rfl, hbb⟩

set_option maxRecDepth 100000 in
set_option maxHeartbeats 4000000 in
theorem leck (n a m z : Int) (v0 : (Lit.int .i64 n).wf = true) (v1 : (Lit.int .i64 a).wf = true) (v2 : (Lit.int .i64 m).wf = true) (v3 : (Lit.int .i64 z).wf = true) (w : World) :
    Calls Try.prog 12 #[.int .i64 n, .int .i64 a, .int .i64 m, .int .i64 z] w fun e w' => e = .returned (.bool true) ∧ Below w.heap.size w w' := by
  clear v0 v1 v2 v3
  obtain ⟨⟨P, Q⟩, hT⟩ : ∃ qq, ckT n a m z = qq := ⟨_, rfl⟩
  have K1 : Hid (∀ W : World, Calls Try.prog 31 #[.int .i64 n, .int .i64 a, .int .i64 m, .int .i64 z] W fun e w' => e = .returned (.tuple #[.int .i64 P, .int .i64 Q]) ∧ Below W.heap.size W w') := Lib.hid (fun W => by have := sck_any W n a m z; rwa [hT] at this)
  have K2 : Hid (∀ W : World, Calls Try.prog 30 #[.int .i64 n, .int .i64 a, .int .i64 m, .int .i64 z] W fun e w' => e = .returned (.tuple #[.int .i64 P, .int .i64 Q]) ∧ Below W.heap.size W w') := Lib.hid (fun W => by have := ick_any W n a m z; rwa [hT] at this)
  clear hT
  go_enter Try.func12, Try.ntmps12
  go_wp2_with (first | (go_at_call 31; with_reducible refine Calls.mono (K1.out _) ?_; rintro e wa ⟨rfl, hba⟩) | (go_at_call 30; with_reducible refine Calls.mono (K2.out _) ?_; rintro e wb ⟨rfl, hbb⟩))
  go_ret
  exact ⟨rfl, bel_end hba hbb⟩

set_option maxRecDepth 100000 in
set_option maxHeartbeats 4000000 in
theorem lecp (n m z : Int) (v0 : (Lit.int .i64 n).wf = true) (v1 : (Lit.int .i64 m).wf = true) (v2 : (Lit.int .i64 z).wf = true) (w : World) :
    Calls Try.prog 13 #[.int .i64 n, .int .i64 m, .int .i64 z] w fun e w' => e = .returned (.bool true) ∧ Below w.heap.size w w' := by
  clear v0 v1 v2
  obtain ⟨⟨P, Q⟩, hT⟩ : ∃ qq, cpT n m z = qq := ⟨_, rfl⟩
  have K1 : Hid (∀ W : World, Calls Try.prog 33 #[.int .i64 n, .int .i64 m, .int .i64 z] W fun e w' => e = .returned (.tuple #[.int .i64 P, .int .i64 Q]) ∧ Below W.heap.size W w') := Lib.hid (fun W => by have := scp_any W n m z; rwa [hT] at this)
  have K2 : Hid (∀ W : World, Calls Try.prog 32 #[.int .i64 n, .int .i64 m, .int .i64 z] W fun e w' => e = .returned (.tuple #[.int .i64 P, .int .i64 Q]) ∧ Below W.heap.size W w') := Lib.hid (fun W => by have := icp_any W n m z; rwa [hT] at this)
  clear hT
  go_enter Try.func13, Try.ntmps13
  go_wp2_with (first | (go_at_call 33; with_reducible refine Calls.mono (K1.out _) ?_; rintro e wa ⟨rfl, hba⟩) | (go_at_call 32; with_reducible refine Calls.mono (K2.out _) ?_; rintro e wb ⟨rfl, hbb⟩))
  go_ret
  exact ⟨rfl, bel_end hba hbb⟩
end Go.Proofs.Ytgdnapioboodbaa
