/- The contract of the laws' likeRanges9 on equal lists of intervals. -/
import Derived.Test.YtaaklnabomhleaaIvs
import Derived.LoopTactic
namespace Go.Proofs.Ytaaklnabomhleaa
open Go.ChangeShapes Go.WideShapes Go.ChangeAt Go.RowKit Num
set_option linter.unusedVariables false
theorem lkr_any (w : World) (B : Nat) (a b : Option Addr) (c d : Nat) (ps : List (Int × Int)) (hl : ps.length ≤ 1048576) (hx : Ivs w B a ps) (hy : Ivs w B b ps) :
    Calls Try.prog 46 #[.slice a ps.length c, .slice b ps.length d] w fun e w' => e = .returned (.bool true) ∧ ∃ n, w' = w.drewN n := by
  go_enter Try.func46, Try.ntmps46
  go_wp2
  go_loopw [5] (fun i wr => ∃ k : Nat, k ≤ ps.length ∧ i = .int .i64 k ∧ ∃ n, wr = w.drewN n) (fun i _ => ps.length - (intOf i).toNat)
  case atStart => exact ⟨0, by omega, rfl, 0, rfl⟩
  case round =>
    obtain ⟨k, hk, rfl, n, rfl⟩ := hrel
    by_cases hlt : k < ps.length
    · obtain ⟨b1, o1, x, y, rfl, hB1, hxy, hc1, hc2⟩ := hx.at_ hlt
      obtain ⟨b2, o2, x', y', rfl, hB2, hxy', hd1, hd2⟩ := hy.at_ hlt
      rw [hxy] at hxy'
      injection hxy' with e1 e2
      subst e1 e2
      go_wp2_with fail
      first
      | (go_quiet (fail)
         go_wp2
         go_roundw
         (case rel => exact ⟨k + 1, by omega, by go_num, _, rfl⟩)
         (case measure => simp [intOf]; omega))
      | (go_wp2
         go_roundw
         (case rel => exact ⟨k + 1, by omega, by go_num, _, rfl⟩)
         (case measure => simp [intOf]; omega))
    · obtain rfl : k = ps.length := by omega
      go_wp2
      go_ret
      exact ⟨rfl, _, rfl⟩
end Go.Proofs.Ytaaklnabomhleaa
