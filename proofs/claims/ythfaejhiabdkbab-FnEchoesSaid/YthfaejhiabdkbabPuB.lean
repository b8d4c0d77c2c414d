/- Contracts of correlations, sidelobes, energies, the program's and the model's. -/
import Derived.Test.YthfaejhiabdkbabPuA
import Derived.Test.YthfaejhiabdkbabLys
import Derived.Test.YthfaejhiabdkbabRowG
namespace Go.Proofs.Ythfaejhiabdkbab
open Go.ChangeShapes Go.WideShapes Go.ChangeAt Go.RowKit Num
set_option linter.unusedVariables false
set_option linter.unusedSimpArgs false
set_option maxHeartbeats 1000000 in
theorem cra_any (w : World) (B : Nat) (a : Option Addr) (cap k : Nat) (zs : List Int) (hk : k ≤ zs.length) (h4 : zs.length ≤ 400) (hc : zs.length ≤ cap) (h1 : smlL 1000 zs) (hz : Ints .i64 w B a zs) :
    Calls Try.prog 67 #[.slice a zs.length cap, .int .i64 (k : Int)] w fun e w' => e = .returned (.int .i64 (cor zs k)) ∧ w = w' := by
  have K : ∀ w : World, Ints .i64 w B a zs → Calls Try.prog 72 #[.slice (frA a cap k) (zs.length - k) (cap - k), .slice a zs.length cap] w fun e w' => e = .returned (.int .i64 (cor zs k)) ∧ w = w' :=
    fun w hz => sop_any w B (zs.length - k) zs.length (frA a cap k) a (cap - k) cap (zs.drop k) zs (by simp) rfl (by omega) (by omega) (by omega) (smlL_drop h1 k) h1 (Ints.from_ hz hc) hz
  unfold frA at K
  by_cases hck : cap = k
  · subst hck
    rw [if_pos rfl, Nat.sub_self, show zs.length - cap = 0 by omega] at K
    have HK := Lib.hid K
    have HZ := Lib.hid hz
    clear hz K h1
    go_enter Try.func67, Try.ntmps67
    go_wp2_with fail
    refine (HK.out _ HZ.out).mono ?_
    rintro e w' ⟨rfl, rfl⟩
    go_wp2
    go_ret
    exact ⟨rfl, rfl⟩
  · rw [if_neg hck] at K
    have HK := Lib.hid K
    have HZ := Lib.hid hz
    clear hz K h1
    go_enter Try.func67, Try.ntmps67
    go_wp2_with fail
    refine (HK.out _ HZ.out).mono ?_
    rintro e w' ⟨rfl, rfl⟩
    go_wp2
    go_ret
    exact ⟨rfl, rfl⟩
theorem l9a_any (w : World) (B : Nat) (a : Option Addr) (cap k : Nat) (zs : List Int) (hk : k ≤ zs.length) (h4 : zs.length ≤ 400) (h1 : smlL 1000 zs) (hz : Ints .i64 w B a zs) :
    Calls Try.prog 45 #[.slice a zs.length cap, .int .i64 (k : Int)] w fun e w' => e = .returned (.int .i64 (cor zs k)) ∧ ∃ n, w' = w.drewN n := by
  obtain ⟨N, hN⟩ : ∃ N, zs.length = N := ⟨_, rfl⟩
  have HE : Hid (dotT zs (zs.drop k) (N - k) = cor zs k) := Lib.hid (by unfold cor; rw [dotT_comm, hN])
  rw [hN] at hk h4 ⊢
  have HN := Lib.hid hN
  clear hN
  have H1 := Lib.hid h1
  clear h1
  go_enter Try.func45, Try.ntmps45
  go_wp2
  go_loopw [5, 6] (fun s i wr => ∃ j : Nat, (∃ n, wr = w.drewN n) ∧ j + k ≤ N ∧ i = .int .i64 j ∧ s = .int .i64 (dotT zs (zs.drop k) j)) (fun _ i _ => N - (intOf i).toNat)
  case atStart => exact ⟨0, ⟨0, rfl⟩, by omega, rfl, rfl⟩
  case round =>
    obtain ⟨j, ⟨nd, rfl⟩, hj, rfl, rfl⟩ := hrel
    by_cases hlt : j + k < N
    · obtain ⟨b1, o1, rfl, -, hc1⟩ := hz.at_ (j := j) (by rw [HN.out]; omega)
      obtain ⟨b2, o2, he, -, hc2⟩ := hz.at_ (j := j + k) (by rw [HN.out]; omega)
      simp only [Option.some.injEq, Addr.mk.injEq, and_true] at he
      obtain ⟨e1, e2⟩ := he
      subst e1 e2
      have hp := prod_bd (H1.out j) (H1.out (j + k))
      have hd := dotT_bd H1.out (smlL_drop H1.out k) j
      have hs := dotT_succ zs (zs.drop k) j
      rw [getD_drop, Nat.add_comm k j] at hs
      obtain ⟨x, hx1⟩ : ∃ x, zs.getD j 0 = x := ⟨_, rfl⟩
      obtain ⟨y, hy1⟩ : ∃ y, zs.getD (j + k) 0 = y := ⟨_, rfl⟩
      obtain ⟨S, hS⟩ : ∃ S, dotT zs (zs.drop k) j = S := ⟨_, rfl⟩
      rw [hx1] at hc1 hp hs
      rw [hy1] at hc2 hp hs
      rw [hS] at hd hs ⊢
      have HS := Lib.hid hs
      obtain ⟨p1, p2⟩ := hp
      have q1 : -400000000 ≤ S := by omega
      have q2 : S ≤ 400000000 := by omega
      have ej : IntKind.wrap .i64 ((j : Int) + (k : Int)) = (j : Int) + (k : Int) := IntWalk.i64_in _ (by omega)
      have ejn : ((j : Int) + (k : Int)).toNat = j + k := by omega
      have ejp : 0 ≤ (j : Int) + (k : Int) := by omega
      have exy : IntKind.wrap .i64 (x * y) = x * y := IntWalk.i64_in _ (by omega)
      have exs : IntKind.wrap .i64 (S + x * y) = S + x * y := IntWalk.i64_in _ (by omega)
      clear hz hx1 hy1 hS hs hd
      go_wp2
      go_quiet (fail)
      go_wp2
      go_roundw
      case rel => exact ⟨j + 1, ⟨_, rfl⟩, by omega, by go_num, by rw [HS.out]⟩
      case measure => simp [intOf]; omega
    · obtain rfl : j = N - k := by omega
      go_wp2
      go_ret
      exact ⟨by rw [HE.out]; rfl, _, rfl⟩
end Go.Proofs.Ythfaejhiabdkbab
