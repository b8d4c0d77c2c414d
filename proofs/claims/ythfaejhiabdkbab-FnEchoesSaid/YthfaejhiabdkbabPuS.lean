/- Contracts of sidelobes, energies and lists of correlations, the program's and the model's. -/
import Derived.Test.YthfaejhiabdkbabPuB
namespace Go.Proofs.Ythfaejhiabdkbab
open Go.ChangeShapes Go.WideShapes Go.ChangeAt Go.RowKit Num
set_option linter.unusedVariables false
set_option linter.unusedSimpArgs false
set_option maxHeartbeats 1000000 in
theorem isd_any (w : World) (B : Nat) (a : Option Addr) (cap : Nat) (zs : List Int) (h4 : zs.length ≤ 400) (hc : zs.length ≤ cap) (h1 : smlL 1000 zs) (hz : Ints .i64 w B a zs) :
    Calls Try.prog 73 #[.slice a zs.length cap] w fun e w' => e = .returned (.int .i64 (sideV zs)) ∧ w = w' := by
  have K : Hid (∀ k : Nat, k + 1 < zs.length → Calls Try.prog 67 #[.slice a zs.length cap, .int .i64 ((k : Int) + 1)] w fun e w' => e = .returned (.int .i64 (cor zs (k + 1))) ∧ w = w') :=
    Lib.hid (fun k hk => cra_any w B a cap (k + 1) zs (by omega) h4 hc h1 hz)
  have HBD : Hid (∀ k : Nat, -400000000 ≤ cor zs k ∧ cor zs k ≤ 400000000) := Lib.hid (fun k => cor_bd h1 h4 k)
  clear hz h1
  go_enter Try.func73, Try.ntmps73
  go_wp2
  go_loop [3, 4] (fun s i => ∃ k : Nat, k ≤ zs.length - 1 ∧ i = .int .i64 ((k : Int) + 1) ∧ s = .int .i64 (sideT zs k)) (fun _ i => zs.length - (intOf i).toNat)
  case atStart => exact ⟨0, by omega, rfl, rfl⟩
  case round =>
    obtain ⟨k, hk, rfl, rfl⟩ := hrel
    by_cases hlt : k + 1 < zs.length
    · have KK := K.out k hlt
      have hs := sideT_succ zs k
      obtain ⟨b1, b2⟩ := HBD.out (k + 1)
      obtain ⟨C, hC⟩ : ∃ C, cor zs (k + 1) = C := ⟨_, rfl⟩
      obtain ⟨S, hS⟩ : ∃ S, sideT zs k = S := ⟨_, rfl⟩
      rw [hC] at KK hs b1 b2
      rw [hS] at hs ⊢
      obtain ⟨M, hM⟩ : ∃ M : Int, (if S < (C.natAbs : Int) then (C.natAbs : Int) else S) = M := ⟨_, rfl⟩
      rw [hM] at hs
      have HS := Lib.hid hs
      have HK := Lib.hid KK
      clear hC hS hs KK
      go_wp2_with (first | (go_at_call 67; refine HK.out.mono ?_; rintro e w' ⟨rfl, rfl⟩) | (go_at_call 59; refine (abs_any _ (by omega) (by omega) _).mono ?_; rintro e w' ⟨rfl, rfl⟩))
      go_round
      case rel => exact ⟨k + 1, by omega, by go_num, by rw [HS.out]⟩
      case measure => simp [intOf]; omega
    · go_wp2
      go_ret
      exact ⟨ret_int (by unfold sideV; rw [show k = zs.length - 1 by omega]), rfl⟩
/-- code, energy, sidelobe -/
def sgC (zs : List Int) : Int := if sigB zs then 0 else 1
def enV (zs : List Int) : Int := if sigB zs then cor zs 0 else 0
def sbV (zs : List Int) : Int := if sigB zs then sideV zs else 0
end Go.Proofs.Ythfaejhiabdkbab
