/- Contracts of the laws' marks on slices of slices of integers. -/
import Derived.Test.YtlahgdhofakinaaRwB
namespace Go.Proofs.Ytlahgdhofakinaa
open Go.ChangeShapes Go.WideShapes Go.ChangeAt Go.RowKit Go.Shelf Num
set_option linter.unusedVariables false
set_option linter.unusedSimpArgs false
/-- the marks on rows: numbers from k on -/
def rampS (k : Int) (zss : List (List Int)) : List (List Int) := (List.range zss.length).map (fun j => ramp (k + (totR zss j : Int)) (gR zss j).length)
theorem rampS_len (k : Int) (zss : List (List Int)) : (rampS k zss).length = zss.length := by simp [rampS]
theorem rampS_at (k : Int) {zss : List (List Int)} {j : Nat} (h : j < zss.length) : gR (rampS k zss) j = ramp (k + (totR zss j : Int)) (gR zss j).length := by unfold rampS; exact gR_map _ h
theorem ownBlk {a : Option Addr} {n c g : Nat} (h : (Value.slice a n c).ownBlock = some g) : ∃ x : Addr, a = some x ∧ x.block = g := by
  cases a with
  | none => simp [Value.ownBlock] at h
  | some x => exact ⟨x, rfl, by simpa [Value.ownBlock] using h⟩
theorem OwnR.far {w : World} {lo hi : Nat} {a : Option Addr} {c : Nat} {qs : Nat → Option Addr × Nat} {zss : List (List Int)} (h : OwnR w lo hi a c qs zss) {i j : Nat} (hi' : i < zss.length) (hj : j < zss.length) (hij : i ≠ j) {n m g : Nat} (hg : (Value.slice (qs i).1 n m).ownBlock = some g) {n' m' : Nat} :
    (Value.slice (qs j).1 n' m').ownBlock ≠ some g := fun e => by
  obtain ⟨x, ex, bx⟩ := ownBlk hg
  obtain ⟨y, ey, by_⟩ := ownBlk e
  rcases Nat.lt_or_gt_of_ne hij with l | l
  · exact h.ne i j l hj x y ex ey (by omega)
  · exact h.ne j i l hi' y x ey ex (by omega)
set_option maxRecDepth 100000 in
set_option maxHeartbeats 2000000 in
theorem mks_any (w : World) (lo hi : Nat) (a : Option Addr) (c : Nat) (qs : Nat → Option Addr × Nat) (zss : List (List Int)) (k : Int) (h : OwnR w lo hi a c qs zss) (hn : zss.length ≤ 1048576) (ht : totR zss zss.length ≤ 1048576) (k0 : 0 ≤ k) (k1 : k ≤ 1000000) :
    Calls Try.prog 55 #[.slice a zss.length c, .int .i64 k] w fun e w' => e = .returned (.int .i64 (k + (totR zss zss.length : Int))) ∧ OwnR w' lo hi a c qs (rampS k zss) ∧ Kept lo hi w w' := by
  have H := Lib.hid h
  have HT := Lib.hid (fun j (hj : j < zss.length) => totR_row zss hj)
  have HM := Lib.hid (fun j (hj : j ≤ zss.length) => totR_mono zss hj)
  clear h
  obtain ⟨n, hne⟩ : ∃ n, zss.length = n := ⟨_, rfl⟩
  have HO0 : Hid (w.ownsRow lo 38 1 (.slice a n c) n ((List.range n).map (slV zss qs))) := Lib.hid (by have := H.out.own; rwa [hne] at this)
  rw [hne] at hn ht HT HM ⊢
  have N1 := Lib.hid hne
  clear hne
  go_enter Try.func55, Try.ntmps55
  go_wp2
  go_loopw [1, 5] (fun s i wr => ∃ j : Nat, j ≤ n ∧ i = .int .i64 j ∧ s = .int .i64 (k + (totR zss j : Int)) ∧ Kept lo hi w wr ∧ wr.ownsRow lo 38 1 (.slice a n c) n ((List.range n).map (slV zss qs)) ∧ (∀ i, i < j → OwnA wr lo hi (qs i).1 (qs i).2 (ramp (k + (totR zss i : Int)) (gR zss i).length)) ∧ (∀ i, j ≤ i → i < n → OwnA wr lo hi (qs i).1 (qs i).2 (gR zss i))) (fun _ i _ => n - (intOf i).toNat)
  case atStart => exact ⟨0, by omega, rfl, by simp [totR], Kept.of_below (Below.refl _ _), HO0.out, fun i hi => by omega, fun i _ hi => H.out.inn i (by rw [N1.out]; exact hi)⟩
  case round =>
    obtain ⟨j, hj, rfl, rfl, hK, hO, hA, hB⟩ := hrel
    have HK := Lib.hid hK
    have HO := Lib.hid hO
    have HA := Lib.hid hA
    have HB := Lib.hid hB
    clear hK hO hA hB HO0
    by_cases hlt : j < n
    · have hcell : ∃ g : Nat, a = some ⟨g, 0, none⟩ ∧ wr.cell? ⟨g, j, none⟩ = some (.slice (qs j).1 (gR zss j).length (qs j).2) := by
        rcases HO.out.2 with ⟨hv, -⟩ | ⟨g, cap, cur, hv, _, hh, _⟩
        · simp only [Value.slice.injEq] at hv; omega
        · simp only [Value.slice.injEq] at hv
          obtain ⟨rfl, -, rfl⟩ := hv
          refine ⟨g, rfl, ?_⟩
          rw [HO.out.cellAt j (by omega), List.getElem?_map, List.getElem?_range hlt]
          rfl
      obtain ⟨g, rfl, hc⟩ := hcell
      have t1 := HT.out j hlt
      have t2 := HM.out j hj
      have hts := totR_succ zss j
      have K1 := Lib.hid (mkb_any wr lo hi (qs j).1 (qs j).2 (gR zss j) (k + (totR zss j : Int)) (HB.out j (Nat.le_refl _) hlt) (by omega) (by omega) (by omega))
      have HTS : Hid (k + (totR zss j : Int) + ((gR zss j).length : Int) = k + (totR zss (j + 1) : Int)) := Lib.hid (by rw [hts]; omega)
      clear hts
      go_wp2_with fail
      refine K1.out.mono ?_
      rintro e w2 ⟨rfl, ho, hg⟩
      have hq : Kept lo hi wr w2 := Kept.of_grown hg (fun g e => ⟨((HB.out j (Nat.le_refl _) hlt).own.lt g e).1, (HB.out j (Nat.le_refl _) hlt).lt g e⟩)
      have HK2 := Lib.hid (HK.out.trans hq)
      have HO2 : Hid (w2.ownsRow lo 38 1 (.slice (some ⟨g, 0, none⟩) n c) n ((List.range n).map (slV zss qs))) := Lib.hid (ownG_frame HO.out (fun x ex => hg.block x (HO.out.lt x ex).2 (fun e' => ty_far HO.out (HB.out j (Nat.le_refl _) hlt).own (by decide) ex e'.symm)))
      have HA2 : Hid (∀ i, i < j + 1 → OwnA w2 lo hi (qs i).1 (qs i).2 (ramp (k + (totR zss i : Int)) (gR zss i).length)) := Lib.hid (fun i hi => by
        by_cases e : i = j
        · subst e; exact ho
        · exact ownA_frame (HA.out i (by omega)) (fun x ex => hg.block x ((HA.out i (by omega)).own.lt x ex).2 (fun e' => H.out.far (by rw [N1.out]; omega) (by rw [N1.out]; omega) e ex e'.symm)) hg.size)
      have HB2 : Hid (∀ i, j + 1 ≤ i → i < n → OwnA w2 lo hi (qs i).1 (qs i).2 (gR zss i)) := Lib.hid (fun i hi hi' =>
        ownA_frame (HB.out i (by omega) hi') (fun x ex => hg.block x ((HB.out i (by omega) hi').own.lt x ex).2 (fun e' => H.out.far (by rw [N1.out]; omega) (by rw [N1.out]; omega) (by omega) ex e'.symm)) hg.size)
      clear ho hg hq K1 HO HA HB HK hc
      rw [HTS.out]
      go_wp2_with fail
      go_roundw
      case rel => exact ⟨j + 1, by omega, by go_num, rfl, HK2.out, HO2.out, HA2.out, HB2.out⟩
      case measure => simp [intOf]; omega
    · obtain rfl : j = n := by omega
      go_wp2
      go_ret
      exact ⟨rfl, ⟨by
        rw [rampS_len, N1.out]
        have e : (List.range j).map (slV (rampS k zss) qs) = (List.range j).map (slV zss qs) := List.map_congr_left (fun i hi => by
          unfold slV
          rw [rampS_at k (by rw [N1.out]; exact List.mem_range.1 hi), ramp_len])
        rw [e]
        exact HO.out, fun g e => H.out.lt g (by rw [rampS_len] at e; exact e), Nat.le_trans H.out.up HK.out.size, fun i hi => (by rw [rampS_len] at hi; rw [rampS_at k hi]; exact HA.out i (by rw [N1.out] at hi; exact hi)), fun i i' h1 h2 => H.out.ne i i' h1 (by rw [rampS_len] at h2; exact h2)⟩, HK.out⟩
end Go.Proofs.Ytlahgdhofakinaa
