/- The contract of the model's damage to a text: some text of at most one letter more; only the source of draws is written to. -/
import Derived.Test.YthbcllejojnboabDrw
import Derived.Deep.RegionWith
import Derived.WalkSpells
import Derived.WalkSmall
namespace Go.Proofs.Ythbcllejojnboab
open Go.ChangeShapes Go.WideShapes Go.ChangeAt Go.RowKit
set_option linter.unusedVariables false
/-- what a draw of a text leaves -/
def TextDrawn (w : World) (s n : Nat) (e : Ending) (w' : World) : Prop :=
  ∃ t : ByteArray, e = .returned (.string t) ∧ t.size ≤ n ∧ Src w' s ∧ w.grownBy w' (some s)
/-- the eight letters -/
abbrev eightA : Array Value := #[.string ⟨#[48]⟩, .string ⟨#[49]⟩, .string ⟨#[32]⟩, .string ⟨#[45]⟩, .string ⟨#[46]⟩, .string ⟨#[97]⟩, .string ⟨#[10]⟩, .string ⟨#[44]⟩]
def eightL (j : Nat) : ByteArray := ⟨#[[48, 49, 32, 45, 46, 97, 10, 44].getD j 0]⟩
theorem eightL_size (j : Nat) : (eightL j).size ≤ 1 := Nat.le_refl 1
theorem eight_at {j : Nat} (h : j < 8) : eightA[j]? = some (.string (eightL j)) := by
  match j, h with
  | 0, _ => rfl
  | 1, _ => rfl
  | 2, _ => rfl
  | 3, _ => rfl
  | 4, _ => rfl
  | 5, _ => rfl
  | 6, _ => rfl
  | 7, _ => rfl
theorem eight_new {j : Nat} (h : j < 8) (w : World) : (w.alloc (.cells eightA 9)).cell? ⟨w.heap.size, j, none⟩ = some (.string (eightL j)) :=
  (cell_of_row _ _ j _ _ _ (heap_alloc_new w _)).trans (eight_at h)
theorem eight_kept {w w' : World} {s j : Nat} (hj : j < 8) (hs : s < w.heap.size) (hg : (w.alloc (.cells eightA 9)).drew.grownBy w' (some s)) : w'.cell? ⟨w.heap.size, j, none⟩ = some (.string (eightL j)) :=
  (World.cell?_of_block (w := w.alloc (.cells eightA 9)) (a := ⟨w.heap.size, j, none⟩) (hg.block w.heap.size (by simp) (fun e => by injection e; omega))).trans (eight_new hj w)

theorem Src.drw {w : World} {s : Nat} (h : Src w s) : Src w.drew s := by
  obtain ⟨a, cap, zs, k, seed, hb, hc, rest⟩ := h
  exact ⟨a, cap, zs, k, seed, hb, hc.below (Below.refl s w).drew (Nat.le_refl _), rest⟩
theorem grown_drew {w w' : World} {s : Nat} (h : w.grownBy w' (some s)) : w.grownBy w'.drew (some s) := ⟨h.os, h.tape, h.output, h.size, h.block⟩
/-- one of the eight letters is drawn -/
def Letter (w : World) (s : Nat) (e : Ending) (w' : World) : Prop :=
  ∃ j : Nat, e = .returned (.int .i64 (j : Int)) ∧ j < 8 ∧ w'.cell? ⟨w.heap.size, j, none⟩ = some (.string (eightL j)) ∧ (eightL j).size ≤ 1 ∧ Src w' s ∧ w.grownBy w' (some s)
theorem nxt_eight (w : World) (s : Nat) (h : Src w s) :
    Calls Try.prog 19 #[.pointer (some ⟨s, 0, none⟩), .int .i64 8] (w.alloc (.cells eightA 9)).drew (Letter w s) :=
  (nxt_any _ s 8 (h.alloc _).drw).mono fun e w' ⟨z, he, h0, h1, _, hs, hg⟩ => by
    have h2 := h1 (by decide)
    have ez : ((z.toNat : Nat) : Int) = z := by omega
    have hj : z.toNat < 8 := by omega
    exact ⟨z.toNat, by rw [he, ez], hj, eight_kept hj h.lt hg, eightL_size _, hs, grown_trans (grown_drew (grown_alloc (grown_refl _ _) _)) hg⟩
def Letter2 (w : World) (s : Nat) (e : Ending) (w' : World) : Prop :=
  ∃ j : Nat, e = .returned (.int .i64 (j : Int)) ∧ j < 8 ∧ (w'.alloc (.cells eightA 9)).cell? ⟨w'.heap.size, j, none⟩ = some (.string (eightL j)) ∧ (eightL j).size ≤ 1 ∧ Src w' s ∧ w.grownBy w' (some s)
theorem nxt_eight2 (w : World) (s : Nat) (h : Src w s) :
    Calls Try.prog 19 #[.pointer (some ⟨s, 0, none⟩), .int .i64 8] w.drew (Letter2 w s) :=
  (nxt_any _ s 8 h.drw).mono fun e w' ⟨z, he, h0, h1, _, hs, hg⟩ => by
    have h2 := h1 (by decide)
    have ez : ((z.toNat : Nat) : Int) = z := by omega
    have hj : z.toNat < 8 := by omega
    exact ⟨z.toNat, by rw [he, ez], hj, eight_new hj w', eightL_size _, hs, grown_trans (grown_drew (grown_refl _ _)) hg⟩
set_option maxHeartbeats 4000000 in
theorem dmg_any (w : World) (s : Nat) (t : ByteArray) (h : Src w s) (ht : t.size ≤ 1000000) :
    Calls Try.prog 23 #[.pointer (some ⟨s, 0, none⟩), .string t] w (TextDrawn w s (t.size + 1)) := by
  have HS := Lib.hid h
  clear h
  go_enter Try.func23, Try.ntmps23
  go_wp2_with fail
  refine (nxt_any _ _ _ HS.out).mono ?_
  rintro e w1 ⟨x, rfl, hx0, hx1, hx2, hs1, hg1⟩
  have hxk : x ≤ t.size := by
    by_cases hp : 1 < (t.size : Int) + 1
    · have := hx1 hp; omega
    · have := hx2 (by omega); omega
  obtain ⟨k, rfl⟩ : ∃ k : Nat, x = (k : Int) := ⟨x.toNat, by omega⟩
  have hk : k ≤ t.size := by omega
  have G1 := Lib.hid hg1
  have S1 := Lib.hid hs1
  clear hx0 hx1 hx2 hxk hg1 hs1
  go_wp2_with fail
  refine (nxt_any _ _ _ S1.out).mono ?_
  rintro e w2 ⟨y, rfl, hy0, hy1, -, hs2, hg2⟩
  have hyb := hy1 (by omega)
  have G2 := Lib.hid (grown_trans G1.out hg2)
  have S2 := Lib.hid hs2
  clear hy1 hg2 hs2
  by_cases y0 : y = 0
  · subst y0
    go_wp2_with fail
    go_ret
    exact ⟨_, rfl, by rw [ByteArray.size_extract]; omega, S2.out, G2.out⟩
  · have b0 : (y == 0) = false := by simpa using y0
    by_cases y1 : y = 1
    · subst y1
      have hsl := S2.out.lt
      go_wp2_with fail
      go_region_with (first | (go_at_call 19; refine (nxt_eight _ _ S2.out).mono ?_; rintro e w3 ⟨j, rfl, hj, hcell, hsz, hs3, hg3⟩) | (go_at_call 19; refine (nxt_eight2 _ _ S2.out).mono ?_; rintro e w3 ⟨j, rfl, hj, hcell, hsz, hs3, hg3⟩))
      all_goals
        go_wp2_with fail
        go_ret
        first
          | exact ⟨_, rfl, by rw [ByteArray.size_append, ByteArray.size_append, ByteArray.size_extract, ByteArray.size_extract]; omega, hs3, grown_trans G2.out hg3⟩
          | exact ⟨_, rfl, by rw [ByteArray.size_append, ByteArray.size_append, ByteArray.size_extract, ByteArray.size_extract]; omega, hs3.alloc _, grown_alloc (grown_trans G2.out hg3) _⟩
    · have b1 : (y == 1) = false := by simpa using y1
      by_cases y2 : y = 2
      · subst y2
        by_cases hkt : k < t.size
        · go_wp2_with fail
          go_region
          all_goals
            go_wp2_with fail
            go_ret
            exact ⟨_, rfl, by rw [ByteArray.size_append, ByteArray.size_extract, ByteArray.size_extract]; omega, S2.out.drw, grown_drew G2.out⟩
        · go_wp2_with fail
          go_ret
          exact ⟨_, rfl, by omega, S2.out, G2.out⟩
      · have b2 : (y == 2) = false := by simpa using y2
        go_wp2_with fail
        go_ret
        exact ⟨_, rfl, by omega, S2.out, G2.out⟩
end Go.Proofs.Ythbcllejojnboab
