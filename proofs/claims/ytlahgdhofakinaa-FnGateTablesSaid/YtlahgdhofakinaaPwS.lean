/- Copies into new rows; rows of one's own behind a row of slices while it grows. -/
import Derived.Test.YtlahgdhofakinaaRwC
import Derived.Test.YtlahgdhofakinaaPuM
import Derived.Laws.CopyRow
import Derived.Laws.IdiomCopy
namespace Go.Proofs.Ytlahgdhofakinaa
open Go.ChangeShapes Go.WideShapes Go.ChangeAt Go.RowKit Go.Shelf Num
set_option linter.unusedVariables false
set_option linter.unusedSimpArgs false
/-- k samples of a pulse that begins at an index -/
def wavP (ps : List Int) (o N k : Nat) : List Int := (List.range N).map (fun j => if o ≤ j ∧ j < o + k then ps.getD (j - o) 0 else 0)
theorem wavP_len (ps : List Int) (o N k : Nat) : (wavP ps o N k).length = N := by simp [wavP]
theorem wavP_0 (ps : List Int) (o N : Nat) : wavP ps o N 0 = List.replicate N 0 := by
  unfold wavP
  apply List.ext_getElem (by simp)
  intro i h1 h2
  simp only [List.getElem_map, List.getElem_range, List.getElem_replicate]
  rw [if_neg (by omega)]
theorem wavP_set (ps : List Int) (o N k : Nat) : (wavP ps o N k).set (o + k) (ps.getD k 0) = wavP ps o N (k + 1) := by
  unfold wavP
  rw [map_setP]
  apply List.map_congr_left
  intro i _
  by_cases e : i = o + k
  · subst e; rw [if_pos rfl, if_pos (by omega), show o + k - o = k by omega]
  · rw [if_neg e]
    by_cases h : o ≤ i ∧ i < o + k
    · rw [if_pos h, if_pos (by omega)]
    · rw [if_neg h, if_neg (by omega)]
def wav (ps : List Int) (o N : Nat) : List Int := wavP ps o N ps.length
theorem wav_len (ps : List Int) (o N : Nat) : (wav ps o N).length = N := wavP_len _ _ _ _
theorem wav_at (ps : List Int) {o N k : Nat} (h : k < N) : (wav ps o N).getD k 0 = if o ≤ k ∧ k < o + ps.length then ps.getD (k - o) 0 else 0 := by unfold wav wavP; exact map_getD _ h
theorem wav_none (o N : Nat) : wav [] o N = List.replicate N 0 := wavP_0 _ _ _
/-- the pulse put over a row of zeros -/
theorem wav_cells (ps : List Int) {o N : Nat} (h : o + ps.length ≤ N) : (List.replicate N (.int .i64 0)).take o ++ ps.map iv4 ++ (List.replicate N (.int .i64 0)).drop (o + ps.length) = (wav ps o N).map iv4 := by
  apply List.ext_getElem
  · simp [wav_len]; omega
  · intro i h1 h2
    have hi : i < N := by simpa [wav_len] using h2
    rw [List.getElem_map]
    have e2 : (wav ps o N)[i]'(by rw [wav_len]; exact hi) = if o ≤ i ∧ i < o + ps.length then ps.getD (i - o) 0 else 0 := by
      have := wav_at ps (o := o) hi
      rwa [List.getD_eq_getElem?_getD, List.getElem?_eq_getElem (by rw [wav_len]; exact hi)] at this
    rw [e2, List.getElem_append]
    by_cases c1 : i < o + ps.length
    · rw [dif_pos (by simp; omega), List.getElem_append]
      by_cases c2 : i < o
      · rw [dif_pos (by simp; omega), if_neg (by omega)]
        simp [iv4]
      · rw [dif_neg (by simp; omega), if_pos (by omega)]
        rw [List.getElem_map]
        congr 1
        rw [List.getD_eq_getElem?_getD, List.getElem?_eq_getElem (by omega)]
        simp only [Option.getD_some, List.length_take, List.length_replicate]
        congr 1
        omega
    · rw [dif_neg (by simp; omega), if_neg (by omega)]
      simp [iv4]
/-- a row of one's own from a block's cells -/
theorem ownA_bk {W : World} {g lo : Nat} {zs : List Int} (h : Bk W g (zs.map iv4).toArray 2) (hl : lo ≤ g) (hn : zs.length ≤ 1048576) : OwnA W lo W.heap.size (some ⟨g, 0, none⟩) zs.length zs := by
  refine ⟨⟨by simp, Or.inr ⟨g, zs.length, _, rfl, hl, h, Nat.le_refl _, by unfold maxLen; omega, by simp, by rw [Nat.mul_one]; exact List.take_of_length_le (by simp)⟩⟩, fun g' e => ?_, Nat.le_refl _⟩
  simp only [Value.ownBlock, Option.map_some, Option.some.injEq] at e
  subst e
  exact h.lt
/-- the pulse copied into a new row of zeros -/
theorem cpw_run {w : World} {g N o B cp : Nat} {b : Option Addr} {ps : List Int} (ty : TypeId) (d : Option Addr) (hfit : o + ps.length ≤ N) (hd : 0 < ps.length → d = some ⟨g, o, none⟩) (hg : Bk w g (madeCells #[.int .i64 0] N) 2) (hp : Ints .i64 w B b ps) :
    ∃ w', (Builtin.copy_ #[38, 38] ty #[.slice d (N - o) (N - o), .slice b ps.length cp]).run Try.prog w = .ok (goInt ps.length) w' ∧
      Bk w' g ((wav ps o N).map iv4).toArray 2 ∧ (∀ k, k ≠ g → w'.heap[k]? = w.heap[k]?) ∧ w'.heap.size = w.heap.size ∧ (∀ B, B ≤ g → Below B w w') := by
  have e0 : (madeCells #[.int .i64 0] N).toList = List.replicate N (.int .i64 0) := by
    apply List.ext_getElem (by simp [size_madeCells])
    intro i h1 h2
    simp [madeCells, Nat.mod_one]
  by_cases h0 : ps.length = 0
  · obtain rfl : ps = [] := List.length_eq_zero_iff.1 h0
    refine ⟨w, run_copy_none w _ _ ty 2 d b (N - o) (N - o) 0 cp Try.underlying38 info1 (by simp [Nat.min_def]), ?_, fun _ _ => rfl, rfl, fun _ _ => Below.refl _ _⟩
    have e : ((wav [] o N).map iv4).toArray = madeCells #[.int .i64 0] N := by
      rw [wav_none]
      apply Array.toList_inj.1
      rw [e0]
      simp [iv4]
    rw [e]
    exact hg
  · obtain rfl := hd (by omega)
    obtain ⟨b', off, rfl, -, hc⟩ := hp (by omega)
    have hl : (ps.map iv4).length = ps.length := by simp
    have hrun := run_copy_row (P := Try.prog) w 38 38 ty 2 g o (N - o) (N - o) ⟨b', off, none⟩ ps.length cp (madeCells #[.int .i64 0] N) 2 (ps.map iv4) Try.underlying38 info1 hg (by rw [hl]; show _ = min _ _; omega)
      (fun j v hv => by
        rw [List.getElem?_map] at hv
        cases hj : ps[j]? with
        | none => rw [hj] at hv; simp at hv
        | some x =>
          rw [hj] at hv
          simp only [Option.map_some, Option.some.injEq] at hv
          subst hv
          have hlt := (List.getElem?_eq_some_iff.1 hj).1
          have h2 := hc j hlt
          rw [List.getD_eq_getElem?_getD, hj] at h2
          rw [Go.WideShapes.add_plain]
          exact h2) (by rw [hl, size_madeCells]; simpa using hfit) (fun v hv => by rw [List.mem_map] at hv; obtain ⟨z, _, rfl⟩ := hv; rfl)
    rw [hl, e0, wav_cells ps hfit] at hrun
    refine ⟨_, hrun, setRow_heap w g _ _ _ _ hg, fun k hk => setRow_other w g k _ hk, by simp [World.setRow], fun B hB => ⟨rfl, rfl, rfl, by simp [World.setRow], fun k hk => setRow_other w g k _ (by omega)⟩⟩
/-- rows of one's own behind a row of slices that grows -/
structure PwS (W1 : World) (G c n : Nat) (L : List Value) (k : Nat) (qs : Nat → Option Addr × Nat) (f : Nat → List Int) (W : World) : Prop where
  row : RowG W1 38 1 G c n L W
  inn : ∀ j, j < k → OwnA W W1.heap.size W.heap.size (qs j).1 (qs j).2 (f j)
  ne : ∀ i j, i < j → j < k → ∀ x y : Addr, (qs i).1 = some x → (qs j).1 = some y → x.block ≠ y.block
theorem ownA_top {W : World} {lo hi : Nat} {a : Option Addr} {c : Nat} {zs : List Int} (h : OwnA W lo hi a c zs) : OwnA W lo W.heap.size a c zs := ⟨h.own, fun g e => (h.own.lt g e).2, Nat.le_refl _⟩
section
variable {W1 W W' : World} {G c n k : Nat} {L : List Value} {qs : Nat → Option Addr × Nat} {f : Nat → List Int}
theorem PwS.on (h : PwS W1 G c n L k qs f W) (hb : Below W.heap.size W W') : PwS W1 G c n L k qs f W' := ⟨h.row.on hb, fun j hj => ownA_top ((h.inn j hj).on hb), h.ne⟩
theorem PwS.out_ne (h : PwS W1 G c n L k qs f W) {j : Nat} (hj : j < k) {g : Nat} (e : (Value.slice (qs j).1 (f j).length (qs j).2).ownBlock = some g) : g ≠ G := by
  rintro rfl
  exact ty_far h.row.own (h.inn j hj).own (by decide) (show (Value.slice (some ⟨g, 0, none⟩) n c).ownBlock = some g from rfl) e
/-- a store into the row of slices -/
theorem PwS.setV (h : PwS W1 G c n L k qs f W) (j : Nat) (v : Value) : PwS W1 G c n (L.set j v) k qs f (W.setCell ⟨G, j, none⟩ v) :=
  ⟨h.row.setV j v, fun i hi => ownA_top (ownA_frame (h.inn i hi) (fun g e => Below.heap_setCell W ⟨G, j, none⟩ v g (h.out_ne hi e)) (by simp)), h.ne⟩
/-- another block has turned -/
theorem PwS.frame (h : PwS W1 G c n L k qs f W) {g B : Nat} (hB : W.heap.size ≤ W'.heap.size) (hg : ∀ b, b ≠ g → W'.heap[b]? = W.heap[b]?) (hGg : G ≠ g) (hq : ∀ j, j < k → ∀ x : Addr, (qs j).1 = some x → x.block ≠ g) (hb : Below W1.heap.size W1 W') : PwS W1 G c n L k qs f W' :=
  ⟨h.row.at_ (hg G hGg) hb, fun i hi => ownA_top (ownA_frame (h.inn i hi) (fun y e => hg y (by obtain ⟨x, ex, bx⟩ := ownBlk e; have := hq i hi x ex; omega)) hB), h.ne⟩
theorem PwS.lt (h : PwS W1 G c n L k qs f W) {j : Nat} (hj : j < k) {x : Addr} (e : (qs j).1 = some x) : x.block < W.heap.size := (h.inn j hj).lt x.block (by rw [e]; rfl)
/-- one row more -/
theorem PwS.add (h : PwS W1 G c n L k qs f W) {g d : Nat} (ho : OwnA W W1.heap.size W.heap.size (some ⟨g, 0, none⟩) d (f k)) (hne : ∀ j, j < k → ∀ x : Addr, (qs j).1 = some x → x.block ≠ g) :
    PwS W1 G c n L (k + 1) (fun j => if j = k then (some ⟨g, 0, none⟩, d) else qs j) f W :=
  ⟨h.row, fun j hj => by
    by_cases e : j = k
    · subst e; simpa using ho
    · simpa [e] using h.inn j (by omega), fun i j hi hj x y ex ey => by
    have hik : i ≠ k := by omega
    simp only [if_neg hik] at ex
    by_cases e : j = k
    · rw [if_pos e] at ey
      simp only [Option.some.injEq] at ey
      subst ey
      exact hne i (by omega) x ex
    · rw [if_neg e] at ey
      exact h.ne i j hi (by omega) x y ex ey⟩
/-- the row of slices appended to -/
theorem PwS.snoc {g' cap : Nat} {v : Value} {w9 : World} (h : PwS W1 G c n L k qs f W) (hown : w9.ownsRow W1.heap.size 38 1 (.slice (some ⟨g', 0, none⟩) (n + 1) cap) (n + 1) (L ++ [v])) (hgrow : W.grownBy w9 (some G)) : PwS W1 g' cap (n + 1) (L ++ [v]) k qs f w9 :=
  ⟨h.row.snoc hown hgrow, fun i hi => ownA_top (ownA_frame (h.inn i hi) (fun y e => hgrow.block y ((h.inn i hi).own.lt y e).2 (fun e' => h.out_ne hi e (by injection e'))) hgrow.size), h.ne⟩
/-- all rows -/
theorem PwS.all {m : Nat} {zss : List (List Int)} (h : PwS W1 G c n L m qs f W) (hm : n = m) (hz : zss.length = m) (hf : ∀ j, j < m → gR zss j = f j) (hL : L = (List.range m).map (fun j => .slice (qs j).1 (f j).length (qs j).2)) {lo : Nat} (hlo : lo ≤ W1.heap.size) : OwnR W lo W.heap.size (some ⟨G, 0, none⟩) c qs zss := by
  subst hm hL
  refine ⟨?_, fun g e => (by rw [hz] at e; exact (h.row.own.lt g e).2), Nat.le_refl _, fun j hj => by rw [hf j (by omega)]; exact (h.inn j (by omega)).less hlo, fun i j hi hj => h.ne i j hi (by omega)⟩
  rw [hz]
  have e : (List.range n).map (slV zss qs) = (List.range n).map (fun j => .slice (qs j).1 (f j).length (qs j).2) := List.map_congr_left (fun j hj => by unfold slV; rw [hf j (List.mem_range.1 hj)])
  rw [e]
  exact World.ownsRow.mono h.row.own hlo
end
theorem ownR_nil (W : World) (lo : Nat) (h : lo ≤ W.heap.size) : OwnR W lo W.heap.size none 0 (fun _ => (none, 0)) [] :=
  ⟨World.ownsRow_nil _ _ _ _, fun g e => by simp [Value.ownBlock] at e, Nat.le_refl _, fun j hj => by simp at hj, fun i j _ hj => by simp at hj⟩
/-- the slices of rows -/
def vsl (f : Nat → List Int) (qs : Nat → Option Addr × Nat) (k : Nat) : List Value := (List.range k).map (fun j => .slice (qs j).1 (f j).length (qs j).2)
theorem vsl_succ (f : Nat → List Int) (qs : Nat → Option Addr × Nat) (k g d : Nat) {N : Nat} (hN : (f k).length = N) : vsl f (fun j => if j = k then (some ⟨g, 0, none⟩, d) else qs j) (k + 1) = vsl f qs k ++ [.slice (some ⟨g, 0, none⟩) N d] := by
  unfold vsl
  rw [List.range_succ, List.map_append]
  congr 1
  · apply List.map_congr_left
    intro j hj
    have := List.mem_range.1 hj
    simp only [if_neg (show ¬ j = k by omega)]
  · simp [hN]
theorem preS_upd (f : Nat → List Int) (qs : Nat → Option Addr × Nat) {n k g N : Nat} (hN : (f k).length = N) :
    (preS (fun j => .slice (qs j).1 (f j).length (qs j).2) n k).set k (.slice (some ⟨g, 0, none⟩) N N) = preS (fun j => .slice ((fun j => if j = k then (some ⟨g, 0, none⟩, N) else qs j) j).1 (f j).length ((fun j => if j = k then ((some ⟨g, 0, none⟩ : Option Addr), N) else qs j) j).2) n (k + 1) := by
  rw [← preS_set (n := n) (fun j => .slice ((fun j => if j = k then (some ⟨g, 0, none⟩, N) else qs j) j).1 (f j).length ((fun j => if j = k then ((some ⟨g, 0, none⟩ : Option Addr), N) else qs j) j).2) (k := k) (.slice (some ⟨g, 0, none⟩) N N) (by simp [hN])]
  congr 1
  refine preS_congr fun j hj => ?_
  simp only [if_neg (show ¬ j = k by omega)]
end Go.Proofs.Ytlahgdhofakinaa
