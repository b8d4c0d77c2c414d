/- The contract of the model's sorting by insertion. -/
import Derived.Test.YtndbpekmjpelaaaLys
import Derived.LoopTactic
import Derived.Deep.QuietTactic
import Derived.Deep.Onto
import Derived.BigQuiet
import Derived.Outline
import Derived.IntWalk
namespace Go.Proofs.Ytndbpekmjpelaaa
open Go.ChangeShapes Go.WideShapes Go.ChangeAt Go.RowKit Num
set_option linter.unusedVariables false
attribute [local go_sem ↓] Go.wp_at_zero Go.wp_at_succ
def iv (n : Int) : Value := .int .i64 n
/-- the list drawn up so far: sorted, the first k numbers -/
def SortRel (w : World) (zs : List Int) (v : Value) (k : Nat) (wr : World) : Prop :=
  ∃ (g cap : Nat) (L : List Int), v = .slice (some ⟨g, 0, none⟩) L.length cap ∧ wr.ownsRow w.heap.size 2 1 (.slice (some ⟨g, 0, none⟩) L.length cap) L.length (L.map iv) ∧ L.Pairwise (· ≤ ·) ∧ L.Perm (zs.take k) ∧ Below w.heap.size w wr
theorem s3_alloc {w X : World} {p : Addr} {v V : Value} {B n : Nat} {xs : List Value} (h : X.cell? p = some v ∧ X.ownsRow B 2 1 V n xs ∧ Below w.heap.size w X) (o : Obj) :
    (X.alloc o).cell? p = some v ∧ (X.alloc o).ownsRow B 2 1 V n xs ∧ Below w.heap.size w (X.alloc o) :=
  ⟨(World.cell?_alloc_lt _ _ _ (World.block_lt_of_cell? _ _ h.1)).trans h.1, h.2.1.alloc o, h.2.2.alloc h.2.2.size o⟩
theorem s3_grown {w X X' : World} {p : Addr} {v : Value} {B n g c d : Nat} {xs : List Value} (h : X.cell? p = some v ∧ X.ownsRow B 2 1 (.slice (some ⟨g, 0, none⟩) n c) n xs ∧ Below w.heap.size w X)
    (hg : X.grownBy X' (some d)) (hd : w.heap.size ≤ d) (hne : g < d) (hp : p.block < w.heap.size) :
    X'.cell? p = some v ∧ X'.ownsRow B 2 1 (.slice (some ⟨g, 0, none⟩) n c) n xs ∧ Below w.heap.size w X' :=
  ⟨(World.cell?_of_block (hg.block p.block (World.block_lt_of_cell? _ _ h.1) (fun e => by injection e; omega))).trans h.1, h.2.1.kept hg (Or.inr (by simp [Value.ownBlock]; omega)),
   h.2.2.grown hg h.2.2.size (fun k e => by injection e; omega)⟩
theorem news_take {X : World} {B g n c at_ : Nat} {L : List Int} (h : X.ownsRow B 2 1 (.slice (some ⟨g, 0, none⟩) n c) n (L.map iv)) : ∀ j u, ((L.take at_).map iv)[j]? = some u → X.cell? ((⟨g, 0, none⟩ : Addr).add j) = some u := by
  intro j u hu
  refine h.cells (g := g) rfl j u ?_
  rw [List.map_take, List.getElem?_take] at hu
  split at hu
  · exact hu
  · cases hu
theorem add_atS (g a j : Nat) : (⟨g, a, none⟩ : Addr).add j = ⟨g, a + j, none⟩ := by unfold Addr.add; split <;> simp_all
theorem add_zero' (g j : Nat) : (⟨g, 0, none⟩ : Addr).add j = ⟨g, j, none⟩ := by unfold Addr.add; split <;> simp_all
theorem news_drop {X : World} {B g n c at_ : Nat} {L : List Int} (h : X.ownsRow B 2 1 (.slice (some ⟨g, 0, none⟩) n c) n (L.map iv)) : ∀ j u, ((L.drop at_).map iv)[j]? = some u → X.cell? ((⟨g, at_, none⟩ : Addr).add j) = some u := by
  intro j u hu
  rw [List.map_drop, List.getElem?_drop] at hu
  have := h.cells (g := g) rfl (at_ + j) u hu
  rw [add_zero'] at this
  rw [add_atS]; exact this
theorem one_iv {L : List Int} : ∀ u ∈ L.map iv, u.oneCell' = true := by
  intro u hu
  obtain ⟨n, _, rfl⟩ := List.mem_map.1 hu
  rfl
theorem own_cell {X : World} {B g n c : Nat} {L : List Int} (h : X.ownsRow B 2 1 (.slice (some ⟨g, 0, none⟩) n c) n (L.map iv)) {j : Nat} (hj : j < L.length) : X.cell? ⟨g, j, none⟩ = some (.int .i64 (L.getD j 0)) := by
  have := h.cells (g := g) rfl j (iv (L.getD j 0)) (by rw [List.getElem?_map, List.getElem?_eq_getElem hj]; simp [List.getD_eq_getElem?_getD, List.getElem?_eq_getElem hj])
  rwa [add_zero'] at this
/-- a number put in at its place -/
theorem ins_sorted {L : List Int} {x : Int} {a : Nat} (hs : L.Pairwise (· ≤ ·)) (ha : a ≤ L.length) (h1 : ∀ j, a ≤ j → j < L.length → x < L.getD j 0) (h2 : 0 < a → L.getD (a - 1) 0 ≤ x) : (L.take a ++ [x] ++ L.drop a).Pairwise (· ≤ ·) := by
  have key : ∀ i j, i < j → j < L.length → L.getD i 0 ≤ L.getD j 0 := by
    intro i j hij hj
    have := List.pairwise_iff_getElem.1 hs i j (by omega) hj hij
    rwa [List.getD_eq_getElem?_getD, List.getD_eq_getElem?_getD, List.getElem?_eq_getElem (by omega), List.getElem?_eq_getElem hj]
  have lo : ∀ y ∈ L.take a, y ≤ x := by
    intro y hy
    obtain ⟨j, hj, rfl⟩ := List.getElem_of_mem hy
    have hja : j < a := by simp at hj; omega
    have e : (L.take a)[j] = L.getD j 0 := by rw [List.getElem_take, List.getD_eq_getElem?_getD, List.getElem?_eq_getElem (by omega)]; rfl
    rw [e]
    have h3 := h2 (by omega)
    by_cases hj2 : j = a - 1
    · rw [hj2]; exact h3
    · exact Int.le_trans (key j (a - 1) (by omega) (by omega)) h3
  have hi : ∀ y ∈ L.drop a, x ≤ y := by
    intro y hy
    obtain ⟨j, hj, rfl⟩ := List.getElem_of_mem hy
    have hjl : a + j < L.length := by simp at hj; omega
    have e : (L.drop a)[j] = L.getD (a + j) 0 := by rw [List.getElem_drop, List.getD_eq_getElem?_getD, List.getElem?_eq_getElem hjl]; rfl
    rw [e]
    exact Int.le_of_lt (h1 _ (by omega) hjl)
  have hcat : L.take a ++ L.drop a = L := List.take_append_drop a L
  have hp := hs
  rw [← hcat, List.pairwise_append] at hp
  rw [List.append_assoc, List.pairwise_append]
  refine ⟨hp.1, ?_, ?_⟩
  · show List.Pairwise _ (x :: L.drop a)
    rw [List.pairwise_cons]
    exact ⟨hi, hp.2.1⟩
  · intro p hpm q hqm
    rcases List.mem_append.1 hqm with h | h
    · rw [List.mem_singleton.1 h]; exact lo p hpm
    · exact hp.2.2 p hpm q h
theorem ins_perm {L M : List Int} {x : Int} {a : Nat} (h : L.Perm M) : (L.take a ++ [x] ++ L.drop a).Perm (M ++ [x]) := by
  have h1 : (L.take a ++ [x] ++ L.drop a).Perm (L.take a ++ L.drop a ++ [x]) := by
    rw [List.append_assoc, List.append_assoc]
    exact List.Perm.append_left _ List.perm_append_comm
  rw [List.take_append_drop] at h1
  exact h1.trans (h.append_right [x])
theorem take_snoc' {zs : List Int} {k : Nat} (hk : k < zs.length) : zs.take (k + 1) = zs.take k ++ [zs.getD k 0] := by
  rw [List.take_succ_eq_append_getElem hk, List.getD_eq_getElem?_getD, List.getElem?_eq_getElem hk]; rfl
theorem own_lit_at {X : World} {B d : Nat} (e : d = X.heap.size) (hb : B ≤ X.heap.size) : (X.alloc (.cells #[] 2)).ownsRow B 2 1 (.slice (some ⟨d, 0, none⟩) 0 0) 0 [] := by
  subst e
  exact World.ownsRow_lit X #[] 0 hb (by decide) (by decide)
theorem news_none {X : World} {p : Addr} {a : Nat} {L : List Int} (h : L.length ≤ a) : ∀ j u, ((L.drop a).map iv)[j]? = some u → X.cell? (p.add j) = some u := by
  intro j u hu
  rw [List.drop_eq_nil_of_le h] at hu
  simp at hu
theorem news_x {X : World} {d : Nat} {x : Int} (h : X.cell? ⟨d, 0, none⟩ = some (.int .i64 x)) : ∀ j u, [iv x][j]? = some u → X.cell? ((⟨d, 0, none⟩ : Addr).add j) = some u := by
  intro j u hu
  cases j with
  | zero => simp at hu; subst hu; rw [add_zero']; exact h
  | succ j => simp at hu
theorem one_x {x : Int} : ∀ u ∈ [iv x], u.oneCell' = true := by
  intro u hu
  rw [List.mem_singleton.1 hu]; rfl
theorem cell_new_at {X : World} {d : Nat} {x : Int} (e : d = X.heap.size) : (X.alloc (.cells #[.int .i64 x] 2)).cell? ⟨d, 0, none⟩ = some (.int .i64 x) := by subst e; simp [go_sem]
theorem cell_far1 {X w1 : World} {d p : Nat} {v : Value} (hg : X.grownBy w1 (some d)) (h : X.cell? ⟨p, 0, none⟩ = some v) (hne : p ≠ d) : w1.cell? ⟨p, 0, none⟩ = some v :=
  (World.cell?_of_block (hg.block p (World.block_lt_of_cell? _ _ h) (fun e => by injection e; omega))).trans h
/-- the list, one number longer -/
theorem SortRel.ins {w W w3 : World} {zs L : List Int} {k a g cap n : Nat} {x : Int} {xs : List Value} (hk : k < zs.length) (hx : zs.getD k 0 = x) (hs : L.Pairwise (· ≤ ·)) (hp : L.Perm (zs.take k)) (ha : a ≤ L.length)
    (h1 : ∀ j, a ≤ j → j < L.length → x < L.getD j 0) (h2 : 0 < a → L.getD (a - 1) 0 ≤ x) (hw : w.heap.size ≤ W.heap.size) (hn : n = L.length + 1)
    (hxs : xs = (L.take a ++ [x] ++ L.drop a).map iv) (hown : w3.ownsRow W.heap.size 2 1 (.slice (some ⟨g, 0, none⟩) n cap) n xs) (hb : Below w.heap.size w w3) : SortRel w zs (.slice (some ⟨g, 0, none⟩) n cap) (k + 1) w3 := by
  have hlen : (L.take a ++ [x] ++ L.drop a).length = n := by simp; omega
  refine ⟨g, cap, L.take a ++ [x] ++ L.drop a, by rw [hlen], ?_, ins_sorted hs ha h1 h2, ?_, hb⟩
  · rw [hlen, ← hxs]
    exact hown.mono hw
  · rw [take_snoc' hk, hx]
    exact ins_perm hp

set_option maxRecDepth 100000 in
set_option maxHeartbeats 16000000 in
theorem srt_any (w : World) (a : Option Addr) (cap0 : Nat) (zs : List Int) (hl : zs.length ≤ 400) (hz : Ints .i64 w w.heap.size a zs) :
    Calls Try.prog 22 #[.slice a zs.length cap0] w fun e w' => ∃ (v : Value), e = .returned v ∧ SortRel w zs v zs.length w' := by
  obtain ⟨i0, hi, hz0, hz1, hz2⟩ := info_parts info_i64
  go_enter Try.func22, Try.ntmps22
  go_wp2
  go_loopw [3, 4] (fun v i wr => ∃ k : Nat, k ≤ zs.length ∧ i = .int .i64 k ∧ SortRel w zs v k wr) (fun _ i _ => zs.length - (intOf i).toNat)
  case atStart => exact ⟨0, by omega, rfl, w.heap.size, 0, [], rfl, World.ownsRow_lit w #[] 0 (Nat.le_refl _) (by decide) (by decide), List.Pairwise.nil, List.Perm.nil, (Below.refl _ _).alloc (Nat.le_refl _) _⟩
  case round =>
    obtain ⟨k, hk, rfl, g, cap, L, rfl, hown, hsort, hperm, hbel⟩ := hrel
    have hLk : L.length = k := by rw [hperm.length_eq, List.length_take]; omega
    have HLK := Lib.hid hLk
    have hL1 : L.length ≤ k := by omega
    have hL2 : k ≤ L.length := by omega
    have HO := Lib.hid hown
    have HSO := Lib.hid hsort
    have HPE := Lib.hid hperm
    have HBE := Lib.hid hbel
    obtain ⟨wo, hwo⟩ : ∃ wo : World, wo = wr := ⟨_, rfl⟩
    subst hwo
    clear hLk hown hsort hperm hbel
    by_cases hlt : k < zs.length
    · obtain ⟨b, off, rfl, hB, hc⟩ := hz.at_ hlt
      have hcx := (HBE.out.cell (p := ⟨b, off + k, none⟩) hB).trans hc
      have HZ := Lib.hid hz
      clear hz hc
      obtain ⟨x, hx⟩ : ∃ x, zs.getD k 0 = x := ⟨_, rfl⟩
      rw [hx] at hcx
      have HX := Lib.hid hx
      clear hx
      have i0k : (0 : Int) ≤ (k : Int) := by omega
      go_wp2
      go_loopw [5] (fun i w' => ∃ p : Nat, p ≤ L.length ∧ i = .int .i64 p ∧ (∃ n, w' = wo.drewN n) ∧ ∀ j, p ≤ j → j < L.length → x < L.getD j 0) (fun i _ => (intOf i).toNat)
      case atStart => exact ⟨L.length, Nat.le_refl _, rfl, ⟨0, rfl⟩, fun j h1 h2 => by omega⟩
      case round =>
        obtain ⟨p, hp, rfl, ⟨nd, rfl⟩, hgt⟩ := hrel
        have HGT := Lib.hid hgt
        clear hgt
        by_cases hp0 : 0 < p
        · have hcp := own_cell HO.out (j := p - 1) (by omega)
          obtain ⟨y, hy⟩ : ∃ y, L.getD (p - 1) 0 = y := ⟨_, rfl⟩
          rw [hy] at hcp
          have HY := Lib.hid hy
          clear hy
          obtain ⟨q, rfl⟩ : ∃ q, p = q + 1 := ⟨p - 1, by omega⟩
          rw [Nat.add_sub_cancel] at hcp
          have d0 : decide ((0 : Int) < ((q + 1 : Nat) : Int)) = true := by simp
          have d0' : decide ((0 : Int) < (q : Int) + 1) = true := by simp
          by_cases hxy : x < y
          · have d1 : decide (x < y) = true := by simpa using hxy
            go_wp2
            go_quiet (fail)
            go_wp2
            go_roundw
            case rel => exact ⟨q, by omega, rfl, ⟨_, rfl⟩, fun j h1 h2 => by
              by_cases hj : j = q
              · rw [hj]; have := HY.out; rw [Nat.add_sub_cancel] at this; rw [this]; exact hxy
              · exact HGT.out j (by omega) h2⟩
            case measure => simp [intOf]
          · have d1 : decide (x < y) = false := by simpa using hxy
            go_wp2
            go_quiet (fail)
            go_wp2
            have tn : ((q : Int) + 1).toNat = q + 1 := by omega
            obtain ⟨W, hW⟩ : ∃ W, W = (wo.drewN nd).drewN nq := ⟨_, rfl⟩
            rw [← hW]
            have hcW : W.cell? ⟨b, off + k, none⟩ = some (.int .i64 x) := by rw [hW]; exact hcx
            have hoW : W.ownsRow w.heap.size 2 1 (.slice (some ⟨g, 0, none⟩) L.length cap) L.length (L.map iv) := by rw [hW]; exact HO.out
            have hbW : Below w.heap.size w W := by rw [hW]; exact bel_drewN (bel_drewN HBE.out _) _
            have hgW : g < W.heap.size := (hoW.lt g rfl).2
            have hwW : w.heap.size ≤ W.heap.size := hbW.size
            have hgw : w.heap.size ≤ g := (hoW.lt g rfl).1
            have hcapL : L.length ≤ cap := by
              rcases hoW.2 with ⟨h, _⟩ | ⟨g', cap', cur, h, _, _, hle, _⟩
              · simp at h
              · simp only [Value.slice.injEq] at h
                omega
            clear hW hcx
            have j0 : (0 : Int) ≤ ((q : Int) + 1) := by omega
            have j1 : ((q : Int) + 1) ≤ (L.length : Int) := by omega
            have j2 : ((q : Int) + 1) ≤ (cap : Int) := by omega
            have j3 : (L.length : Int) ≤ (cap : Int) := by omega
            have hk0 : (0 : Int) ≤ (k : Int) := by omega
            have hkl : (k : Int) < (zs.length : Int) := by omega
            have hpl : q + 1 ≤ L.length := by omega
            have TK : Hid (((L.take (q + 1)).map iv).length = (q + 1) * 1) := Lib.hid (by rw [List.length_map, List.length_take]; omega)
            have TD : Hid (((L.drop (q + 1)).map iv).length = (L.length - (q + 1)) * 1) := Lib.hid (by rw [List.length_map, List.length_drop]; omega)
            have HLOW : Hid (0 < q + 1 → L.getD (q + 1 - 1) 0 ≤ x) := Lib.hid (fun _ => by rw [HY.out]; omega)
            have hL3 : L.length ≤ 400 := by omega
            by_cases hca : cap = q + 1
            · have hle0 : L.length ≤ q + 1 := by omega
              have TZ : Hid (((L.drop (q + 1)).map iv).length = 0 * 1) := Lib.hid (by rw [List.length_map, List.length_drop]; omega)
              subst hca
              go_region_held3 (fun w' => w'.cell? ⟨b, off + k, none⟩ = some (.int .i64 x) ∧ w'.ownsRow w.heap.size 2 1 (.slice (some ⟨g, 0, none⟩) L.length (q + 1)) L.length (L.map iv) ∧ Below w.heap.size w w')
                (first
                  | (exact ⟨hcW, hoW, hbW.drew⟩)
                  | (go_split_ands; exact s3_grown ⟨by assumption, by assumption, by assumption⟩ hgrow hd hne hB)
                  | (go_split_ands; exact s3_alloc ⟨by assumption, by assumption, by assumption⟩ _))
                (first
                  | ((try go_split_ands); (refine step_app (by rfl) (.tmp 31) (.tmp 34) 22 (by rfl) W.heap.size 2 i0 (.int .i64 0) 1 8 Try.underlying22 hi hz0 hz1 hz2 rfl (by decide) (W.heap.size) (0) (0) ([]) (by rfl) (by first | exact own_lit_at rfl (Nat.le_refl _) | exact (own_lit_at rfl (Nat.le_refl _)).alloc _) (⟨g, 0, none⟩) (q + 1) (q + 1) ((L.take (q + 1)).map iv) (by rfl) TK.out (news_take (by assumption)) one_iv (by unfold maxLen; omega) (by omega) (by first | (simp; done) | (simp; omega) | omega) (q + 1) (by first | (simp; done) | (simp; omega) | omega) ?_); intro g1 cap1 w1 hown1 hgr1; (simp only [List.nil_append] at hown1); (have hgrow := hgr1); (have hd : w.heap.size ≤ W.heap.size := by omega); (have hne : g < W.heap.size := by omega); (have hw1 : W.heap.size + 1 ≤ w1.heap.size := by (have hq := hgr1.size; simp at hq; omega)))
                  | ((try go_split_ands); (refine step_app (by rfl) (.tmp 31) (.tmp 34) 22 (by rfl) W.heap.size 2 i0 (.int .i64 0) 1 8 Try.underlying22 hi hz0 hz1 hz2 rfl (by decide) (W.heap.size + 1) (0) (0) ([]) (by rfl) (own_lit_at (by simp) (by simp)) (⟨g, 0, none⟩) (q + 1) (q + 1) ((L.take (q + 1)).map iv) (by rfl) TK.out (news_take (by assumption)) one_iv (by unfold maxLen; omega) (by omega) (by first | (simp; done) | (simp; omega) | omega) (q + 1) (by first | (simp; done) | (simp; omega) | omega) ?_); intro g1 cap1 w1 hown1 hgr1; (simp only [List.nil_append] at hown1); (have hgrow := hgr1); (have hd : w.heap.size ≤ (W.heap.size + 1) := by omega); (have hne : g < (W.heap.size + 1) := by omega); (have hw1 : W.heap.size + 1 ≤ w1.heap.size := by (have hq := hgr1.size; simp at hq; omega)))
                  | ((try go_split_ands); (refine step_app (by rfl) (.tmp 35) (.tmp 40) 22 (by rfl) W.heap.size 2 i0 (.int .i64 0) 1 8 Try.underlying22 hi hz0 hz1 hz2 rfl (by decide) (g1) (q + 1) (cap1) ((L.take (q + 1)).map iv) (by rfl) (by first | exact hown1 | exact hown1.alloc _) (⟨w1.heap.size, 0, none⟩) (1) (1) ([iv x]) (by rfl) rfl (news_x (cell_new_at rfl)) one_x (by unfold maxLen; omega) (by omega) (by first | (simp; done) | (simp; omega) | omega) ((q + 1) + 1) (by first | (simp; done) | (simp; omega) | omega) ?_); intro g2 cap2 w2 hown2 hgr2; (have hgrow := hgr2); (have hlw1 := (hown1.lt g1 rfl).1); (have hd : w.heap.size ≤ g1 := by omega); (have hne : g < g1 := by omega); (have hw2 : w1.heap.size ≤ w2.heap.size := by (have hq := hgr2.size; (try simp at hq); omega)))
                  | ((try go_split_ands); (refine step_app (by rfl) (.tmp 35) (.tmp 40) 22 (by rfl) W.heap.size 2 i0 (.int .i64 0) 1 8 Try.underlying22 hi hz0 hz1 hz2 rfl (by decide) (g1) (q + 1) (cap1) ((L.take (q + 1)).map iv) (by rfl) (by first | exact hown1 | exact hown1.alloc _) (⟨W.heap.size + 1, 0, none⟩) (1) (1) ([iv x]) (by rfl) rfl (news_x (cell_far1 hgr1 (cell_new_at (by simp)) (by omega))) one_x (by unfold maxLen; omega) (by omega) (by first | (simp; done) | (simp; omega) | omega) ((q + 1) + 1) (by first | (simp; done) | (simp; omega) | omega) ?_); intro g2 cap2 w2 hown2 hgr2; (have hgrow := hgr2); (have hlw1 := (hown1.lt g1 rfl).1); (have hd : w.heap.size ≤ g1 := by omega); (have hne : g < g1 := by omega); (have hw2 : w1.heap.size ≤ w2.heap.size := by (have hq := hgr2.size; (try simp at hq); omega)))
                  | ((try go_split_ands); (refine step_app (by rfl) (.tmp 35) (.tmp 40) 22 (by rfl) W.heap.size 2 i0 (.int .i64 0) 1 8 Try.underlying22 hi hz0 hz1 hz2 rfl (by decide) (g1) (q + 1) (cap1) ((L.take (q + 1)).map iv) (by rfl) (by first | exact hown1 | exact hown1.alloc _) (⟨W.heap.size, 0, none⟩) (1) (1) ([iv x]) (by rfl) rfl (news_x (cell_far1 hgr1 ((World.cell?_alloc_lt _ _ _ (by simp)).trans (cell_new_at rfl)) (by omega))) one_x (by unfold maxLen; omega) (by omega) (by first | (simp; done) | (simp; omega) | omega) ((q + 1) + 1) (by first | (simp; done) | (simp; omega) | omega) ?_); intro g2 cap2 w2 hown2 hgr2; (have hgrow := hgr2); (have hlw1 := (hown1.lt g1 rfl).1); (have hd : w.heap.size ≤ g1 := by omega); (have hne : g < g1 := by omega); (have hw2 : w1.heap.size ≤ w2.heap.size := by (have hq := hgr2.size; (try simp at hq); omega)))
                  | ((try go_split_ands); (refine step_app (by rfl) (.tmp 41) (.tmp 44) 22 (by rfl) W.heap.size 2 i0 (.int .i64 0) 1 8 Try.underlying22 hi hz0 hz1 hz2 rfl (by decide) (g2) ((q + 1) + 1) (cap2) ((L.take (q + 1)).map iv ++ [iv x]) (by rfl) (hown2) (⟨g, 0, none⟩) (0) (0) ((L.drop (q + 1)).map iv) (by rfl) TZ.out (news_none (by omega)) one_iv (by unfold maxLen; omega) (by omega) (by first | (simp; done) | (simp; omega) | omega) (L.length + 1) (by first | (simp; done) | (simp; omega) | omega) ?_); intro g3 cap3 w3 hown3 hgr3; (have hgrow := hgr3); (have hlw2 := (hown2.lt g2 rfl).1); (have hd : w.heap.size ≤ g2 := by omega); (have hne : g < g2 := by omega)))
              all_goals
                go_split_ands
                have HF := Lib.hid (SortRel.ins (w := w) (zs := zs) (k := k) (a := q + 1) (x := x) hlt HX.out HSO.out HPE.out hpl HGT.out HLOW.out hwW (by omega) (by simp [iv]) hown3 (by assumption))
                go_wp2
                go_roundw
                case rel => exact ⟨k + 1, by omega, by go_num, by first | exact HF.out | simpa using HF.out⟩
                case measure => simp [intOf]; omega
            · have hca2 : ¬ (cap : Int) = ((q : Int) + 1) := by omega
              go_region_held3 (fun w' => w'.cell? ⟨b, off + k, none⟩ = some (.int .i64 x) ∧ w'.ownsRow w.heap.size 2 1 (.slice (some ⟨g, 0, none⟩) L.length (cap)) L.length (L.map iv) ∧ Below w.heap.size w w')
                (first
                  | (exact ⟨hcW, hoW, hbW.drew⟩)
                  | (go_split_ands; exact s3_grown ⟨by assumption, by assumption, by assumption⟩ hgrow hd hne hB)
                  | (go_split_ands; exact s3_alloc ⟨by assumption, by assumption, by assumption⟩ _))
                (first
                  | ((try go_split_ands); (refine step_app (by rfl) (.tmp 31) (.tmp 34) 22 (by rfl) W.heap.size 2 i0 (.int .i64 0) 1 8 Try.underlying22 hi hz0 hz1 hz2 rfl (by decide) (W.heap.size) (0) (0) ([]) (by rfl) (by first | exact own_lit_at rfl (Nat.le_refl _) | exact (own_lit_at rfl (Nat.le_refl _)).alloc _) (⟨g, 0, none⟩) (q + 1) (cap) ((L.take (q + 1)).map iv) (by rfl) TK.out (news_take (by assumption)) one_iv (by unfold maxLen; omega) (by omega) (by first | (simp; done) | (simp; omega) | omega) (q + 1) (by first | (simp; done) | (simp; omega) | omega) ?_); intro g1 cap1 w1 hown1 hgr1; (simp only [List.nil_append] at hown1); (have hgrow := hgr1); (have hd : w.heap.size ≤ W.heap.size := by omega); (have hne : g < W.heap.size := by omega); (have hw1 : W.heap.size + 1 ≤ w1.heap.size := by (have hq := hgr1.size; simp at hq; omega)))
                  | ((try go_split_ands); (refine step_app (by rfl) (.tmp 31) (.tmp 34) 22 (by rfl) W.heap.size 2 i0 (.int .i64 0) 1 8 Try.underlying22 hi hz0 hz1 hz2 rfl (by decide) (W.heap.size + 1) (0) (0) ([]) (by rfl) (own_lit_at (by simp) (by simp)) (⟨g, 0, none⟩) (q + 1) (cap) ((L.take (q + 1)).map iv) (by rfl) TK.out (news_take (by assumption)) one_iv (by unfold maxLen; omega) (by omega) (by first | (simp; done) | (simp; omega) | omega) (q + 1) (by first | (simp; done) | (simp; omega) | omega) ?_); intro g1 cap1 w1 hown1 hgr1; (simp only [List.nil_append] at hown1); (have hgrow := hgr1); (have hd : w.heap.size ≤ (W.heap.size + 1) := by omega); (have hne : g < (W.heap.size + 1) := by omega); (have hw1 : W.heap.size + 1 ≤ w1.heap.size := by (have hq := hgr1.size; simp at hq; omega)))
                  | ((try go_split_ands); (refine step_app (by rfl) (.tmp 35) (.tmp 40) 22 (by rfl) W.heap.size 2 i0 (.int .i64 0) 1 8 Try.underlying22 hi hz0 hz1 hz2 rfl (by decide) (g1) (q + 1) (cap1) ((L.take (q + 1)).map iv) (by rfl) (by first | exact hown1 | exact hown1.alloc _) (⟨w1.heap.size, 0, none⟩) (1) (1) ([iv x]) (by rfl) rfl (news_x (cell_new_at rfl)) one_x (by unfold maxLen; omega) (by omega) (by first | (simp; done) | (simp; omega) | omega) ((q + 1) + 1) (by first | (simp; done) | (simp; omega) | omega) ?_); intro g2 cap2 w2 hown2 hgr2; (have hgrow := hgr2); (have hlw1 := (hown1.lt g1 rfl).1); (have hd : w.heap.size ≤ g1 := by omega); (have hne : g < g1 := by omega); (have hw2 : w1.heap.size ≤ w2.heap.size := by (have hq := hgr2.size; (try simp at hq); omega)))
                  | ((try go_split_ands); (refine step_app (by rfl) (.tmp 35) (.tmp 40) 22 (by rfl) W.heap.size 2 i0 (.int .i64 0) 1 8 Try.underlying22 hi hz0 hz1 hz2 rfl (by decide) (g1) (q + 1) (cap1) ((L.take (q + 1)).map iv) (by rfl) (by first | exact hown1 | exact hown1.alloc _) (⟨W.heap.size + 1, 0, none⟩) (1) (1) ([iv x]) (by rfl) rfl (news_x (cell_far1 hgr1 (cell_new_at (by simp)) (by omega))) one_x (by unfold maxLen; omega) (by omega) (by first | (simp; done) | (simp; omega) | omega) ((q + 1) + 1) (by first | (simp; done) | (simp; omega) | omega) ?_); intro g2 cap2 w2 hown2 hgr2; (have hgrow := hgr2); (have hlw1 := (hown1.lt g1 rfl).1); (have hd : w.heap.size ≤ g1 := by omega); (have hne : g < g1 := by omega); (have hw2 : w1.heap.size ≤ w2.heap.size := by (have hq := hgr2.size; (try simp at hq); omega)))
                  | ((try go_split_ands); (refine step_app (by rfl) (.tmp 35) (.tmp 40) 22 (by rfl) W.heap.size 2 i0 (.int .i64 0) 1 8 Try.underlying22 hi hz0 hz1 hz2 rfl (by decide) (g1) (q + 1) (cap1) ((L.take (q + 1)).map iv) (by rfl) (by first | exact hown1 | exact hown1.alloc _) (⟨W.heap.size, 0, none⟩) (1) (1) ([iv x]) (by rfl) rfl (news_x (cell_far1 hgr1 ((World.cell?_alloc_lt _ _ _ (by simp)).trans (cell_new_at rfl)) (by omega))) one_x (by unfold maxLen; omega) (by omega) (by first | (simp; done) | (simp; omega) | omega) ((q + 1) + 1) (by first | (simp; done) | (simp; omega) | omega) ?_); intro g2 cap2 w2 hown2 hgr2; (have hgrow := hgr2); (have hlw1 := (hown1.lt g1 rfl).1); (have hd : w.heap.size ≤ g1 := by omega); (have hne : g < g1 := by omega); (have hw2 : w1.heap.size ≤ w2.heap.size := by (have hq := hgr2.size; (try simp at hq); omega)))
                  | ((try go_split_ands); (refine step_app (by rfl) (.tmp 41) (.tmp 44) 22 (by rfl) W.heap.size 2 i0 (.int .i64 0) 1 8 Try.underlying22 hi hz0 hz1 hz2 rfl (by decide) (g2) ((q + 1) + 1) (cap2) ((L.take (q + 1)).map iv ++ [iv x]) (by rfl) (hown2) (⟨g, q + 1, none⟩) (L.length - (q + 1)) (cap - (q + 1)) ((L.drop (q + 1)).map iv) (by rfl) TD.out (news_drop (by assumption)) one_iv (by unfold maxLen; omega) (by omega) (by first | (simp; done) | (simp; omega) | omega) (L.length + 1) (by first | (simp; done) | (simp; omega) | omega) ?_); intro g3 cap3 w3 hown3 hgr3; (have hgrow := hgr3); (have hlw2 := (hown2.lt g2 rfl).1); (have hd : w.heap.size ≤ g2 := by omega); (have hne : g < g2 := by omega)))
              all_goals
                go_split_ands
                have HF := Lib.hid (SortRel.ins (w := w) (zs := zs) (k := k) (a := q + 1) (x := x) hlt HX.out HSO.out HPE.out hpl HGT.out HLOW.out hwW (by omega) (by simp [iv]) hown3 (by assumption))
                go_wp2
                go_roundw
                case rel => exact ⟨k + 1, by omega, by go_num, by first | exact HF.out | simpa using HF.out⟩
                case measure => simp [intOf]; omega
        · obtain rfl : p = 0 := by omega
          have d0 : decide ((0 : Int) < ((0 : Nat) : Int)) = false := by decide
          have d0' : decide ((0 : Int) < 0) = false := by decide
          go_wp2
          go_quiet (fail)
          go_wp2
          have tn : (0 : Int).toNat = 0 := rfl
          obtain ⟨W, hW⟩ : ∃ W, W = (wo.drewN nd).drewN nq := ⟨_, rfl⟩
          rw [← hW]
          have hcW : W.cell? ⟨b, off + k, none⟩ = some (.int .i64 x) := by rw [hW]; exact hcx
          have hoW : W.ownsRow w.heap.size 2 1 (.slice (some ⟨g, 0, none⟩) L.length cap) L.length (L.map iv) := by rw [hW]; exact HO.out
          have hbW : Below w.heap.size w W := by rw [hW]; exact bel_drewN (bel_drewN HBE.out _) _
          have hgW : g < W.heap.size := (hoW.lt g rfl).2
          have hwW : w.heap.size ≤ W.heap.size := hbW.size
          have hgw : w.heap.size ≤ g := (hoW.lt g rfl).1
          have hcapL : L.length ≤ cap := by
            rcases hoW.2 with ⟨h, _⟩ | ⟨g', cap', cur, h, _, _, hle, _⟩
            · simp at h
            · simp only [Value.slice.injEq] at h
              omega
          clear hW hcx
          have j0 : (0 : Int) ≤ (0 : Int) := by omega
          have j1 : (0 : Int) ≤ (L.length : Int) := by omega
          have j2 : (0 : Int) ≤ (cap : Int) := by omega
          have j3 : (L.length : Int) ≤ (cap : Int) := by omega
          have hk0 : (0 : Int) ≤ (k : Int) := by omega
          have hkl : (k : Int) < (zs.length : Int) := by omega
          have hpl : 0 ≤ L.length := Nat.zero_le _
          have TK : Hid (((L.take (0)).map iv).length = (0) * 1) := Lib.hid (by rw [List.length_map, List.length_take]; omega)
          have TD : Hid (((L.drop (0)).map iv).length = (L.length - (0)) * 1) := Lib.hid (by rw [List.length_map, List.length_drop]; omega)
          have HLOW : Hid (0 < 0 → L.getD (0 - 1) 0 ≤ x) := Lib.hid (fun h => absurd h (by omega))
          have hL3 : L.length ≤ 400 := by omega
          by_cases hca : cap = 0
          · have hle0 : L.length ≤ 0 := by omega
            have TZ : Hid (((L.drop (0)).map iv).length = 0 * 1) := Lib.hid (by rw [List.length_map, List.length_drop]; omega)
            subst hca
            go_region_held3 (fun w' => w'.cell? ⟨b, off + k, none⟩ = some (.int .i64 x) ∧ w'.ownsRow w.heap.size 2 1 (.slice (some ⟨g, 0, none⟩) L.length (0)) L.length (L.map iv) ∧ Below w.heap.size w w')
              (first
                | (exact ⟨hcW, hoW, hbW.drew⟩)
                | (go_split_ands; exact s3_grown ⟨by assumption, by assumption, by assumption⟩ hgrow hd hne hB)
                | (go_split_ands; exact s3_alloc ⟨by assumption, by assumption, by assumption⟩ _))
              (first
                | ((try go_split_ands); (refine step_app (by rfl) (.tmp 31) (.tmp 34) 22 (by rfl) W.heap.size 2 i0 (.int .i64 0) 1 8 Try.underlying22 hi hz0 hz1 hz2 rfl (by decide) (W.heap.size) (0) (0) ([]) (by rfl) (by first | exact own_lit_at rfl (Nat.le_refl _) | exact (own_lit_at rfl (Nat.le_refl _)).alloc _) (⟨g, 0, none⟩) (0) (0) ((L.take (0)).map iv) (by rfl) TK.out (news_take (by assumption)) one_iv (by unfold maxLen; omega) (by omega) (by first | (simp; done) | (simp; omega) | omega) (0) (by first | (simp; done) | (simp; omega) | omega) ?_); intro g1 cap1 w1 hown1 hgr1; (simp only [List.nil_append] at hown1); (have hgrow := hgr1); (have hd : w.heap.size ≤ W.heap.size := by omega); (have hne : g < W.heap.size := by omega); (have hw1 : W.heap.size + 1 ≤ w1.heap.size := by (have hq := hgr1.size; simp at hq; omega)))
                | ((try go_split_ands); (refine step_app (by rfl) (.tmp 31) (.tmp 34) 22 (by rfl) W.heap.size 2 i0 (.int .i64 0) 1 8 Try.underlying22 hi hz0 hz1 hz2 rfl (by decide) (W.heap.size + 1) (0) (0) ([]) (by rfl) (own_lit_at (by simp) (by simp)) (⟨g, 0, none⟩) (0) (0) ((L.take (0)).map iv) (by rfl) TK.out (news_take (by assumption)) one_iv (by unfold maxLen; omega) (by omega) (by first | (simp; done) | (simp; omega) | omega) (0) (by first | (simp; done) | (simp; omega) | omega) ?_); intro g1 cap1 w1 hown1 hgr1; (simp only [List.nil_append] at hown1); (have hgrow := hgr1); (have hd : w.heap.size ≤ (W.heap.size + 1) := by omega); (have hne : g < (W.heap.size + 1) := by omega); (have hw1 : W.heap.size + 1 ≤ w1.heap.size := by (have hq := hgr1.size; simp at hq; omega)))
                | ((try go_split_ands); (refine step_app (by rfl) (.tmp 35) (.tmp 40) 22 (by rfl) W.heap.size 2 i0 (.int .i64 0) 1 8 Try.underlying22 hi hz0 hz1 hz2 rfl (by decide) (g1) (0) (cap1) ((L.take (0)).map iv) (by rfl) (by first | exact hown1 | exact hown1.alloc _) (⟨w1.heap.size, 0, none⟩) (1) (1) ([iv x]) (by rfl) rfl (news_x (cell_new_at rfl)) one_x (by unfold maxLen; omega) (by omega) (by first | (simp; done) | (simp; omega) | omega) ((0) + 1) (by first | (simp; done) | (simp; omega) | omega) ?_); intro g2 cap2 w2 hown2 hgr2; (have hgrow := hgr2); (have hlw1 := (hown1.lt g1 rfl).1); (have hd : w.heap.size ≤ g1 := by omega); (have hne : g < g1 := by omega); (have hw2 : w1.heap.size ≤ w2.heap.size := by (have hq := hgr2.size; (try simp at hq); omega)))
                | ((try go_split_ands); (refine step_app (by rfl) (.tmp 35) (.tmp 40) 22 (by rfl) W.heap.size 2 i0 (.int .i64 0) 1 8 Try.underlying22 hi hz0 hz1 hz2 rfl (by decide) (g1) (0) (cap1) ((L.take (0)).map iv) (by rfl) (by first | exact hown1 | exact hown1.alloc _) (⟨W.heap.size + 1, 0, none⟩) (1) (1) ([iv x]) (by rfl) rfl (news_x (cell_far1 hgr1 (cell_new_at (by simp)) (by omega))) one_x (by unfold maxLen; omega) (by omega) (by first | (simp; done) | (simp; omega) | omega) ((0) + 1) (by first | (simp; done) | (simp; omega) | omega) ?_); intro g2 cap2 w2 hown2 hgr2; (have hgrow := hgr2); (have hlw1 := (hown1.lt g1 rfl).1); (have hd : w.heap.size ≤ g1 := by omega); (have hne : g < g1 := by omega); (have hw2 : w1.heap.size ≤ w2.heap.size := by (have hq := hgr2.size; (try simp at hq); omega)))
                | ((try go_split_ands); (refine step_app (by rfl) (.tmp 35) (.tmp 40) 22 (by rfl) W.heap.size 2 i0 (.int .i64 0) 1 8 Try.underlying22 hi hz0 hz1 hz2 rfl (by decide) (g1) (0) (cap1) ((L.take (0)).map iv) (by rfl) (by first | exact hown1 | exact hown1.alloc _) (⟨W.heap.size, 0, none⟩) (1) (1) ([iv x]) (by rfl) rfl (news_x (cell_far1 hgr1 ((World.cell?_alloc_lt _ _ _ (by simp)).trans (cell_new_at rfl)) (by omega))) one_x (by unfold maxLen; omega) (by omega) (by first | (simp; done) | (simp; omega) | omega) ((0) + 1) (by first | (simp; done) | (simp; omega) | omega) ?_); intro g2 cap2 w2 hown2 hgr2; (have hgrow := hgr2); (have hlw1 := (hown1.lt g1 rfl).1); (have hd : w.heap.size ≤ g1 := by omega); (have hne : g < g1 := by omega); (have hw2 : w1.heap.size ≤ w2.heap.size := by (have hq := hgr2.size; (try simp at hq); omega)))
                | ((try go_split_ands); (refine step_app (by rfl) (.tmp 41) (.tmp 44) 22 (by rfl) W.heap.size 2 i0 (.int .i64 0) 1 8 Try.underlying22 hi hz0 hz1 hz2 rfl (by decide) (g2) ((0) + 1) (cap2) ((L.take (0)).map iv ++ [iv x]) (by rfl) (hown2) (⟨g, 0, none⟩) (0) (0) ((L.drop (0)).map iv) (by rfl) TZ.out (news_none (by omega)) one_iv (by unfold maxLen; omega) (by omega) (by first | (simp; done) | (simp; omega) | omega) (L.length + 1) (by first | (simp; done) | (simp; omega) | omega) ?_); intro g3 cap3 w3 hown3 hgr3; (have hgrow := hgr3); (have hlw2 := (hown2.lt g2 rfl).1); (have hd : w.heap.size ≤ g2 := by omega); (have hne : g < g2 := by omega)))
            all_goals
              go_split_ands
              have HF := Lib.hid (SortRel.ins (w := w) (zs := zs) (k := k) (a := 0) (x := x) hlt HX.out HSO.out HPE.out hpl HGT.out HLOW.out hwW (by omega) (by simp [iv]) hown3 (by assumption))
              go_wp2
              go_roundw
              case rel => exact ⟨k + 1, by omega, by go_num, by first | exact HF.out | simpa using HF.out⟩
              case measure => simp [intOf]; omega
          · have hca2 : ¬ (cap : Int) = (0 : Int) := by omega
            go_region_held3 (fun w' => w'.cell? ⟨b, off + k, none⟩ = some (.int .i64 x) ∧ w'.ownsRow w.heap.size 2 1 (.slice (some ⟨g, 0, none⟩) L.length (cap)) L.length (L.map iv) ∧ Below w.heap.size w w')
              (first
                | (exact ⟨hcW, hoW, hbW.drew⟩)
                | (go_split_ands; exact s3_grown ⟨by assumption, by assumption, by assumption⟩ hgrow hd hne hB)
                | (go_split_ands; exact s3_alloc ⟨by assumption, by assumption, by assumption⟩ _))
              (first
                | ((try go_split_ands); (refine step_app (by rfl) (.tmp 31) (.tmp 34) 22 (by rfl) W.heap.size 2 i0 (.int .i64 0) 1 8 Try.underlying22 hi hz0 hz1 hz2 rfl (by decide) (W.heap.size) (0) (0) ([]) (by rfl) (by first | exact own_lit_at rfl (Nat.le_refl _) | exact (own_lit_at rfl (Nat.le_refl _)).alloc _) (⟨g, 0, none⟩) (0) (cap) ((L.take (0)).map iv) (by rfl) TK.out (news_take (by assumption)) one_iv (by unfold maxLen; omega) (by omega) (by first | (simp; done) | (simp; omega) | omega) (0) (by first | (simp; done) | (simp; omega) | omega) ?_); intro g1 cap1 w1 hown1 hgr1; (simp only [List.nil_append] at hown1); (have hgrow := hgr1); (have hd : w.heap.size ≤ W.heap.size := by omega); (have hne : g < W.heap.size := by omega); (have hw1 : W.heap.size + 1 ≤ w1.heap.size := by (have hq := hgr1.size; simp at hq; omega)))
                | ((try go_split_ands); (refine step_app (by rfl) (.tmp 31) (.tmp 34) 22 (by rfl) W.heap.size 2 i0 (.int .i64 0) 1 8 Try.underlying22 hi hz0 hz1 hz2 rfl (by decide) (W.heap.size + 1) (0) (0) ([]) (by rfl) (own_lit_at (by simp) (by simp)) (⟨g, 0, none⟩) (0) (cap) ((L.take (0)).map iv) (by rfl) TK.out (news_take (by assumption)) one_iv (by unfold maxLen; omega) (by omega) (by first | (simp; done) | (simp; omega) | omega) (0) (by first | (simp; done) | (simp; omega) | omega) ?_); intro g1 cap1 w1 hown1 hgr1; (simp only [List.nil_append] at hown1); (have hgrow := hgr1); (have hd : w.heap.size ≤ (W.heap.size + 1) := by omega); (have hne : g < (W.heap.size + 1) := by omega); (have hw1 : W.heap.size + 1 ≤ w1.heap.size := by (have hq := hgr1.size; simp at hq; omega)))
                | ((try go_split_ands); (refine step_app (by rfl) (.tmp 35) (.tmp 40) 22 (by rfl) W.heap.size 2 i0 (.int .i64 0) 1 8 Try.underlying22 hi hz0 hz1 hz2 rfl (by decide) (g1) (0) (cap1) ((L.take (0)).map iv) (by rfl) (by first | exact hown1 | exact hown1.alloc _) (⟨w1.heap.size, 0, none⟩) (1) (1) ([iv x]) (by rfl) rfl (news_x (cell_new_at rfl)) one_x (by unfold maxLen; omega) (by omega) (by first | (simp; done) | (simp; omega) | omega) ((0) + 1) (by first | (simp; done) | (simp; omega) | omega) ?_); intro g2 cap2 w2 hown2 hgr2; (have hgrow := hgr2); (have hlw1 := (hown1.lt g1 rfl).1); (have hd : w.heap.size ≤ g1 := by omega); (have hne : g < g1 := by omega); (have hw2 : w1.heap.size ≤ w2.heap.size := by (have hq := hgr2.size; (try simp at hq); omega)))
                | ((try go_split_ands); (refine step_app (by rfl) (.tmp 35) (.tmp 40) 22 (by rfl) W.heap.size 2 i0 (.int .i64 0) 1 8 Try.underlying22 hi hz0 hz1 hz2 rfl (by decide) (g1) (0) (cap1) ((L.take (0)).map iv) (by rfl) (by first | exact hown1 | exact hown1.alloc _) (⟨W.heap.size + 1, 0, none⟩) (1) (1) ([iv x]) (by rfl) rfl (news_x (cell_far1 hgr1 (cell_new_at (by simp)) (by omega))) one_x (by unfold maxLen; omega) (by omega) (by first | (simp; done) | (simp; omega) | omega) ((0) + 1) (by first | (simp; done) | (simp; omega) | omega) ?_); intro g2 cap2 w2 hown2 hgr2; (have hgrow := hgr2); (have hlw1 := (hown1.lt g1 rfl).1); (have hd : w.heap.size ≤ g1 := by omega); (have hne : g < g1 := by omega); (have hw2 : w1.heap.size ≤ w2.heap.size := by (have hq := hgr2.size; (try simp at hq); omega)))
                | ((try go_split_ands); (refine step_app (by rfl) (.tmp 35) (.tmp 40) 22 (by rfl) W.heap.size 2 i0 (.int .i64 0) 1 8 Try.underlying22 hi hz0 hz1 hz2 rfl (by decide) (g1) (0) (cap1) ((L.take (0)).map iv) (by rfl) (by first | exact hown1 | exact hown1.alloc _) (⟨W.heap.size, 0, none⟩) (1) (1) ([iv x]) (by rfl) rfl (news_x (cell_far1 hgr1 ((World.cell?_alloc_lt _ _ _ (by simp)).trans (cell_new_at rfl)) (by omega))) one_x (by unfold maxLen; omega) (by omega) (by first | (simp; done) | (simp; omega) | omega) ((0) + 1) (by first | (simp; done) | (simp; omega) | omega) ?_); intro g2 cap2 w2 hown2 hgr2; (have hgrow := hgr2); (have hlw1 := (hown1.lt g1 rfl).1); (have hd : w.heap.size ≤ g1 := by omega); (have hne : g < g1 := by omega); (have hw2 : w1.heap.size ≤ w2.heap.size := by (have hq := hgr2.size; (try simp at hq); omega)))
                | ((try go_split_ands); (refine step_app (by rfl) (.tmp 41) (.tmp 44) 22 (by rfl) W.heap.size 2 i0 (.int .i64 0) 1 8 Try.underlying22 hi hz0 hz1 hz2 rfl (by decide) (g2) ((0) + 1) (cap2) ((L.take (0)).map iv ++ [iv x]) (by rfl) (hown2) (⟨g, 0, none⟩) (L.length - (0)) (cap - (0)) ((L.drop (0)).map iv) (by rfl) TD.out (news_drop (by assumption)) one_iv (by unfold maxLen; omega) (by omega) (by first | (simp; done) | (simp; omega) | omega) (L.length + 1) (by first | (simp; done) | (simp; omega) | omega) ?_); intro g3 cap3 w3 hown3 hgr3; (have hgrow := hgr3); (have hlw2 := (hown2.lt g2 rfl).1); (have hd : w.heap.size ≤ g2 := by omega); (have hne : g < g2 := by omega)))
            all_goals
              go_split_ands
              have HF := Lib.hid (SortRel.ins (w := w) (zs := zs) (k := k) (a := 0) (x := x) hlt HX.out HSO.out HPE.out hpl HGT.out HLOW.out hwW (by omega) (by simp [iv]) hown3 (by assumption))
              go_wp2
              go_roundw
              case rel => exact ⟨k + 1, by omega, by go_num, by first | exact HF.out | simpa using HF.out⟩
              case measure => simp [intOf]; omega
    · obtain rfl : k = zs.length := by omega
      go_wp2
      go_ret
      exact ⟨_, rfl, g, cap, L, rfl, HO.out, HSO.out, HPE.out, HBE.out⟩
end Go.Proofs.Ytndbpekmjpelaaa
