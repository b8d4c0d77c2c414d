/- Contracts of the laws' helpers on slices of slices of integers: compared, measured, copied into new memory, marked. -/
import Derived.Test.YtlahgdhofakinaaRwA
import Derived.Laws.MakeOwn
import Derived.BigQuiet
namespace Go.Proofs.Ytlahgdhofakinaa
open Go.ChangeShapes Go.WideShapes Go.ChangeAt Go.RowKit Go.Shelf Num
set_option linter.unusedVariables false
set_option linter.unusedSimpArgs false
/-- a callee that only draws, met in a region that only reads -/
theorem dqR_call {P : Program} {f : FuncId} {args : Array Value} {w : World} {v : Value} {n : Nat} (h : Calls P f args (w.drewN n) fun e w' => e = .returned v ∧ ∃ k, w' = (w.drewN n).drewN k) : Calls P f args (w.drewN n) fun e w2 => e = .returned v ∧ ∃ m, w2 = w.drewN m :=
  h.mono fun e w2 ⟨he, k, hw⟩ => ⟨he, n + k, by rw [hw, World.drewN_drewN]⟩
set_option maxHeartbeats 1000000 in
theorem eqs_any (w : World) (B : Nat) (a b : Option Addr) (c d : Nat) (zss : List (List Int)) (hl : zss.length ≤ 1048576) (hr : ∀ j, j < zss.length → (gR zss j).length ≤ 1048576) (hx : RwL w B a zss) (hy : RwL w B b zss) :
    Calls Try.prog 52 #[.slice a zss.length c, .slice b zss.length d] w fun e w' => e = .returned (.bool true) ∧ ∃ n, w' = w.drewN n := by
  have HR := Lib.hid hr
  obtain ⟨n, hn⟩ : ∃ n, zss.length = n := ⟨_, rfl⟩
  rw [hn] at hl ⊢
  have N1 := Lib.hid hn
  have HX := Lib.hid hx
  have HY := Lib.hid hy
  clear hn hx hy hr
  go_enter Try.func52, Try.ntmps52
  go_wp2
  go_loopw [5] (fun i wr => ∃ k : Nat, (∃ m, wr = w.drewN m) ∧ k ≤ n ∧ i = .int .i64 k) (fun i _ => n - (intOf i).toNat)
  case atStart => exact ⟨0, ⟨0, rfl⟩, by omega, rfl⟩
  case round =>
    obtain ⟨k, hm, hk, rfl⟩ := hrel
    have HM := Lib.hid hm
    have hb : Below B w wr := by obtain ⟨m, rfl⟩ := hm; exact bel_drewN (Below.refl _ _) _
    replace HX := Lib.hid (HX.out.below hb)
    replace HY := Lib.hid (HY.out.below hb)
    clear hm hb
    by_cases hlt : k < n
    · obtain ⟨b1, o1, p, cp, rfl, -, hc1, -, hp⟩ := HX.out.at_ (j := k) (by rw [N1.out]; exact hlt)
      obtain ⟨b2, o2, q, cq, rfl, -, hc2, -, hq⟩ := HY.out.at_ (j := k) (by rw [N1.out]; exact hlt)
      have hL := HR.out k (by rw [N1.out]; exact hlt)
      have K : Hid (∀ m, Calls Try.prog 54 #[.slice p (gR zss k).length cp, .slice q (gR zss k).length cq] (wr.drewN m) fun e w' => e = .returned (.bool true) ∧ ∃ j, w' = (wr.drewN m).drewN j) :=
        Lib.hid (fun m => (eqi_any (wr.drewN m) B p q cp cq (gR zss k) (gR zss k) (by omega) (by omega) (hp.drewN m) (hq.drewN m)).mono (by rintro e w' ⟨rfl, j, rfl⟩; exact ⟨by rw [sameB_t rfl], j, rfl⟩))
      obtain ⟨L, hLe⟩ : ∃ L, (gR zss k).length = L := ⟨_, rfl⟩
      rw [hLe] at hc1 hc2 K
      clear hLe hp hq hL
      go_wp2
      go_quiet (first | (go_at_call 54; (with_reducible exact dqR_call (K.out _))) | fail)
      go_wp2
      go_roundw
      case rel => exact ⟨k + 1, by obtain ⟨m, hm⟩ := HM.out; exact ⟨m + nq, by rw [hm, World.drewN_drewN]⟩, by omega, by go_num⟩
      case measure => simp [intOf]; omega
    · go_wp2
      go_ret
      exact ⟨rfl, HM.out⟩
/-- the number of elements of the first j rows -/
def totR (zss : List (List Int)) : Nat → Nat | 0 => 0 | j + 1 => totR zss j + (gR zss j).length
theorem totR_succ (zss : List (List Int)) (j : Nat) : totR zss (j + 1) = totR zss j + (gR zss j).length := rfl
theorem totR_mono (zss : List (List Int)) {i j : Nat} (h : i ≤ j) : totR zss i ≤ totR zss j := by
  induction j with
  | zero => exact (by omega : i = 0) ▸ Nat.le_refl _
  | succ j ih =>
    rcases Nat.lt_or_ge i (j + 1) with l | l
    · have := ih (by omega); rw [totR_succ]; omega
    · obtain rfl : i = j + 1 := by omega
      exact Nat.le_refl _
theorem totR_row (zss : List (List Int)) {j n : Nat} (h : j < n) : (gR zss j).length ≤ totR zss n := by
  have := totR_mono zss (show j + 1 ≤ n by omega)
  rw [totR_succ] at this
  omega
/-- what is left of a size: what the laws' measure answers -/
def szR (zss : List (List Int)) (left : Int) : Int := if left - (zss.length : Int) - (totR zss zss.length : Int) < 0 then -1 else left - (zss.length : Int) - (totR zss zss.length : Int)
set_option maxHeartbeats 1000000 in
theorem szs_any (w : World) (B : Nat) (a : Option Addr) (cap : Nat) (zss : List (List Int)) (left : Int) (hl : zss.length ≤ 9223372036854775807) (hr : ∀ j, j < zss.length → (gR zss j).length ≤ 9223372036854775807) (l0 : 0 ≤ left) (l1 : left ≤ 1048576) (hx : RwL w B a zss) :
    Calls Try.prog 50 #[.slice a zss.length cap, .int .i64 left] w fun e w' => e = .returned (.int .i64 (szR zss left)) ∧ w = w' := by
  have HR := Lib.hid hr
  have HX := Lib.hid hx
  clear hr hx
  have hw : IntKind.wrap .i64 (left - (zss.length : Int)) = left - (zss.length : Int) := IntWalk.i64_in _ (by omega)
  obtain ⟨n, hn⟩ : ∃ n, zss.length = n := ⟨_, rfl⟩
  have HE : Hid (szR zss left = if left - (n : Int) - (totR zss n : Int) < 0 then -1 else left - (n : Int) - (totR zss n : Int)) := Lib.hid (by unfold szR; rw [hn])
  rw [hn] at hl hw ⊢
  have N1 := Lib.hid hn
  clear hn
  by_cases hneg : left - (n : Int) < 0
  · go_enter Try.func50, Try.ntmps50
    go_wp2
    go_ret
    exact ⟨ret_int (by rw [HE.out, if_pos (by omega)]), rfl⟩
  go_enter Try.func50, Try.ntmps50
  go_wp2
  clear hw
  go_loop [1, 5] (fun s i => ∃ k : Nat, k ≤ n ∧ i = .int .i64 k ∧ s = .int .i64 (left - (n : Int) - (totR zss k : Int)) ∧ 0 ≤ left - (n : Int) - (totR zss k : Int)) (fun _ i => n - (intOf i).toNat)
  case atStart => exact ⟨0, by omega, rfl, by simp [totR], by simp [totR]; omega⟩
  case round =>
    obtain ⟨k, hk, rfl, rfl, hs0⟩ := hrel
    by_cases hlt : k < n
    · obtain ⟨b, off, p, c, rfl, -, hc, -, -⟩ := HX.out.at_ (j := k) (by rw [N1.out]; exact hlt)
      have hL := HR.out k (by rw [N1.out]; exact hlt)
      have hts := totR_succ zss k
      have HTM := Lib.hid (totR_mono zss (show k + 1 ≤ n by omega))
      obtain ⟨L, hLe⟩ : ∃ L, (gR zss k).length = L := ⟨_, rfl⟩
      obtain ⟨t, ht⟩ : ∃ t, totR zss k = t := ⟨_, rfl⟩
      rw [hLe] at hc hL hts
      rw [ht] at hs0 hts ⊢
      have HTS := Lib.hid hts
      clear hLe ht hts
      obtain ⟨S, hS⟩ : ∃ S, left - (n : Int) - (t : Int) = S := ⟨_, rfl⟩
      have hS1 : S ≤ 1048576 := by omega
      rw [hS] at hs0 ⊢
      have HS := Lib.hid hS
      clear hS
      by_cases h : S - (L : Int) < 0
      · have K : Hid (∀ w : World, _) := Lib.hid (fun w => szi_any w p c L S (by omega) (by omega) hL)
        rw [if_pos h] at K
        go_wp2_with (go_at_call 96; refine (K.out _).mono ?_; rintro e w' ⟨rfl, rfl⟩)
        go_ret
        exact ⟨ret_int (by rw [HE.out, if_pos (by have := HTM.out; have := HTS.out; have := HS.out; omega)]), rfl⟩
      · have K : Hid (∀ w : World, _) := Lib.hid (fun w => szi_any w p c L S (by omega) (by omega) hL)
        rw [if_neg h] at K
        go_wp2_with (go_at_call 96; refine (K.out _).mono ?_; rintro e w' ⟨rfl, rfl⟩)
        go_round
        case rel => exact ⟨k + 1, by omega, by go_num, by rw [HTS.out]; congr 1; have := HS.out; omega, by rw [HTS.out]; have := HS.out; omega⟩
        case measure => simp [intOf]; omega
    · obtain rfl : k = n := by omega
      go_wp2
      go_ret
      exact ⟨ret_int (by rw [HE.out, if_neg (by omega)]), rfl⟩
theorem szR_fit {zss : List (List Int)} (h : 0 ≤ szR zss 1048576) : zss.length + totR zss zss.length ≤ 1048576 := by
  unfold szR at h
  split at h <;> omega
/-- rows of one's own -/
def slV (zss : List (List Int)) (qs : Nat → Option Addr × Nat) (j : Nat) : Value := .slice (qs j).1 (gR zss j).length (qs j).2
structure OwnR (w : World) (lo hi : Nat) (a : Option Addr) (c : Nat) (qs : Nat → Option Addr × Nat) (zss : List (List Int)) : Prop where
  own : w.ownsRow lo 38 1 (.slice a zss.length c) zss.length ((List.range zss.length).map (slV zss qs))
  lt : ∀ g, (Value.slice a zss.length c).ownBlock = some g → g < hi
  up : hi ≤ w.heap.size
  inn : ∀ j, j < zss.length → OwnA w lo hi (qs j).1 (qs j).2 (gR zss j)
  ne : ∀ i j, i < j → j < zss.length → ∀ x y : Addr, (qs i).1 = some x → (qs j).1 = some y → x.block ≠ y.block
theorem row_ty {w : World} {B n m : Nat} {t : TypeId} {v : Value} {xs : List Value} (h : w.ownsRow B t m v n xs) {g : Nat} (hg : v.ownBlock = some g) : ∃ cur, w.heap[g]? = some (.cells cur t (0, 0)) := by
  rcases h.2 with ⟨hv, -⟩ | ⟨g', cap, cur, hv, _, hh, _⟩
  · rw [hv] at hg; simp [Value.ownBlock] at hg
  · rw [hv] at hg
    simp only [Value.ownBlock, Option.map_some, Option.some.injEq] at hg
    subst hg
    exact ⟨cur, hh⟩
theorem ty_far {w : World} {B B' n m n' m' : Nat} {t t' : TypeId} {v v' : Value} {xs xs' : List Value} (h : w.ownsRow B t m v n xs) (h' : w.ownsRow B' t' m' v' n' xs') (ht : t ≠ t') {g : Nat} (hg : v.ownBlock = some g) : v'.ownBlock ≠ some g := fun e => by
  obtain ⟨c1, e1⟩ := row_ty h hg
  obtain ⟨c2, e2⟩ := row_ty h' e
  have := e1.symm.trans e2
  simp only [Option.some.injEq, Obj.cells.injEq] at this
  exact ht this.2.1
theorem ownA_frame {w w' : World} {lo hi : Nat} {a : Option Addr} {c : Nat} {zs : List Int} (h : OwnA w lo hi a c zs) (hk : ∀ g, (Value.slice a zs.length c).ownBlock = some g → w'.heap[g]? = w.heap[g]?) (hs : w.heap.size ≤ w'.heap.size) : OwnA w' lo hi a c zs :=
  ⟨own_at h.own hk, h.lt, Nat.le_trans h.up hs⟩
theorem ownG_frame {w w' : World} {B n : Nat} {t : TypeId} {a : Option Addr} {c : Nat} {xs : List Value} (h : w.ownsRow B t 1 (.slice a n c) n xs) (hk : ∀ g, (Value.slice a n c).ownBlock = some g → w'.heap[g]? = w.heap[g]?) : w'.ownsRow B t 1 (.slice a n c) n xs := own_atG h hk
theorem OwnR.on {w w' : World} {lo hi : Nat} {a : Option Addr} {c : Nat} {qs : Nat → Option Addr × Nat} {zss : List (List Int)} (h : OwnR w lo hi a c qs zss) (hb : Below w.heap.size w w') : OwnR w' lo hi a c qs zss :=
  ⟨own_bel h.own hb, h.lt, Nat.le_trans h.up hb.size, fun j hj => (h.inn j hj).on hb, h.ne⟩
theorem OwnR.kept {w w' : World} {lo hi l i : Nat} {a : Option Addr} {c : Nat} {qs : Nat → Option Addr × Nat} {zss : List (List Int)} (h : OwnR w lo hi a c qs zss) (hk : Kept l i w w') (hd : hi ≤ l ∨ i ≤ lo) : OwnR w' lo hi a c qs zss :=
  ⟨ownG_frame h.own (fun g e => hk.block g (h.own.lt g e).2 (by have := (h.own.lt g e).1; have := h.lt g e; omega)), h.lt, Nat.le_trans h.up hk.size, fun j hj => (h.inn j hj).kept hk hd, h.ne⟩
theorem OwnR.less {w : World} {lo lo' hi : Nat} {a : Option Addr} {c : Nat} {qs : Nat → Option Addr × Nat} {zss : List (List Int)} (h : OwnR w lo hi a c qs zss) (hl : lo' ≤ lo) : OwnR w lo' hi a c qs zss :=
  ⟨World.ownsRow.mono h.own hl, h.lt, h.up, fun j hj => (h.inn j hj).less hl, h.ne⟩
theorem OwnR.rows {w : World} {lo hi : Nat} {a : Option Addr} {c : Nat} {qs : Nat → Option Addr × Nat} {zss : List (List Int)} (h : OwnR w lo hi a c qs zss) : RwL w w.heap.size a zss := fun hp => by
  rcases h.own.2 with ⟨hv, -⟩ | ⟨g, cap, cur, hv, _, hh, _⟩
  · simp only [Value.slice.injEq] at hv; omega
  · simp only [Value.slice.injEq] at hv
    obtain ⟨rfl, -, rfl⟩ := hv
    refine ⟨g, 0, rfl, (h.own.lt g rfl).2, fun j hj => ⟨(qs j).1, (qs j).2, ?_, own_caps (h.inn j hj).own, (h.inn j hj).ints⟩⟩
    rw [Nat.zero_add, h.own.cellAt j (by omega), List.getElem?_map, List.getElem?_range hj]
    rfl
theorem OwnR.cap {w : World} {lo hi : Nat} {a : Option Addr} {c : Nat} {qs : Nat → Option Addr × Nat} {zss : List (List Int)} (h : OwnR w lo hi a c qs zss) : zss.length ≤ c := own_caps h.own
/-- the elements up to k, nil behind -/
def preS (f : Nat → Value) (n k : Nat) : List Value := (List.range n).map (fun j => if j < k then f j else .slice none 0 0)
theorem preS_len (f : Nat → Value) (n k : Nat) : (preS f n k).length = n := by simp [preS]
theorem preS_0 (f : Nat → Value) (n : Nat) : preS f n 0 = List.replicate n (.slice none 0 0) := by
  unfold preS
  apply List.ext_getElem (by simp)
  intro i h1 h2
  simp
theorem preS_congr {f g : Nat → Value} {n k : Nat} (h : ∀ j, j < k → f j = g j) : preS f n k = preS g n k := by
  unfold preS
  apply List.map_congr_left
  intro j _
  by_cases hj : j < k
  · rw [if_pos hj, if_pos hj, h j hj]
  · rw [if_neg hj, if_neg hj]
theorem preS_set (f : Nat → Value) {n k : Nat} (v : Value) (hv : f k = v) : (preS f n k).set k v = preS f n (k + 1) := by
  unfold preS
  apply List.ext_getElem (by simp)
  intro i h1 h2
  rw [List.getElem_set]
  simp only [List.getElem_map, List.getElem_range]
  by_cases e : k = i
  · subst e; rw [if_pos rfl, if_pos (by omega), hv]
  · rw [if_neg e]
    by_cases h : i < k
    · rw [if_pos h, if_pos (by omega)]
    · rw [if_neg h, if_neg (by omega)]
theorem preS_end (f : Nat → Value) (n : Nat) : preS f n n = (List.range n).map f := by
  unfold preS
  apply List.map_congr_left
  intro j hj
  rw [if_pos (List.mem_range.1 hj)]
theorem info_sl : (Try.prog.info? 38).map (fun i => (i.zero, i.size, i.bytes)) = some (some (.slice none 0 0), 1, 24) := by kernel_rfl
/-- a row made of nil slices -/
theorem rowS_zeros (w : World) (n : Nat) (hn : n ≤ maxLen) : RowG w 38 1 w.heap.size n n (List.replicate n (.slice none 0 0)) (w.alloc (.cells (madeCells #[.slice none 0 0] n) 38)) :=
  ⟨by
    have h := World.ownsRow_lit (base := w.heap.size) (e := 38) (size := 1) w (madeCells #[.slice none 0 0] n) n (Nat.le_refl _) hn (by simp [size_madeCells])
    have e : (madeCells #[.slice none 0 0] n).toList = List.replicate n (.slice none 0 0) := by
      apply List.ext_getElem (by simp [size_madeCells])
      intro i h1 h2
      simp [madeCells, Nat.mod_one]
    rwa [e] at h, (Below.refl _ _).alloc (Nat.le_refl _) _⟩
theorem RowG.setV {w1 W : World} {t : TypeId} {g c n : Nat} {L : List Value} (h : RowG w1 t 1 g c n L W) (j : Nat) (v : Value) : RowG w1 t 1 g c n (L.set j v) (W.setCell ⟨g, j, none⟩ v) :=
  ⟨(h.own.stored j v).1, h.bel.setCell (by have := h.lo; simp; omega) _⟩
theorem ownA_newR {W : World} {g lo : Nat} {zs : List Int} (h : W.rowIs g 2 zs.length (cellsOf zs)) (hl : lo ≤ g) (hn : zs.length ≤ 1048576) : OwnA W lo W.heap.size (some ⟨g, 0, none⟩) zs.length zs := by
  obtain ⟨cs, hg, hs, hc⟩ := h
  have hlt := (Array.getElem?_eq_some_iff.1 hg).1
  refine ⟨⟨by simp, Or.inr ⟨g, zs.length, cs, rfl, hl, hg, Nat.le_refl _, by unfold maxLen; omega, by rw [hs, Nat.mul_one], ?_⟩⟩, fun g' e => ?_, Nat.le_refl _⟩
  · rw [Nat.mul_one, ← hs, List.take_of_length_le (by simp)]
    apply List.ext_getElem (by simp [hs])
    intro i h1 h2
    have hi : i < zs.length := by simpa using h2
    have := hc i hi
    rw [Array.getElem?_eq_getElem (by omega)] at this
    simp only [Option.some.injEq] at this
    rw [Array.getElem_toList, this, List.getElem_map]
    unfold cellsOf iv4
    rw [List.getD_eq_getElem?_getD, List.getElem?_eq_getElem hi]; rfl
  · simp only [Value.ownBlock, Option.map_some, Option.some.injEq] at e
    subst e
    exact hlt
theorem ownA_setR {W : World} {M hi : Nat} {a : Option Addr} {c : Nat} {L : List Int} (h : OwnA W M hi a c L) {g : Nat} (hg : g < M) (j : Nat) (v : Value) : OwnA (W.setCell ⟨g, j, none⟩ v) M (W.setCell ⟨g, j, none⟩ v).heap.size a c L :=
  ⟨own_at h.own (fun g' e => Below.heap_setCell W ⟨g, j, none⟩ v g' (by have := (h.own.lt g' e).1; simp; omega)), fun g' e => by simpa using (h.own.lt g' e).2, Nat.le_refl _⟩
set_option maxRecDepth 100000 in
set_option maxHeartbeats 2000000 in
theorem tos_any (w : World) (a : Option Addr) (cap : Nat) (zss : List (List Int)) (hl : zss.length ≤ 1048576) (hr : ∀ j, j < zss.length → (gR zss j).length ≤ 1048576) (hx : RwL w w.heap.size a zss) :
    Calls Try.prog 51 #[.slice a zss.length cap] w fun e w' => ∃ (G : Nat) (qs : Nat → Option Addr × Nat), e = .returned (.slice (some ⟨G, 0, none⟩) zss.length zss.length) ∧ OwnR w' w.heap.size w'.heap.size (some ⟨G, 0, none⟩) zss.length qs zss ∧ Below w.heap.size w w' := by
  have HR := Lib.hid hr
  have HX := Lib.hid hx
  clear hr hx
  obtain ⟨n, hn⟩ : ∃ n, zss.length = n := ⟨_, rfl⟩
  rw [hn] at hl ⊢
  have N1 := Lib.hid hn
  clear hn
  have hmk : ∀ w, (Instr.makeSlice 28 (.int .i64 n) (.int .i64 n)).run Try.prog w = .ok (.slice (some ⟨w.heap.size, 0, none⟩) n n) (w.alloc (.cells (madeCells #[.slice none 0 0] n) 38)) := fun w => run_make_row' (P := Try.prog) 28 38 (.slice none 0 0) 24 Try.underlying28 info_sl rfl .i64 .i64 n (by omega) (by omega) w
  go_enter Try.func51, Try.ntmps51
  go_wp2_with fail
  clear hmk
  have HO0 := Lib.hid (rowS_zeros w n (by unfold maxLen; omega))
  go_loopw [4] (fun i wr => ∃ (k : Nat) (qs : Nat → Option Addr × Nat), k ≤ n ∧ i = .int .i64 k ∧ RowG w 38 1 w.heap.size n n (preS (slV zss qs) n k) wr ∧ (∀ j, j < k → OwnA wr (w.heap.size + 1) wr.heap.size (qs j).1 (qs j).2 (gR zss j)) ∧ (∀ i j, i < j → j < k → ∀ x y : Addr, (qs i).1 = some x → (qs j).1 = some y → x.block ≠ y.block)) (fun i _ => n - (intOf i).toNat)
  case atStart => exact ⟨0, fun _ => (none, 0), by omega, rfl, by rw [preS_0]; exact HO0.out, fun j hj => by omega, fun i j hi hj => by omega⟩
  case round =>
    obtain ⟨k, qs, hk, rfl, hO, hI, hN⟩ := hrel
    have HO := Lib.hid hO
    have HI := Lib.hid hI
    have HN := Lib.hid hN
    clear hO hI hN HO0
    by_cases hlt : k < n
    · obtain ⟨b, off, p, c, rfl, -, hc, -, hp⟩ := (HX.out.below HO.out.bel).at_ (j := k) (by rw [N1.out]; exact hlt)
      have hL := HR.out k (by rw [N1.out]; exact hlt)
      have hz : Ints .i64 wr wr.heap.size p (gR zss k) := hp.more HO.out.bel.size
      have K := Lib.hid (to_any wr p c (gR zss k) (by omega) hz)
      have HLE : Hid (∃ L, (gR zss k).length = L) := Lib.hid ⟨_, rfl⟩
      clear hp hz
      go_wp2_with fail
      refine K.out.mono ?_
      rintro e w2 ⟨g, rfl, hg, hrw, hb⟩
      have HZ := Lib.hid (ownA_newR (lo := wr.heap.size) hrw hg (by omega))
      have hwr := HO.out.up
      replace HO := Lib.hid (HO.out.on hb)
      have HI2 : Hid (∀ j, j < k → OwnA w2 (w.heap.size + 1) wr.heap.size (qs j).1 (qs j).2 (gR zss j)) := Lib.hid (fun j hj => (HI.out j hj).on hb)
      have ho : w2.cell? ⟨w.heap.size, k, none⟩ = some (.slice none 0 0) := by
        rw [HO.out.own.cellAt k (by omega)]
        unfold preS
        rw [List.getElem?_map, List.getElem?_range hlt]
        simp
      have hf := HO.out.own.frozenAt k
      clear hb hrw K HI
      obtain ⟨L, hLe⟩ := HLE.out
      rw [hLe] at HZ ⊢
      have HLL := Lib.hid hLe
      clear hLe
      go_wp2_with fail
      go_roundw
      case rel =>
        refine ⟨k + 1, fun j => if j = k then (some ⟨g, 0, none⟩, L) else qs j, by omega, by go_num, ?_, fun j hj => ?_, fun i j hi hj x y ex ey => ?_⟩
        · have e1 : preS (slV zss (fun j => if j = k then (some ⟨g, 0, none⟩, L) else qs j)) n (k + 1) = (preS (slV zss qs) n k).set k (.slice (some ⟨g, 0, none⟩) L L) := by
            rw [← preS_set (n := n) (slV zss (fun j => if j = k then (some ⟨g, 0, none⟩, L) else qs j)) (k := k) (.slice (some ⟨g, 0, none⟩) L L) (by unfold slV; dsimp only; rw [if_pos rfl, HLL.out])]
            congr 1
            refine preS_congr fun j hj => ?_
            unfold slV
            dsimp only
            rw [if_neg (by omega)]
          rw [e1]
          exact HO.out.setV k _
        · by_cases e : j = k
          · subst e
            dsimp only
            rw [if_pos rfl]
            exact (ownA_setR HZ.out (by omega) _ _).less (by omega)
          · dsimp only
            rw [if_neg e]
            exact ownA_setR (HI2.out j (by omega)) (Nat.lt_succ_self _) _ _
        · have hik : i ≠ k := by omega
          dsimp only at ex ey
          rw [if_neg hik] at ex
          by_cases e : j = k
          · rw [if_pos e] at ey
            simp only [Option.some.injEq] at ey
            subst ey
            have := (HI2.out i (by omega)).lt x.block (by rw [ex]; rfl)
            dsimp only
            omega
          · rw [if_neg e] at ey
            exact HN.out i j hi (by omega) x y ex ey
      case measure => simp [intOf]; omega
    · obtain rfl : k = n := by omega
      go_wp2
      go_ret
      exact ⟨w.heap.size, qs, rfl, ⟨by rw [N1.out, ← preS_end]; exact HO.out.own, fun g e => (by rw [N1.out] at e; exact (HO.out.own.lt g e).2), Nat.le_refl _, fun j hj => (HI.out j (by rw [N1.out] at hj; exact hj)).less (Nat.le_succ _), fun i j hi hj => HN.out i j hi (by rw [N1.out] at hj; exact hj)⟩, HO.out.bel⟩
end Go.Proofs.Ytlahgdhofakinaa
