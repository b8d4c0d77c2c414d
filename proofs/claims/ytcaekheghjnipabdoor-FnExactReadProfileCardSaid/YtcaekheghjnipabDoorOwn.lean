/- Rows of numbers of one's own, built by append: kept over calls, grown by one, marked. -/
import Derived.Test.YtcaekheghjnipabDoorOwnB
import Derived.Maps.AppendAt
import Derived.Deep.AppendLies
import Derived.Test.YtcaekheghjnipabDoorCut2
import Derived.Deep.Onto
namespace Go.Proofs.YtcaekheghjnipabDoor
open Go.ChangeShapes Go.WideShapes Go.ChangeAt Go.RowKit Go.Shelf Num
set_option linter.unusedVariables false
/-- a row that grows behind the world w1 -/
structure RowIn (w1 : World) (a : Option Addr) (c : Nat) (L : List Int) (W : World) : Prop where
  own : W.ownsRow w1.heap.size 2 1 (.slice a L.length c) L.length (L.map iv4)
  bel : Below w1.heap.size w1 W
theorem RowIn.nil (w1 : World) : RowIn w1 none 0 [] w1 := ⟨World.ownsRow_nil _ _ _ _, Below.refl _ _⟩
theorem RowIn.lit (w1 : World) : RowIn w1 (some ⟨w1.heap.size, 0, none⟩) 0 [] (w1.alloc (.cells #[] 2)) :=
  ⟨World.ownsRow_lit (base := w1.heap.size) (e := 2) (size := 1) w1 #[] 0 (Nat.le_refl _) (by decide) (by decide), (Below.refl _ _).alloc (Nat.le_refl _) _⟩
theorem RowIn.on {w1 W W' : World} {a : Option Addr} {c : Nat} {L : List Int} (h : RowIn w1 a c L W) (hb : Below W.heap.size W W') : RowIn w1 a c L W' := ⟨own_bel h.own hb, bel_end h.bel hb⟩
/-- one number more -/
theorem RowIn.snoc {w1 W w9 : World} {a : Option Addr} {c g cap : Nat} {L : List Int} {x : Int} {o : Obj} (h : RowIn w1 a c L W) (hown : w9.ownsRow w1.heap.size 2 1 (.slice (some ⟨g, 0, none⟩) (L.length + 1) cap) (L.length + 1) (L.map iv4 ++ [.int .i64 x]))
    (hgrow : (W.alloc o).grownBy w9 (Value.slice a L.length c).ownBlock) : RowIn w1 (some ⟨g, 0, none⟩) cap (L ++ [x]) w9 :=
  ⟨by simpa [iv4] using hown, (h.bel.alloc h.bel.size o).grown hgrow (by simp; exact Nat.le_succ_of_le h.bel.size) (fun k e => (h.own.lt k e).1)⟩
/-- a row of one's own between two marks of the memory -/
structure OwnA (w : World) (lo hi : Nat) (a : Option Addr) (c : Nat) (zs : List Int) : Prop where
  own : w.ownsRow lo 2 1 (.slice a zs.length c) zs.length (zs.map iv4)
  lt : ∀ g, (Value.slice a zs.length c).ownBlock = some g → g < hi
  up : hi ≤ w.heap.size
theorem RowIn.ownA {w1 W : World} {a : Option Addr} {c : Nat} {L : List Int} (h : RowIn w1 a c L W) {lo : Nat} (hl : lo ≤ w1.heap.size) : OwnA W lo W.heap.size a c L :=
  ⟨World.ownsRow.mono h.own hl, fun g e => (h.own.lt g e).2, Nat.le_refl _⟩
theorem OwnA.less {w : World} {lo lo' hi : Nat} {a : Option Addr} {c : Nat} {zs : List Int} (h : OwnA w lo hi a c zs) (hl : lo' ≤ lo) : OwnA w lo' hi a c zs := ⟨World.ownsRow.mono h.own hl, h.lt, h.up⟩
theorem OwnP.new2 {w' : World} {s g h : Nat} {zs ys : List Int} (hg : s ≤ g) (hh : g < h) (h1 : w'.rowIs g 2 zs.length (cellsOf zs)) (h2 : w'.rowIs h 2 ys.length (cellsOf ys)) (lz : zs.length ≤ 1048576) (ly : ys.length ≤ 1048576) :
    OwnP w' s w'.heap.size (some ⟨g, 0, none⟩) (some ⟨h, 0, none⟩) zs ys :=
  ⟨Or.inr ⟨g, rfl, hg, h1.lt, h1⟩, Or.inr ⟨h, rfl, by omega, h2.lt, h2⟩, (fun g' h' e e' => by injection e with e; injection e with e; injection e' with e'; injection e' with e'; omega), Nat.le_refl _, lz, ly⟩
/-- a list equals itself -/
theorem eql_any (w : World) (a b : Option Addr) (c d : Nat) (xs : List Int) (hl : xs.length ≤ 1048576) (hx : Ints .i64 w w.heap.size a xs) (hy : Ints .i64 w w.heap.size b xs) :
    Calls Tryd.prog 26 #[.slice a xs.length c, .slice b xs.length d] w fun e w' => e = .returned (.bool true) ∧ Below w.heap.size w w' :=
  (eqi_any w w.heap.size a b c d xs xs (by omega) (by omega) hx hy).mono (by rintro e w' ⟨rfl, n, rfl⟩; exact ⟨by rw [sameB_t rfl], bel_drewN (Below.refl _ _) _⟩)
theorem OwnA.ints {w : World} {lo hi : Nat} {a : Option Addr} {c : Nat} {zs : List Int} (h : OwnA w lo hi a c zs) : Ints .i64 w w.heap.size a zs := own_ints h.own
theorem OwnA.on {w w' : World} {lo hi : Nat} {a : Option Addr} {c : Nat} {zs : List Int} (h : OwnA w lo hi a c zs) (hb : Below w.heap.size w w') : OwnA w' lo hi a c zs := ⟨own_bel h.own hb, h.lt, Nat.le_trans h.up hb.size⟩
theorem own_at {w w' : World} {B n : Nat} {a : Option Addr} {c : Nat} {xs : List Value} (h : w.ownsRow B 2 1 (.slice a n c) n xs) (hk : ∀ g, (Value.slice a n c).ownBlock = some g → w'.heap[g]? = w.heap[g]?) : w'.ownsRow B 2 1 (.slice a n c) n xs := by
  refine ⟨h.1, ?_⟩
  rcases h.2 with h' | ⟨g, cap, cur, hv, hb, hg, rest⟩
  · exact Or.inl h'
  · exact Or.inr ⟨g, cap, cur, hv, hb, (hk g (by rw [hv]; rfl)).trans hg, rest⟩
theorem OwnA.kept {w w' : World} {lo hi l i : Nat} {a : Option Addr} {c : Nat} {zs : List Int} (h : OwnA w lo hi a c zs) (hk : Kept l i w w') (hd : hi ≤ l ∨ i ≤ lo) : OwnA w' lo hi a c zs :=
  ⟨own_at h.own (fun g e => hk.block g (h.own.lt g e).2 (by have := (h.own.lt g e).1; have := h.lt g e; omega)), h.lt, Nat.le_trans h.up hk.size⟩
/-- numbers below a mark -/
structure IntL (w : World) (L : Nat) (a : Option Addr) (zs : List Int) : Prop where
  at_ : Ints .i64 w L a zs
  le : L ≤ w.heap.size
theorem IntL.of {w : World} {a : Option Addr} {zs : List Int} (h : Ints .i64 w w.heap.size a zs) : IntL w w.heap.size a zs := ⟨h, Nat.le_refl _⟩
theorem IntL.on {w w' : World} {L : Nat} {a : Option Addr} {zs : List Int} (h : IntL w L a zs) (hb : Below w.heap.size w w') : IntL w' L a zs := ⟨h.at_.below (hb.mono h.le), Nat.le_trans h.le hb.size⟩
theorem IntL.ints {w : World} {L : Nat} {a : Option Addr} {zs : List Int} (h : IntL w L a zs) : Ints .i64 w w.heap.size a zs := h.at_.more h.le
theorem IntL.kept {w w' : World} {L l i : Nat} {a : Option Addr} {zs : List Int} (h : IntL w L a zs) (hk : Kept l i w w') (hd : L ≤ l) (hl : l ≤ w.heap.size) : IntL w' L a zs := ⟨h.at_.below ((hk.below hl).mono hd), Nat.le_trans h.le hk.size⟩
/-- how far the marks have come -/
def mkV (k : Int) (zs : List Int) (j : Nat) : List Int := ramp k j ++ zs.drop j
theorem mkV_0 (k : Int) (zs : List Int) : mkV k zs 0 = zs := by simp [mkV, ramp]
theorem mkV_len (k : Int) {zs : List Int} {j : Nat} (h : j ≤ zs.length) : (mkV k zs j).length = zs.length := by simp [mkV, ramp_len]; omega
theorem mkV_end (k : Int) (zs : List Int) : mkV k zs zs.length = ramp k zs.length := by simp [mkV]
theorem mkV_set (k : Int) {zs : List Int} {j : Nat} (h : j < zs.length) : (mkV k zs j).set j (k + (j : Int)) = mkV k zs (j + 1) := by
  unfold mkV
  rw [List.set_append_right _ _ (by rw [ramp_len]; exact Nat.le_refl _), ramp_len, Nat.sub_self]
  have hd : zs.drop j = zs[j] :: zs.drop (j + 1) := List.drop_eq_getElem_cons h
  rw [hd, List.set_cons_zero]
  have hr : ramp k (j + 1) = ramp k j ++ [k + (j : Int)] := by unfold ramp; rw [List.range_succ, List.map_append]; rfl
  rw [hr, List.append_assoc]; rfl
theorem own_set {w : World} {B g c n : Nat} {zs : List Int} (h : w.ownsRow B 2 1 (.slice (some ⟨g, 0, none⟩) n c) n (zs.map iv4)) (j : Nat) (x : Int) :
    (w.setCell ⟨g, j, none⟩ (.int .i64 x)).ownsRow B 2 1 (.slice (some ⟨g, 0, none⟩) n c) n ((zs.set j x).map iv4) := by
  have := (h.stored j (.int .i64 x)).1
  rwa [show (zs.set j x).map iv4 = (zs.map iv4).set j (.int .i64 x) by rw [List.map_set]; rfl]
theorem mka_row (w : World) (B g c : Nat) (k : Int) (zs : List Int) (hr : w.ownsRow B 2 1 (.slice (some ⟨g, 0, none⟩) zs.length c) zs.length (zs.map iv4)) (hn : zs.length ≤ 1048576) (k0 : 0 ≤ k) (k1 : k ≤ 4000000) :
    Calls Tryd.prog 27 #[.slice (some ⟨g, 0, none⟩) zs.length c, .int .i64 k] w fun e w' => e = .returned (.int .i64 (k + (zs.length : Int))) ∧ w'.ownsRow B 2 1 (.slice (some ⟨g, 0, none⟩) zs.length c) zs.length ((ramp k zs.length).map iv4) ∧ w.grownBy w' (some g) := by
  have HR := Lib.hid hr
  clear hr
  go_enter Tryd.func27, Tryd.ntmps27
  go_wp2
  go_loopw [1, 5] (fun s i wr => ∃ j : Nat, j ≤ zs.length ∧ i = .int .i64 j ∧ s = .int .i64 (k + (j : Int)) ∧ wr.ownsRow B 2 1 (.slice (some ⟨g, 0, none⟩) zs.length c) zs.length ((mkV k zs j).map iv4) ∧ w.grownBy wr (some g)) (fun _ i _ => zs.length - (intOf i).toNat)
  case atStart => exact ⟨0, by omega, rfl, by simp, by rw [mkV_0]; exact HR.out, grown_id _ _⟩
  case round =>
    obtain ⟨j, hj, rfl, rfl, hrow, hg⟩ := hrel
    by_cases hlt : j < zs.length
    · obtain ⟨u, ho⟩ : ∃ u, wr.cell? ⟨g, j, none⟩ = some u := by
        rw [hrow.cellAt j (by omega), List.getElem?_map, List.getElem?_eq_getElem (by rw [mkV_len k hj]; exact hlt)]
        exact ⟨_, rfl⟩
      have hf := hrow.frozenAt j
      have HW := Lib.hid hrow
      have HG := Lib.hid hg
      clear hrow hg
      go_wp2
      go_roundw
      case rel => exact ⟨j + 1, by omega, by go_num, by go_num, by rw [← mkV_set k hlt]; exact own_set HW.out j _, grown_cell HG.out _ _⟩
      case measure => simp [intOf]; omega
    · obtain rfl : j = zs.length := by omega
      have HW := Lib.hid hrow
      have HG := Lib.hid hg
      clear hrow hg
      go_wp2
      go_ret
      exact ⟨rfl, by rw [← mkV_end k zs]; exact HW.out, HG.out⟩
theorem mkb_any (w : World) (lo hi : Nat) (a : Option Addr) (c : Nat) (zs : List Int) (k : Int) (h : OwnA w lo hi a c zs) (hn : zs.length ≤ 1048576) (k0 : 0 ≤ k) (k1 : k ≤ 4000000) :
    Calls Tryd.prog 27 #[.slice a zs.length c, .int .i64 k] w fun e w' => e = .returned (.int .i64 (k + (zs.length : Int))) ∧ OwnA w' lo hi a c (ramp k zs.length) ∧ w.grownBy w' (Value.slice a zs.length c).ownBlock := by
  rcases h.own.2 with ⟨hv, h0⟩ | ⟨g, cap, cur, hv, hb, hg, rest⟩
  · simp only [Value.slice.injEq] at hv
    obtain ⟨rfl, h1, rfl⟩ := hv
    obtain rfl : zs = [] := List.length_eq_zero_iff.1 h1
    refine (mki_nil w 0 k).mono ?_
    rintro e w' ⟨rfl, rfl⟩
    exact ⟨by simp, ⟨by simpa [ramp] using World.ownsRow_nil w' lo 2 1, fun g e => by simp [Value.ownBlock] at e, h.up⟩, grown_id _ _⟩
  · simp only [Value.slice.injEq] at hv
    obtain ⟨rfl, -, rfl⟩ := hv
    refine (mka_row w lo g c k zs h.own hn k0 k1).mono ?_
    rintro e w' ⟨rfl, hr', hgr⟩
    exact ⟨rfl, ⟨by rw [ramp_len]; exact hr', fun x e => h.lt x (by simpa [Value.ownBlock] using e), Nat.le_trans h.up hgr.size⟩, hgr⟩
theorem mka_any (w : World) (lo hi : Nat) (a : Option Addr) (c : Nat) (zs : List Int) (k : Int) (h : OwnA w lo hi a c zs) (hn : zs.length ≤ 1048576) (k0 : 0 ≤ k) (k1 : k ≤ 4000000) :
    Calls Tryd.prog 27 #[.slice a zs.length c, .int .i64 k] w fun e w' => e = .returned (.int .i64 (k + (zs.length : Int))) ∧ OwnA w' lo hi a c (ramp k zs.length) ∧ Kept lo hi w w' :=
  (mkb_any w lo hi a c zs k h hn k0 k1).mono fun e w' ⟨he, ho, hg⟩ => ⟨he, ho, Kept.of_grown hg (fun g e => ⟨(h.own.lt g e).1, h.lt g e⟩)⟩
/-- two rows of one's own between two marks -/
structure OwnQ (w : World) (lo hi : Nat) (a : Option Addr) (c : Nat) (b : Option Addr) (d : Nat) (zs ys : List Int) : Prop where
  fst : OwnA w lo hi a c zs
  snd : OwnA w lo hi b d ys
  ne : ∀ g, (Value.slice a zs.length c).ownBlock = some g → (Value.slice b ys.length d).ownBlock ≠ some g
theorem OwnQ.nil (w : World) (lo hi : Nat) (h : hi ≤ w.heap.size) : OwnQ w lo hi none 0 none 0 [] [] :=
  ⟨⟨World.ownsRow_nil _ _ _ _, fun g e => by simp [Value.ownBlock] at e, h⟩, ⟨World.ownsRow_nil _ _ _ _, fun g e => by simp [Value.ownBlock] at e, h⟩, fun g e => by simp [Value.ownBlock] at e⟩
theorem OwnQ.prof {w : World} {lo hi : Nat} {a b : Option Addr} {c d : Nat} {zs ys : List Int} (h : OwnQ w lo hi a c b d zs ys) (lz : zs.length ≤ 1048576) (ly : ys.length ≤ 1048576) : Prof w w.heap.size a b zs ys := ⟨h.fst.ints, h.snd.ints, lz, ly⟩
theorem OwnQ.on {w w' : World} {lo hi : Nat} {a b : Option Addr} {c d : Nat} {zs ys : List Int} (h : OwnQ w lo hi a c b d zs ys) (hb : Below w.heap.size w w') : OwnQ w' lo hi a c b d zs ys := ⟨h.fst.on hb, h.snd.on hb, h.ne⟩
theorem OwnQ.kept {w w' : World} {lo hi l i : Nat} {a b : Option Addr} {c d : Nat} {zs ys : List Int} (h : OwnQ w lo hi a c b d zs ys) (hk : Kept l i w w') (hd : hi ≤ l ∨ i ≤ lo) : OwnQ w' lo hi a c b d zs ys := ⟨h.fst.kept hk hd, h.snd.kept hk hd, h.ne⟩
theorem OwnQ.up {w : World} {lo hi : Nat} {a b : Option Addr} {c d : Nat} {zs ys : List Int} (h : OwnQ w lo hi a c b d zs ys) : hi ≤ w.heap.size := h.fst.up
theorem mkq_any (w : World) (lo hi : Nat) (a b : Option Addr) (c d : Nat) (zs ys : List Int) (k : Int) (h : OwnQ w lo hi a c b d zs ys) (lz : zs.length ≤ 1048576) (ly : ys.length ≤ 1048576) (k0 : 0 ≤ k) (k1 : k ≤ 1000000) :
    Calls Tryd.prog 8 #[.agg #[.slice a zs.length c, .slice b ys.length d], .int .i64 k] w fun e w' => e = .returned (.int .i64 (k + (zs.length : Int) + (ys.length : Int))) ∧ OwnQ w' lo hi a c b d (ramp k zs.length) (ramp (k + (zs.length : Int)) ys.length) ∧ Kept lo hi w w' := by
  have up := h.up
  have H := Lib.hid h
  clear h
  go_enter Tryd.func8, Tryd.ntmps8
  go_wp2_with fail
  obtain ⟨W, hW⟩ : ∃ W, W = w.alloc (.cells #[.slice a zs.length c, .slice b ys.length d] 24) := ⟨_, rfl⟩
  have hb : Below w.heap.size w W := by rw [hW]; exact (by repeat (first | exact Below.refl _ _ | (refine Below.alloc ?_ (by simp <;> omega) _) | (refine Below.setCell ?_ (by simp <;> omega) _) | (refine Below.drew ?_) | (refine bel_drewN ?_ _)))
  have bX : Bk W w.heap.size #[.slice a zs.length c, .slice b ys.length d] 24 := by rw [hW]; exact Bk.new' (by simp)
  have H1 := Lib.hid (H.out.on hb)
  have K1 : Hid (Kept lo hi w W) := Lib.hid (Kept.of_below hb)
  rw [← hW]
  clear hW hb
  refine (mkb_any _ lo hi a c zs k H1.out.fst (by omega) k0 (by omega)).mono ?_
  rintro e w1 ⟨rfl, o1, hg⟩
  have hk : Kept lo hi W w1 := Kept.of_grown hg (fun g e => ⟨(H1.out.fst.own.lt g e).1, H1.out.fst.lt g e⟩)
  have bX1 := bX.keptP hk (Or.inr up)
  have o2 : OwnA w1 lo hi b d ys := ⟨H1.out.snd.own.kept hg (by
    cases e : (Value.slice b ys.length d).ownBlock with
    | none => exact Or.inl rfl
    | some x => exact Or.inr fun e' => H1.out.ne x e'.symm e), H1.out.snd.lt, Nat.le_trans H1.out.snd.up hg.size⟩
  have K2 := Lib.hid (K1.out.trans hk)
  have O1 := Lib.hid o1
  have O2 := Lib.hid o2
  have c1 := bX1.cell 1 rfl
  clear hk hg o1 o2 bX bX1 K1
  go_wp2_with fail
  refine (mkb_any _ lo hi b d ys (k + (zs.length : Int)) O2.out (by omega) (by omega) (by omega)).mono ?_
  rintro e w2 ⟨rfl, o2, hg⟩
  have hk : Kept lo hi w1 w2 := Kept.of_grown hg (fun g e => ⟨(O2.out.own.lt g e).1, O2.out.lt g e⟩)
  have o1 : OwnA w2 lo hi a c (ramp k zs.length) := ⟨O1.out.own.kept hg (by
    rw [ramp_len]
    cases e : (Value.slice a zs.length c).ownBlock with
    | none => exact Or.inl rfl
    | some x => exact Or.inr fun e' => H1.out.ne x e e'.symm), O1.out.lt, Nat.le_trans O1.out.up hg.size⟩
  have K3 := Lib.hid (K2.out.trans hk)
  have O3 := Lib.hid o1
  have O4 := Lib.hid o2
  clear hk hg o1 o2
  go_wp2
  go_ret
  exact ⟨rfl, ⟨O3.out, O4.out, by rw [ramp_len, ramp_len]; exact H.out.ne⟩, K3.out⟩
end Go.Proofs.YtcaekheghjnipabDoor
