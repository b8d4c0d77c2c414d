/- Rows of one's own between two marks of the memory: marking them leaves everything else as it was. The contracts of CutProfile and of the laws' marks of a profile, for every argument. -/
import Derived.Test.YtcaekheghjnipabDoorCut
namespace Go.Proofs.YtcaekheghjnipabDoor
open Go.ChangeShapes Go.WideShapes Go.ChangeAt Go.RowKit Go.Shelf Num
set_option linter.unusedVariables false
/-- a row of its own, between two marks of the memory, or no row at all -/
def Own1 (w : World) (lo hi : Nat) (a : Option Addr) (zs : List Int) : Prop := (a = none ∧ zs = []) ∨ ∃ g, a = some ⟨g, 0, none⟩ ∧ lo ≤ g ∧ g < hi ∧ w.rowIs g 2 zs.length (cellsOf zs)
/-- only blocks between two marks have turned, or are new -/
structure Kept (lo hi : Nat) (w w' : World) : Prop where
  os : w'.os = w.os
  tape : w'.tape = w.tape
  output : w'.output = w.output
  size : w.heap.size ≤ w'.heap.size
  block : ∀ k, k < w.heap.size → (k < lo ∨ hi ≤ k) → w'.heap[k]? = w.heap[k]?
theorem Kept.below {lo hi : Nat} {w w' : World} (h : Kept lo hi w w') (hl : lo ≤ w.heap.size) : Below lo w w' := ⟨h.os, h.tape, h.output, h.size, fun k hk => h.block k (by omega) (Or.inl hk)⟩
theorem Kept.trans {lo hi : Nat} {a b c : World} (h : Kept lo hi a b) (g : Kept lo hi b c) : Kept lo hi a c :=
  ⟨g.os.trans h.os, g.tape.trans h.tape, g.output.trans h.output, Nat.le_trans h.size g.size, fun k hk hd => (g.block k (Nat.lt_of_lt_of_le hk h.size) hd).trans (h.block k hk hd)⟩
theorem Kept.of_below {lo hi : Nat} {w w' : World} (h : Below w.heap.size w w') : Kept lo hi w w' := ⟨h.os, h.tape, h.output, h.size, fun k hk _ => h.block k hk⟩
theorem Kept.of_grown {lo hi : Nat} {w w' : World} {s : Option Nat} (h : w.grownBy w' s) (hs : ∀ g, s = some g → lo ≤ g ∧ g < hi) : Kept lo hi w w' :=
  ⟨h.os, h.tape, h.output, h.size, fun k hk hd => h.block k hk (fun e => by have := hs k e.symm; omega)⟩
theorem Own1.ints {w : World} {lo hi : Nat} {a : Option Addr} {zs : List Int} (h : Own1 w lo hi a zs) : Ints .i64 w w.heap.size a zs := by
  rcases h with ⟨rfl, rfl⟩ | ⟨g, rfl, _, _, hr⟩
  · intro h; simp at h
  · exact Ints.of_rowIs hr
theorem Own1.at_ {w w' : World} {lo hi : Nat} {a : Option Addr} {zs : List Int} (h : Own1 w lo hi a zs) (hk : ∀ g, a = some ⟨g, 0, none⟩ → w'.heap[g]? = w.heap[g]?) : Own1 w' lo hi a zs := by
  rcases h with h | ⟨g, rfl, h1, h2, hr⟩
  · exact Or.inl h
  · exact Or.inr ⟨g, rfl, h1, h2, hr.of_block (hk g rfl)⟩
theorem Own1.lt {w : World} {lo hi g : Nat} {a : Option Addr} {zs : List Int} (h : Own1 w lo hi a zs) (e : a = some ⟨g, 0, none⟩) : lo ≤ g ∧ g < hi ∧ g < w.heap.size := by
  rcases h with ⟨rfl, _⟩ | ⟨g', rfl, h1, h2, hr⟩
  · cases e
  · injection e with e; injection e with e; subst e; exact ⟨h1, h2, hr.lt⟩
structure OwnP (w : World) (lo hi : Nat) (a b : Option Addr) (zs ys : List Int) : Prop where
  fst : Own1 w lo hi a zs
  snd : Own1 w lo hi b ys
  ne : ∀ g h, a = some ⟨g, 0, none⟩ → b = some ⟨h, 0, none⟩ → g ≠ h
  up : hi ≤ w.heap.size
  lz : zs.length ≤ 1048576
  ly : ys.length ≤ 1048576
theorem OwnP.prof {w : World} {lo hi : Nat} {a b : Option Addr} {zs ys : List Int} (h : OwnP w lo hi a b zs ys) : Prof w w.heap.size a b zs ys := ⟨h.fst.ints, h.snd.ints, h.lz, h.ly⟩
theorem OwnP.on {w w' : World} {lo hi : Nat} {a b : Option Addr} {zs ys : List Int} (h : OwnP w lo hi a b zs ys) (hb : Below w.heap.size w w') : OwnP w' lo hi a b zs ys :=
  ⟨h.fst.at_ (fun g e => hb.block g (h.fst.lt e).2.2), h.snd.at_ (fun g e => hb.block g (h.snd.lt e).2.2), h.ne, Nat.le_trans h.up hb.size, h.lz, h.ly⟩
theorem OwnP.kept {w w' : World} {lo hi l i : Nat} {a b : Option Addr} {zs ys : List Int} (h : OwnP w lo hi a b zs ys) (hk : Kept l i w w') (hd : hi ≤ l ∨ i ≤ lo) : OwnP w' lo hi a b zs ys :=
  ⟨h.fst.at_ (fun g e => hk.block g (h.fst.lt e).2.2 (by have := h.fst.lt e; omega)), h.snd.at_ (fun g e => hk.block g (h.snd.lt e).2.2 (by have := h.snd.lt e; omega)), h.ne, Nat.le_trans h.up hk.size, h.lz, h.ly⟩
theorem Bk.keptP {W W' : World} {B l i : Nat} {cs : Array Value} {t : TypeId} (h : Bk W B cs t) (hk : Kept l i W W') (hd : B < l ∨ i ≤ B) : Bk W' B cs t := (hk.block B h.lt hd).trans h
/-- a profile below a mark -/
structure ProfL (w : World) (L : Nat) (a b : Option Addr) (zs ys : List Int) : Prop where
  at_ : Prof w L a b zs ys
  le : L ≤ w.heap.size
theorem ProfL.of {w : World} {a b : Option Addr} {zs ys : List Int} (h : Prof w w.heap.size a b zs ys) : ProfL w w.heap.size a b zs ys := ⟨h, Nat.le_refl _⟩
theorem ProfL.on {w w' : World} {L : Nat} {a b : Option Addr} {zs ys : List Int} (h : ProfL w L a b zs ys) (hb : Below w.heap.size w w') : ProfL w' L a b zs ys := ⟨h.at_.below (hb.mono h.le), Nat.le_trans h.le hb.size⟩
theorem ProfL.prof {w : World} {L : Nat} {a b : Option Addr} {zs ys : List Int} (h : ProfL w L a b zs ys) : Prof w w.heap.size a b zs ys := h.at_.more h.le
theorem ProfL.kept {w w' : World} {L l i : Nat} {a b : Option Addr} {zs ys : List Int} (h : ProfL w L a b zs ys) (hk : Kept l i w w') (hd : L ≤ l) (hl : l ≤ w.heap.size) : ProfL w' L a b zs ys := ⟨h.at_.below ((hk.below hl).mono hd), Nat.le_trans h.le hk.size⟩

theorem mk1_any (w : World) (lo hi : Nat) (a : Option Addr) (c : Nat) (zs : List Int) (k : Int) (h : Own1 w lo hi a zs) (hn : zs.length ≤ 1048576) (k0 : 0 ≤ k) (k1 : k ≤ 4000000) :
    Calls Tryd.prog 27 #[.slice a zs.length c, .int .i64 k] w fun e w' => e = .returned (.int .i64 (k + (zs.length : Int))) ∧ Own1 w' lo hi a (ramp k zs.length) ∧ w.grownBy w' (a.map (·.block)) := by
  rcases h with ⟨rfl, rfl⟩ | ⟨g, rfl, h1, h2, hr⟩
  · refine (mki_nil w c k).mono ?_
    rintro e w' ⟨rfl, rfl⟩
    exact ⟨by simp, Or.inl ⟨rfl, rfl⟩, grown_id _ _⟩
  · refine (mki_row w g c k zs hr hn k0 k1).mono ?_
    rintro e w' ⟨rfl, hr', hg⟩
    exact ⟨rfl, Or.inr ⟨g, rfl, h1, h2, by rw [ramp_len]; exact hr'⟩, hg⟩

theorem mkp_any (w : World) (lo hi : Nat) (a b : Option Addr) (c d : Nat) (zs ys : List Int) (k : Int) (h : OwnP w lo hi a b zs ys) (k0 : 0 ≤ k) (k1 : k ≤ 1000000) :
    Calls Tryd.prog 8 #[.agg #[.slice a zs.length c, .slice b ys.length d], .int .i64 k] w fun e w' => e = .returned (.int .i64 (k + (zs.length : Int) + (ys.length : Int))) ∧ OwnP w' lo hi a b (ramp k zs.length) (ramp (k + (zs.length : Int)) ys.length) ∧ Kept lo hi w w' := by
  have lz := h.lz
  have ly := h.ly
  have up := h.up
  have H := Lib.hid h
  clear h
  go_enter Tryd.func8, Tryd.ntmps8
  go_wp2_with fail
  obtain ⟨W, hW⟩ : ∃ W, W = w.alloc (.cells #[.slice a zs.length c, .slice b ys.length d] 24) := ⟨_, rfl⟩
  have hb : Below w.heap.size w W := by rw [hW]; exact (by repeat (first | exact Below.refl _ _ | (refine Below.alloc ?_ (by simp <;> omega) _) | (refine Below.setCell ?_ (by simp <;> omega) _) | (refine Below.drew ?_) | (refine bel_drewN ?_ _)))
  have bX : Bk W w.heap.size #[.slice a zs.length c, .slice b ys.length d] 24 := by rw [hW]; exact Bk.new' (by simp)
  have H1 := Lib.hid (H.out.on hb)
  have K1 : Hid (Kept lo hi w W) := Lib.hid (Kept.of_below hb)
  rw [← hW]
  clear hW hb
  refine (mk1_any _ lo hi a c zs k H1.out.fst (by omega) k0 (by omega)).mono ?_
  rintro e w1 ⟨rfl, o1, hg⟩
  have hk : Kept lo hi W w1 := Kept.of_grown hg (fun g e => by
    cases a with
    | none => cases e
    | some x => rcases H1.out.fst with ⟨e', _⟩ | ⟨g', e', h1, h2, _⟩
                · cases e'
                · injection e' with e'; subst e'; injection e with e; subst e; exact ⟨h1, h2⟩)
  have bX1 := bX.keptP hk (Or.inr up)
  have o2 : Own1 w1 lo hi b ys := H1.out.snd.at_ (fun g e => hg.block g (H1.out.snd.lt e).2.2 (fun e2 => by
    cases a with
    | none => cases e2
    | some x => rcases H1.out.fst with ⟨e', _⟩ | ⟨g', e', h1, h2, _⟩
                · cases e'
                · injection e' with e'; subst e'; injection e2 with e2; exact H.out.ne g' g rfl e e2.symm))
  have K2 := Lib.hid (K1.out.trans hk)
  have O1 := Lib.hid o1
  have O2 := Lib.hid o2
  have c1 := bX1.cell 1 rfl
  clear hk hg o1 o2 bX bX1 K1
  go_wp2_with fail
  refine (mk1_any _ lo hi b d ys (k + (zs.length : Int)) O2.out (by omega) (by omega) (by omega)).mono ?_
  rintro e w2 ⟨rfl, o2, hg⟩
  have hk : Kept lo hi w1 w2 := Kept.of_grown hg (fun g e => by
    cases b with
    | none => cases e
    | some x => rcases H1.out.snd with ⟨e', _⟩ | ⟨g', e', h1, h2, _⟩
                · cases e'
                · injection e' with e'; subst e'; injection e with e; subst e; exact ⟨h1, h2⟩)
  have o1 : Own1 w2 lo hi a (ramp k zs.length) := O1.out.at_ (fun g e => hg.block g (O1.out.lt e).2.2 (fun e2 => by
    cases b with
    | none => cases e2
    | some x => rcases H1.out.snd with ⟨e', _⟩ | ⟨g', e', h1, h2, _⟩
                · cases e'
                · injection e' with e'; subst e'; injection e2 with e2; exact H.out.ne g g' e rfl e2))
  have K3 := Lib.hid (K2.out.trans hk)
  have O3 := Lib.hid o1
  have O4 := Lib.hid o2
  clear hk hg o1 o2
  go_wp2
  go_ret
  exact ⟨rfl, ⟨O3.out, O4.out, H.out.ne, Nat.le_trans up K3.out.size, by rw [ramp_len]; exact lz, by rw [ramp_len]; exact ly⟩, K3.out⟩

theorem hdq_any (w : World) (a b : Option Addr) (c d m n : Nat) (k : Int) (h : Prof w w.heap.size a b (ramp k m) (ramp (k + (m : Int)) n)) (k0 : 0 ≤ k) (k1 : k ≤ 1000000) :
    Calls Tryd.prog 9 #[.agg #[.slice a m c, .slice b n d], .int .i64 k] w fun e w' => e = .returned (.int .i64 (k + (m : Int) + (n : Int))) ∧ Below w.heap.size w w' := by
  have lz := h.lz
  have ly := h.ly
  rw [ramp_len] at lz ly
  have H := Lib.hid h
  clear h
  go_enter Tryd.func9, Tryd.ntmps9
  go_wp2_with fail
  obtain ⟨W, hW⟩ : ∃ W, W = w.alloc (.cells #[.slice a m c, .slice b n d] 24) := ⟨_, rfl⟩
  have HB : Hid (Below w.heap.size w W) := Lib.hid (by rw [hW]; exact (by repeat (first | exact Below.refl _ _ | (refine Below.alloc ?_ (by simp <;> omega) _) | (refine Below.setCell ?_ (by simp <;> omega) _) | (refine Below.drew ?_) | (refine bel_drewN ?_ _))))
  have bX : Bk W w.heap.size #[.slice a m c, .slice b n d] 24 := by rw [hW]; exact Bk.new' (by simp)
  have H1 := Lib.hid (H.out.on HB.out)
  have c1 := bX.cell 1 rfl
  rw [← hW]
  clear hW bX
  refine (hdi_any _ _ a c m k H1.out.dz lz k0 (by omega)).mono ?_
  rintro e w1 ⟨rfl, rfl⟩
  go_wp2_with fail
  refine (hdi_any _ _ b d n (k + (m : Int)) H1.out.sy ly (by omega) (by omega)).mono ?_
  rintro e w1 ⟨rfl, rfl⟩
  go_wp2
  go_ret
  exact ⟨rfl, HB.out⟩

/-- what a cut keeps of a list -/
def cuL (q x : Int) (zs : List Int) : List Int := if q = 0 then zs.take (x.toNat + 1) else []
theorem icu_any (w : World) (a b : Option Addr) (c d : Nat) (zs ys : List Int) (x q : Int) (hp : Prof w w.heap.size a b zs ys) (hq : cuC zs ys x = q) :
    Calls Tryd.prog 15 #[.agg #[.slice a zs.length c, .slice b ys.length d], .int .i64 x] w fun e w' => ∃ a' b' c' d', e = .returned (.tuple #[.agg #[.slice a' (cuL q x zs).length c', .slice b' (cuL q x ys).length d'], .int .i64 q]) ∧
      OwnP w' w.heap.size w'.heap.size a' b' (cuL q x zs) (cuL q x ys) ∧ Below w.heap.size w w' := by
  by_cases h0 : q = 0
  · subst h0
    obtain ⟨hv, hh, hx⟩ := cuC_0 hq
    obtain ⟨kn, rfl⟩ : ∃ kn : Nat, x = (kn : Int) := ⟨x.toNat, by have := hkB_t hh; omega⟩
    refine (icu_ok w a b c d zs ys kn hp hv hh hx).mono ?_
    rintro e w' ⟨g, h, rfl, l1, l2, hn, r1, r2, hb⟩
    have e1 : cuL 0 (kn : Int) zs = zs.take (kn + 1) := by unfold cuL; rw [if_pos rfl, Int.toNat_natCast]
    have e2 : cuL 0 (kn : Int) ys = ys.take (kn + 1) := by unfold cuL; rw [if_pos rfl, Int.toNat_natCast]
    rw [e1, e2]
    refine ⟨_, _, _, _, rfl, ⟨Or.inr ⟨g, rfl, l1, r1.lt, r1⟩, Or.inr ⟨h, rfl, l2, r2.lt, r2⟩, ?_, Nat.le_refl _, ?_, ?_⟩, hb⟩
    · intro g' h' e e'
      injection e with e; injection e with e; injection e' with e'; injection e' with e'
      omega
    · have := hp.lz; simp; omega
    · have := hp.ly; simp; omega
  · refine (icu_no w a b c d zs ys x q hp hq h0).mono ?_
    rintro e w' ⟨rfl, hb⟩
    have e1 : ∀ l, cuL q x l = [] := fun l => by unfold cuL; rw [if_neg h0]
    rw [e1, e1]
    exact ⟨_, _, _, _, rfl, ⟨Or.inl ⟨rfl, rfl⟩, Or.inl ⟨rfl, rfl⟩, (fun g h e => by cases e), Nat.le_refl _, by simp, by simp⟩, hb⟩
theorem scu_any (w : World) (a b : Option Addr) (c d : Nat) (zs ys : List Int) (x q : Int) (hp : Prof w w.heap.size a b zs ys) (hc : zs.length ≤ c) (hd : ys.length ≤ d) (hq : cuC zs ys x = q) :
    Calls Tryd.prog 16 #[.agg #[.slice a zs.length c, .slice b ys.length d], .int .i64 x] w fun e w' => ∃ a' b' c' d', e = .returned (.tuple #[.agg #[.slice a' (cuL q x zs).length c', .slice b' (cuL q x ys).length d'], .int .i64 q]) ∧
      Prof w' w'.heap.size a' b' (cuL q x zs) (cuL q x ys) ∧ Below w.heap.size w w' := by
  by_cases h0 : q = 0
  · subst h0
    obtain ⟨hv, hh, hx⟩ := cuC_0 hq
    obtain ⟨kn, rfl⟩ : ∃ kn : Nat, x = (kn : Int) := ⟨x.toNat, by have := hkB_t hh; omega⟩
    have e1 : cuL 0 (kn : Int) zs = zs.take (kn + 1) := by unfold cuL; rw [if_pos rfl, Int.toNat_natCast]
    have e2 : cuL 0 (kn : Int) ys = ys.take (kn + 1) := by unfold cuL; rw [if_pos rfl, Int.toNat_natCast]
    rw [e1, e2]
    exact scu_ok w a b c d zs ys kn hp hc hd hv hh hx
  · refine (scu_no w a b c d zs ys x q hp hq h0).mono ?_
    rintro e w' ⟨rfl, hb⟩
    have e1 : ∀ l, cuL q x l = [] := fun l => by unfold cuL; rw [if_neg h0]
    rw [e1, e1]
    exact ⟨_, _, _, _, rfl, ⟨fun h => by simp at h, fun h => by simp at h, by simp, by simp⟩, hb⟩
end Go.Proofs.YtcaekheghjnipabDoor
