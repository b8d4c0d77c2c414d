/- Tables of tails, each behind a sync.Once: what a block of tails holds, table by table, and what a count leaves. -/
import Derived.Test.YtgdnapioboodbaaThB
import Derived.Test.YtgdnapioboodbaaThO
import Derived.Test.YtgdnapioboodbaaDrw
import Derived.Deep.WholeRow
namespace Go.Proofs.Ytgdnapioboodbaa
open Go.ChangeShapes Go.WideShapes Go.ChangeAt Go.RowKit Go.Shelf Num
set_option linter.unusedVariables false
set_option linter.unusedSimpArgs false

theorem get_same {cs : Array Value} {k : Nat} {u : Value} (v : Value) (h : cs[k]? = some u) : (cs.setIfInBounds k v)[k]? = some v := by
  obtain ⟨hk, -⟩ := Array.getElem?_eq_some_iff.1 h
  rw [Array.getElem?_setIfInBounds, if_pos rfl, if_pos hk]
theorem get_other {cs : Array Value} {k j : Nat} (v : Value) (h : k ≠ j) : (cs.setIfInBounds k v)[j]? = cs[j]? := by
  rw [Array.getElem?_setIfInBounds, if_neg h]
/-- a table is as it was made, or computed -/
def TbC (cs : Array Value) (a : Int) (n : Nat) : Prop :=
  (cs[1 + n * 17]? = some (.int .u32 0) ∧ cs[1 + n * 17 + 1]? = some (.int .i32 0) ∧ ∀ j, j ≤ 13 → cs[1 + n * 17 + 3 + j]? = some (.int .i64 0)) ∨
  (cs[1 + n * 17]? = some (.int .u32 1) ∧ cs[1 + n * 17 + 1]? = some (.int .i32 0) ∧ ∀ j, j ≤ 13 → j ≤ n + 1 → cs[1 + n * 17 + 3 + j]? = some (.int .i64 (tl a n j)))
theorem TbC.congr {cs cs' : Array Value} {a : Int} {n : Nat} (h : TbC cs a n) (hx : ∀ x, 1 + n * 17 ≤ x → x < 1 + n * 17 + 17 → cs'[x]? = cs[x]?) : TbC cs' a n := by
  rcases h with ⟨h1, h2, h3⟩ | ⟨h1, h2, h3⟩
  · left
    exact ⟨by rw [hx _ (by omega) (by omega)]; exact h1, by rw [hx _ (by omega) (by omega)]; exact h2, fun j hj => by rw [hx _ (by omega) (by omega)]; exact h3 j hj⟩
  · right
    exact ⟨by rw [hx _ (by omega) (by omega)]; exact h1, by rw [hx _ (by omega) (by omega)]; exact h2, fun j hj hj2 => by rw [hx _ (by omega) (by omega)]; exact h3 j hj hj2⟩
/-- a block of tails whose first N tables are well -/
structure Tkd (W : World) (b : Nat) (cs : Array Value) (a : Int) (N : Nat) : Prop where
  bk : Bk W b cs 65
  c0 : cs[0]? = some (.int .i64 a)
  tb : ∀ n, n < N → TbC cs a n
theorem Tkd.ca {W : World} {b : Nat} {cs : Array Value} {a : Int} {N : Nat} (h : Tkd W b cs a N) : W.cell? ⟨b, 0, none⟩ = some (.int .i64 a) := h.bk.cell 0 h.c0
theorem Tkd.kept {W W' : World} {row : Option Nat} {b : Nat} {cs : Array Value} {a : Int} {N : Nat} (h : Tkd W b cs a N) (hg : W.grownBy W' row) (hne : some b ≠ row) : Tkd W' b cs a N := ⟨h.bk.kept hg hne, h.c0, h.tb⟩
theorem Tkd.on {W W' : World} {b : Nat} {cs : Array Value} {a : Int} {N : Nat} (h : Tkd W b cs a N) (hb : Below W.heap.size W W') : Tkd W' b cs a N := ⟨h.bk.on hb, h.c0, h.tb⟩
theorem Tkd.less {W : World} {b : Nat} {cs : Array Value} {a : Int} {N M : Nat} (h : Tkd W b cs a N) (hm : M ≤ N) : Tkd W b cs a M := ⟨h.bk, h.c0, fun n hn => h.tb n (by omega)⟩
/-- what a count leaves of a block: its first N tables well, the others as they were, all else untouched -/
def Aft (w : World) (b : Nat) (cs : Array Value) (a : Int) (N : Nat) (w' : World) : Prop := ∃ cs', Tkd w' b cs' a N ∧ (∀ x, 1 + N * 17 ≤ x → cs'[x]? = cs[x]?) ∧ w.grownBy w' (some b)
theorem Aft.gr {w w' : World} {b : Nat} {cs : Array Value} {a : Int} {N : Nat} (h : Aft w b cs a N w') : w.grownBy w' (some b) := h.choose_spec.2.2
/-- a table under way: the counts below k are there -/
structure Inn (W0 : World) (b o : Nat) (cs : Array Value) (a : Int) (n k : Nat) (cs' : Array Value) (wr : World) : Prop where
  tk : Tkd wr b cs' a n
  dn : cs'[o]? = some (.int .u32 0)
  st : cs'[o + 1]? = some (.int .i32 1)
  fl : ∀ j, j < k → cs'[o + 3 + j]? = some (.int .i64 (tl a n j))
  zr : ∀ j, k ≤ j → j ≤ 13 → cs'[o + 3 + j]? = some (.int .i64 0)
  rs : ∀ x, o + 17 ≤ x → cs'[x]? = cs[x]?
  gr : W0.grownBy wr (some b)
section
variable {W0 wr w' : World} {b o : Nat} {cs cs' : Array Value} {a : Int} {n k : Nat}
theorem Inn.on (h : Inn W0 b o cs a n k cs' wr) (hb : Below wr.heap.size wr w') : Inn W0 b o cs a n k cs' w' := ⟨h.tk.on hb, h.dn, h.st, h.fl, h.zr, h.rs, grown_bel h.gr hb⟩
theorem Inn.zcell (h : Inn W0 b o cs a n k cs' wr) (hk : k ≤ 13) : wr.cell? ⟨b, o + 3 + k, none⟩ = some (.int .i64 0) := h.tk.bk.cell _ (h.zr k (Nat.le_refl _) hk)
theorem Inn.put (h : Inn W0 b o cs a n k cs' wr) (ho : o = 1 + n * 17) (hk : k ≤ 13) {v : Int} (hv : tl a n k = v) : Inn W0 b o cs a n (k + 1) (cs'.setIfInBounds (o + 3 + k) (.int .i64 v)) (wr.setCell ⟨b, o + 3 + k, none⟩ (.int .i64 v)) := by
  subst hv
  refine ⟨⟨h.tk.bk.set _ _ rfl, ?_, fun m hm => (h.tk.tb m hm).congr (fun x x1 x2 => get_other _ (by omega))⟩, ?_, ?_, fun j hj => ?_, fun j j1 j2 => ?_, fun x hx => ?_, grown_set h.gr _ _⟩
  · rw [get_other _ (by omega)]; exact h.tk.c0
  · rw [get_other _ (by omega)]; exact h.dn
  · rw [get_other _ (by omega)]; exact h.st
  · by_cases hjk : j = k
    · subst hjk; exact get_same _ (h.zr j (Nat.le_refl _) hk)
    · rw [get_other _ (by omega)]; exact h.fl j (by omega)
  · rw [get_other _ (by omega)]; exact h.zr j (by omega) j2
  · rw [get_other _ (by omega)]; exact h.rs x hx
theorem Inn.call (h : Inn W0 b o cs a n k cs' wr) (ho : o = 1 + n * 17) (hA : Aft wr b cs' a n w') : ∃ cs2, Inn W0 b o cs a n k cs2 w' := by
  obtain ⟨cs2, h1, h2, h3⟩ := hA
  exact ⟨cs2, h1, by rw [h2 _ (by omega)]; exact h.dn, by rw [h2 _ (by omega)]; exact h.st, fun j hj => by rw [h2 _ (by omega)]; exact h.fl j hj, fun j j1 j2 => by rw [h2 _ (by omega)]; exact h.zr j j1 j2, fun x hx => by rw [h2 _ (by omega)]; exact h.rs x hx, grown_trans h.gr h3⟩
end
/-- behind Do: the table is computed -/
theorem Inn.done {W0 w1 : World} {b o : Nat} {cs0 cs cs' : Array Value} {a : Int} {n : Nat} {w : World} (h : Inn W0 b o cs a n (n + 1) cs' w1) (ho : o = 1 + n * 17) (hn : n ≤ 12) (hg : w.grownBy W0 (some b)) (hcs : ∀ x, o + 17 ≤ x → cs[x]? = cs0[x]?) :
    ∃ cs2, Tkd ((w1.drew.setCell ⟨b, o, none⟩ (.int .u32 1)).setCell ⟨b, o + 1, none⟩ (.int .i32 0)) b cs2 a (n + 1) ∧ (∀ x, 1 + (n + 1) * 17 ≤ x → cs2[x]? = cs0[x]?) ∧ (∀ j : Nat, j ≤ n + 1 → cs2[o + 3 + j]? = some (.int .i64 (tl a n j))) ∧ w.grownBy ((w1.drew.setCell ⟨b, o, none⟩ (.int .u32 1)).setCell ⟨b, o + 1, none⟩ (.int .i32 0)) (some b) := by
  have g1 : (cs'.setIfInBounds o (.int .u32 1))[o]? = some (.int .u32 1) := get_same _ h.dn
  have hfl : ∀ j : Nat, j ≤ n + 1 → ((cs'.setIfInBounds o (.int .u32 1)).setIfInBounds (o + 1) (.int .i32 0))[o + 3 + j]? = some (.int .i64 (tl a n j)) := fun j hj => by
    rw [get_other _ (by omega), get_other _ (by omega)]
    by_cases hjn : j = n + 1
    · subst hjn
      rw [tl_top n (by omega)]
      exact h.zr _ (by omega) (by omega)
    · exact h.fl j (by omega)
  refine ⟨(cs'.setIfInBounds o (.int .u32 1)).setIfInBounds (o + 1) (.int .i32 0), ⟨(h.tk.bk.drew.set _ _ rfl).set _ _ rfl, ?_, fun m hm => ?_⟩, fun x hx => ?_, hfl, grown_set (grown_set (grown_drewN (grown_trans hg h.gr) 1) _ _) _ _⟩
  · rw [get_other _ (by omega), get_other _ (by omega)]; exact h.tk.c0
  · by_cases hmn : m = n
    · subst hmn
      right
      rw [← ho]
      exact ⟨by rw [get_other _ (by omega)]; exact g1, get_same _ (by rw [get_other _ (by omega)]; exact h.st), fun j _ hj => hfl j hj⟩
    · exact (h.tk.tb m (by omega)).congr (fun x x1 x2 => by rw [get_other _ (by omega), get_other _ (by omega)])
  · rw [get_other _ (by omega), get_other _ (by omega), h.rs x (by omega), hcs x (by omega)]
end Go.Proofs.Ytgdnapioboodbaa
