/- Plain facts on texts whose parts are divided by one byte: the library's split and cut, the parts of a text that was joined, the text of its parts. What reading a text as a profile gives: plain facts on the knots' texts. The contract of the model's split of a text at any byte. The library's split of a text at a comma; two rows of numbers that grow in the fields of a boxed profile. The contract of the program's ReadProfile. The contract of the model's ReadProfile. -/
import Derived.Test.YtcaekheghjnipabDoorRMath
import Derived.Lib.SplitLaws
import Derived.Test.YtcaekheghjnipabDoorPText
import Derived.Test.YtcaekheghjnipabDoorRdPair
import Derived.Test.YtcaekheghjnipabDoorSRead
import Derived.Test.YtcaekheghjnipabDoorSplit
import Derived.Deep.AppendLies
import Derived.OwnWalk
import Derived.LoopTactic
import Derived.Outline
import Derived.Test.YtcaekheghjnipabDoorOwnB
import Derived.Maps.AppendAt
import Derived.Test.YtcaekheghjnipabDoorPText2
import Derived.Test.YtcaekheghjnipabDoorLys
namespace Go.Proofs.YtcaekheghjnipabDoor.Num
open Go.Lib
theorem itoa_cc (x : Int) : ∀ c ∈ itoa x, c.toNat = 45 ∨ (48 ≤ c.toNat ∧ c.toNat ≤ 57) := by
  intro c hc
  unfold itoa at hc
  split at hc
  · rcases List.mem_cons.1 hc with h | h
    · subst h; exact Or.inl rfl
    · exact Or.inr (dec_chars _ _ h)
  · exact Or.inr (dec_chars _ _ hc)
theorem itoa_free (x : Int) {d : UInt8} (hd : d.toNat ≠ 45 ∧ (d.toNat < 48 ∨ 57 < d.toNat)) : ∀ c ∈ itoa x, c ≠ d := by
  intro c hc e
  subst e
  have := itoa_cc x c hc
  omega
section
variable (s : UInt8)
theorem index_sepG : ∀ (p q : List UInt8), (∀ c ∈ p, c ≠ s) → index (p ++ s :: q) [s] = (p.length : Int)
  | [], q, _ => by simp [index, List.isPrefixOf]
  | c :: p, q, h => by
    have hc : c ≠ s := h c (by simp)
    have ih := index_sepG p q (fun d hd => h d (by simp [hd]))
    have hcb : (([s] : List UInt8).isPrefixOf (c :: (p ++ s :: q))) = false := by
      simp [List.isPrefixOf]; exact fun e => hc e.symm
    rw [List.cons_append, index, hcb, ih]
    have : (((p.length : Int)) == -1) = false := by first | (simp; done) | (simp; omega)
    rw [this]
    simp
theorem cut_sepG (p q : List UInt8) (h : ∀ c ∈ p, c ≠ s) : cut (p ++ s :: q) [s] = (p, q, true) := by
  unfold cut
  rw [index_sepG s p q h, if_pos (by omega)]
  simp
/-- the pieces of a split at a byte -/
def splG : List UInt8 → List (List UInt8)
  | [] => [[]]
  | c :: r => if c = s then [] :: splG r else (match splG r with | h :: t => (c :: h) :: t | [] => [[c]])
theorem splG_ne (l : List UInt8) : ∃ h t, splG s l = h :: t := by
  cases l with
  | nil => exact ⟨[], [], rfl⟩
  | cons c r =>
    unfold splG
    split
    · exact ⟨_, _, rfl⟩
    · split <;> exact ⟨_, _, rfl⟩
theorem splG_sep (p : List UInt8) (r : List UInt8) : ahd p (splG s (s :: r)) = p :: splG s r := by simp [splG, ahd]
theorem splG_chr (p : List UInt8) (c : UInt8) (r : List UInt8) (h : c ≠ s) : ahd p (splG s (c :: r)) = ahd (p ++ [c]) (splG s r) := by
  obtain ⟨x, t, e⟩ := splG_ne s r
  simp [splG, h, e, ahd]
theorem splG_end (p : List UInt8) : ahd p (splG s []) = [p] := by simp [splG, ahd]
theorem ahdG_nil (l : List UInt8) : ahd [] (splG s l) = splG s l := by
  obtain ⟨x, t, e⟩ := splG_ne s l
  simp [e, ahd]
theorem splG_pre : ∀ (p q : List UInt8), (∀ c ∈ p, c ≠ s) → splG s (p ++ q) = ahd p (splG s q)
  | [], q, _ => (ahdG_nil s q).symm
  | c :: p, q, h => by
    have hc : c ≠ s := h c (by simp)
    have ih := splG_pre p q (fun d hd => h d (by simp [hd]))
    obtain ⟨x, t, e⟩ := splG_ne s q
    rw [List.cons_append]
    simp [splG, hc, ih, e, ahd]
theorem splG_free (p : List UInt8) (h : ∀ c ∈ p, c ≠ s) : splG s p = [p] := by
  have := splG_pre s p [] h
  rw [List.append_nil] at this
  rw [this, splG_end]
theorem splG_two (p q : List UInt8) (hp : ∀ c ∈ p, c ≠ s) (hq : ∀ c ∈ q, c ≠ s) : splG s (p ++ s :: q) = [p, q] := by
  rw [splG_pre s _ _ hp, splG_sep, splG_free s _ hq]
/-- a piece more behind the text -/
theorem splG_snoc (q : List UInt8) (hq : ∀ c ∈ q, c ≠ s) : ∀ l : List UInt8, splG s (l ++ s :: q) = splG s l ++ [q]
  | [] => by
    have := splG_sep s [] q
    rw [ahdG_nil] at this
    rw [List.nil_append, this, splG_free s q hq]; rfl
  | c :: l => by
    have ih := splG_snoc q hq l
    rw [List.cons_append]
    by_cases h : c = s
    · subst h
      have e1 := splG_sep c [] (l ++ c :: q)
      have e2 := splG_sep c [] l
      rw [ahdG_nil] at e1 e2
      rw [e1, e2, ih]; rfl
    · obtain ⟨x, t, e⟩ := splG_ne s l
      rw [e] at ih
      simp [splG, h, e, ih]
/-- parts joined by a byte -/
def joinG : List (List UInt8) → List UInt8
  | [] => []
  | [a] => a
  | a :: b :: r => a ++ s :: joinG (b :: r)
theorem joinG_cons (a : List UInt8) {b : List UInt8} {r : List (List UInt8)} : joinG s (a :: b :: r) = a ++ s :: joinG s (b :: r) := rfl
theorem joinG_snoc (q : List UInt8) : ∀ (a : List UInt8) (r : List (List UInt8)), joinG s ((a :: r) ++ [q]) = joinG s (a :: r) ++ s :: q
  | a, [] => rfl
  | a, b :: r => by
    have ih := joinG_snoc q b r
    show a ++ s :: joinG s ((b :: r) ++ [q]) = _
    rw [ih, joinG_cons, List.append_assoc]; rfl
/-- a text is its pieces, joined -/
theorem join_spl : ∀ l : List UInt8, joinG s (splG s l) = l
  | [] => rfl
  | c :: l => by
    have ih := join_spl l
    obtain ⟨x, t, e⟩ := splG_ne s l
    by_cases h : c = s
    · subst h
      have e1 := splG_sep c [] l
      rw [ahdG_nil] at e1
      rw [e1, e, joinG_cons, ← e, ih]; rfl
    · rw [e] at ih
      have : splG s (c :: l) = (c :: x) :: t := by simp [splG, h, e]
      rw [this]
      cases t with
      | nil => show c :: x = c :: l; rw [show x = l from ih]
      | cons b r => rw [joinG_cons] at ih ⊢; rw [List.cons_append, ih]
/-- the library's split at one byte -/
theorem splitK_G : ∀ (n : Nat) (l : List UInt8), l.length ≤ n → splitK [s] 0 (count l [s]) l = splG s l
  | n, l, hn => by
    by_cases hm : s ∈ l
    · obtain ⟨p, q, rfl, hp⟩ := List.eq_append_cons_of_mem hm
      have hp' : ∀ c ∈ p, c ≠ s := fun c hc e => hp (e ▸ hc)
      have hq : q.length < n := by simp at hn; omega
      have hc : count (p ++ s :: q) [s] = count q [s] + 1 := by
        rw [count_one, count_one, List.count_append, List.count_cons_self, List.count_eq_zero_of_not_mem hp]; omega
      have ih := splitK_G (n - 1) q (by omega)
      rw [hc, splitK, index_sepG s p q hp', if_neg (by first | (simp; done) | (simp; omega)), splG_pre s _ _ hp', splG_sep, ← ih]
      simp
    · have hc : count l [s] = 0 := by rw [count_one]; exact List.count_eq_zero_of_not_mem hm
      rw [hc, splG_free s l (fun c hc e => hm (e ▸ hc))]; rfl
end
end Go.Proofs.YtcaekheghjnipabDoor.Num
namespace Go.Proofs.YtcaekheghjnipabDoor
open Go.ChangeShapes Go.WideShapes Go.ChangeAt Go.RowKit Num
set_option linter.unusedVariables false
/-- a knot's text -/
def knL (zs ys : List Int) (k : Nat) : List UInt8 := Lib.itoa (zs.getD k 0) ++ 58 :: Lib.itoa (ys.getD k 0)
theorem ktL_0 (zs ys : List Int) : ktL zs ys 0 = knL zs ys 0 := by unfold ktL knL; rw [if_neg (by omega)]; simp
theorem ktL_s (zs ys : List Int) (k : Nat) : ktL zs ys (k + 1) = 44 :: knL zs ys (k + 1) := by unfold ktL knL; rw [if_pos (by omega)]; simp
theorem knL_free (zs ys : List Int) (k : Nat) : ∀ c ∈ knL zs ys k, c ≠ 44 := by
  intro c hc
  unfold knL at hc
  rcases List.mem_append.1 hc with h | h
  · exact itoa_free _ (by decide) c h
  · rcases List.mem_cons.1 h with h | h
    · subst h; decide
    · exact itoa_free _ (by decide) c h
theorem spl_knL (zs ys : List Int) (k : Nat) : splG 58 (knL zs ys k) = [Lib.itoa (zs.getD k 0), Lib.itoa (ys.getD k 0)] := splG_two 58 _ _ (itoa_free _ (by decide)) (itoa_free _ (by decide))
theorem cut_knL (zs ys : List Int) (k : Nat) : Lib.cut (knL zs ys k) [58] = (Lib.itoa (zs.getD k 0), Lib.itoa (ys.getD k 0), true) := cut_sepG 58 _ _ (itoa_free _ (by decide))
theorem spl_pTL (zs ys : List Int) : ∀ n, splG 44 (pTL zs ys (List.range (n + 1))) = (List.range (n + 1)).map (knL zs ys)
  | 0 => by
    rw [show List.range (0 + 1) = [0] from rfl]
    show splG 44 (pTL zs ys ([] ++ [0])) = [knL zs ys 0]
    rw [pTL_snoc, ktL_0]
    exact splG_free 44 _ (knL_free zs ys 0)
  | n + 1 => by
    rw [List.range_succ, pTL_snoc, ktL_s, splG_snoc 44 _ (knL_free zs ys (n + 1)), spl_pTL zs ys n, List.map_append]; rfl
theorem join_pTL (zs ys : List Int) (n : Nat) : joinG 44 ((List.range (n + 1)).map (knL zs ys)) = pTL zs ys (List.range (n + 1)) := by rw [← spl_pTL, join_spl]
theorem pfT_L {zs ys : List Int} (h : prfB zs ys = true) : (pfT zs ys).data.toList = pTL zs ys (List.range zs.length) := by rw [pfT_t h]
theorem pieces_of {zs ys : List Int} {s : ByteArray} (h : prfB zs ys = true) (e : pfT zs ys = s) : splG 44 s.data.toList = (List.range zs.length).map (knL zs ys) := by
  obtain ⟨n, hn⟩ : ∃ n, zs.length = n + 1 := ⟨zs.length - 1, by have := (Okp.of h).n2; omega⟩
  rw [← e, pfT_L h, hn, spl_pTL]
/-- what reading gives: the profile that has the text, or none -/
def RPf (s : ByteArray) (zs ys : List Int) (b : Bool) : Prop := (b = true ∧ prfB zs ys = true ∧ pfT zs ys = s) ∨ (b = false ∧ zs = [] ∧ ys = [] ∧ ∀ us vs, prfB us vs = true → pfT us vs ≠ s)
theorem RPf.len {s : ByteArray} {zs ys : List Int} {b : Bool} (h : RPf s zs ys b) : zs.length ≤ 12 ∧ ys.length ≤ 12 := by
  rcases h with ⟨_, h, _⟩ | ⟨_, rfl, rfl, _⟩
  · have O := Okp.of h
    have := O.n12
    have := O.len
    omega
  · simp
theorem range_getD {α : Type} (f : Nat → α) (n j : Nat) (d : α) (h : j < n) : ((List.range n).map f).getD j d = f j := by
  rw [List.getD_eq_getElem?_getD, List.getElem?_map, List.getElem?_range h]; rfl
theorem at_of {zs ys us vs : List Int} {n m : Nat} (e : (List.range n).map (knL zs ys) = (List.range m).map (knL us vs)) : n = m ∧ ∀ j, j < n → Lib.itoa (zs.getD j 0) = Lib.itoa (us.getD j 0) ∧ Lib.itoa (ys.getD j 0) = Lib.itoa (vs.getD j 0) := by
  have hn : n = m := by have := congrArg List.length e; simpa using this
  subst hn
  refine ⟨rfl, fun j hj => ?_⟩
  have h1 := range_getD (knL zs ys) n j [] hj
  rw [e, range_getD (knL us vs) n j [] hj] at h1
  have h2 := spl_knL zs ys j
  rw [← h1, spl_knL] at h2
  simp only [List.cons.injEq, and_true] at h2
  exact ⟨h2.1.symm, h2.2.symm⟩
theorem okp_fit {us vs : List Int} (O : Okp us vs) (j : Nat) : (us.getD j 0).natAbs ≤ 1000000000000000 ∧ (vs.getD j 0).natAbs ≤ 1000000000000000 := by
  have h1 := O.lo j
  have h2 := O.hi j
  have h3 := O.sge j
  have h4 := O.shi j
  omega
theorem pf_inj {zs ys us vs : List Int} (h : prfB zs ys = true) (g : prfB us vs = true) (e : pfT zs ys = pfT us vs) : zs = us ∧ ys = vs := by
  have O := Okp.of h
  have P := Okp.of g
  have p1 := pieces_of h e
  rw [pieces_of g rfl] at p1
  obtain ⟨hn, ha⟩ := at_of p1.symm
  have l1 := O.len
  have l2 := P.len
  refine ⟨eq_ext hn (fun j hj => itoa_inj (okp_fit O j).1 (okp_fit P j).1 (ha j hj).1), eq_ext (by omega) (fun j hj => itoa_inj (okp_fit O j).2 (okp_fit P j).2 (ha j (by omega)).2)⟩
theorem RPf.unique {s : ByteArray} {zs ys us vs : List Int} {b c : Bool} (h : RPf s zs ys b) (g : RPf s us vs c) : (zs = us ∧ ys = vs) ∧ b = c := by
  rcases h with ⟨rfl, hx, e⟩ | ⟨rfl, rfl, rfl, hn⟩ <;> rcases g with ⟨rfl, hy, e'⟩ | ⟨rfl, rfl, rfl, hn'⟩
  · exact ⟨pf_inj hx hy (e.trans e'.symm), rfl⟩
  · exact absurd e (hn' _ _ hx)
  · exact absurd e' (hn _ _ hy)
  · exact ⟨⟨rfl, rfl⟩, rfl⟩
theorem rpf_no {s : ByteArray} (h : ∀ us vs, prfB us vs = true → pfT us vs = s → False) : RPf s [] [] false := Or.inr ⟨rfl, rfl, rfl, fun us vs hu e => h us vs hu e⟩
theorem lists_at {ws : List ByteArray} {j : Nat} (h : j < ws.length) : (lists ws).getD j [] = (wordAt ws j).data.toList := by
  unfold lists wordAt
  rw [List.getD_eq_getElem?_getD, List.getElem?_map, List.getElem?_eq_getElem h, List.getD_eq_getElem?_getD, List.getElem?_eq_getElem h]; rfl
/-- the words of a valid profile's text are its knots' -/
theorem words_of {s : ByteArray} {ws : List ByteArray} {us vs : List Int} (hw : lists ws = splG 44 s.data.toList) (h : prfB us vs = true) (e : pfT us vs = s) : ws.length = us.length ∧ ∀ j, j < us.length → (wordAt ws j).data.toList = knL us vs j := by
  rw [pieces_of h e] at hw
  have hl : ws.length = us.length := by have := congrArg List.length hw; simpa [lists] using this
  refine ⟨hl, fun j hj => ?_⟩
  rw [← lists_at (by omega), hw, range_getD _ _ _ _ hj]
/-- the program's numbers so far -/
def PgTo (ws : List ByteArray) (zs ys : List Int) (k : Nat) : Prop := zs.length = k ∧ ys.length = k ∧ ∀ j, j < k → Lib.parseIntB 64 (Lib.cut (wordAt ws j).data.toList [58]).1 = .ok (zs.getD j 0) ∧ Lib.parseIntB 64 (Lib.cut (wordAt ws j).data.toList [58]).2.1 = .ok (ys.getD j 0)
theorem snoc_at {xs : List Int} {x : Int} {j : Nat} (h : j < xs.length) : (xs ++ [x]).getD j 0 = xs.getD j 0 := by
  rw [List.getD_eq_getElem?_getD, List.getD_eq_getElem?_getD, List.getElem?_append_left h]
theorem snoc_end {xs : List Int} {x : Int} {k : Nat} (h : xs.length = k) : (xs ++ [x]).getD k 0 = x := by
  rw [List.getD_eq_getElem?_getD, ← h, List.getElem?_append_right (Nat.le_refl _)]; simp
theorem PgTo.snoc {ws : List ByteArray} {zs ys : List Int} {k : Nat} {x y : Int} (h : PgTo ws zs ys k) (h1 : Lib.parseIntB 64 (Lib.cut (wordAt ws k).data.toList [58]).1 = .ok x) (h2 : Lib.parseIntB 64 (Lib.cut (wordAt ws k).data.toList [58]).2.1 = .ok y) : PgTo ws (zs ++ [x]) (ys ++ [y]) (k + 1) := by
  obtain ⟨l1, l2, h⟩ := h
  refine ⟨by simp [l1], by simp [l2], fun j hj => ?_⟩
  by_cases hjk : j < k
  · rw [snoc_at (by omega), snoc_at (by omega)]; exact h j hjk
  · obtain rfl : j = k := by omega
    rw [snoc_end l1, snoc_end l2]; exact ⟨h1, h2⟩
theorem knot_parse {us vs : List Int} (O : Okp us vs) (j : Nat) : Lib.parseIntB 64 (Lib.cut (knL us vs j) [58]).1 = .ok (us.getD j 0) ∧ Lib.parseIntB 64 (Lib.cut (knL us vs j) [58]).2.1 = .ok (vs.getD j 0) := by
  rw [cut_knL]
  exact ⟨parse_itoa (okp_fit O j).1, parse_itoa (okp_fit O j).2⟩
theorem rp_bad {s : ByteArray} {ws : List ByteArray} {j : Nat} (hw : lists ws = splG 44 s.data.toList) (hj : j < ws.length)
    (h : ∀ u v, Lib.parseIntB 64 (Lib.cut (wordAt ws j).data.toList [58]).1 = .ok u → Lib.parseIntB 64 (Lib.cut (wordAt ws j).data.toList [58]).2.1 = .ok v → False) : RPf s [] [] false :=
  rpf_no fun us vs hu e => by
    obtain ⟨hl, hk⟩ := words_of hw hu e
    have := knot_parse (Okp.of hu) j
    rw [← hk j (by omega)] at this
    exact h _ _ this.1 this.2
theorem rp_same {s : ByteArray} {ws : List ByteArray} {zs ys us vs : List Int} (hw : lists ws = splG 44 s.data.toList) (h : PgTo ws zs ys ws.length) (hu : prfB us vs = true) (e : pfT us vs = s) : zs = us ∧ ys = vs := by
  obtain ⟨hl, hk⟩ := words_of hw hu e
  have O := Okp.of hu
  have l2 := O.len
  obtain ⟨l1, l3, h⟩ := h
  have key : ∀ j, j < us.length → zs.getD j 0 = us.getD j 0 ∧ ys.getD j 0 = vs.getD j 0 := fun j hj => by
    have h1 := h j (by omega)
    rw [hk j hj] at h1
    have h2 := knot_parse O j
    rw [h1.1, h1.2] at h2
    exact ⟨by have := h2.1; injection this, by have := h2.2; injection this⟩
  exact ⟨eq_ext (by omega) (fun j hj => (key j (by omega)).1), eq_ext (by omega) (fun j hj => (key j (by omega)).2)⟩
theorem rp_ne {s : ByteArray} {ws : List ByteArray} {zs ys : List Int} (hw : lists ws = splG 44 s.data.toList) (h : PgTo ws zs ys ws.length) (hne : pfT zs ys ≠ s) : RPf s [] [] false :=
  rpf_no fun us vs hu e => by
    obtain ⟨rfl, rfl⟩ := rp_same hw h hu e
    exact hne e
theorem rp_yes {s : ByteArray} {ws : List ByteArray} {zs ys : List Int} (hw : lists ws = splG 44 s.data.toList) (h : PgTo ws zs ys ws.length) (e : pfT zs ys = s) : RPf s zs ys true := by
  refine Or.inl ⟨rfl, ?_, e⟩
  cases hr : prfB zs ys
  · rw [pfT_f hr] at e
    subst e
    have hl : ws.length = 1 := by have := congrArg List.length hw; simpa [lists, splG] using this
    have h0 := (h.2.2 0 (by omega)).1
    have hw0 : (wordAt ws 0).data.toList = [] := by rw [← lists_at (by omega), hw]; rfl
    rw [hw0] at h0
    have : (match Lib.parseIntB 64 (Lib.cut ([] : List UInt8) [58]).1 with | .ok _ => true | _ => false) = false := rfl
    rw [h0] at this
    cases this
  · rfl
/-- the model's numbers so far -/
def MdTo (ws : List ByteArray) (zs ys : List Int) (k : Nat) : Prop := zs.length = k ∧ ys.length = k ∧ ∀ j, j < k → ((zs.getD j 0).natAbs < 1000000000000 ∧ (ys.getD j 0).natAbs < 1000000000000) ∧ splG 58 (wordAt ws j).data.toList = [Lib.itoa (zs.getD j 0), Lib.itoa (ys.getD j 0)]
theorem MdTo.snoc {ws : List ByteArray} {zs ys : List Int} {k : Nat} {x y : Int} (h : MdTo ws zs ys k) (hx : x.natAbs < 1000000000000) (hy : y.natAbs < 1000000000000) (e : splG 58 (wordAt ws k).data.toList = [Lib.itoa x, Lib.itoa y]) : MdTo ws (zs ++ [x]) (ys ++ [y]) (k + 1) := by
  obtain ⟨l1, l2, h⟩ := h
  refine ⟨by simp [l1], by simp [l2], fun j hj => ?_⟩
  by_cases hjk : j < k
  · rw [snoc_at (by omega), snoc_at (by omega)]; exact h j hjk
  · obtain rfl : j = k := by omega
    rw [snoc_end l1, snoc_end l2]; exact ⟨⟨hx, hy⟩, e⟩
theorem okp_less {us vs : List Int} (O : Okp us vs) (j : Nat) : (us.getD j 0).natAbs < 1000000000000 ∧ (vs.getD j 0).natAbs < 1000000000000 := by
  have h1 := O.lo j
  have h2 := O.hi j
  have h3 := O.sge j
  have h4 := O.shi j
  omega
theorem rm_bad {s : ByteArray} {ws : List ByteArray} {j : Nat} (hw : lists ws = splG 44 s.data.toList) (hj : j < ws.length)
    (h : ∀ u v : Int, u.natAbs < 1000000000000 → v.natAbs < 1000000000000 → splG 58 (wordAt ws j).data.toList ≠ [Lib.itoa u, Lib.itoa v]) : RPf s [] [] false :=
  rpf_no fun us vs hu e => by
    obtain ⟨hl, hk⟩ := words_of hw hu e
    have f := okp_less (Okp.of hu) j
    exact h _ _ f.1 f.2 (by rw [hk j (by omega), spl_knL])
theorem md_words {ws : List ByteArray} {zs ys : List Int} {k : Nat} (h : MdTo ws zs ys k) (j : Nat) (hj : j < k) : (wordAt ws j).data.toList = knL zs ys j := by
  have e := (h.2.2 j hj).2
  rw [← join_spl 58 (wordAt ws j).data.toList, e]; rfl
theorem lists_ext {ws : List ByteArray} {f : Nat → List UInt8} (h : ∀ j, j < ws.length → (wordAt ws j).data.toList = f j) : lists ws = (List.range ws.length).map f := by
  apply List.ext_getElem?
  intro j
  rcases Nat.lt_or_ge j ws.length with hj | hj
  · rw [List.getElem?_map, List.getElem?_map, List.getElem?_range hj, List.getElem?_eq_getElem hj]
    have := h j hj
    unfold wordAt at this
    rw [List.getD_eq_getElem?_getD, List.getElem?_eq_getElem hj] at this
    exact congrArg some this
  · rw [List.getElem?_eq_none (by simpa using hj), List.getElem?_eq_none (by simpa using hj)]
theorem rm_yes {s : ByteArray} {ws : List ByteArray} {zs ys : List Int} (hw : lists ws = splG 44 s.data.toList) (h : MdTo ws zs ys ws.length) (hv : prfB zs ys = true) : RPf s zs ys true := by
  refine Or.inl ⟨rfl, hv, ?_⟩
  have l1 := h.1
  obtain ⟨n, hn⟩ : ∃ n, ws.length = n + 1 := ⟨ws.length - 1, by have := (Okp.of hv).n2; omega⟩
  have e : s.data.toList = pTL zs ys (List.range zs.length) := by
    rw [← join_spl 44 s.data.toList, ← hw, lists_ext (fun j hj => md_words h j hj), hn, join_pTL, l1, hn]
  apply ByteArray.ext
  apply Array.toList_inj.1
  rw [pfT_L hv, e]
theorem rm_no {s : ByteArray} {ws : List ByteArray} {zs ys : List Int} (hw : lists ws = splG 44 s.data.toList) (h : MdTo ws zs ys ws.length) (hv : prfB zs ys = false) : RPf s [] [] false :=
  rpf_no fun us vs hu e => by
    obtain ⟨hl, hk⟩ := words_of hw hu e
    have O := Okp.of hu
    have l2 := O.len
    obtain ⟨l1, l3, hm⟩ := h
    have key : ∀ j, j < us.length → zs.getD j 0 = us.getD j 0 ∧ ys.getD j 0 = vs.getD j 0 := fun j hj => by
      obtain ⟨⟨f1, f2⟩, g⟩ := hm j (by omega)
      rw [hk j hj, spl_knL] at g
      simp only [List.cons.injEq, and_true] at g
      exact ⟨itoa_inj (by omega) (okp_fit O j).1 g.1.symm, itoa_inj (by omega) (okp_fit O j).2 g.2.symm⟩
    have e1 : zs = us := eq_ext (by omega) (fun j hj => (key j (by omega)).1)
    have e2 : ys = vs := eq_ext (by omega) (fun j hj => (key j (by omega)).2)
    subst e1 e2
    rw [hu] at hv; cases hv
/-- two words that are two numbers' texts -/
theorem two_words {t : ByteArray} {vs : List ByteArray} {xs : List Int} (hw : lists vs = splG 58 t.data.toList) (h : NumsTo vs xs vs.length) (h2 : xs.length = 2) : ((xs.getD 0 0).natAbs < 1000000000000 ∧ (xs.getD 1 0).natAbs < 1000000000000) ∧ splG 58 t.data.toList = [Lib.itoa (xs.getD 0 0), Lib.itoa (xs.getD 1 0)] := by
  have hl : vs.length = 2 := by rw [← h.1]; exact h2
  have h0 := h.2 0 (by omega)
  have h1 := h.2 1 (by omega)
  refine ⟨⟨h0.1, h1.1⟩, ?_⟩
  rw [← hw, lists_ext (f := fun j => Lib.itoa (xs.getD j 0)) (fun j hj => by
    have hj2 : j = 0 ∨ j = 1 := by omega
    rcases hj2 with rfl | rfl
    · rw [← h0.2, numS_list]
    · rw [← h1.2, numS_list]), hl]
  rfl
theorem not_two {t : ByteArray} {vs : List ByteArray} {xs : List Int} (hw : lists vs = splG 58 t.data.toList) (h : NumsTo vs xs vs.length) (h2 : ¬ xs.length = 2) : ∀ u v : Int, u.natAbs < 1000000000000 → v.natAbs < 1000000000000 → splG 58 t.data.toList ≠ [Lib.itoa u, Lib.itoa v] := by
  intro u v _ _ e
  rw [← hw] at e
  have := congrArg List.length e
  have hl := h.1
  simp [lists] at this
  omega
theorem not_num {t : ByteArray} {vs : List ByteArray} (hw : lists vs = splG 58 t.data.toList) (h : ∃ j, j < vs.length ∧ ∀ y : Int, y.natAbs < 1000000000000 → numS y ≠ wordAt vs j) : ∀ u v : Int, u.natAbs < 1000000000000 → v.natAbs < 1000000000000 → splG 58 t.data.toList ≠ [Lib.itoa u, Lib.itoa v] := by
  obtain ⟨j, hj, hn⟩ := h
  intro u v hu hv e
  rw [← hw] at e
  have hl : vs.length = 2 := by have := congrArg List.length e; simpa [lists] using this
  have hw2 := lists_at hj
  rw [e] at hw2
  have hj2 : j = 0 ∨ j = 1 := by omega
  rcases hj2 with rfl | rfl
  · exact hn u hu (by apply ByteArray.ext; apply Array.toList_inj.1; rw [numS_list]; exact hw2)
  · exact hn v hv (by apply ByteArray.ext; apply Array.toList_inj.1; rw [numS_list]; exact hw2)
end Go.Proofs.YtcaekheghjnipabDoor
namespace Go.Proofs.YtcaekheghjnipabDoor
open Go.ChangeShapes Go.WideShapes Go.ChangeAt Go.RowKit Num
set_option linter.unusedVariables false
/-- how far the split has come -/
def SplRelG (d : UInt8) (w : World) (s : ByteArray) (o f i : Value) (wr : World) : Prop :=
  ∃ (g cap : Nat) (ws : List ByteArray) (k q : Nat), o = .slice (some ⟨g, 0, none⟩) ws.length cap ∧ f = .int .i64 q ∧ i = .int .i64 k ∧ q ≤ k ∧ k ≤ s.size + 1 ∧ ws.length ≤ k ∧
    wr.ownsRow w.heap.size 9 1 (.slice (some ⟨g, 0, none⟩) ws.length cap) ws.length (ws.map Value.string) ∧ Below w.heap.size w wr ∧
    (k ≤ s.size → lists ws ++ ahd (pc s.data.toList q k) (splG d (s.data.toList.drop k)) = splG d s.data.toList) ∧ (k = s.size + 1 → lists ws = splG d s.data.toList)
theorem spg_chr {d : UInt8} {s : ByteArray} {ws : List ByteArray} {q k : Nat} (hq : q ≤ k) (hk : k < s.size) (hc : ¬ s[k].toNat = d.toNat) (h : lists ws ++ ahd (pc s.data.toList q k) (splG d (s.data.toList.drop k)) = splG d s.data.toList) :
    lists ws ++ ahd (pc s.data.toList q (k + 1)) (splG d (s.data.toList.drop (k + 1))) = splG d s.data.toList := by
  rw [sdrop_cons s k hk, splG_chr d _ _ _ (fun e => hc (by rw [e]))] at h
  rw [pc_succ s q k hq hk]; exact h
theorem spg_sep {d : UInt8} {s : ByteArray} {ws : List ByteArray} {q k : Nat} (hk : k < s.size) (hc : s[k].toNat = d.toNat) (h : lists ws ++ ahd (pc s.data.toList q k) (splG d (s.data.toList.drop k)) = splG d s.data.toList) :
    lists (ws ++ [s.extract q k]) ++ ahd (pc s.data.toList (k + 1) (k + 1)) (splG d (s.data.toList.drop (k + 1))) = splG d s.data.toList := by
  have e : s[k] = d := UInt8.toNat_inj.1 hc
  rw [sdrop_cons s k hk, e, splG_sep] at h
  rw [lists_snoc, pc_extract, pc_same, ahdG_nil, List.append_assoc]; exact h
theorem spg_end {d : UInt8} {s : ByteArray} {ws : List ByteArray} {q : Nat} (h : lists ws ++ ahd (pc s.data.toList q s.size) (splG d (s.data.toList.drop s.size)) = splG d s.data.toList) :
    lists (ws ++ [s.extract q s.size]) = splG d s.data.toList := by
  rw [List.drop_of_length_le (by rw [size_list]; omega), splG_end] at h
  rw [lists_snoc, pc_extract]; exact h
def SplDG (d : UInt8) (w : World) (s : ByteArray) (e : Ending) (w' : World) : Prop :=
  ∃ (g cap : Nat) (ws : List ByteArray), e = .returned (.slice (some ⟨g, 0, none⟩) ws.length cap) ∧ lists ws = splG d s.data.toList ∧ ws.length ≤ s.size + 1 ∧
    w'.ownsRow w.heap.size 9 1 (.slice (some ⟨g, 0, none⟩) ws.length cap) ws.length (ws.map Value.string) ∧ Below w.heap.size w w'
theorem below_grown2G {B : Nat} {w w1 w2 : World} {g : Nat} (h : Below B w w1) (hg : w1.grownBy w2 (some g)) (hB : B ≤ g) (hw : B ≤ w1.heap.size) : Below B w w2 := h.trans (below_of_grown hg hB hw)
set_option maxRecDepth 100000 in
set_option maxHeartbeats 8000000 in
theorem splg_any (d : UInt8) (s : ByteArray) (w : World) (hl : s.size ≤ 1048576) :
    Calls Tryd.prog 22 #[.string s, .int .u8 (d.toNat : Int)] w (SplDG d w s) := by
  obtain ⟨i0, hi, hz0, hz1, hz2⟩ := info_parts info_str
  go_enter Tryd.func22, Tryd.ntmps22
  go_wp2_with fail
  have hown := World.ownsRow_lit (base := w.heap.size) (e := 9) (size := 1) w #[] 0 (Nat.le_refl _) (by decide) (by decide)
  have HR : Hid (SplRelG d w s (.slice (some ⟨w.heap.size, 0, none⟩) 0 0) (.int .i64 0) (.int .i64 0) (w.alloc (.cells #[] 9))) :=
    Lib.hid ⟨w.heap.size, 0, [], 0, 0, rfl, rfl, rfl, by omega, by omega, by simp, hown, (Below.refl _ _).alloc (Nat.le_refl _) _, fun _ => by simp [lists, pc_same, ahdG_nil], fun h => by omega⟩
  clear hown
  go_loopw [5, 6, 7] (fun o f i wr => SplRelG d w s o f i wr) (fun _ _ i _ => s.size + 1 - (intOf i).toNat)
  case atStart => exact HR.out
  case round =>
    obtain ⟨g, cap, ws, k, q, rfl, rfl, rfl, hq, hk, hws, hown, hb, h1, h2⟩ := hrel
    clear HR
    have hg := hown.lt g rfl
    have HO := Lib.hid hown
    have HB := Lib.hid hb
    have H1 := Lib.hid h1
    have H2 := Lib.hid h2
    have hW := hb.size
    clear hown hb h1 h2
    by_cases hlt : k < s.size
    · by_cases hc : s[k].toNat = d.toNat
      · have hcb : ((s[k].toNat : Int) == (d.toNat : Int)) = true := by simp; omega
        have HL := Lib.hid (spg_sep hlt hc (H1.out (by omega)))
        have i1 : (0 : Int) ≤ (q : Int) := by omega
        have i2 : (q : Int) ≤ (k : Int) := by omega
        have i3 : (k : Int) ≤ (s.size : Int) := by omega
        clear hc
        go_wp2_with (at_builtin; (refine wpList_append_lies _ rfl _ _ 40 rfl w.heap.size 9 i0 (.string ⟨#[]⟩) 1 16 Tryd.underlying40 hi hz0 hz1 hz2 rfl (by decide) (.slice (some ⟨g, 0, none⟩) ws.length cap) ws.length (ws.map Value.string) rfl (HO.out.alloc _) ⟨wr.heap.size, 0, none⟩ 1 1 [.string (s.extract q k)] rfl rfl (World.news_of_block (cs := #[.string (s.extract q k)]) (t := 9) (fr := (0, 0)) (heap_alloc_new wr _)) (by simp [Value.oneCell']) (by omega) (by unfold maxLen; omega) (by omega) (by simp; omega) (wr.heap.size + 1) (by simp) ?_); intro g2 cap2 w9 hown3 hgrow hat hlt9)
        have HB9 := Lib.hid (below_grown2G (HB.out.alloc hW (.cells #[.string (s.extract q k)] 9)) (show _ from hgrow) hg.1 (by simp; omega))
        have HO9 := Lib.hid hown3
        clear hown3 hgrow hat hlt9
        go_roundw
        case rel => exact ⟨g2, cap2, ws ++ [s.extract q k], k + 1, k + 1, by simp, by go_num, by go_num, Nat.le_refl _, by omega, by simp; omega, by simpa using HO9.out, HB9.out, fun _ => HL.out, fun h => by omega⟩
        case measure => first | (simp [intOf]; done) | (simp [intOf]; omega)
      · have hcb : ((s[k].toNat : Int) == (d.toNat : Int)) = false := by simp; omega
        have HL := Lib.hid (spg_chr hq hlt hc (H1.out (by omega)))
        clear hc
        go_wp2
        go_roundw
        case rel => exact ⟨g, cap, ws, k + 1, q, rfl, rfl, by go_num, by omega, by omega, by omega, HO.out, HB.out, fun _ => HL.out, fun h => by omega⟩
        case measure => first | (simp [intOf]; done) | (simp [intOf]; omega)
    · by_cases he : k = s.size
      · subst he
        have HL := Lib.hid (spg_end (H1.out (by omega)))
        have i1 : (0 : Int) ≤ (q : Int) := by omega
        have i2 : (q : Int) ≤ (s.size : Int) := by omega
        go_wp2_with (at_builtin; (refine wpList_append_lies _ rfl _ _ 40 rfl w.heap.size 9 i0 (.string ⟨#[]⟩) 1 16 Tryd.underlying40 hi hz0 hz1 hz2 rfl (by decide) (.slice (some ⟨g, 0, none⟩) ws.length cap) ws.length (ws.map Value.string) rfl (HO.out.alloc _) ⟨wr.heap.size, 0, none⟩ 1 1 [.string (s.extract q s.size)] rfl rfl (World.news_of_block (cs := #[.string (s.extract q s.size)]) (t := 9) (fr := (0, 0)) (heap_alloc_new wr _)) (by simp [Value.oneCell']) (by omega) (by unfold maxLen; omega) (by omega) (by simp; omega) (wr.heap.size + 1) (by simp) ?_); intro g2 cap2 w9 hown3 hgrow hat hlt9)
        have HB9 := Lib.hid (below_grown2G (HB.out.alloc hW (.cells #[.string (s.extract q s.size)] 9)) (show _ from hgrow) hg.1 (by simp; omega))
        have HO9 := Lib.hid hown3
        clear hown3 hgrow hat hlt9
        go_roundw
        case rel => exact ⟨g2, cap2, ws ++ [s.extract q s.size], s.size + 1, s.size + 1, by simp, by go_num, by go_num, Nat.le_refl _, by omega, by simp; omega, by simpa using HO9.out, HB9.out, fun h => by omega, fun _ => HL.out⟩
        case measure => first | (simp [intOf]; done) | (simp [intOf]; omega)
      · have HL := Lib.hid (H2.out (by omega))
        go_wp2
        go_ret
        exact ⟨g, cap, ws, rfl, HL.out, by omega, HO.out, HB.out⟩
end Go.Proofs.YtcaekheghjnipabDoor
namespace Go.Proofs.YtcaekheghjnipabDoor
open Go.ChangeShapes Go.WideShapes Go.ChangeAt Go.RowKit Go.Shelf Num
set_option linter.unusedVariables false
theorem splG_count (s : UInt8) : ∀ l : List UInt8, (splG s l).length = l.count s + 1
  | [] => rfl
  | c :: l => by
    have ih := splG_count s l
    obtain ⟨x, t, e⟩ := splG_ne s l
    by_cases h : c = s
    · subst h
      have e1 := splG_sep c [] l
      rw [ahdG_nil] at e1
      rw [e1, List.length_cons, ih, List.count_cons_self]
    · have : splG s (c :: l) = (c :: x) :: t := by simp [splG, h, e]
      rw [this, List.count_cons_of_ne (by simpa using h)]
      rw [e] at ih; simpa using ih
theorem splG_le (s : UInt8) : ∀ l : List UInt8, ∀ p ∈ splG s l, p.length ≤ l.length
  | [], p, hp => by simp [splG] at hp; subst hp; simp
  | c :: l, p, hp => by
    have ih := splG_le s l
    obtain ⟨x, t, e⟩ := splG_ne s l
    by_cases h : c = s
    · subst h
      have e1 := splG_sep c [] l
      rw [ahdG_nil] at e1
      rw [e1] at hp
      rcases List.mem_cons.1 hp with rfl | hp
      · simp
      · have := ih p hp; simp; omega
    · have e2 : splG s (c :: l) = (c :: x) :: t := by simp [splG, h, e]
      rw [e2] at hp
      rw [e] at ih
      rcases List.mem_cons.1 hp with rfl | hp
      · have := ih x (by simp); simp; omega
      · have := ih p (by simp [hp]); simp; omega
theorem word_fit {d : UInt8} {s : ByteArray} {ws : List ByteArray} (hw : lists ws = splG d s.data.toList) {j : Nat} (hj : j < ws.length) : (wordAt ws j).size ≤ s.size := by
  have h1 : (wordAt ws j).data.toList ∈ splG d s.data.toList := by
    rw [← hw, ← lists_at hj, List.getD_eq_getElem?_getD, List.getElem?_eq_getElem (by simpa [lists] using hj)]
    exact List.getElem_mem _
  have h2 := splG_le d _ _ h1
  rwa [size_list, size_list] at h2
/-- all parts read: there are not more of them than letters -/
theorem pieces_fit {s : ByteArray} {ws : List ByteArray} {zs ys : List Int} (hw : lists ws = splG 44 s.data.toList) (h : PgTo ws zs ys ws.length) : ws.length ≤ s.size := by
  have hc : ws.length = s.data.toList.count 44 + 1 := by rw [← splG_count, ← hw]; simp [lists]
  have hle := List.count_le_length (a := (44 : UInt8)) (l := s.data.toList)
  have hsz := size_list s
  rcases Nat.lt_or_ge (s.data.toList.count 44) s.data.toList.length with hlt | hge
  · omega
  · exfalso
    have hall := List.count_eq_length.1 (Nat.le_antisymm hle hge)
    have hp : (splG 44 s.data.toList).getD 0 [] = [] := by
      cases hl : s.data.toList with
      | nil => rfl
      | cons c r =>
        have : c = 44 := (hall c (by rw [hl]; simp)).symm
        subst this
        have e1 := splG_sep 44 [] r
        rw [ahdG_nil] at e1
        rw [e1]; rfl
    have h0 := (h.2.2 0 (by omega)).1
    rw [← hw, lists_at (by omega)] at hp
    rw [hp] at h0
    have : (match Lib.parseIntB 64 (Lib.cut ([] : List UInt8) [58]).1 with | .ok _ => true | _ => false) = false := rfl
    rw [h0] at this
    cases this
theorem spc_any (s : ByteArray) (w : World) (hl : s.size ≤ 1048576) (hm : MaxCell w) :
    Calls Tryd.prog 24 #[.string s, .string ⟨#[44]⟩] w fun e w' => ∃ ws : List ByteArray, e = .returned (.slice (some ⟨w.heap.size, 0, none⟩) ws.length ws.length) ∧ w' = w.alloc (.cells (ws.map Value.string).toArray 9) ∧ lists ws = splG 44 s.data.toList ∧ ws.length ≤ s.size + 1 := by
  obtain ⟨m, hm⟩ := hm
  have hone : 1 ≤ (⟨#[44]⟩ : ByteArray).size := by decide
  refine (show Calls Tryd.prog 24 #[.string s, .string ⟨#[44]⟩] w _ from Any.strings_Split { Tryd.laysM146 with } Tryd.laysM146.i9 s ⟨#[44]⟩ m w (by omega) (hm w (Below.refl _ _)) hone).mono ?_
  rintro e w' ⟨rfl, hw⟩
  have hlen := Lib.splitB_all ⟨#[44]⟩ hone 0 _ s rfl
  refine ⟨Lib.splitB ⟨#[44]⟩ 0 (Lib.countB s ⟨#[44]⟩) s, by rw [hlen], hw, ?_, ?_⟩
  · rw [← splitK_G 44 _ _ (Nat.le_refl _)]
    exact Lib.splitB_data ⟨#[44]⟩ 0 _ s
  · rw [hlen]
    have := Lib.countB_le ⟨#[44]⟩ hone s.size s (Nat.le_refl _)
    omega
abbrev strC (ws : List ByteArray) : Array Value := (ws.map Value.string).toArray
theorem strC_at {ws : List ByteArray} {j : Nat} (h : j < ws.length) : (strC ws)[j]? = some (.string (wordAt ws j)) := by
  unfold strC wordAt
  rw [List.getElem?_toArray, List.getElem?_map, List.getElem?_eq_getElem h, List.getD_eq_getElem?_getD, List.getElem?_eq_getElem h]; rfl
/-- two rows in the fields of a boxed profile, the result's block, the parts of the text -/
structure RdS (w w1 : World) (Bs : Nat) (ws : List ByteArray) (a1 : Option Addr) (c1 : Nat) (a2 : Option Addr) (c2 : Nat) (L1 L2 : List Int) (W : World) : Prop where
  r1 : W.ownsRow w1.heap.size 2 1 (.slice a1 L1.length c1) L1.length (L1.map iv4)
  r2 : W.ownsRow w1.heap.size 2 1 (.slice a2 L2.length c2) L2.length (L2.map iv4)
  ne : ∀ g, (Value.slice a1 L1.length c1).ownBlock = some g → (Value.slice a2 L2.length c2).ownBlock ≠ some g
  box : Bk W (w.heap.size + 1) #[.slice a1 L1.length c1, .slice a2 L2.length c2] 24
  res : Bk W w.heap.size #[.slice none 0 0, .slice none 0 0] 24
  str : Bk W Bs (strC ws) 9
  bel : Below w.heap.size w W
  lo : w.heap.size + 1 < w1.heap.size
  ls : Bs < w1.heap.size
  nb : w.heap.size + 1 < Bs
  up : w1.heap.size ≤ W.heap.size
section
variable {w w1 W W' : World} {Bs c1 c2 : Nat} {ws : List ByteArray} {a1 a2 : Option Addr} {L1 L2 : List Int}
theorem RdS.on (h : RdS w w1 Bs ws a1 c1 a2 c2 L1 L2 W) (hb : Below W.heap.size W W') : RdS w w1 Bs ws a1 c1 a2 c2 L1 L2 W' :=
  ⟨own_bel h.r1 hb, own_bel h.r2 hb, h.ne, h.box.on hb, h.res.on hb, h.str.on hb, bel_end h.bel hb, h.lo, h.ls, h.nb, Nat.le_trans h.up hb.size⟩

/-- one number more in row 1, stored into its field -/
theorem RdS.put1 (h : RdS w w1 Bs ws a1 c1 a2 c2 L1 L2 W) {o : Obj} {g cap : Nat} {x : Int} {w9 : World} (hown : w9.ownsRow w1.heap.size 2 1 (.slice (some ⟨g, 0, none⟩) (L1.length + 1) cap) (L1.length + 1) (L1.map iv4 ++ [.int .i64 x]))
    (hgrow : (W.alloc o).grownBy w9 (Value.slice a1 L1.length c1).ownBlock) (hat : (Value.slice a1 L1.length c1).ownBlock = some g ∨ g = W.heap.size + 1) :
    Bk w9 (w.heap.size + 1) #[.slice a1 L1.length c1, .slice a2 L2.length c2] 24 ∧ RdS w w1 Bs ws (some ⟨g, 0, none⟩) cap a2 c2 (L1 ++ [x]) L2 (w9.setCell ⟨w.heap.size + 1, 0, none⟩ (.slice (some ⟨g, 0, none⟩) (L1.length + 1) cap)) := by
  have hlo := h.lo
  have hls := h.ls
  have hnb := h.nb
  have hno : ∀ k, k < w1.heap.size → k < (W.alloc o).heap.size → w9.heap[k]? = (W.alloc o).heap[k]? := fun k hk hk2 => hgrow.block k hk2 (fun e => by have := (h.r1.lt k e.symm).1; omega)
  have kb : ∀ {B : Nat} {cs : Array Value} {t : TypeId}, Bk W B cs t → B < w1.heap.size → Bk w9 B cs t := fun hb hB => (hno _ hB (hb.alloc o).lt).trans (hb.alloc o)
  have bb := kb h.box hlo
  refine ⟨bb, ⟨?_, ?_, ?_, ?_, ?_, ?_, ?_, hlo, hls, hnb, by have h1 := hgrow.size; have h2 := h.up; rw [World.size_alloc] at h1; simp; omega⟩⟩
  · exact ownsRow_setCell_below (by simpa [iv4] using hown) (by simp; omega) _
  · refine ownsRow_setCell_below ((h.r2.alloc o).kept hgrow ?_) (by simp; omega) _
    cases e : (Value.slice a2 L2.length c2).ownBlock with
    | none => exact Or.inl rfl
    | some k => exact Or.inr fun e' => h.ne k e'.symm e
  · intro k e e'
    have hk : g = k := by simpa [Value.ownBlock] using e
    subst hk
    rcases hat with h1 | h1
    · exact h.ne g h1 e'
    · have := (h.r2.lt g e').2
      omega
  · have := Bk.set bb 0 (.slice (some ⟨g, 0, none⟩) (L1.length + 1) cap) rfl; simpa using this
  · exact (kb h.res (by omega)).other (by omega) _ _
  · exact (kb h.str hls).other (by omega) _ _
  · refine ((h.bel.alloc h.bel.size o).grown hgrow (by have := h.bel.size; simp; omega) (fun k e => by have := (h.r1.lt k e).1; omega)).setCell (by simp) _

/-- one number more in row 2, stored into its field -/
theorem RdS.put2 (h : RdS w w1 Bs ws a1 c1 a2 c2 L1 L2 W) {o : Obj} {g cap : Nat} {x : Int} {w9 : World} (hown : w9.ownsRow w1.heap.size 2 1 (.slice (some ⟨g, 0, none⟩) (L2.length + 1) cap) (L2.length + 1) (L2.map iv4 ++ [.int .i64 x]))
    (hgrow : (W.alloc o).grownBy w9 (Value.slice a2 L2.length c2).ownBlock) (hat : (Value.slice a2 L2.length c2).ownBlock = some g ∨ g = W.heap.size + 1) :
    Bk w9 (w.heap.size + 1) #[.slice a1 L1.length c1, .slice a2 L2.length c2] 24 ∧ RdS w w1 Bs ws a1 c1 (some ⟨g, 0, none⟩) cap L1 (L2 ++ [x]) (w9.setCell ⟨w.heap.size + 1, 1, none⟩ (.slice (some ⟨g, 0, none⟩) (L2.length + 1) cap)) := by
  have hlo := h.lo
  have hls := h.ls
  have hnb := h.nb
  have hno : ∀ k, k < w1.heap.size → k < (W.alloc o).heap.size → w9.heap[k]? = (W.alloc o).heap[k]? := fun k hk hk2 => hgrow.block k hk2 (fun e => by have := (h.r2.lt k e.symm).1; omega)
  have kb : ∀ {B : Nat} {cs : Array Value} {t : TypeId}, Bk W B cs t → B < w1.heap.size → Bk w9 B cs t := fun hb hB => (hno _ hB (hb.alloc o).lt).trans (hb.alloc o)
  have bb := kb h.box hlo
  refine ⟨bb, ⟨?_, ?_, ?_, ?_, ?_, ?_, ?_, hlo, hls, hnb, by have h1 := hgrow.size; have h2 := h.up; rw [World.size_alloc] at h1; simp; omega⟩⟩
  · refine ownsRow_setCell_below ((h.r1.alloc o).kept hgrow ?_) (by simp; omega) _
    cases e : (Value.slice a1 L1.length c1).ownBlock with
    | none => exact Or.inl rfl
    | some k => exact Or.inr fun e' => h.ne k e e'.symm
  · exact ownsRow_setCell_below (by simpa [iv4] using hown) (by simp; omega) _
  · intro k e e'
    have hk : g = k := by simpa [Value.ownBlock] using e'
    subst hk
    rcases hat with h1 | h1
    · exact h.ne g e h1
    · have := (h.r1.lt g e).2
      omega
  · have := Bk.set bb 1 (.slice (some ⟨g, 0, none⟩) (L2.length + 1) cap) rfl; simpa using this
  · exact (kb h.res (by omega)).other (by omega) _ _
  · exact (kb h.str hls).other (by omega) _ _
  · refine ((h.bel.alloc h.bel.size o).grown hgrow (by have := h.bel.size; simp; omega) (fun k e => by have := (h.r2.lt k e).1; omega)).setCell (by simp) _
end
end Go.Proofs.YtcaekheghjnipabDoor
namespace Go.Proofs.YtcaekheghjnipabDoor
open Go.ChangeShapes Go.WideShapes Go.ChangeAt Go.RowKit Go.Shelf Num
set_option linter.unusedVariables false
attribute [local go_sem ↓] Go.wp_at_zero Go.wp_at_succ
def RdPrf (w : World) (s : ByteArray) (e : Ending) (w' : World) : Prop := ∃ (a b : Option Addr) (c d : Nat) (zs ys : List Int) (k : Bool), e = .returned (.tuple #[.agg #[.slice a zs.length c, .slice b ys.length d], .bool k]) ∧ RPf s zs ys k ∧ OwnQ w' w.heap.size w'.heap.size a c b d zs ys ∧ Below w.heap.size w w'
theorem own_set2 {w : World} {lo B : Nat} {a : Option Addr} {c : Nat} {zs : List Int} {u v : Value} (h : w.ownsRow lo 2 1 (.slice a zs.length c) zs.length (zs.map iv4)) (hB : B < lo) : ((w.setCell ⟨B, 0, none⟩ u).setCell ⟨B, 1, none⟩ v).ownsRow lo 2 1 (.slice a zs.length c) zs.length (zs.map iv4) :=
  ownsRow_setCell_below (ownsRow_setCell_below h (by simpa using hB) _) (by simpa using hB) _
set_option maxRecDepth 100000 in
set_option maxHeartbeats 4000000 in
theorem irp_any (s : ByteArray) (w : World) (hl : s.size ≤ 1048576) (ht : Pow10 w) (he : Errs w) (hm : MaxCell w) :
    Calls Tryd.prog 6 #[.string s] w (RdPrf w s) := by
  have HT := Lib.hid ht
  have HE := Lib.hid he
  have HM := Lib.hid hm
  clear ht he hm
  obtain ⟨i0, hi0, hz0, hz1, hz2⟩ := info_parts info_i64
  go_enter Tryd.func6, Tryd.ntmps6
  go_wp2_with fail
  generalize hW : World.alloc _ _ = W
  have bR : Bk W w.heap.size #[.slice none 0 0, .slice none 0 0] 24 := by rw [← hW]; exact (Bk.new' (by simp)).alloc _
  have bP : Bk W (w.heap.size + 1) #[.slice none 0 0, .slice none 0 0] 24 := by rw [← hW]; exact Bk.new' (by simp)
  have hb0 : Below w.heap.size w W := by rw [← hW]; exact (by repeat (first | exact Below.refl _ _ | (refine Below.alloc ?_ (by simp <;> omega) _) | (refine Below.setCell ?_ (by simp <;> omega) _) | (refine Below.drew ?_) | (refine bel_drewN ?_ _)))
  clear hW
  have hlP := bP.lt
  refine (spc_any s W hl (HM.out.later hb0)).mono ?_
  rintro e w1 ⟨ws, rfl, hw1, hws, hn⟩
  have bS : Bk w1 W.heap.size (strC ws) 9 := by rw [hw1]; exact Bk.new' rfl
  have hb1 : Below W.heap.size W w1 := by rw [hw1]; exact (by repeat (first | exact Below.refl _ _ | (refine Below.alloc ?_ (by simp <;> omega) _) | (refine Below.setCell ?_ (by simp <;> omega) _) | (refine Below.drew ?_) | (refine bel_drewN ?_ _)))
  have hl1 := bS.lt
  have HD : Hid (RdS w w1 W.heap.size ws none 0 none 0 [] [] w1) := Lib.hid ⟨World.ownsRow_nil _ _ _ _, World.ownsRow_nil _ _ _ _, fun g e => by simp [Value.ownBlock] at e, bP.on hb1, bR.on hb1, bS, bel_end hb0 hb1, by omega, hl1, hlP, Nat.le_refl _⟩
  have HW := Lib.hid hws
  clear hw1 hb1 hb0 bR bP bS hws
  go_wp2_with fail
  go_loopw [13] (fun i wr => ∃ (k : Nat) (a1 : Option Addr) (c1 : Nat) (a2 : Option Addr) (c2 : Nat) (L1 L2 : List Int), i = .int .i64 (k : Int) ∧ k ≤ ws.length ∧ PgTo ws L1 L2 k ∧ RdS w w1 W.heap.size ws a1 c1 a2 c2 L1 L2 wr) (fun i _ => ws.length - (intOf i).toNat)
  case atStart => exact ⟨0, none, 0, none, 0, [], [], rfl, by omega, ⟨rfl, rfl, fun j hj => by omega⟩, HD.out⟩
  case round =>
    obtain ⟨k, a1, c1, a2, c2, L1, L2, rfl, hk, hpg, hD⟩ := hrel
    clear HD
    have hl2 := hpg.1
    have hl3 := hpg.2.1
    have HG := Lib.hid hpg
    have hsz := hD.bel.size
    have HD := Lib.hid hD
    clear hpg hD
    by_cases hlt : k < ws.length
    case pos =>
      have hc := HD.out.str.cell k (strC_at hlt)
      have hws2 := word_fit HW.out hlt
      obtain ⟨t, htw⟩ : ∃ t, wordAt ws k = t := ⟨_, rfl⟩
      rw [htw] at hc hws2
      have HTW := Lib.hid htw
      clear htw
      clear hl2 hl3
      go_wp2_with fail
      refine (rdp_any t ⟨#[58]⟩ _ (by omega) (HE.out.later HD.out.bel) (HM.out.later HD.out.bel)).mono ?_
      rintro e w2 ⟨x, y, b, rfl, hv, hb⟩
      replace HD := Lib.hid (HD.out.on hb)
      have hsz2 := hb.size
      clear hb hc
      have hl2 : L1.length ≤ 1048577 := by have := HG.out.1; omega
      have hl3 : L2.length ≤ 1048577 := by have := HG.out.2.1; omega
      rcases hv with ⟨rfl, h1, h2⟩ | ⟨rfl, rfl, rfl, hno⟩
      · have HN := Lib.hid (HG.out.snoc (x := x) (y := y) (by rw [HTW.out]; exact h1) (by rw [HTW.out]; exact h2))
        clear h1 h2
        have p0 := HD.out.box.cell 0 rfl
        have p1 := HD.out.box.cell 1 rfl
        have pl := HD.out.box.lt
        have pb := HD.out.bel.size
        have plo := HD.out.lo
        have hb1 := HD.out.up
        go_upto_region 9 with (at_builtin; refine wpList_append_lies _ rfl _ _ 22 rfl (w1.heap.size) 2 i0 (.int .i64 0) 1 8 Tryd.underlying22 hi0 hz0 hz1 hz2 rfl (by decide) (.slice a1 L1.length c1) L1.length (L1.map iv4) rfl (HD.out.r1.alloc _) ⟨w2.heap.size, 0, none⟩ 1 1 [.int .i64 x] rfl rfl (cell_one_new _ _ _) (by simp [Value.oneCell']) (by decide) (by unfold maxLen; omega) (by omega) (by simp; omega) (w2.heap.size + 1) (by simp) ?_; intro g cap w9 hown hgrow hat hlt9; obtain ⟨b9, hs9⟩ := HD.out.put1 hown hgrow hat; have HD2 := Lib.hid hs9; have y0 := b9.cell 0 rfl; have y1 := b9.cell 1 rfl; have yf0 := b9.frozen 0; have yf1 := b9.frozen 1; clear hown hgrow hat hlt9 hs9)
        clear y0 y1 yf0 yf1 p0 p1 pl
        generalize hW5 : World.setCell _ _ _ = w5
        rw [hW5] at HD2
        clear hW5 HD
        have p0 := HD2.out.box.cell 0 rfl
        have p1 := HD2.out.box.cell 1 rfl
        have pl := HD2.out.box.lt
        have hb5 := HD2.out.up
        obtain ⟨N1, hN1⟩ : ∃ N, L1.length + 1 = N := ⟨_, rfl⟩
        go_wp2_with (at_builtin; refine wpList_append_lies _ rfl _ _ 22 rfl (w1.heap.size) 2 i0 (.int .i64 0) 1 8 Tryd.underlying22 hi0 hz0 hz1 hz2 rfl (by decide) (.slice a2 L2.length c2) L2.length (L2.map iv4) rfl (HD2.out.r2.alloc _) ⟨w5.heap.size, 0, none⟩ 1 1 [.int .i64 y] rfl rfl (cell_one_new _ _ _) (by simp [Value.oneCell']) (by decide) (by unfold maxLen; omega) (by omega) (by simp; omega) (w5.heap.size + 1) (by simp) ?_; intro g2 cap2 w9 hown hgrow hat hlt9; obtain ⟨b9, hs9⟩ := HD2.out.put2 hown hgrow hat; have HD3 := Lib.hid hs9; have y0 := b9.cell 0 rfl; have y1 := b9.cell 1 rfl; have yf0 := b9.frozen 0; have yf1 := b9.frozen 1; clear hown hgrow hat hlt9 hs9)
        go_roundw
        (case rel => exact ⟨k + 1, some ⟨g, 0, none⟩, cap, some ⟨g2, 0, none⟩, cap2, L1 ++ [x], L2 ++ [y], by go_num, by omega, HN.out, HD3.out⟩)
        (case measure => simp [intOf]; omega)
      · have HR := Lib.hid (rp_bad HW.out hlt (fun u v hu hv => hno u v (by rw [HTW.out] at hu; exact hu) (by rw [HTW.out] at hv; exact hv)))
        clear hno
        have r0 := HD.out.res.cell 0 rfl
        have r1 := HD.out.res.cell 1 rfl
        have rf0 := HD.out.res.frozen 0
        have rf1 := HD.out.res.frozen 1
        have rl := HD.out.res.lt
        go_wp2
        exact bodyPost_ret (v := .tuple #[.agg #[.slice none 0 0, .slice none 0 0], .bool false]) (by simp [results, Tryd.results6, go_sem, r0, r1]) rfl ⟨none, none, 0, 0, [], [], false, rfl, HR.out, OwnQ.nil _ _ _ (Nat.le_refl _), (HD.out.bel.setCell (Nat.le_refl _) _).setCell (Nat.le_refl _) _⟩
    case neg =>
      obtain rfl : k = ws.length := by omega
      have hfit := pieces_fit HW.out HG.out
      have p0 := HD.out.box.cell 0 rfl
      have p1 := HD.out.box.cell 1 rfl
      have pl := HD.out.box.lt
      have hpr : Prof wr wr.heap.size a1 a2 L1 L2 := ⟨own_ints HD.out.r1, own_ints HD.out.r2, by omega, by omega⟩
      have PF := Lib.hid hpr
      clear hpr
      clear hl2 hl3
      go_wp2_with fail
      refine (itp_any _ _ _ _ _ L1 L2 PF.out (HT.out.later HD.out.bel)).mono ?_
      rintro e w2 ⟨rfl, hb⟩
      replace HD := Lib.hid (HD.out.on hb)
      have hup := HD.out.up
      have hlo := HD.out.lo
      clear hb p0 p1 pl
      have p0 := HD.out.box.cell 0 rfl
      have p1 := HD.out.box.cell 1 rfl
      have pl := HD.out.box.lt
      have r0 := HD.out.res.cell 0 rfl
      have r1 := HD.out.res.cell 1 rfl
      have rf0 := HD.out.res.frozen 0
      have rf1 := HD.out.res.frozen 1
      have rl := HD.out.res.lt
      have n1 : ¬ w.heap.size + 1 = w.heap.size := by omega
      have n2 : ¬ w.heap.size = w.heap.size + 1 := by omega
      by_cases hs : pfT L1 L2 = s
      · have hqq : ((pfT L1 L2).toList == s.toList) = true := by rw [hs]; simp
        have HR := Lib.hid (rp_yes HW.out HG.out hs)
        clear hs
        go_wp2
        exact bodyPost_ret (v := .tuple #[.agg #[.slice a1 L1.length c1, .slice a2 L2.length c2], .bool true]) (by simp [results, Tryd.results6, go_sem, r0, r1]) rfl ⟨a1, a2, c1, c2, L1, L2, true, rfl, HR.out, ⟨⟨World.ownsRow.mono (own_set2 HD.out.r1 (by omega)) (by omega), fun g e => by have := (HD.out.r1.lt g e).2; simp; omega, by simp⟩, ⟨World.ownsRow.mono (own_set2 HD.out.r2 (by omega)) (by omega), fun g e => by have := (HD.out.r2.lt g e).2; simp; omega, by simp⟩, HD.out.ne⟩, (HD.out.bel.setCell (Nat.le_refl _) _).setCell (Nat.le_refl _) _⟩
      · have hqq := ne_str hs
        have HR := Lib.hid (rp_ne HW.out HG.out hs)
        clear hs
        go_wp2
        exact bodyPost_ret (v := .tuple #[.agg #[.slice none 0 0, .slice none 0 0], .bool false]) (by simp [results, Tryd.results6, go_sem, r0, r1]) rfl ⟨none, none, 0, 0, [], [], false, rfl, HR.out, OwnQ.nil _ _ _ (by simp), (HD.out.bel.setCell (Nat.le_refl _) _).setCell (Nat.le_refl _) _⟩
end Go.Proofs.YtcaekheghjnipabDoor
namespace Go.Proofs.YtcaekheghjnipabDoor
open Go.ChangeShapes Go.WideShapes Go.ChangeAt Go.RowKit Go.Shelf Num
set_option linter.unusedVariables false
attribute [local go_sem ↓] Go.wp_at_zero Go.wp_at_succ
theorem pieces_fitM {s : ByteArray} {ws : List ByteArray} {zs ys : List Int} (hw : lists ws = splG 44 s.data.toList) (h : MdTo ws zs ys ws.length) : ws.length ≤ s.size := by
  have hc : ws.length = s.data.toList.count 44 + 1 := by rw [← splG_count, ← hw]; simp [lists]
  have hle := List.count_le_length (a := (44 : UInt8)) (l := s.data.toList)
  have hsz := size_list s
  rcases Nat.lt_or_ge (s.data.toList.count 44) s.data.toList.length with hlt | hge
  · omega
  · exfalso
    have hall := List.count_eq_length.1 (Nat.le_antisymm hle hge)
    have hp : (splG 44 s.data.toList).getD 0 [] = [] := by
      cases hl : s.data.toList with
      | nil => rfl
      | cons c r =>
        have : c = 44 := (hall c (by rw [hl]; simp)).symm
        subst this
        have e1 := splG_sep 44 [] r
        rw [ahdG_nil] at e1
        rw [e1]; rfl
    have h0 := (h.2.2 0 (by omega)).2
    rw [← hw, lists_at (by omega)] at hp
    rw [hp] at h0
    simp [splG] at h0
/-- two rows of numbers behind a world that stays -/
structure MdS (w1 : World) (a1 : Option Addr) (c1 : Nat) (a2 : Option Addr) (c2 : Nat) (L1 L2 : List Int) (W : World) : Prop where
  r1 : W.ownsRow w1.heap.size 2 1 (.slice a1 L1.length c1) L1.length (L1.map iv4)
  r2 : W.ownsRow w1.heap.size 2 1 (.slice a2 L2.length c2) L2.length (L2.map iv4)
  ne : ∀ g, (Value.slice a1 L1.length c1).ownBlock = some g → (Value.slice a2 L2.length c2).ownBlock ≠ some g
  bel : Below w1.heap.size w1 W
section
variable {w1 W W' : World} {c1 c2 : Nat} {a1 a2 : Option Addr} {L1 L2 : List Int}
theorem MdS.on (h : MdS w1 a1 c1 a2 c2 L1 L2 W) (hb : Below W.heap.size W W') : MdS w1 a1 c1 a2 c2 L1 L2 W' :=
  ⟨own_bel h.r1 hb, own_bel h.r2 hb, h.ne, bel_end h.bel hb⟩

theorem MdS.put1 (h : MdS w1 a1 c1 a2 c2 L1 L2 W) {o : Obj} {g cap : Nat} {x : Int} {w9 : World} (hown : w9.ownsRow w1.heap.size 2 1 (.slice (some ⟨g, 0, none⟩) (L1.length + 1) cap) (L1.length + 1) (L1.map iv4 ++ [.int .i64 x]))
    (hgrow : (W.alloc o).grownBy w9 (Value.slice a1 L1.length c1).ownBlock) (hat : (Value.slice a1 L1.length c1).ownBlock = some g ∨ g = W.heap.size + 1) :
    MdS w1 (some ⟨g, 0, none⟩) cap a2 c2 (L1 ++ [x]) L2 w9 := by
  have hup := h.bel.size
  refine ⟨by simpa [iv4] using hown, (h.r2.alloc o).kept hgrow ?_, ?_, (h.bel.alloc hup o).grown hgrow (by simp; omega) (fun k e => (h.r1.lt k e).1)⟩
  · cases e : (Value.slice a2 L2.length c2).ownBlock with
    | none => exact Or.inl rfl
    | some k => exact Or.inr fun e' => h.ne k e'.symm e
  · intro k e e'
    have hk : g = k := by simpa [Value.ownBlock] using e
    subst hk
    rcases hat with h1 | h1
    · exact h.ne g h1 e'
    · have := (h.r2.lt g e').2
      omega

theorem MdS.put2 (h : MdS w1 a1 c1 a2 c2 L1 L2 W) {o : Obj} {g cap : Nat} {x : Int} {w9 : World} (hown : w9.ownsRow w1.heap.size 2 1 (.slice (some ⟨g, 0, none⟩) (L2.length + 1) cap) (L2.length + 1) (L2.map iv4 ++ [.int .i64 x]))
    (hgrow : (W.alloc o).grownBy w9 (Value.slice a2 L2.length c2).ownBlock) (hat : (Value.slice a2 L2.length c2).ownBlock = some g ∨ g = W.heap.size + 1) :
    MdS w1 a1 c1 (some ⟨g, 0, none⟩) cap L1 (L2 ++ [x]) w9 := by
  have hup := h.bel.size
  refine ⟨(h.r1.alloc o).kept hgrow ?_, by simpa [iv4] using hown, ?_, (h.bel.alloc hup o).grown hgrow (by simp; omega) (fun k e => (h.r2.lt k e).1)⟩
  · cases e : (Value.slice a1 L1.length c1).ownBlock with
    | none => exact Or.inl rfl
    | some k => exact Or.inr fun e' => h.ne k e e'.symm
  · intro k e e'
    have hk : g = k := by simpa [Value.ownBlock] using e'
    subst hk
    rcases hat with h1 | h1
    · exact h.ne g e h1
    · have := (h.r1.lt g e).2
      omega
end
theorem nums_cell {w : World} {B g cap : Nat} {xs : List Int} (h : w.ownsRow B 2 1 (.slice (some ⟨g, 0, none⟩) xs.length cap) xs.length (xs.map (Value.int .i64))) {j : Nat} (hj : j < xs.length) : w.cell? ⟨g, j, none⟩ = some (.int .i64 (xs.getD j 0)) := by
  rw [h.cellAt j (by omega), List.getElem?_map, List.getElem?_eq_getElem hj, List.getD_eq_getElem?_getD, List.getElem?_eq_getElem hj]; rfl
set_option maxRecDepth 100000 in
set_option maxHeartbeats 8000000 in
theorem srp_any (s : ByteArray) (w : World) (hl : s.size ≤ 1048576) :
    Calls Tryd.prog 5 #[.string s] w (RdPrf w s) := by
  obtain ⟨i0, hi0, hz0, hz1, hz2⟩ := info_parts info_i64
  go_enter Tryd.func5, Tryd.ntmps5
  go_wp2_with fail
  generalize hW : World.alloc _ _ = W
  have bR : Bk W w.heap.size #[.slice none 0 0, .slice none 0 0] 24 := by rw [← hW]; exact Bk.new' (by simp)
  have hb0 : Below w.heap.size w W := by rw [← hW]; exact (by repeat (first | exact Below.refl _ _ | (refine Below.alloc ?_ (by simp <;> omega) _) | (refine Below.setCell ?_ (by simp <;> omega) _) | (refine Below.drew ?_) | (refine bel_drewN ?_ _)))
  clear hW
  have hlR := bR.lt
  refine (splg_any 44 s W hl).mono ?_
  rintro e w1 ⟨g0, cap0, ws, rfl, hws, hn, hown, hb⟩
  have HC := Lib.hid (own_word hown)
  have hg0 := (hown.lt g0 rfl).2
  have HR := Lib.hid (bR.on hb)
  have HB := Lib.hid (bel_end hb0 hb)
  have HW := Lib.hid hws
  have hl1 := HR.out.lt
  clear hown hb hb0 bR hws
  have hs1 : ((w1.alloc (.cells #[] 2)).alloc (.cells #[] 2)).heap.size = w1.heap.size + 1 + 1 := by simp
  have HD : Hid (MdS w1 (some ⟨w1.heap.size, 0, none⟩) 0 (some ⟨w1.heap.size + 1, 0, none⟩) 0 [] [] ((w1.alloc (.cells #[] 2)).alloc (.cells #[] 2))) := Lib.hid (by
    have q1 := World.ownsRow_lit (base := w1.heap.size) (e := 2) (size := 1) w1 #[] 0 (Nat.le_refl _) (by decide) (by decide)
    have q2 := World.ownsRow_lit (base := w1.heap.size) (e := 2) (size := 1) (w1.alloc (.cells #[] 2)) #[] 0 (by simp) (by decide) (by decide)
    rw [World.size_alloc] at q2
    exact ⟨q1.alloc _, q2, fun g e e' => by simp [Value.ownBlock] at e e'; omega, (by repeat (first | exact Below.refl _ _ | (refine Below.alloc ?_ (by simp <;> omega) _) | (refine Below.setCell ?_ (by simp <;> omega) _) | (refine Below.drew ?_) | (refine bel_drewN ?_ _)))⟩)
  clear hs1
  go_wp2_with fail
  go_loopw [5, 6, 7] (fun v1 v2 i wr => ∃ (k : Nat) (a1 : Option Addr) (c1 : Nat) (a2 : Option Addr) (c2 : Nat) (L1 L2 : List Int), v1 = .slice a1 L1.length c1 ∧ v2 = .slice a2 L2.length c2 ∧ i = .int .i64 (k : Int) ∧ k ≤ ws.length ∧ MdTo ws L1 L2 k ∧ MdS w1 a1 c1 a2 c2 L1 L2 wr) (fun _ _ i _ => ws.length - (intOf i).toNat)
  case atStart => exact ⟨0, _, 0, _, 0, [], [], rfl, rfl, rfl, by omega, ⟨rfl, rfl, fun j hj => by omega⟩, HD.out⟩
  case round =>
    obtain ⟨k, a1, c1, a2, c2, L1, L2, rfl, rfl, rfl, hk, hmd, hD⟩ := hrel
    clear HD
    have HG := Lib.hid hmd
    have hup := hD.bel.size
    have HD := Lib.hid hD
    clear hmd hD
    by_cases hlt : k < ws.length
    case pos =>
      have hc := kc1 (HC.out k hlt) HD.out.bel
      have hws2 := word_fit HW.out hlt
      obtain ⟨t, htw⟩ : ∃ t, wordAt ws k = t := ⟨_, rfl⟩
      rw [htw] at hc hws2
      have HTW := Lib.hid htw
      clear htw
      go_wp2_with fail
      refine (splg_any 58 t _ (by omega)).mono ?_
      rintro e w2 ⟨g2, cap2, vs, rfl, hvw, hvl, hvo, hb⟩
      have HV := Lib.hid (own_word hvo)
      have hg2 := (hvo.lt g2 rfl).2
      have HVW := Lib.hid hvw
      replace HD := Lib.hid (HD.out.on hb)
      have hup2 := HD.out.bel.size
      clear hvo hvw hb hc
      go_wp2_with fail
      have QQ := Lib.hid (And.intro (fun k e => (HD.out.r1.lt k e).2) (fun k e => (HD.out.r2.lt k e).2) : (∀ k, (Value.slice a1 L1.length c1).ownBlock = some k → k < w2.heap.size) ∧ (∀ k, (Value.slice a2 L2.length c2).ownBlock = some k → k < w2.heap.size))
      refine (nums_any g2 cap2 vs _ HV.out (fun j hj => by have := word_fit HVW.out hj; omega) hg2 (by omega)).mono ?_
      rintro e w3 hnd
      have hl2 : L1.length ≤ 1048577 := by have := HG.out.1; omega
      have hl3 : L2.length ≤ 1048577 := by have := HG.out.2.1; omega
      rcases hnd with ⟨g3, cap3, xs, rfl, hnt, hxo, hb⟩ | ⟨rfl, hbad, hb⟩
      · have hbx := hb.size
        replace HD := Lib.hid (HD.out.on hb)
        have hup3 := HD.out.bel.size
        by_cases h2 : xs.length = 2
        · have hx0 := nums_cell hxo (j := 0) (by omega)
          have hx1 := nums_cell hxo (j := 1) (by omega)
          have hg3 := hxo.lt g3 rfl
          obtain ⟨⟨f1, f2⟩, fe⟩ := two_words HVW.out hnt h2
          obtain ⟨x, hx⟩ : ∃ x, xs.getD 0 0 = x := ⟨_, rfl⟩
          obtain ⟨y, hy⟩ : ∃ x, xs.getD 1 0 = x := ⟨_, rfl⟩
          rw [hx] at hx0 f1 fe
          rw [hy] at hx1 f2 fe
          have HN := Lib.hid (HG.out.snoc f1 f2 (by rw [HTW.out]; exact fe))
          have hne2 : ((xs.length : Int) != 2) = false := by simp; omega
          have i1 : (0 : Int) < (xs.length : Int) := by omega
          have i2 : (1 : Int) < (xs.length : Int) := by omega
          have hgb := hb.size
          have q1 : ∀ k, (Value.slice a1 L1.length c1).ownBlock = some k → k < w2.heap.size := fun k e => by
            have := (HD.out.r1.lt k e)
            have := QQ.out.1 k e
            omega
          clear hb hnt hxo hx hy f1 f2 fe h2
          go_wp2_with (first | (at_builtin; refine wpList_append_lies _ rfl _ _ 22 rfl (w1.heap.size) 2 i0 (.int .i64 0) 1 8 Tryd.underlying22 hi0 hz0 hz1 hz2 rfl (by decide) (.slice a1 L1.length c1) L1.length (L1.map iv4) rfl (HD.out.r1.alloc _) ⟨w3.heap.size, 0, none⟩ 1 1 [.int .i64 x] rfl rfl (cell_one_new _ _ _) (by simp [Value.oneCell']) (by decide) (by unfold maxLen; omega) (by omega) (by simp; omega) (w3.heap.size + 1) (by simp) ?_; intro g1' cap1' w19 hown hgrow hat hlt9; have HD19 := Lib.hid (HD.out.put1 hown hgrow hat); have hup1 := HD19.out.bel.size; have x1 := hgrow.cell (kc1 hx1 ((Below.refl _ _).alloc (Nat.le_refl _) _)) (fun e => by have := q1 _ e.symm; simp at this; omega); clear hown hgrow hat hlt9) | (at_builtin; refine wpList_append_lies _ rfl _ _ 22 rfl (w1.heap.size) 2 i0 (.int .i64 0) 1 8 Tryd.underlying22 hi0 hz0 hz1 hz2 rfl (by decide) (.slice a2 L2.length c2) L2.length (L2.map iv4) rfl (HD19.out.r2.alloc _) ⟨w19.heap.size, 0, none⟩ 1 1 [.int .i64 y] rfl rfl (cell_one_new _ _ _) (by simp [Value.oneCell']) (by decide) (by unfold maxLen; omega) (by omega) (by simp; omega) (w19.heap.size + 1) (by simp) ?_; intro g2' cap2' w29 hown hgrow hat hlt9; have HD29 := Lib.hid (HD19.out.put2 hown hgrow hat); have hup2 := HD29.out.bel.size; clear hown hgrow hat hlt9))
          go_roundw
          (case rel => exact ⟨k + 1, some ⟨g1', 0, none⟩, cap1', some ⟨g2', 0, none⟩, cap2', L1 ++ [x], L2 ++ [y], by simp, by simp, by go_num, by omega, HN.out, HD29.out⟩)
          (case measure => simp [intOf]; omega)
        · have hne2 : ((xs.length : Int) != 2) = true := by simp; omega
          have HX := Lib.hid (rm_bad HW.out hlt (by rw [HTW.out]; exact not_two HVW.out hnt h2))
          have bX := (HR.out.on HD.out.bel)
          have r0 := bX.cell 0 rfl
          have r1 := bX.cell 1 rfl
          have rf0 := bX.frozen 0
          have rf1 := bX.frozen 1
          have rl := bX.lt
          clear hb hnt hxo h2
          go_wp2
          exact bodyPost_ret (v := .tuple #[.agg #[.slice none 0 0, .slice none 0 0], .bool false]) (by simp [results, Tryd.results5, go_sem, r0, r1]) rfl ⟨none, none, 0, 0, [], [], false, rfl, HX.out, OwnQ.nil _ _ _ (Nat.le_refl _), ((bel_end HB.out HD.out.bel).setCell (Nat.le_refl _) _).setCell (Nat.le_refl _) _⟩
      · replace HD := Lib.hid (HD.out.on hb)
        have HX := Lib.hid (rm_bad HW.out hlt (by rw [HTW.out]; exact not_num HVW.out hbad))
        have bX := (HR.out.on HD.out.bel)
        have r0 := bX.cell 0 rfl
        have r1 := bX.cell 1 rfl
        have rf0 := bX.frozen 0
        have rf1 := bX.frozen 1
        have rl := bX.lt
        clear hb hbad
        go_wp2
        exact bodyPost_ret (v := .tuple #[.agg #[.slice none 0 0, .slice none 0 0], .bool false]) (by simp [results, Tryd.results5, go_sem, r0, r1]) rfl ⟨none, none, 0, 0, [], [], false, rfl, HX.out, OwnQ.nil _ _ _ (Nat.le_refl _), ((bel_end HB.out HD.out.bel).setCell (Nat.le_refl _) _).setCell (Nat.le_refl _) _⟩
    case neg =>
      obtain rfl : k = ws.length := by omega
      have hfit := pieces_fitM HW.out HG.out
      have hpr : Prof wr wr.heap.size a1 a2 L1 L2 := ⟨own_ints HD.out.r1, own_ints HD.out.r2, by have := HG.out.1; omega, by have := HG.out.2.1; omega⟩
      have PF := Lib.hid hpr
      clear hpr
      go_wp2_with fail
      generalize hW5 : World.alloc _ _ = w5
      have hb5 : Below wr.heap.size wr w5 := by rw [← hW5]; exact (by repeat (first | exact Below.refl _ _ | (refine Below.alloc ?_ (by simp <;> omega) _) | (refine Below.setCell ?_ (by simp <;> omega) _) | (refine Below.drew ?_) | (refine bel_drewN ?_ _)))
      have bP : Bk w5 wr.heap.size #[.slice a1 L1.length c1, .slice a2 L2.length c2] 24 := by rw [← hW5]; exact Bk.new' rfl
      clear hW5
      refine (spr_any _ _ _ _ _ L1 L2 (PF.out.on hb5)).mono ?_
      rintro e w6 ⟨rfl, hb⟩
      replace bP := bP.on hb
      replace HD := Lib.hid ((HD.out.on hb5).on hb)
      have hup6 := HD.out.bel.size
      have bX := (HR.out.on HD.out.bel)
      have p0 := bP.cell 0 rfl
      have p1 := bP.cell 1 rfl
      have pl := bP.lt
      have r0 := bX.cell 0 rfl
      have r1 := bX.cell 1 rfl
      have rf0 := bX.frozen 0
      have rf1 := bX.frozen 1
      have rl := bX.lt
      have n1 : ¬ wr.heap.size = w.heap.size := by omega
      have n2 : ¬ w.heap.size = wr.heap.size := by omega
      clear hb hb5
      cases hv : prfB L1 L2
      · have HX := Lib.hid (rm_no HW.out HG.out hv)
        clear hv
        go_wp2
        exact bodyPost_ret (v := .tuple #[.agg #[.slice none 0 0, .slice none 0 0], .bool false]) (by simp [results, Tryd.results5, go_sem, r0, r1]) rfl ⟨none, none, 0, 0, [], [], false, rfl, HX.out, OwnQ.nil _ _ _ (Nat.le_refl _), ((bel_end HB.out HD.out.bel).setCell (Nat.le_refl _) _).setCell (Nat.le_refl _) _⟩
      · have HX := Lib.hid (rm_yes HW.out HG.out hv)
        clear hv
        go_wp2
        exact bodyPost_ret (v := .tuple #[.agg #[.slice a1 L1.length c1, .slice a2 L2.length c2], .bool true]) (by simp [results, Tryd.results5, go_sem, r0, r1]) rfl ⟨a1, a2, c1, c2, L1, L2, true, rfl, HX.out, ⟨⟨World.ownsRow.mono (own_set2 HD.out.r1 (by omega)) (by omega), fun g e => by have := (HD.out.r1.lt g e).2; simp; omega, by simp⟩, ⟨World.ownsRow.mono (own_set2 HD.out.r2 (by omega)) (by omega), fun g e => by have := (HD.out.r2.lt g e).2; simp; omega, by simp⟩, HD.out.ne⟩, ((bel_end HB.out HD.out.bel).setCell (Nat.le_refl _) _).setCell (Nat.le_refl _) _⟩
end Go.Proofs.YtcaekheghjnipabDoor
