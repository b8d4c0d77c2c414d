/- Maps keyed by six columns: what a key reads as, what such a map holds, one put in, how many it holds; the step over it. -/
import Derived.Test.YtlahgdhofakinaaPrF
import Derived.Maps.OwnSet
import Derived.Maps.OwnOps
import Derived.Maps.Views
import Derived.Maps.Range
import Derived.Maps.RangeWalk
import Derived.DeepKeys4
namespace Go.Proofs.Ytlahgdhofakinaa
open Go.ChangeShapes Go.WideShapes Go.ChangeAt Go.RowKit Go.Shelf Num
open Go.Maps (Keyed has)
set_option linter.unusedVariables false
set_option linter.unusedSimpArgs false
theorem laidP : laidOutB Try.prog = true := by kernel_rfl
theorem rowP : 90 < Try.prog.types.size := of_decide_eq_true (by kernel_rfl)
theorem keytP : Try.prog.keyTypeAt 3 90 = true := by kernel_rfl
theorem wideP : (match Try.prog.underlying 90 with | some (.array _ _) | some (.struct _) => true | _ => false) = true := by kernel_rfl
set_option maxRecDepth 100000 in
theorem lawP : WideMaps.KeyLaw Try.prog 90 := deep_law_laid laidP (m := 3) (by omega) rowP keytP wideP
theorem keyedP : Keyed Try.prog 90 := Go.Maps.Keyed.of_law lawP
theorem ktyP : Try.prog.keyType 90 = true := by kernel_rfl
theorem cellsP : Try.prog.cellsOf 90 = 6 := by kernel_rfl
theorem cells64 : Try.prog.cellsOf 2 = 1 := by kernel_rfl
theorem sizP : ∃ m, Try.prog.types.size = m + 1 := ⟨Try.prog.types.size - 1, by kernel_rfl⟩
def wfQ (q : List Int) : Prop := ∀ j, j < 6 → (Lit.int .i64 (pI q j)).wf = true
theorem wfI {n : Int} (h : -9223372036854775808 ≤ n ∧ n ≤ 9223372036854775807) : (Lit.int .i64 n).wf = true := by
  simp [Lit.wf, IntKind.min, IntKind.max, IntKind.signed, IntKind.bits]
  omega
def klq (q : List Int) : Lit := .string (keyBytes [.int .i64 (pI q 0), .int .i64 (pI q 1), .int .i64 (pI q 2), .int .i64 (pI q 3), .int .i64 (pI q 4), .int .i64 (pI q 5)])
set_option maxRecDepth 100000 in
theorem key_arV {q : List Int} (h : wfQ q) : keyOf Try.prog 90 (.agg #[.int .i64 (pI q 0), .int .i64 (pI q 1), .int .i64 (pI q 2), .int .i64 (pI q 3), .int .i64 (pI q 4), .int .i64 (pI q 5)]) = some (klq q) := by
  obtain ⟨m, hm⟩ := sizP
  have h0 := h 0 (by omega)
  have h1 := h 1 (by omega)
  have h2 := h 2 (by omega)
  have h3 := h 3 (by omega)
  have h4 := h 4 (by omega)
  have h5 := h 5 (by omega)
  unfold keyOf
  rw [Try.underlying90]
  simp only [ktyP, Bool.true_and, hm]
  simp [Value.formed, Try.underlying90, cellsP, cells64, Program.keyLits, Try.underlying2, Value.cells, List.range_succ, h0, h1, h2, h3, h4, h5, klq]
set_option maxRecDepth 100000 in
theorem lit64 {m : Nat} {v : Value} {l : List Lit} (h : Try.prog.keyLits (m + 1) 2 [v] = some l) : ∃ n, v = .int .i64 n ∧ (Lit.int .i64 n).wf = true := by
  unfold Program.keyLits at h
  rw [Try.underlying2] at h
  cases v <;> simp at h
  obtain ⟨⟨rfl, hw⟩, -⟩ := h
  exact ⟨_, rfl, hw⟩
theorem six_list {α : Type} : ∀ {l : List α}, l.length = 6 → ∃ a b c d e f, l = [a, b, c, d, e, f]
  | [a, b, c, d, e, f], _ => ⟨a, b, c, d, e, f, rfl⟩
set_option maxRecDepth 100000 in
theorem key_inv {v : Value} {l : Lit} (h : keyOf Try.prog 90 v = some l) : ∃ q : List Int, q.length = 6 ∧ wfQ q ∧ v = .agg #[.int .i64 (pI q 0), .int .i64 (pI q 1), .int .i64 (pI q 2), .int .i64 (pI q 3), .int .i64 (pI q 4), .int .i64 (pI q 5)] := by
  obtain ⟨xs, L, rfl, hl, rfl⟩ := keyOf_top wideP h
  obtain ⟨m, hm⟩ := sizP
  rw [hm] at hl
  unfold Program.keyLits at hl
  rw [Try.underlying90] at hl
  simp only [cellsP, cells64] at hl
  split at hl
  · rename_i hlen
    obtain ⟨a, b, c, d, e, f, he⟩ := six_list hlen
    rw [he] at hl
    rw [Option.map_eq_some_iff] at hl
    obtain ⟨LL, hl, -⟩ := hl
    simp [List.range_succ] at hl
    cases k0 : Try.prog.keyLits (m + 1) 2 [a] with
    | none => simp [k0] at hl
    | some l0 =>
      cases k1 : Try.prog.keyLits (m + 1) 2 [b] with
      | none => simp [k0, k1] at hl
      | some l1 =>
        cases k2 : Try.prog.keyLits (m + 1) 2 [c] with
        | none => simp [k0, k1, k2] at hl
        | some l2 =>
          cases k3 : Try.prog.keyLits (m + 1) 2 [d] with
          | none => simp [k0, k1, k2, k3] at hl
          | some l3 =>
            cases k4 : Try.prog.keyLits (m + 1) 2 [e] with
            | none => simp [k0, k1, k2, k3, k4] at hl
            | some l4 =>
              cases k5 : Try.prog.keyLits (m + 1) 2 [f] with
              | none => simp [k0, k1, k2, k3, k4, k5] at hl
              | some l5 =>
                obtain ⟨n0, rfl, w0⟩ := lit64 k0
                obtain ⟨n1, rfl, w1⟩ := lit64 k1
                obtain ⟨n2, rfl, w2⟩ := lit64 k2
                obtain ⟨n3, rfl, w3⟩ := lit64 k3
                obtain ⟨n4, rfl, w4⟩ := lit64 k4
                obtain ⟨n5, rfl, w5⟩ := lit64 k5
                refine ⟨[n0, n1, n2, n3, n4, n5], rfl, lt6 w0 w1 w2 w3 w4 w5, ?_⟩
                have : xs = xs.toList.toArray := by simp
                rw [this, he]
                rfl
  · cases hl
theorem klq_key (q : List Int) : WideAt.IsKeyLit (klq q) := by unfold klq; simp [WideAt.IsKeyLit]
set_option maxRecDepth 100000 in
theorem klq_inj {p q : List Int} (hp : p.length = 6) (hq : q.length = 6) (wp : wfQ p) (wq : wfQ q) (h : klq p = klq q) : p = q := by
  have h1 := key_arV wp
  have h2 := key_arV wq
  rw [← h] at h2
  have h3 := keyedP.inj h1 h2
  injection h3 with h3
  exact ar_inj hp hq h3
theorem klq_same {p q : List Int} (hp : p.length = 6) (hq : q.length = 6) (wp : wfQ p) (wq : wfQ q) : (klq p).sameKey (klq q) = decide (p = q) := by
  by_cases h : p = q
  · subst h
    rw [WideAt.sameKey_self (klq_key p)]; simp
  · rw [decide_eq_false h]
    cases hs : (klq p).sameKey (klq q)
    · rfl
    · exact absurd (klq_inj hp hq wp wq (WideAt.sameKey_eq hs)) h
/-- a map holds just the lists of f, each with its g -/
def MapV (D : DataW Nat) (f : List Int → Bool) (g : List Int → Int) : Prop := ∀ q : List Int, q.length = 6 → wfQ q → has D (klq q) = f q ∧ (f q = true → ∀ z, D.atKey (klq q) z = .lit (.int .i64 (g q)))
theorem MapV.congr {D : DataW Nat} {f f' : List Int → Bool} {g : List Int → Int} (h : MapV D f g) (he : ∀ q, q.length = 6 → wfQ q → f' q = f q) : MapV D f' g := fun q hq hw => by rw [he q hq hw]; exact h q hq hw
theorem MapV.empty (g : List Int → Int) : MapV (.map []) (fun _ => false) g := fun q _ _ => ⟨rfl, fun h => by cases h⟩
theorem MapV.put {D : DataW Nat} {f : List Int → Bool} {g : List Int → Int} (h : MapV D f g) (hD : Go.Maps.IsMap D) {p : List Int} (hp : p.length = 6) (wp : wfQ p) {v : Int} (hv : g p = v) : MapV (D.put (klq p) (.lit (.int .i64 v))) (fun q => f q || decide (q = p)) g := fun q hq hw => by
  by_cases e : q = p
  · subst e
    refine ⟨by rw [Go.Maps.has_put_same hD (klq_key q)]; simp, fun _ z => ?_⟩
    rw [Go.Maps.atKey_put_same hD (klq_key q), hv]
  · have hne : klq q ≠ klq p := fun h => e (klq_inj hq hp hw wp h)
    refine ⟨by rw [Go.Maps.has_put_other hne, (h q hq hw).1]; simp [e], fun hf z => ?_⟩
    simp only [decide_eq_false e, Bool.or_false] at hf
    rw [Go.Maps.atKey_put_other hne]
    exact (h q hq hw).2 hf z
theorem rdP_int {s : Int} (h : -9223372036854775808 ≤ s ∧ s ≤ 9223372036854775807) : (plainElem (H := Nat) Try.prog 2) (.int .i64 s) = some (.lit (.int .i64 s), []) := plainElem_int Try.underlying2 (wfI h)
/-- how many it holds -/
theorem MapV.size {w : World} {b n : Nat} {D : DataW Nat} {f : List Int → Bool} {g : List Int → Int} (h : MapV D f g) (ho : w.ownsMap Try.prog 90 (plainElem (H := Nat) Try.prog 2) b n D) {L : List (List Int)} (hd : L.Nodup) (hL : ∀ q, q ∈ L ↔ q.length = 6 ∧ wfQ q ∧ f q = true) : Maps.size D = L.length := by
  obtain ⟨es, clock, hb, F, hs, hD⟩ := ho
  have hap := Maps.fit_apart keyedP F
  have hks : ∀ x ∈ es.toList, ∃ q, q.length = 6 ∧ wfQ q ∧ (WideElems.rg Try.prog 90 (plainElem (H := Nat) Try.prog 2) x).1 = klq q := fun x hx => by
    obtain ⟨y, hy⟩ := F.reads x hx
    rw [WideElems.rg_of hy]
    obtain ⟨q, h1, h2, h3⟩ := key_inv (WideElems.rd_key hy)
    have h4 := WideElems.rd_key hy
    rw [h3, key_arV h2] at h4
    injection h4 with h4
    exact ⟨q, h1, h2, h4.symm⟩
  have hsz : Maps.size D = es.toList.length := by rw [hD]; simp [Maps.size, length_sorted]
  rw [hsz]
  have hmem : ∀ q, q.length = 6 → wfQ q → (klq q ∈ es.toList.map (fun x => (WideElems.rg Try.prog 90 (plainElem (H := Nat) Try.prog 2) x).1) ↔ f q = true) := fun q hq hw => by
    rw [← (h q hq hw).1, hD]
    constructor
    · intro hm
      obtain ⟨x, hx, e⟩ := List.mem_map.1 hm
      exact List.any_eq_true.2 ⟨WideElems.rg Try.prog 90 (plainElem (H := Nat) Try.prog 2) x, mem_sorted.2 (List.mem_map.2 ⟨x, hx, rfl⟩), by rw [e]; exact WideAt.sameKey_self (klq_key q)⟩
    · intro hm
      obtain ⟨p, hp, hpk⟩ := List.any_eq_true.1 hm
      obtain ⟨x, hx, rfl⟩ := List.mem_map.1 (mem_sorted.1 hp)
      exact List.mem_map.2 ⟨x, hx, WideAt.sameKey_eq hpk⟩
  have hnd : (es.toList.map (fun x => (WideElems.rg Try.prog 90 (plainElem (H := Nat) Try.prog 2) x).1)).Nodup := by
    rw [List.Nodup, List.pairwise_map]
    rw [List.pairwise_map] at hap
    exact hap
  have hnd2 : (L.map klq).Nodup := by
    rw [List.Nodup, List.pairwise_map]
    refine hd.imp_of_mem ?_
    intro p q hp hq hne e
    obtain ⟨p1, p2, -⟩ := (hL p).1 hp
    obtain ⟨q1, q2, -⟩ := (hL q).1 hq
    exact hne (klq_inj p1 q1 p2 q2 e)
  have a1 : (es.toList.map (fun x => (WideElems.rg Try.prog 90 (plainElem (H := Nat) Try.prog 2) x).1)).length ≤ (L.map klq).length := @len_le Lit (fun a b => Classical.propDecidable (a = b)) _ _ hnd (fun l hl => by
    obtain ⟨x, hx, e⟩ := List.mem_map.1 hl
    obtain ⟨q, h1, h2, h3⟩ := hks x hx
    rw [← e, h3]
    refine List.mem_map.2 ⟨q, (hL q).2 ⟨h1, h2, (hmem q h1 h2).1 (List.mem_map.2 ⟨x, hx, h3⟩)⟩, rfl⟩)
  have a2 : (L.map klq).length ≤ (es.toList.map (fun x => (WideElems.rg Try.prog 90 (plainElem (H := Nat) Try.prog 2) x).1)).length := @len_le Lit (fun a b => Classical.propDecidable (a = b)) _ _ hnd2 (fun l hl => by
    obtain ⟨q, hq, rfl⟩ := List.mem_map.1 hl
    obtain ⟨h1, h2, h3⟩ := (hL q).1 hq
    exact (hmem q h1 h2).2 h3)
  rw [List.length_map, List.length_map] at a1 a2
  omega
section
variable {w : World} {ops : Array Oper} {rest : List Oper} {o : Oper} {a : Act} {Q : Exit → Act → World → Prop}
/-- the step over such a map -/
theorem wpList_next_six (hg : o.guard = none) (it : Operand) (hop : o.op = Op.next it false) (b r n : Nat) (D : DataW Nat) (left : Lit → Bool) (cnt : Nat)
    (hit : a.eval it = .pointer (some ⟨r, 0, none⟩)) (h : w.ranges Try.prog 90 (plainElem (H := Nat) Try.prog 2) b r n D left cnt)
    (hDone : cnt = 0 → (∀ kl, left kl = false) → wpList Try.prog ops Q rest (a.put o.dst (.tuple #[.bool false])) w)
    (hMore : ∀ (q : List Int) (s : Int) (w' : World) (cnt' : Nat), q.length = 6 → wfQ q → left (klq q) = true → (∀ zd, D.atKey (klq q) zd = .lit (.int .i64 s)) → w'.ranges Try.prog 90 (plainElem (H := Nat) Try.prog 2) b r n D (fun z => left z && !z.sameKey (klq q)) cnt' → cnt' < cnt →
      w.grownBy w' (some r) → w'.heap.size = w.heap.size → (Instr.entry (.pointer (some ⟨r, 0, none⟩))).run Try.prog w' = .ok (.tuple #[.agg #[.int .i64 (pI q 0), .int .i64 (pI q 1), .int .i64 (pI q 2), .int .i64 (pI q 3), .int .i64 (pI q 4), .int .i64 (pI q 5)], .int .i64 s]) w' → wpList Try.prog ops Q rest (a.put o.dst (.tuple #[.bool true, .agg #[.int .i64 (pI q 0), .int .i64 (pI q 1), .int .i64 (pI q 2), .int .i64 (pI q 3), .int .i64 (pI q 4), .int .i64 (pI q 5)], .int .i64 s])) w') :
    wpList Try.prog ops Q (o :: rest) a w :=
  wpList_next_ranges w (α := {q : List Int // q.length = 6 ∧ wfQ q}) (β := Int) hg it hop 90 keyedP (plainElem (H := Nat) Try.prog 2) (fun q => .agg #[.int .i64 (pI q.1 0), .int .i64 (pI q.1 1), .int .i64 (pI q.1 2), .int .i64 (pI q.1 3), .int .i64 (pI q.1 4), .int .i64 (pI q.1 5)]) (Value.int .i64)
    (fun key kl hkey => by obtain ⟨q, h1, h2, h3⟩ := key_inv hkey; exact ⟨⟨q, h1, h2⟩, h3⟩) (fun v y hv => by obtain ⟨c, e, -⟩ := plainElem_int_inv Try.underlying2 hv; exact ⟨c, e⟩)
    b r n D left cnt hit h hDone (fun x c kl y w' cnt' hkey hlk hv hat hrg hlt hgr hsz hen => by
      obtain ⟨q, h1, h2⟩ := x
      rw [key_arV h2] at hkey
      injection hkey with hkey
      subst hkey
      obtain ⟨c', e, rfl, hwc⟩ := plainElem_int_inv Try.underlying2 hv
      injection e with _ e
      subst e
      exact hMore q c w' cnt' h1 h2 hlk hat hrg hlt hgr hsz hen)
/-- an entry of a literal -/
theorem wpList_insert_six (hg : o.guard = none) (m x v : Operand) (t : TypeId) (hop : o.op = Op.insert t m x v)
    (ht : Try.prog.underlying t = some (.map 90 2)) (b n : Nat) (D : DataW Nat)
    (hm : a.eval m = .map (some b)) (hown : w.ownsMap Try.prog 90 (plainElem (H := Nat) Try.prog 2) b n D) (hn : n < maxLen) (key val : Value) (kl : Lit) (hx : a.eval x = key) (hv : a.eval v = val) (hkey : keyOf Try.prog 90 key = some kl)
    (d : DataW Nat) (ps : List MemPlace) (hval : (plainElem (H := Nat) Try.prog 2) val = some (d, ps))
    (hK : ∀ w', w'.ownsMap Try.prog 90 (plainElem (H := Nat) Try.prog 2) b (n + 1) (D.put kl d) → w.grownBy w' (some b) → wpList Try.prog ops Q rest (a.put o.dst undef) w') :
    wpList Try.prog ops Q (o :: rest) a w := by
  refine wpList_plain hg fun K' hK' => ?_
  obtain ⟨w', hrun, r1, r2⟩ := hown.update keyedP ht hn hkey hval
  unfold Oper.wp
  simp [execOp, hop, hm, hx, hv, hrun, Result.andThen]
  exact hK' _ _ (hK w' r1 r2)
end
end Go.Proofs.Ytlahgdhofakinaa
