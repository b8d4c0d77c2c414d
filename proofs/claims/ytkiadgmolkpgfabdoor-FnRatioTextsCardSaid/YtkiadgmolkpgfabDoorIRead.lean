/- The contract of the program's ReadRatio. -/
import Derived.Test.YtkiadgmolkpgfabDoorIText
import Derived.Test.YtkiadgmolkpgfabDoorRdPair
import Derived.Test.YtkiadgmolkpgfabDoorRMath
namespace Go.Proofs.YtkiadgmolkpgfabDoor
open Go.ChangeShapes Go.WideShapes Go.ChangeAt Go.RowKit Num
set_option linter.unusedVariables false
theorem ratT_L {a b : Int} (h : ratB a b = true) : (ratT a b).data.toList = ratL a b := by
  rw [← ratT_list h]
  unfold ratL
  simp
/-- what reading a text gives: the fraction that has it, or zeros and false -/
def RR (s : ByteArray) (x y : Int) (b : Bool) : Prop := (b = true ∧ ratB x y = true ∧ ratT x y = s) ∨ (b = false ∧ x = 0 ∧ y = 0 ∧ ∀ u v, ratB u v = true → ratT u v ≠ s)
theorem rat_inj {a b c d : Int} (h : ratB a b = true) (g : ratB c d = true) (e : ratT a b = ratT c d) : a = c ∧ b = d := by
  obtain ⟨a1, a2, b1, b2, _⟩ := ratB_t h
  obtain ⟨c1, c2, d1, d2, _⟩ := ratB_t g
  have e2 : ratL a b = ratL c d := by rw [← ratT_L h, ← ratT_L g, e]
  have ha := cut_rat a b
  rw [e2, cut_rat] at ha
  simp only [Prod.mk.injEq, and_true] at ha
  exact ⟨itoa_inj (by omega) (by omega) ha.1.symm, itoa_inj (by omega) (by omega) ha.2.symm⟩
theorem RR.unique {s : ByteArray} {x y u v : Int} {b c : Bool} (h : RR s x y b) (g : RR s u v c) : (x = u ∧ y = v) ∧ b = c := by
  rcases h with ⟨rfl, hx, e⟩ | ⟨rfl, rfl, rfl, hn⟩ <;> rcases g with ⟨rfl, hy, e'⟩ | ⟨rfl, rfl, rfl, hn'⟩
  · exact ⟨rat_inj hx hy (e.trans e'.symm), rfl⟩
  · exact absurd e (hn' _ _ hx)
  · exact absurd e' (hn _ _ hy)
  · exact ⟨⟨rfl, rfl⟩, rfl⟩
/-- what a text of a fraction gives: its two parts are its terms' texts -/
theorem rr_parts {s : ByteArray} {u v : Int} (h : ratB u v = true) (e : ratT u v = s) :
    Lib.parseIntB 64 (Lib.cut s.data.toList [47]).1 = .ok u ∧ Lib.parseIntB 64 (Lib.cut s.data.toList [47]).2.1 = .ok v := by
  obtain ⟨a1, a2, b1, b2, _⟩ := ratB_t h
  rw [← e, ratT_L h, cut_rat]
  exact ⟨parse_itoa (by omega), parse_itoa (by omega)⟩
theorem rr_no {s : ByteArray} (h : ∀ u v, ratB u v = true → ratT u v = s → False) : RR s 0 0 false := Or.inr ⟨rfl, rfl, rfl, fun u v hu e => h u v hu e⟩
theorem rr_yes {s : ByteArray} {n d : Int} (hp : Lib.parseIntB 64 (Lib.cut s.data.toList [47]).1 = .ok n) (e : ratT n d = s) : RR s n d true := by
  refine Or.inl ⟨rfl, ?_, e⟩
  cases hr : ratB n d
  · rw [ratT_no hr] at e
    subst e
    have : (match Lib.parseIntB 64 (Lib.cut (ByteArray.mk #[]).data.toList [47]).1 with | .ok _ => true | _ => false) = false := rfl
    rw [hp] at this
    cases this
  · rfl
theorem cut_sizes (s : ByteArray) : (Lib.cut s.data.toList [47]).1.length ≤ s.size ∧ (Lib.cut s.data.toList [47]).2.1.length ≤ s.size := by
  have e : s.data.toList.length = s.size := Array.length_toList
  unfold Lib.cut
  split
  · simp only [List.length_take, List.length_drop, e]; omega
  · simp only [List.length_nil, e]; omega
theorem ne_str {a b : ByteArray} (h : a ≠ b) : (a.toList == b.toList) = false := by
  rw [ByteArray.toList_eq, ByteArray.toList_eq]
  simp only [beq_eq_false_iff_ne, ne_eq]
  exact fun e => h (by apply ByteArray.ext; exact Array.toList_inj.1 e)
def RdRat (w : World) (s : ByteArray) (e : Ending) (w' : World) : Prop := ∃ x y b, e = .returned (.tuple #[.agg #[.int .i64 x, .int .i64 y], .bool b]) ∧ RR s x y b ∧ Below w.heap.size w w'
theorem rd_ret {w w' : World} {s : ByteArray} {x y : Int} {b : Bool} (h : RR s x y b) (hb : Below w.heap.size w w') : RdRat w s (.returned (.tuple #[.agg #[.int .i64 x, .int .i64 y], .bool b])) w' := ⟨x, y, b, rfl, h, hb⟩

set_option maxRecDepth 100000 in
set_option maxHeartbeats 4000000 in
theorem ird_any (s : ByteArray) (w : World) (hl : s.size ≤ 1048576) (ht : Pow10 w) (he : Errs w) (hm : MaxCell w) :
    Calls Tryd.prog 29 #[.string s] w (RdRat w s) := by
  have HT := Lib.hid ht
  have HC := Lib.hid (fun wx (he : Errs wx) (hm : MaxCell wx) => rdp_any s ⟨#[47]⟩ wx hl he hm)
  have HE := Lib.hid he
  have HM := Lib.hid hm
  have HP := Lib.hid (fun u v (hu : ratB u v = true) (e : ratT u v = s) => rr_parts hu e)
  clear ht he hm
  have HY := Lib.hid (fun n d hp e => @rr_yes s n d hp e)
  go_enter Tryd.func29, Tryd.ntmps29
  go_wp2_with fail
  have hb0 : Below w.heap.size w (w.alloc (.cells #[.int .i64 0, .int .i64 0] 45)) := (Below.refl _ _).alloc (Nat.le_refl _) _
  refine (HC.out _ (HE.out.later hb0) (HM.out.later hb0)).mono ?_
  rintro e w1 ⟨n, d, b, rfl, hv, hb⟩
  have r0 : w1.cell? ⟨w.heap.size, 0, none⟩ = some (.int .i64 0) := (hb.cell (p := ⟨w.heap.size, 0, none⟩) (by simp)).trans (by simp [go_sem])
  have r1 : w1.cell? ⟨w.heap.size, 1, none⟩ = some (.int .i64 0) := (hb.cell (p := ⟨w.heap.size, 1, none⟩) (by simp)).trans (by simp [go_sem])
  have f0 : w1.frozen? ⟨w.heap.size, 0, none⟩ = false := (hb.frozen (p := ⟨w.heap.size, 0, none⟩) (by simp)).trans (by simp [go_sem])
  have f1 : w1.frozen? ⟨w.heap.size, 1, none⟩ = false := (hb.frozen (p := ⟨w.heap.size, 1, none⟩) (by simp)).trans (by simp [go_sem])
  have HB := Lib.hid (bel_end hb0 hb)
  clear hb hb0
  rcases hv with ⟨rfl, hn, hd⟩ | ⟨rfl, rfl, rfl, hno⟩
  · have hlt := World.block_lt_of_cell? w1 _ r0
    simp only [] at hlt
    have HN := Lib.hid (And.intro hn hd)
    clear hn hd
    go_wp2_with fail
    refine (itx_any n d _ (HT.out.later (HB.out.alloc HB.out.size _))).mono ?_
    rintro e w4 ⟨rfl, hb⟩
    have x0 : w4.cell? ⟨w1.heap.size, 0, none⟩ = some (.int .i64 n) := (hb.cell (p := ⟨w1.heap.size, 0, none⟩) (by simp)).trans (by simp [go_sem])
    have x1 : w4.cell? ⟨w1.heap.size, 1, none⟩ = some (.int .i64 d) := (hb.cell (p := ⟨w1.heap.size, 1, none⟩) (by simp)).trans (by simp [go_sem])
    have hb3 := (show Below w1.heap.size w1 (w1.alloc (.cells #[.int .i64 n, .int .i64 d] 45)) from (Below.refl _ _).alloc (Nat.le_refl _) _)
    replace hb := bel_end hb3 hb
    replace f0 := kp_fr f0 r0 hb
    replace f1 := kp_fr f1 r1 hb
    replace r0 := kp1 r0 hb
    replace r1 := kp1 r1 hb
    replace HB := Lib.hid (bel_end HB.out hb)
    have hne : ¬ w1.heap.size = w.heap.size := by omega
    clear hb hb3
    by_cases hs : ratT n d = s
    · have hqq : ((ratT n d).toList == s.toList) = true := by rw [hs]; simp
      have HR := Lib.hid (HY.out n d HN.out.1 hs)
      clear hs
      go_wp2_with fail
      exact bodyPost_ret (v := .tuple #[.agg #[.int .i64 n, .int .i64 d], .bool true]) (by simp [results, Tryd.results29, go_sem, r0, r1]) rfl (rd_ret HR.out ((HB.out.setCell (Nat.le_refl _) _).setCell (Nat.le_refl _) _))
    · have hqq := ne_str hs
      have HR := Lib.hid (rr_no (s := s) fun u v hu e => by
        obtain ⟨e1, e2⟩ := HP.out u v hu e
        have a1 := HN.out.1.symm.trans e1
        have a2 := HN.out.2.symm.trans e2
        injection a1 with a1
        injection a2 with a2
        subst a1; subst a2
        exact hs e)
      clear hs
      go_wp2_with fail
      exact bodyPost_ret (v := .tuple #[.agg #[.int .i64 0, .int .i64 0], .bool false]) (by simp [results, Tryd.results29, go_sem, r0, r1]) rfl (rd_ret HR.out ((HB.out.setCell (Nat.le_refl _) _).setCell (Nat.le_refl _) _))
  · have HR := Lib.hid (rr_no (s := s) fun u v hu e => hno u v (HP.out u v hu e).1 (HP.out u v hu e).2)
    clear hno
    go_wp2_with fail
    exact bodyPost_ret (v := .tuple #[.agg #[.int .i64 0, .int .i64 0], .bool false]) (by simp [results, Tryd.results29, go_sem, r0, r1]) rfl (rd_ret HR.out ((HB.out.setCell (Nat.le_refl _) _).setCell (Nat.le_refl _) _))
end Go.Proofs.YtkiadgmolkpgfabDoor
