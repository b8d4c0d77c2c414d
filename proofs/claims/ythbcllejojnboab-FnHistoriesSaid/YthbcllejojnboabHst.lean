/- Contracts of the letters of events: HistoryText and ReadHistory, the program's and the model's. -/
import Derived.Test.YthbcllejojnboabLys
import Derived.Test.YthbcllejojnboabBas
import Derived.Test.YthbcllejojnboabRowG
import Derived.Test.YthbcllejojnboabHShelf
import Derived.Lib.IndexBytes
import Derived.OwnWalk
import Derived.WalkSpells
import Derived.Deep.DrawnRows
import Derived.Deep.RegionHeld3
import Derived.LoopTactic
import Derived.StillTailTactics
import Derived.Handy
namespace Go.Proofs.Ythbcllejojnboab
open Go.ChangeShapes Go.WideShapes Go.ChangeAt Go.RowKit Go.Shelf Num
set_option linter.unusedVariables false
set_option linter.unusedSimpArgs false
theorem info_u8h : (Try.prog.info? 5).map (fun i => (i.zero, i.size, i.bytes)) = some (some (.int .u8 0), 1, 1) := by kernel_rfl
theorem info_i64h : (Try.prog.info? 2).map (fun i => (i.zero, i.size, i.bytes)) = some (some (.int .i64 0), 1, 8) := by kernel_rfl
theorem run_make_h {t e : TypeId} {Z : Value} {m by_ : Nat} (ht : Try.prog.underlying t = some (.slice e)) (hinfo : (Try.prog.info? e).map (fun i => (i.zero, i.size, i.bytes)) = some (some Z, m, by_)) (n : Nat) (hn : n ≤ 1000) (hby : by_ ≤ 1000) (w : World) :
    (Instr.makeSlice t (.int .i64 0) (.int .i64 (n : Int))).run Try.prog w = .ok (.slice (some ⟨w.heap.size, 0, none⟩) 0 n) (w.alloc (.cells (madeCells Z.cells (n * m)) e)) := by
  obtain ⟨i, hi, hzz⟩ := Option.map_eq_some_iff.1 hinfo
  simp only [Prod.mk.injEq] at hzz
  obtain ⟨hz, hs, hb⟩ := hzz
  have hm := Nat.mul_le_mul hby hn
  have hm2 : (by_ : Int) * (n : Int) ≤ 281474976710656 := by
    have h1 : ((by_ * n : Nat) : Int) ≤ 1000000 := by omega
    rw [Int.natCast_mul] at h1
    omega
  have h := run_make (P := Try.prog) (w := w) t e i _ ht hi hz .i64 .i64 0 (n : Int) (Int.le_refl _) (by omega) (by rw [hb]; exact hm2) (by omega)
  simpa only [Int.toNat_natCast, Int.toNat_zero, hs] using h
theorem bytes_strh (l : List UInt8) : strOfNums (l.map fun c => (c.toNat : Int)) = ⟨l.toArray⟩ := by
  unfold strOfNums
  rw [List.map_map]
  congr 2
  have : (fun n : Int => UInt8.ofNat n.toNat) ∘ (fun c : UInt8 => (c.toNat : Int)) = id := by funext c; simp
  rw [this, List.map_id]
theorem own_convh {w : World} {B g cap n : Nat} (l : List UInt8) (hn : l.length = n) (h : w.ownsRow B 5 1 (.slice (some ⟨g, 0, none⟩) n cap) n (Lib.byteCells l)) :
    (convert 22 9 (.slice (some ⟨g, 0, none⟩) n cap)).run Try.prog w = .ok (.string ⟨l.toArray⟩) w := by
  subst hn
  rw [← bytes_strh]
  refine run_convert_bytes_arg (P := Try.prog) w 22 5 Try.underlying22 Try.underlying5 g 0 l.length cap (l.map fun c => (c.toNat : Int)) (by simp) (fun i hi => ?_) 9 Try.underlying9
  rw [Nat.zero_add, h.cellAt i (by omega)]
  unfold Lib.byteCells
  simp [hi]
/-- an event -/
def evB (x : Int) : Bool := hasB 1 4 x
theorem evB_4 {x : Int} (h : evB x = true) : x = 1 ∨ x = 2 ∨ x = 3 ∨ x = 4 := by
  unfold evB hasB at h
  simp at h
  omega
/-- its letter -/
def hchr (x : Int) : UInt8 := if x = 1 then 99 else if x = 2 then 116 else if x = 3 then 115 else 98
def hOk (L : List Int) : Bool := decide (L.length ≤ 100) && L.all evB
def hstT (L : List Int) : ByteArray := if hOk L = true then ⟨(L.map hchr).toArray⟩ else ⟨#[]⟩
theorem hstT_big {L : List Int} (h : ¬ L.length ≤ 100) : hstT L = ⟨#[]⟩ := by unfold hstT hOk; rw [decide_eq_false h]; rfl
theorem hstT_no {L : List Int} {k : Nat} (hk : k < L.length) (h : evB (L.getD k 0) = false) : hstT L = ⟨#[]⟩ := by
  have : L.all evB = false := by
    rw [List.getD_eq_getElem?_getD, List.getElem?_eq_getElem hk] at h
    exact List.all_eq_false.2 ⟨L[k], List.getElem_mem hk, by simpa using h⟩
  unfold hstT hOk; rw [this, Bool.and_false]; rfl
theorem all_of {L : List Int} (h : ∀ j, j < L.length → evB (L.getD j 0) = true) : L.all evB = true := by
  refine List.all_eq_true.2 fun x hx => ?_
  obtain ⟨j, hj, rfl⟩ := List.getElem_of_mem hx
  have := h j hj
  rwa [List.getD_eq_getElem?_getD, List.getElem?_eq_getElem hj] at this
theorem hstT_ok {L : List Int} (hl : L.length ≤ 100) (h : ∀ j, j < L.length → evB (L.getD j 0) = true) : hstT L = ⟨(L.map hchr).toArray⟩ := by
  unfold hstT hOk; rw [decide_eq_true hl, all_of h]; rfl
theorem take_snoc {L : List Int} {k : Nat} (hk : k < L.length) : L.take (k + 1) = L.take k ++ [L.getD k 0] := by
  rw [List.take_add_one, List.getD_eq_getElem?_getD, List.getElem?_eq_getElem hk]; rfl
theorem bc_appH (l m : List UInt8) : Lib.byteCells (l ++ m) = Lib.byteCells l ++ Lib.byteCells m := by simp [Lib.byteCells]

set_option maxRecDepth 100000 in
set_option maxHeartbeats 4000000 in
theorem iht_any (w : World) (a : Option Addr) (c : Nat) (L : List Int) (hl : L.length ≤ 1048576) (hz : Ints .i64 w w.heap.size a L) :
    Calls Try.prog 8 #[.slice a L.length c] w fun e w' => e = .returned (.string (hstT L)) ∧ Below w.heap.size w w' := by
  by_cases hbig : L.length ≤ 100
  case neg =>
    have H := Lib.hid (hstT_big hbig)
    have hb2 : (100 : Int) < (L.length : Int) := by omega
    clear hz
    go_enter Try.func8, Try.ntmps8
    go_wp2
    go_ret
    exact ⟨by first | (rw [H.out]; done) | (rw [H.out]; rfl), Below.refl _ _⟩
  case pos =>
    have HZ := Lib.hid hz
    have hb2 : ¬ (100 : Int) < (L.length : Int) := by omega
    have KL : Hid (∀ (x : Int) (W : World), Calls Try.prog 21 #[.agg #[.int .i64 1, .int .i64 4], .int .i64 x] W fun e w' => e = .returned (.bool (!evB x)) ∧ Below W.heap.size W w') := Lib.hid (fun x W => (lacks_any 1 4 x W).mono (by rintro e w' ⟨rfl, rfl⟩; exact ⟨rfl, ((Below.refl _ _).alloc (Nat.le_refl _) _).alloc (by simp) _⟩))
    obtain ⟨j0, hj0, hy0, hy1, hy2⟩ := info_parts info_u8h
    have hmk := run_make_h (t := 22) (e := 5) Try.underlying22 info_u8h L.length (by omega) (by omega)
    clear hz
    go_enter Try.func8, Try.ntmps8
    go_upto_region 4 with fail
    generalize hW : World.alloc _ _ = W1
    obtain ⟨gK, hg⟩ : ∃ g, g = w.heap.size := ⟨_, rfl⟩
    have bK : Bk W1 gK #[.int .i64 1, .int .i64 4] 40 := by rw [← hW]; exact Bk.new' hg
    have HB : Hid (Below w.heap.size w W1) := Lib.hid (by rw [← hW]; exact (Below.refl _ _).alloc (Nat.le_refl _) _)
    try rw [← hg]
    have hK := bK.lt
    clear hW hg
    go_upto_region 5 with fail
    generalize hW : World.alloc _ _ = W3
    obtain ⟨gR, hg⟩ : ∃ g, g = W1.heap.size := ⟨_, rfl⟩
    have hR0 : Bk W3 gR (madeCells #[.int .u8 0] L.length) 5 := by rw [← hW]; exact Bk.new' hg
    have hb : Below W1.heap.size W1 W3 := by rw [← hW]; exact (Below.refl _ _).alloc (Nat.le_refl _) _
    try rw [← hg]
    have HR0 := Lib.hid (RowG.made (w1 := W1) (m := 1) (c := L.length) (Z := #[.int .u8 0]) (by rw [Nat.mul_one]; exact hR0) (by omega) (by unfold maxLen; omega) hb)
    clear hW hb hg hR0 hmk
    go_wp2_with fail
    go_loopw [4, 16] (fun v x wr => ∃ (k ge ce : Nat), v = .slice (some ⟨ge, 0, none⟩) k ce ∧ x = .int .i64 (k : Int) ∧ k ≤ L.length ∧ RowG W1 5 1 ge ce k (Lib.byteCells ((L.take k).map hchr)) wr ∧ ∀ j, j < k → evB (L.getD j 0) = true) (fun _ x _ => L.length - (intOf x).toNat)
    case atStart => exact ⟨0, gR, L.length, rfl, rfl, by omega, HR0.out, fun j hj => by omega⟩
    case round =>
      obtain ⟨k, ge, ce, rfl, rfl, hk, hR, hal⟩ := hrel
      have HR := Lib.hid hR
      have HBW := Lib.hid (bel_end HB.out hR.bel)
      have HAL := Lib.hid hal
      have bKr := bK.on hR.bel
      clear hR HR0 hal
      by_cases hkN : k < L.length
      case neg =>
        have EK : k = L.length := by omega
        subst EK
        have hkk : ¬ (L.length : Int) < (L.length : Int) := by omega
        have hcv := own_convh (n := L.length) ((L.take L.length).map hchr) (by simp) HR.out.own
        have HT := Lib.hid (hstT_ok hbig HAL.out)
        rw [List.take_length] at hcv
        clear hkN hk
        go_wp2
        go_ret
        exact ⟨by first | (rw [HT.out]; done) | (rw [HT.out]; rfl), HBW.out⟩
      case pos =>
        obtain ⟨b, off, rfl, hB, hc⟩ := (HZ.out.below HBW.out).at_ hkN
        obtain ⟨x, hx⟩ : ∃ x, L.getD k 0 = x := ⟨_, rfl⟩
        rw [hx] at hc
        have HX := Lib.hid hx
        have ik : (k : Int) < (L.length : Int) := by omega
        have bKr_0 := bKr.cell 0 rfl
        have bKr_1 := bKr.cell 1 rfl
        clear hx
        go_wp2_with fail
        (with_reducible refine Calls.mono (KL.out _ _) ?_)
        rintro e w2 ⟨rfl, hb⟩
        replace HR := Lib.hid (HR.out.on hb)
        replace HBW := Lib.hid (bel_end HBW.out hb)
        clear hb bKr bKr_0 bKr_1 hc
        cases hev : evB x
        case false =>
          have HT := Lib.hid (hstT_no hkN (by rw [HX.out]; exact hev))
          clear hev
          go_wp2
          go_ret
          exact ⟨by first | (rw [HT.out]; done) | (rw [HT.out]; rfl), HBW.out⟩
        case true =>
          have HV : Hid (∀ j, j < k + 1 → evB (L.getD j 0) = true) := Lib.hid (fun j hj => by
            by_cases h : j = k
            · rw [h, HX.out]; exact hev
            · exact HAL.out j (by omega))
          have HTK : Hid (Lib.byteCells ((L.take (k + 1)).map hchr) = Lib.byteCells ((L.take k).map hchr) ++ [.int .u8 ((hchr x).toNat : Int)]) := Lib.hid (by rw [take_snoc hkN, List.map_append, bc_appH, HX.out]; rfl)
          have h4 := evB_4 hev
          clear hev HAL
          rcases h4 with rfl | rfl | rfl | rfl
          · go_wp2_with (at_builtin; refine wpList_append_lies _ rfl _ _ 22 rfl W1.heap.size 5 j0 (.int .u8 0) 1 1 Try.underlying22 hj0 hy0 hy1 hy2 rfl (by decide) (.slice (some ⟨ge, 0, none⟩) k ce) k (Lib.byteCells ((L.take k).map hchr)) rfl (HR.out.own.alloc _) ⟨w2.heap.size, 0, none⟩ 1 1 [.int .u8 99] rfl rfl (World.news_of_block (cs := #[.int .u8 99]) (t := 5) (fr := (0, 0)) (heap_alloc_new w2 _)) (by simp [Value.oneCell']) (by decide) (by unfold maxLen; omega) (by omega) (by simp; exact Nat.le_succ_of_le HR.out.bel.size) (w2.heap.size + 1) (by simp) ?_; intro g2 cp2 w9 hown hgrow hat hlt9; have HR9 := Lib.hid ((HR.out.on ((Below.refl _ _).alloc (Nat.le_refl _) _)).snoc hown hgrow); clear hown hgrow hat hlt9)
            go_roundw
            case rel => exact ⟨k + 1, g2, cp2, rfl, by go_num, by omega, by rw [HTK.out]; exact HR9.out, HV.out⟩
            case measure => simp [intOf]; omega
          · go_wp2_with (at_builtin; refine wpList_append_lies _ rfl _ _ 22 rfl W1.heap.size 5 j0 (.int .u8 0) 1 1 Try.underlying22 hj0 hy0 hy1 hy2 rfl (by decide) (.slice (some ⟨ge, 0, none⟩) k ce) k (Lib.byteCells ((L.take k).map hchr)) rfl (HR.out.own.alloc _) ⟨w2.heap.size, 0, none⟩ 1 1 [.int .u8 116] rfl rfl (World.news_of_block (cs := #[.int .u8 116]) (t := 5) (fr := (0, 0)) (heap_alloc_new w2 _)) (by simp [Value.oneCell']) (by decide) (by unfold maxLen; omega) (by omega) (by simp; exact Nat.le_succ_of_le HR.out.bel.size) (w2.heap.size + 1) (by simp) ?_; intro g2 cp2 w9 hown hgrow hat hlt9; have HR9 := Lib.hid ((HR.out.on ((Below.refl _ _).alloc (Nat.le_refl _) _)).snoc hown hgrow); clear hown hgrow hat hlt9)
            go_roundw
            case rel => exact ⟨k + 1, g2, cp2, rfl, by go_num, by omega, by rw [HTK.out]; exact HR9.out, HV.out⟩
            case measure => simp [intOf]; omega
          · go_wp2_with (at_builtin; refine wpList_append_lies _ rfl _ _ 22 rfl W1.heap.size 5 j0 (.int .u8 0) 1 1 Try.underlying22 hj0 hy0 hy1 hy2 rfl (by decide) (.slice (some ⟨ge, 0, none⟩) k ce) k (Lib.byteCells ((L.take k).map hchr)) rfl (HR.out.own.alloc _) ⟨w2.heap.size, 0, none⟩ 1 1 [.int .u8 115] rfl rfl (World.news_of_block (cs := #[.int .u8 115]) (t := 5) (fr := (0, 0)) (heap_alloc_new w2 _)) (by simp [Value.oneCell']) (by decide) (by unfold maxLen; omega) (by omega) (by simp; exact Nat.le_succ_of_le HR.out.bel.size) (w2.heap.size + 1) (by simp) ?_; intro g2 cp2 w9 hown hgrow hat hlt9; have HR9 := Lib.hid ((HR.out.on ((Below.refl _ _).alloc (Nat.le_refl _) _)).snoc hown hgrow); clear hown hgrow hat hlt9)
            go_roundw
            case rel => exact ⟨k + 1, g2, cp2, rfl, by go_num, by omega, by rw [HTK.out]; exact HR9.out, HV.out⟩
            case measure => simp [intOf]; omega
          · go_wp2_with (at_builtin; refine wpList_append_lies _ rfl _ _ 22 rfl W1.heap.size 5 j0 (.int .u8 0) 1 1 Try.underlying22 hj0 hy0 hy1 hy2 rfl (by decide) (.slice (some ⟨ge, 0, none⟩) k ce) k (Lib.byteCells ((L.take k).map hchr)) rfl (HR.out.own.alloc _) ⟨w2.heap.size, 0, none⟩ 1 1 [.int .u8 98] rfl rfl (World.news_of_block (cs := #[.int .u8 98]) (t := 5) (fr := (0, 0)) (heap_alloc_new w2 _)) (by simp [Value.oneCell']) (by decide) (by unfold maxLen; omega) (by omega) (by simp; exact Nat.le_succ_of_le HR.out.bel.size) (w2.heap.size + 1) (by simp) ?_; intro g2 cp2 w9 hown hgrow hat hlt9; have HR9 := Lib.hid ((HR.out.on ((Below.refl _ _).alloc (Nat.le_refl _) _)).snoc hown hgrow); clear hown hgrow hat hlt9)
            go_roundw
            case rel => exact ⟨k + 1, g2, cp2, rfl, by go_num, by omega, by rw [HTK.out]; exact HR9.out, HV.out⟩
            case measure => simp [intOf]; omega

/-- all numbers in the bounds, and not too many -/
def witB (L : List Int) (m lo hi : Int) : Bool := L.all (fun x => inB x lo hi) && decide ((L.length : Int) ≤ m)
theorem witB_no {L : List Int} {m lo hi : Int} {k : Nat} (hk : k < L.length) (h : inB (L.getD k 0) lo hi = false) : witB L m lo hi = false := by
  have : L.all (fun x => inB x lo hi) = false := by
    rw [List.getD_eq_getElem?_getD, List.getElem?_eq_getElem hk] at h
    exact List.all_eq_false.2 ⟨L[k], List.getElem_mem hk, by simpa using h⟩
  unfold witB; rw [this]; rfl
theorem witB_ok {L : List Int} {m lo hi : Int} (h : ∀ j, j < L.length → inB (L.getD j 0) lo hi = true) : witB L m lo hi = decide ((L.length : Int) ≤ m) := by
  have : L.all (fun x => inB x lo hi) = true := by
    refine List.all_eq_true.2 fun x hx => ?_
    obtain ⟨j, hj, rfl⟩ := List.getElem_of_mem hx
    have := h j hj
    rwa [List.getD_eq_getElem?_getD, List.getElem?_eq_getElem hj] at this
  unfold witB; rw [this, Bool.true_and]
theorem inB_evB (x : Int) : inB x 1 4 = evB x := by simp [inB, evB, hasB]
theorem witB_hOk (L : List Int) : witB L 100 1 4 = hOk L := by
  unfold witB hOk
  rw [show (fun x => inB x 1 4) = evB from funext inB_evB, Bool.and_comm]
  congr 1
  exact decide_eq_decide.2 (by omega)
set_option maxRecDepth 100000 in
set_option maxHeartbeats 1000000 in
theorem lwn_any (w : World) (B : Nat) (a : Option Addr) (c : Nat) (L : List Int) (m lo hi : Int) (hl : L.length ≤ 1048576) (hz : Ints .i64 w B a L) :
    Calls Try.prog 24 #[.slice a L.length c, .int .i64 m, .int .i64 lo, .int .i64 hi] w fun e w' => e = .returned (.bool (witB L m lo hi)) ∧ w = w' := by
  have KL : Hid (∀ (x : Int) (W : World), Calls Try.prog 27 #[.int .i64 x, .int .i64 lo, .int .i64 hi] W fun e w' => e = .returned (.bool (inB x lo hi)) ∧ W = w') := Lib.hid (fun x W => lin_any x lo hi W)
  have HZ := Lib.hid hz
  clear hz
  go_enter Try.func24, Try.ntmps24
  go_wp2
  go_loop [9] (fun x => ∃ k : Nat, x = .int .i64 (k : Int) ∧ k ≤ L.length ∧ ∀ j, j < k → inB (L.getD j 0) lo hi = true) (fun x => L.length - (intOf x).toNat)
  case atStart => exact ⟨0, rfl, by omega, fun j hj => by omega⟩
  case round =>
    obtain ⟨k, rfl, hk, hal⟩ := hrel
    have HAL := Lib.hid hal
    clear hal
    by_cases hkN : k < L.length
    case neg =>
      have EK : k = L.length := by omega
      subst EK
      have hkk : ¬ (L.length : Int) < (L.length : Int) := by omega
      have HT := Lib.hid (witB_ok (m := m) HAL.out)
      clear hkN hk HAL
      by_cases hm : (L.length : Int) ≤ m
      · rw [decide_eq_true hm] at HT
        go_wp2
        go_ret
        exact ⟨by first | (rw [HT.out]; done) | (rw [HT.out]; rfl), rfl⟩
      · rw [decide_eq_false hm] at HT
        go_wp2
        go_ret
        exact ⟨by first | (rw [HT.out]; done) | (rw [HT.out]; rfl), rfl⟩
    case pos =>
      obtain ⟨b, off, rfl, hB, hc⟩ := HZ.out.at_ hkN
      obtain ⟨x, hx⟩ : ∃ x, L.getD k 0 = x := ⟨_, rfl⟩
      rw [hx] at hc
      have HX := Lib.hid hx
      have ik : (k : Int) < (L.length : Int) := by omega
      clear hx
      go_wp2_with fail
      (with_reducible refine Calls.mono (KL.out _ _) ?_)
      rintro e w2 ⟨rfl, rfl⟩
      cases hev : inB x lo hi
      case false =>
        have HT := Lib.hid (witB_no (m := m) hkN (by rw [HX.out]; exact hev))
        clear hev
        go_wp2
        go_ret
        exact ⟨by first | (rw [HT.out]; done) | (rw [HT.out]; rfl), rfl⟩
      case true =>
        have HV : Hid (∀ j, j < k + 1 → inB (L.getD j 0) lo hi = true) := Lib.hid (fun j hj => by
          by_cases h : j = k
          · rw [h, HX.out]; exact hev
          · exact HAL.out j (by omega))
        clear hev HAL
        go_wp2
        go_round
        case rel => exact ⟨k + 1, by go_num, by omega, HV.out⟩
        case measure => simp [intOf]; omega
set_option maxRecDepth 100000 in
set_option maxHeartbeats 4000000 in
theorem sht_any (w : World) (a : Option Addr) (c : Nat) (L : List Int) (hl : L.length ≤ 1048576) (hz : Ints .i64 w w.heap.size a L) :
    Calls Try.prog 12 #[.slice a L.length c] w fun e w' => e = .returned (.string (hstT L)) ∧ Below w.heap.size w w' := by
  have KW : Hid (Calls Try.prog 24 #[.slice a L.length c, .int .i64 100, .int .i64 1, .int .i64 4] w fun e w' => e = .returned (.bool (hOk L)) ∧ w = w') := Lib.hid (by rw [← witB_hOk]; exact lwn_any w _ a c L 100 1 4 hl hz)
  have HZ := Lib.hid hz
  clear hz
  cases hok : hOk L
  case false =>
    have HT : Hid (hstT L = ⟨#[]⟩) := Lib.hid (by unfold hstT; rw [hok]; rfl)
    rw [hok] at KW
    clear hok
    go_enter Try.func12, Try.ntmps12
    go_wp2_with fail
    (with_reducible refine Calls.mono KW.out ?_)
    rintro e w2 ⟨rfl, rfl⟩
    go_wp2
    go_ret
    exact ⟨by first | (rw [HT.out]; done) | (rw [HT.out]; rfl), Below.refl _ _⟩
  case true =>
    have h2 : L.length ≤ 100 ∧ L.all evB = true := by unfold hOk at hok; simpa using hok
    have HA : Hid (∀ j, j < L.length → evB (L.getD j 0) = true) := Lib.hid (fun j hj => by
      rw [List.getD_eq_getElem?_getD, List.getElem?_eq_getElem hj]
      exact List.all_eq_true.1 h2.2 _ (List.getElem_mem hj))
    have HT := Lib.hid (hstT_ok h2.1 HA.out)
    have hl100 := h2.1
    rw [hok] at KW
    clear hok h2
    go_enter Try.func12, Try.ntmps12
    go_wp2_with fail
    (with_reducible refine Calls.mono KW.out ?_)
    rintro e w2 ⟨rfl, rfl⟩
    clear KW
    go_wp2
    go_loopw [3, 4] (fun v x wr => ∃ k : Nat, v = .string ⟨((L.take k).map hchr).toArray⟩ ∧ x = .int .i64 (k : Int) ∧ k ≤ L.length ∧ Below w.heap.size w wr) (fun _ x _ => L.length - (intOf x).toNat)
    case atStart => exact ⟨0, rfl, rfl, by omega, Below.refl _ _⟩
    case round =>
      obtain ⟨k, rfl, rfl, hk, hb⟩ := hrel
      have HB := Lib.hid hb
      clear hb
      by_cases hkN : k < L.length
      case neg =>
        have EK : k = L.length := by omega
        subst EK
        have hkk : ¬ (L.length : Int) < (L.length : Int) := by omega
        clear hkN hk
        go_wp2
        go_ret
        exact ⟨by first | (rw [HT.out]; done) | (rw [HT.out]; rfl), HB.out⟩
      case pos =>
        obtain ⟨b, off, rfl, hB, hc⟩ := (HZ.out.below HB.out).at_ hkN
        obtain ⟨x, hx⟩ : ∃ x, L.getD k 0 = x := ⟨_, rfl⟩
        have h4 := evB_4 (HA.out k hkN)
        rw [hx] at hc h4
        have HTK : Hid (((L.take (k + 1)).map hchr) = ((L.take k).map hchr) ++ [hchr x]) := Lib.hid (by rw [take_snoc hkN, List.map_append, hx]; rfl)
        have hlen : ((L.take k).map hchr).length ≤ 100 := by simp; omega
        obtain ⟨l, hl'⟩ : ∃ l, (L.take k).map hchr = l := ⟨_, rfl⟩
        rw [hl'] at HTK hlen ⊢
        have hsz : (⟨l.toArray⟩ : ByteArray).size ≤ 100 := by simpa [ByteArray.size] using hlen
        obtain ⟨s, hs⟩ : ∃ s : ByteArray, s = ⟨l.toArray⟩ := ⟨_, rfl⟩
        rw [← hs] at hsz ⊢
        have HS := Lib.hid hs
        have ik : (k : Int) < (L.length : Int) := by omega
        clear hx hl' hs HT
        rcases h4 with rfl | rfl | rfl | rfl
        · go_wp2
          go_quiet (fail)
          go_wp2
          go_roundw
          case rel => exact ⟨k + 1, by rw [HTK.out, HS.out]; rfl, by go_num, by omega, bel_drewN HB.out _⟩
          case measure => simp [intOf]; omega
        · go_wp2
          go_quiet (fail)
          go_wp2
          go_roundw
          case rel => exact ⟨k + 1, by rw [HTK.out, HS.out]; rfl, by go_num, by omega, bel_drewN HB.out _⟩
          case measure => simp [intOf]; omega
        · go_wp2
          go_quiet (fail)
          go_wp2
          go_roundw
          case rel => exact ⟨k + 1, by rw [HTK.out, HS.out]; rfl, by go_num, by omega, bel_drewN HB.out _⟩
          case measure => simp [intOf]; omega
        · go_wp2
          go_quiet (fail)
          go_wp2
          go_roundw
          case rel => exact ⟨k + 1, by rw [HTK.out, HS.out]; rfl, by go_num, by omega, bel_drewN HB.out _⟩
          case measure => simp [intOf]; omega
end Go.Proofs.Ythbcllejojnboab
