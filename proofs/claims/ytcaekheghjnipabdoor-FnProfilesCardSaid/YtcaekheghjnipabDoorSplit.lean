/- The contract of the model's split of a text at a slash: the pieces lie in a list of the call's own. -/
import Derived.Test.YtcaekheghjnipabDoorSgn
import Derived.Deep.AppendLies
import Derived.OwnWalk
import Derived.LoopTactic
import Derived.Outline
namespace Go.Proofs.YtcaekheghjnipabDoor
open Go.ChangeShapes Go.WideShapes Go.ChangeAt Go.RowKit Num
set_option linter.unusedVariables false
/-- the letters from f to k -/
def pc (l : List UInt8) (f k : Nat) : List UInt8 := (l.take k).drop f
theorem pc_extract (s : ByteArray) (f k : Nat) : (s.extract f k).data.toList = pc s.data.toList f k := by
  rw [ByteArray.data_extract, Array.toList_extract]
  unfold pc
  rw [List.drop_take]
theorem pc_same (l : List UInt8) (k : Nat) : pc l k k = [] := by unfold pc; rw [List.drop_eq_nil_of_le]; rw [List.length_take]; omega
theorem pc_succ (s : ByteArray) (f k : Nat) (hf : f ≤ k) (hk : k < s.size) : pc s.data.toList f (k + 1) = pc s.data.toList f k ++ [s[k]] := by
  unfold pc
  have hl := size_list s
  rw [List.take_succ_eq_append_getElem (by omega), List.drop_append_of_le_length (by rw [List.length_take]; omega)]
  rfl
theorem pc_all (s : ByteArray) (f : Nat) : pc s.data.toList f s.size = s.data.toList.drop f := by unfold pc; rw [← size_list, List.take_length]
theorem info_str : (Tryd.prog.info? 9).map (fun i => (i.zero, i.size, i.bytes)) = some (some (.string ⟨#[]⟩), 1, 16) := by kernel_rfl
abbrev lists (ws : List ByteArray) : List (List UInt8) := ws.map fun t => t.data.toList
theorem lists_snoc (ws : List ByteArray) (t : ByteArray) : lists (ws ++ [t]) = lists ws ++ [t.data.toList] := by simp [lists]
/-- how far the split has come -/
def SplRel (w : World) (s : ByteArray) (o f i : Value) (wr : World) : Prop :=
  ∃ (g cap : Nat) (ws : List ByteArray) (k q : Nat), o = .slice (some ⟨g, 0, none⟩) ws.length cap ∧ f = .int .i64 q ∧ i = .int .i64 k ∧ q ≤ k ∧ k ≤ s.size + 1 ∧ ws.length ≤ k ∧
    wr.ownsRow w.heap.size 9 1 (.slice (some ⟨g, 0, none⟩) ws.length cap) ws.length (ws.map Value.string) ∧ Below w.heap.size w wr ∧
    (k ≤ s.size → lists ws ++ ahd (pc s.data.toList q k) (splitS (s.data.toList.drop k)) = splitS s.data.toList) ∧ (k = s.size + 1 → lists ws = splitS s.data.toList)
theorem spl_chr {s : ByteArray} {ws : List ByteArray} {q k : Nat} (hq : q ≤ k) (hk : k < s.size) (hc : ¬ s[k].toNat = 47) (h : lists ws ++ ahd (pc s.data.toList q k) (splitS (s.data.toList.drop k)) = splitS s.data.toList) :
    lists ws ++ ahd (pc s.data.toList q (k + 1)) (splitS (s.data.toList.drop (k + 1))) = splitS s.data.toList := by
  rw [sdrop_cons s k hk, split_chr _ _ _ (fun e => hc (by rw [e]; rfl))] at h
  rw [pc_succ s q k hq hk]; exact h
theorem spl_sep {s : ByteArray} {ws : List ByteArray} {q k : Nat} (hk : k < s.size) (hc : s[k].toNat = 47) (h : lists ws ++ ahd (pc s.data.toList q k) (splitS (s.data.toList.drop k)) = splitS s.data.toList) :
    lists (ws ++ [s.extract q k]) ++ ahd (pc s.data.toList (k + 1) (k + 1)) (splitS (s.data.toList.drop (k + 1))) = splitS s.data.toList := by
  have e : s[k] = 47 := UInt8.toNat_inj.1 (by rw [hc]; rfl)
  rw [sdrop_cons s k hk, e, split_sep] at h
  rw [lists_snoc, pc_extract, pc_same, ahd_nil, List.append_assoc]; exact h
theorem spl_end {s : ByteArray} {ws : List ByteArray} {q : Nat} (h : lists ws ++ ahd (pc s.data.toList q s.size) (splitS (s.data.toList.drop s.size)) = splitS s.data.toList) :
    lists (ws ++ [s.extract q s.size]) = splitS s.data.toList := by
  rw [List.drop_of_length_le (by rw [size_list]; omega), split_end] at h
  rw [lists_snoc, pc_extract]; exact h
def SplD (w : World) (s : ByteArray) (e : Ending) (w' : World) : Prop :=
  ∃ (g cap : Nat) (ws : List ByteArray), e = .returned (.slice (some ⟨g, 0, none⟩) ws.length cap) ∧ lists ws = splitS s.data.toList ∧ ws.length ≤ s.size + 1 ∧
    w'.ownsRow w.heap.size 9 1 (.slice (some ⟨g, 0, none⟩) ws.length cap) ws.length (ws.map Value.string) ∧ Below w.heap.size w w'
theorem below_grown2 {B : Nat} {w w1 w2 : World} {g : Nat} (h : Below B w w1) (hg : w1.grownBy w2 (some g)) (hB : B ≤ g) (hw : B ≤ w1.heap.size) : Below B w w2 := h.trans (below_of_grown hg hB hw)
set_option maxRecDepth 100000 in
set_option maxHeartbeats 8000000 in
theorem spl_any (s : ByteArray) (w : World) (hl : s.size ≤ 1048576) :
    Calls Tryd.prog 22 #[.string s, .int .u8 47] w (SplD w s) := by
  obtain ⟨i0, hi, hz0, hz1, hz2⟩ := info_parts info_str
  go_enter Tryd.func22, Tryd.ntmps22
  go_wp2_with fail
  have hown := World.ownsRow_lit (base := w.heap.size) (e := 9) (size := 1) w #[] 0 (Nat.le_refl _) (by decide) (by decide)
  have HR : Hid (SplRel w s (.slice (some ⟨w.heap.size, 0, none⟩) 0 0) (.int .i64 0) (.int .i64 0) (w.alloc (.cells #[] 9))) :=
    Lib.hid ⟨w.heap.size, 0, [], 0, 0, rfl, rfl, rfl, by omega, by omega, by simp, hown, (Below.refl _ _).alloc (Nat.le_refl _) _, fun _ => by simp [lists, pc_same, ahd_nil], fun h => by omega⟩
  clear hown
  go_loopw [5, 6, 7] (fun o f i wr => SplRel w s o f i wr) (fun _ _ i _ => s.size + 1 - (intOf i).toNat)
  case atStart => exact HR.out
  case round =>
    obtain ⟨g, cap, ws, k, q, rfl, rfl, rfl, hq, hk, hws, hown, hb, h1, h2⟩ := hrel
    clear HR
    have hg := hown.lt g rfl
    have HO := Lib.hid hown
    have HB := Lib.hid hb
    have H1 := Lib.hid h1
    have H2 := Lib.hid h2
    have hW := hb.size
    clear hown hb h1 h2
    by_cases hlt : k < s.size
    · by_cases hc : s[k].toNat = 47
      · have hcb : ((s[k].toNat : Int) == 47) = true := by simp; omega
        have HL := Lib.hid (spl_sep hlt hc (H1.out (by omega)))
        have i1 : (0 : Int) ≤ (q : Int) := by omega
        have i2 : (q : Int) ≤ (k : Int) := by omega
        have i3 : (k : Int) ≤ (s.size : Int) := by omega
        clear hc
        go_wp2_with (at_builtin; (refine wpList_append_lies _ rfl _ _ 40 rfl w.heap.size 9 i0 (.string ⟨#[]⟩) 1 16 Tryd.underlying40 hi hz0 hz1 hz2 rfl (by decide) (.slice (some ⟨g, 0, none⟩) ws.length cap) ws.length (ws.map Value.string) rfl (HO.out.alloc _) ⟨wr.heap.size, 0, none⟩ 1 1 [.string (s.extract q k)] rfl rfl (World.news_of_block (cs := #[.string (s.extract q k)]) (t := 9) (fr := (0, 0)) (heap_alloc_new wr _)) (by simp [Value.oneCell']) (by omega) (by unfold maxLen; omega) (by omega) (by simp; omega) (wr.heap.size + 1) (by simp) ?_); intro g2 cap2 w9 hown3 hgrow hat hlt9)
        have HB9 := Lib.hid (below_grown2 (HB.out.alloc hW (.cells #[.string (s.extract q k)] 9)) (show _ from hgrow) hg.1 (by simp; omega))
        have HO9 := Lib.hid hown3
        clear hown3 hgrow hat hlt9
        go_roundw
        case rel => exact ⟨g2, cap2, ws ++ [s.extract q k], k + 1, k + 1, by simp, by go_num, by go_num, Nat.le_refl _, by omega, by simp; omega, by simpa using HO9.out, HB9.out, fun _ => HL.out, fun h => by omega⟩
        case measure => first | (simp [intOf]; done) | (simp [intOf]; omega)
      · have hcb : ((s[k].toNat : Int) == 47) = false := by simp; omega
        have HL := Lib.hid (spl_chr hq hlt hc (H1.out (by omega)))
        clear hc
        go_wp2
        go_roundw
        case rel => exact ⟨g, cap, ws, k + 1, q, rfl, rfl, by go_num, by omega, by omega, by omega, HO.out, HB.out, fun _ => HL.out, fun h => by omega⟩
        case measure => first | (simp [intOf]; done) | (simp [intOf]; omega)
    · by_cases he : k = s.size
      · subst he
        have HL := Lib.hid (spl_end (H1.out (by omega)))
        have i1 : (0 : Int) ≤ (q : Int) := by omega
        have i2 : (q : Int) ≤ (s.size : Int) := by omega
        go_wp2_with (at_builtin; (refine wpList_append_lies _ rfl _ _ 40 rfl w.heap.size 9 i0 (.string ⟨#[]⟩) 1 16 Tryd.underlying40 hi hz0 hz1 hz2 rfl (by decide) (.slice (some ⟨g, 0, none⟩) ws.length cap) ws.length (ws.map Value.string) rfl (HO.out.alloc _) ⟨wr.heap.size, 0, none⟩ 1 1 [.string (s.extract q s.size)] rfl rfl (World.news_of_block (cs := #[.string (s.extract q s.size)]) (t := 9) (fr := (0, 0)) (heap_alloc_new wr _)) (by simp [Value.oneCell']) (by omega) (by unfold maxLen; omega) (by omega) (by simp; omega) (wr.heap.size + 1) (by simp) ?_); intro g2 cap2 w9 hown3 hgrow hat hlt9)
        have HB9 := Lib.hid (below_grown2 (HB.out.alloc hW (.cells #[.string (s.extract q s.size)] 9)) (show _ from hgrow) hg.1 (by simp; omega))
        have HO9 := Lib.hid hown3
        clear hown3 hgrow hat hlt9
        go_roundw
        case rel => exact ⟨g2, cap2, ws ++ [s.extract q s.size], s.size + 1, s.size + 1, by simp, by go_num, by go_num, Nat.le_refl _, by omega, by simp; omega, by simpa using HO9.out, HB9.out, fun h => by omega, fun _ => HL.out⟩
        case measure => first | (simp [intOf]; done) | (simp [intOf]; omega)
      · have HL := Lib.hid (H2.out (by omega))
        go_wp2
        go_ret
        exact ⟨g, cap, ws, rfl, HL.out, by omega, HO.out, HB.out⟩
end Go.Proofs.YtcaekheghjnipabDoor
