/- The model's draws of a depth, and of a profile with a depth. -/
import Derived.Test.YtcaekheghjnipaaDrp
import Derived.Deep.RegionHeld3
import Derived.Deep.DrawnRows
namespace Go.Proofs.Ytcaekheghjnipaa
open Go.ChangeShapes Go.WideShapes Go.ChangeAt Go.RowKit Go.Shelf Num
set_option linter.unusedVariables false
attribute [local go_sem ↓] Go.wp_at_zero Go.wp_at_succ
/-- what a draw of a depth reads and keeps -/
def DpS (w : World) (s B b o n : Nat) (v : Value) (zs : List Int) (W : World) : Prop :=
  W.cell? ⟨B, 0, none⟩ = some v ∧ (∀ j, j < n → W.cell? ⟨b, o + j, none⟩ = some (.int .i64 (zs.getD j 0))) ∧ Src W s ∧ w.grownBy W (some s)
theorem dp_next {w W W' : World} {s B b o n : Nat} {v : Value} {zs : List Int} (hB : B ≠ s) (hb : b ≠ s) (hs : Src W' s) (hg : W.grownBy W' (some s))
    (c : W.cell? ⟨B, 0, none⟩ = some v) (z : ∀ j, j < n → W.cell? ⟨b, o + j, none⟩ = some (.int .i64 (zs.getD j 0))) (g : w.grownBy W (some s)) :
    W'.cell? ⟨B, 0, none⟩ = some v ∧ (∀ j, j < n → W'.cell? ⟨b, o + j, none⟩ = some (.int .i64 (zs.getD j 0))) ∧ Src W' s ∧ w.grownBy W' (some s) :=
  ⟨cell_keep c hg hB, fun j hj => cell_keep (z j hj) hg hb, hs, grown_trans g hg⟩
theorem dp_next2 {w W W' : World} {s B b o n : Nat} {v : Value} {zs : List Int} {ob : Obj} (hB : B ≠ s) (hb : b ≠ s) (hs : Src W' s) (hg : (W.alloc ob).grownBy W' (some s))
    (c : W.cell? ⟨B, 0, none⟩ = some v) (z : ∀ j, j < n → W.cell? ⟨b, o + j, none⟩ = some (.int .i64 (zs.getD j 0))) (g : w.grownBy W (some s)) :
    W'.cell? ⟨B, 0, none⟩ = some v ∧ (∀ j, j < n → W'.cell? ⟨b, o + j, none⟩ = some (.int .i64 (zs.getD j 0))) ∧ Src W' s ∧ w.grownBy W' (some s) :=
  dp_next hB hb hs hg (kc1 c ((Below.refl _ _).alloc (Nat.le_refl _) _)) (fun j hj => kc1 (z j hj) ((Below.refl _ _).alloc (Nat.le_refl _) _)) (grown_alloc g _)
theorem dp_al {w W : World} {s B b o n : Nat} {v : Value} {zs : List Int} (ob : Obj)
    (c : W.cell? ⟨B, 0, none⟩ = some v) (z : ∀ j, j < n → W.cell? ⟨b, o + j, none⟩ = some (.int .i64 (zs.getD j 0))) (h : Src W s) (g : w.grownBy W (some s)) :
    (W.alloc ob).cell? ⟨B, 0, none⟩ = some v ∧ (∀ j, j < n → (W.alloc ob).cell? ⟨b, o + j, none⟩ = some (.int .i64 (zs.getD j 0))) ∧ Src (W.alloc ob) s ∧ w.grownBy (W.alloc ob) (some s) :=
  ⟨kc1 c ((Below.refl _ _).alloc (Nat.le_refl _) _), fun j hj => kc1 (z j hj) ((Below.refl _ _).alloc (Nat.le_refl _) _), h.alloc _, grown_alloc g _⟩
theorem dp_ald {w W : World} {s B b o n : Nat} {v : Value} {zs : List Int} (ob : Obj) (h : DpS w s B b o n v zs W.drew) :
    (W.alloc ob).drew.cell? ⟨B, 0, none⟩ = some v ∧ (∀ j, j < n → (W.alloc ob).drew.cell? ⟨b, o + j, none⟩ = some (.int .i64 (zs.getD j 0))) ∧ Src (W.alloc ob).drew s ∧ w.grownBy (W.alloc ob).drew (some s) :=
  dp_al (W := W.drew) ob h.1 h.2.1 h.2.2.1 h.2.2.2
theorem size_ald {w : World} {o : Obj} : (w.alloc o).drew.heap.size = w.heap.size + 1 := World.size_alloc _ _
theorem heap_at_newd {w : World} {o : Obj} {b : Nat} (e : b = w.heap.size) : (w.alloc o).drew.heap[b]? = some o := heap_at_new e
theorem PrA.less2 {w : World} {m m' c d : Nat} {a b : Option Addr} {zs ys : List Int} (h : PrA w m a b c d zs ys) (hm : m' ≤ m) : PrA w m' a b c d zs ys :=
  ⟨h.at_, fun x e => Nat.lt_of_le_of_lt hm (h.lo1 x e), fun x e => Nat.lt_of_le_of_lt hm (h.lo2 x e), h.n1, h.n2, h.c1, h.c2⟩
def OneD (w : World) (s : Nat) (e : Ending) (w' : World) : Prop := ∃ x : Int, e = .returned (.int .i64 x) ∧ Src w' s ∧ w.grownBy w' (some s)

set_option maxRecDepth 100000 in
set_option maxHeartbeats 4000000 in
theorem ddp_any (w : World) (s : Nat) (a b : Option Addr) (c d : Nat) (zs ys : List Int) (h : Src w s) (hp : Prof w w.heap.size a b zs ys) (hl : zs.length ≤ 20) (ha : ∀ x, a = some x → x.block ≠ s) :
    Calls Try.prog 105 #[.pointer (some ⟨s, 0, none⟩), .agg #[.slice a zs.length c, .slice b ys.length d]] w (OneD w s) := by
  have hlt := h.lt
  by_cases h0 : zs.length = 0
  · have HS := Lib.hid h
    rw [h0]
    clear h hp
    go_enter Try.func105, Try.ntmps105
    go_wp2
    go_ret
    exact ⟨_, rfl, HS.out.alloc _, grown_alloc (grown_refl _ _) _⟩
  · obtain ⟨b0, off, rfl, hB, hc⟩ := hp.dz (by omega)
    have hb0 := ha _ rfl
    simp only at hb0
    have HS := Lib.hid h
    have HZ := Lib.hid hc
    obtain ⟨v, hv⟩ : ∃ v, zs.getD (zs.length - 1) 0 = v := ⟨_, rfl⟩
    have g1 := hc (zs.length - 1) (by omega)
    rw [hv] at g1
    have i1 : (0 : Int) ≤ (zs.length : Int) - 1 := by omega
    have i2 : ((zs.length : Int) - 1).toNat = zs.length - 1 := by omega
    have i3 : (zs.length : Int) - 1 < (zs.length : Int) := by omega
    have i4 : ((zs.length : Int) == 0) = false := by simpa using h0
    clear h hp hc hv ha
    go_enter Try.func105, Try.ntmps105
    go_upto_region 5 with fail
    generalize hW : World.alloc _ _ = W
    have hb : Below w.heap.size w W := by rw [← hW]; exact (by repeat (first | exact Below.refl _ _ | (refine Below.alloc ?_ (by simp <;> omega) _) | (refine Below.setCell ?_ (by simp <;> omega) _) | (refine Below.drew ?_) | (refine bel_drewN ?_ _)))
    have bP : Bk W w.heap.size #[.slice (some ⟨b0, off, none⟩) zs.length c, .slice b ys.length d] 42 := by rw [← hW]; exact Bk.new' rfl
    have hw : w.heap.size ≤ W.heap.size := hb.size
    have ST := Lib.hid (show DpS w s w.heap.size b0 off zs.length (.slice (some ⟨b0, off, none⟩) zs.length c) zs W.drew from ⟨(bkD bP).cell 0 rfl, fun j hj => kc1 (HZ.out j hj) hb.drew, (HS.out.bel hb).drew, grown_bel (grown_refl _ _) (hb.drew)⟩)
    have hls : s < W.heap.size := by omega
    have hne : w.heap.size ≠ s := by omega
    clear hW hb bP HS HZ g1
    by_cases hmx : 1 < v
    all_goals
      go_region_held3 (fun w' => w'.cell? ⟨w.heap.size, 0, none⟩ = some (.slice (some ⟨b0, off, none⟩) zs.length c) ∧ (∀ j, j < zs.length → w'.cell? ⟨b0, off + j, none⟩ = some (.int .i64 (zs.getD j 0))) ∧ Src w' s ∧ w.grownBy w' (some s))
        (first
        | (with_reducible exact ST.out)
        | (exact ST.out)
        | (with_reducible exact dp_ald _ ST.out)
        | (go_split_ands; with_reducible exact ⟨by assumption, by assumption, by assumption, by assumption⟩)
        | (go_split_ands; with_reducible exact dp_next hne hb0 hs hg (by assumption) (by assumption) (by assumption))
        | (go_split_ands; with_reducible exact dp_next2 hne hb0 hs hg (by assumption) (by assumption) (by assumption))
        | (go_split_ands; with_reducible exact dp_al _ (by assumption) (by assumption) (by assumption) (by assumption)))
        (first
      | (go_at_call 75; ((with_reducible refine (nxt_any _ _ _ (by go_split_ands; assumption)).mono ?_); rintro e wq ⟨q, rfl, hq0, hq1, hq9, hs, hg⟩); (try have hq2 : q < (zs.length : Int) := by omega); clear hq1 hq9; (try have hq3 : q.toNat < zs.length := by omega); have hlq := hs.lt; have hgs := hg.size; (try rw [World.size_alloc] at hgs); (try rw [size_ald] at hgs))
      | (go_at_call 102; ((with_reducible refine (pick4c _ _ _ _ _ _ _ _ (Src.alloc hs _) ?kaq ((heap_at_new rfl))).mono ?_); (case kaq => first | omega | (simp; omega)); rintro e wq ⟨q, rfl, hq9, hs, hg⟩); clear hq9; have hgw := (by first | exact grown_trans (by go_split_ands; assumption) hg | exact grown_trans (grown_alloc (by go_split_ands; assumption) _) hg : World.grownBy w wq (some s)); have hlq := hs.lt; have hgs := hg.size; (try rw [World.size_alloc] at hgs); (try rw [size_ald] at hgs))
      | (go_at_call 102; ((with_reducible refine (pick4c _ _ _ _ _ _ _ _ (hs) ?kaq ((Eq.trans (World.grownBy.block hg _ ?k0 ?k1) (heap_at_new rfl)))).mono ?_); (case kaq => first | omega | (simp; omega)); (case k0 => (first | omega | (simp; done) | (simp; omega) | (intro e; injection e with e; omega) | (intro e; injection e with e; simp at e; omega))); (case k1 => (first | omega | (simp; done) | (simp; omega) | (intro e; injection e with e; omega) | (intro e; injection e with e; simp at e; omega))); rintro e wq ⟨q, rfl, hq9, hs, hg⟩); clear hq9; have hgw := (by first | exact grown_trans (by go_split_ands; assumption) hg | exact grown_trans (grown_alloc (by go_split_ands; assumption) _) hg : World.grownBy w wq (some s)); have hlq := hs.lt; have hgs := hg.size; (try rw [World.size_alloc] at hgs); (try rw [size_ald] at hgs))
      | (go_at_call 102; ((with_reducible refine (pick4c _ _ _ _ _ _ _ _ (hs) ?kaq ((Eq.trans (World.grownBy.block hg _ ?k0 ?k1) (Eq.trans (World.grownBy.block (by assumption : World.grownBy (World.alloc _ _) _ (some s)) _ ?k2 ?k3) (heap_at_new rfl))))).mono ?_); (case kaq => first | omega | (simp; omega)); (case k0 => (first | omega | (simp; done) | (simp; omega) | (intro e; injection e with e; omega) | (intro e; injection e with e; simp at e; omega))); (case k1 => (first | omega | (simp; done) | (simp; omega) | (intro e; injection e with e; omega) | (intro e; injection e with e; simp at e; omega))); (case k2 => (first | omega | (simp; done) | (simp; omega) | (intro e; injection e with e; omega) | (intro e; injection e with e; simp at e; omega))); (case k3 => (first | omega | (simp; done) | (simp; omega) | (intro e; injection e with e; omega) | (intro e; injection e with e; simp at e; omega))); rintro e wq ⟨q, rfl, hq9, hs, hg⟩); clear hq9; have hgw := (by first | exact grown_trans (by go_split_ands; assumption) hg | exact grown_trans (grown_alloc (by go_split_ands; assumption) _) hg : World.grownBy w wq (some s)); have hlq := hs.lt; have hgs := hg.size; (try rw [World.size_alloc] at hgs); (try rw [size_ald] at hgs))
      | (go_at_call 102; ((with_reducible refine (pick4c _ _ _ _ _ _ _ _ (hs) ?kaq ((Eq.trans (World.grownBy.block hg _ ?k0 ?k1) (Eq.trans (World.grownBy.block (by assumption : World.grownBy _ _ (some s)) _ ?k2 ?k3) (Eq.trans (World.grownBy.block (by assumption : World.grownBy (World.alloc _ _) _ (some s)) _ ?k4 ?k5) (heap_at_new rfl)))))).mono ?_); (case kaq => first | omega | (simp; omega)); (case k0 => (first | omega | (simp; done) | (simp; omega) | (intro e; injection e with e; omega) | (intro e; injection e with e; simp at e; omega))); (case k1 => (first | omega | (simp; done) | (simp; omega) | (intro e; injection e with e; omega) | (intro e; injection e with e; simp at e; omega))); (case k2 => (first | omega | (simp; done) | (simp; omega) | (intro e; injection e with e; omega) | (intro e; injection e with e; simp at e; omega))); (case k3 => (first | omega | (simp; done) | (simp; omega) | (intro e; injection e with e; omega) | (intro e; injection e with e; simp at e; omega))); (case k4 => (first | omega | (simp; done) | (simp; omega) | (intro e; injection e with e; omega) | (intro e; injection e with e; simp at e; omega))); (case k5 => (first | omega | (simp; done) | (simp; omega) | (intro e; injection e with e; omega) | (intro e; injection e with e; simp at e; omega))); rintro e wq ⟨q, rfl, hq9, hs, hg⟩); clear hq9; have hgw := (by first | exact grown_trans (by go_split_ands; assumption) hg | exact grown_trans (grown_alloc (by go_split_ands; assumption) _) hg : World.grownBy w wq (some s)); have hlq := hs.lt; have hgs := hg.size; (try rw [World.size_alloc] at hgs); (try rw [size_ald] at hgs))
      | (go_at_call 102; ((with_reducible refine (pick4c _ _ _ _ _ _ _ _ (hs) ?kaq ((Eq.trans (World.grownBy.block hg _ ?k0 ?k1) (Eq.trans (World.grownBy.block (by assumption : World.grownBy _ _ (some s)) _ ?k2 ?k3) (Eq.trans (World.grownBy.block (by assumption : World.grownBy (World.drew (World.alloc _ _)) _ (some s)) _ ?k4 ?k5) (heap_at_newd rfl)))))).mono ?_); (case kaq => first | omega | (simp; omega)); (case k0 => (first | omega | (simp; done) | (simp; omega) | (intro e; injection e with e; omega) | (intro e; injection e with e; simp at e; omega))); (case k1 => (first | omega | (simp; done) | (simp; omega) | (intro e; injection e with e; omega) | (intro e; injection e with e; simp at e; omega))); (case k2 => (first | omega | (simp; done) | (simp; omega) | (intro e; injection e with e; omega) | (intro e; injection e with e; simp at e; omega))); (case k3 => (first | omega | (simp; done) | (simp; omega) | (intro e; injection e with e; omega) | (intro e; injection e with e; simp at e; omega))); (case k4 => (first | omega | (simp; done) | (simp; omega) | (intro e; injection e with e; omega) | (intro e; injection e with e; simp at e; omega))); (case k5 => (first | omega | (simp; done) | (simp; omega) | (intro e; injection e with e; omega) | (intro e; injection e with e; simp at e; omega))); rintro e wq ⟨q, rfl, hq9, hs, hg⟩); clear hq9; have hgw := (by first | exact grown_trans (by go_split_ands; assumption) hg | exact grown_trans (grown_alloc (by go_split_ands; assumption) _) hg : World.grownBy w wq (some s)); have hlq := hs.lt; have hgs := hg.size; (try rw [World.size_alloc] at hgs); (try rw [size_ald] at hgs)))
      all_goals
        go_split_ands
        go_wp2
        go_ret
        exact ⟨_, rfl, hs, hgw⟩

set_option maxRecDepth 100000 in
set_option maxHeartbeats 4000000 in
theorem dly_any (w : World) (a0 : Option Addr) (cap : Nat) (cs : List Int) (h : Code8 w w.heap.size a0 cs) :
    Calls Try.prog 79 #[.slice a0 cs.length cap] w fun e w' => ∃ (a b : Option Addr) (c d : Nat) (zs ys : List Int) (x : Int), e = .returned (.tuple #[.agg #[.slice a zs.length c, .slice b ys.length d], .int .i64 x]) ∧ PrA w' w.heap.size a b c d zs ys ∧ Below w.heap.size w w' := by
  have HC := Lib.hid h
  clear h
  go_enter Try.func79, Try.ntmps79
  go_wp2_with fail
  generalize hW : World.alloc _ _ = W
  have bR : Bk W w.heap.size #[.slice none 0 0, .slice none 0 0] 42 := by rw [← hW]; exact Bk.new' rfl
  have hb0 : Below w.heap.size w W := by rw [← hW]; exact (by repeat (first | exact Below.refl _ _ | (refine Below.alloc ?_ (by simp <;> omega) _) | (refine Below.setCell ?_ (by simp <;> omega) _) | (refine Below.drew ?_) | (refine bel_drewN ?_ _)))
  clear hW
  have hlE := bR.lt
  refine (from_any _ _ _ cs ((HC.out.below hb0 (Nat.le_refl _)).more hb0.size)).mono ?_
  rintro e w1 ⟨s, rfl, hs, hsrc, hb⟩
  replace bR := bR.on hb
  have HB := Lib.hid (bel_end hb0 hb)
  have HS := Lib.hid hsrc
  have hl1 := bR.lt
  have hl0 := HS.out.lt
  clear hsrc hb hb0
  go_wp2_with fail
  refine (ddr_any _ _ HS.out).mono ?_
  rintro e w2 ⟨a, b, c, d, zs, ys, rfl, hn1, hn2, hc1, hc2, hp, lo1, lo2, hs2, hg⟩
  replace bR := bR.kept hg (by simp; omega)
  have hsz := hg.size
  replace HB := Lib.hid (HB.out.trans (below_of_grown hg (by omega) (by have := HB.out.size; omega)))
  replace HS := Lib.hid hs2
  have HP : Hid (PrA w2 w1.heap.size a b c d zs ys) := Lib.hid ⟨hp, lo1, lo2, hn1, hn2, hc1, hc2⟩
  clear hg hs2 hp lo1 lo2
  go_wp2_with fail
  generalize hW : World.alloc _ _ = w3
  have hb : Below w2.heap.size w2 w3 := by rw [← hW]; exact (by repeat (first | exact Below.refl _ _ | (refine Below.alloc ?_ (by simp <;> omega) _) | (refine Below.setCell ?_ (by simp <;> omega) _) | (refine Below.drew ?_) | (refine bel_drewN ?_ _)))
  have bP : Bk w3 w2.heap.size #[.slice a zs.length c, .slice b ys.length d] 42 := by rw [← hW]; exact Bk.new' rfl
  have hls := HS.out.lt
  replace bR := bR.on hb
  replace HB := Lib.hid (bel_end HB.out hb)
  replace HS := Lib.hid (HS.out.bel hb)
  replace HP := Lib.hid (HP.out.on hb)
  clear hW hb
  have p0 := bP.cell 0 rfl
  have p1 := bP.cell 1 rfl
  have r0 := bR.cell 0 rfl
  have r1 := bR.cell 1 rfl
  have rf0 := bR.frozen 0
  have rf1 := bR.frozen 1
  have pl := bP.lt
  have rl := bR.lt
  have n1 : ¬ w.heap.size = w2.heap.size := by omega
  have n2 : ¬ w2.heap.size = w.heap.size := by omega
  go_wp2_with fail
  go_region_with (go_at_call 105; refine (ddp_any _ _ a b c d zs ys HS.out.drew (HP.out.at_.on (Below.refl _ _).drew) hn1 (fun x e => by have := HP.out.lo1 x e; omega)).mono ?_; rintro e w5 ⟨x, rfl, hs2, hg⟩; have bP2 := (bkD bP).kept hg (by simp; omega); have bR2 := (bkD bR).kept hg (by simp; omega); have p0 := bP2.cell 0 rfl; have p1 := bP2.cell 1 rfl; have r0 := bR2.cell 0 rfl; have r1 := bR2.cell 1 rfl; have rf0 := bR2.frozen 0; have rf1 := bR2.frozen 1)
  all_goals
    have hb5 := (Below.refl w3.heap.size w3).drew
    have HP4 := Lib.hid ((((HP.out.on hb5).grown (by omega) hg)))
    have HB4 := Lib.hid ((bel_end HB.out hb5).trans (below_of_grown hg (by omega) (by have := HB.out.size; simp; omega)))
    clear hg hs2 hb5
    go_wp2
    exact bodyPost_ret (v := .tuple #[.agg #[.slice a zs.length c, .slice b ys.length d], .int .i64 x]) (by simp [results, Try.results79, go_sem, r0, r1]) rfl
      ⟨a, b, c, d, zs, ys, x, rfl, ((HP4.out.set ⟨w.heap.size, 0, none⟩ (by simp; omega) _).set ⟨w.heap.size, 1, none⟩ (by simp; omega) _).less2 (by omega), (HB4.out.setCell (p := ⟨w.heap.size, 0, none⟩) (Nat.le_refl _) _).setCell (p := ⟨w.heap.size, 1, none⟩) (Nat.le_refl _) _⟩

set_option maxRecDepth 100000 in
set_option maxHeartbeats 4000000 in
theorem dsp_any (w : World) (a0 : Option Addr) (cap : Nat) (cs : List Int) (h : Code8 w w.heap.size a0 cs) :
    Calls Try.prog 50 #[.slice a0 cs.length cap] w (PrK1 w) := by
  have HC := Lib.hid h
  clear h
  go_enter Try.func50, Try.ntmps50
  go_wp2_with fail
  generalize hW : World.alloc _ _ = W
  have bR : Bk W w.heap.size #[.slice none 0 0, .slice none 0 0] 42 := by rw [← hW]; exact Bk.new' rfl
  have hb0 : Below w.heap.size w W := by rw [← hW]; exact (by repeat (first | exact Below.refl _ _ | (refine Below.alloc ?_ (by simp <;> omega) _) | (refine Below.setCell ?_ (by simp <;> omega) _) | (refine Below.drew ?_) | (refine bel_drewN ?_ _)))
  clear hW
  have hlE := bR.lt
  refine (dly_any _ _ _ cs ((HC.out.below hb0 (Nat.le_refl _)).more hb0.size)).mono ?_
  rintro e w1 ⟨a, b, c, d, zs, ys, x, rfl, hp, hb⟩
  replace bR := bR.on hb
  have HB := Lib.hid (bel_end hb0 hb)
  have HP := Lib.hid hp
  clear hb hb0 hp
  have r0 := bR.cell 0 rfl
  have r1 := bR.cell 1 rfl
  have rf0 := bR.frozen 0
  have rf1 := bR.frozen 1
  have rl := bR.lt
  go_wp2
  exact bodyPost_ret (v := .tuple #[.agg #[.slice a zs.length c, .slice b ys.length d], .int .i64 x]) (by simp [results, Try.results50, go_sem, r0, r1]) rfl
    ⟨a, b, c, d, zs, ys, x, rfl, ⟨((HP.out.set ⟨w.heap.size, 0, none⟩ (by simp; omega) _).set ⟨w.heap.size, 1, none⟩ (by simp; omega) _).at_, HP.out.n1, HP.out.n2⟩, (HB.out.setCell (p := ⟨w.heap.size, 0, none⟩) (Nat.le_refl _) _).setCell (p := ⟨w.heap.size, 1, none⟩) (Nat.le_refl _) _⟩
end Go.Proofs.Ytcaekheghjnipaa
