/- The walk of the exact law of ConfirmScan: it returns true and writes nothing that was there. -/
import Derived.Test.YtgdnapioboodbaaThQ
import Derived.Test.YtgdnapioboodbaaPuX
namespace Go.Proofs.Ytgdnapioboodbaa
open Go.ChangeShapes Go.WideShapes Go.ChangeAt Go.RowKit Go.Shelf Num
set_option linter.unusedVariables false
set_option linter.unusedSimpArgs false
theorem scs13_b (w : World) (a : Option Addr) (cap n : Nat) (zs : List Int) (m v : Int) (hn : zs.length = n) (hl : n ≤ 9223372036854775807) (hcap : n ≤ cap) (hz : Ints .i64 w w.heap.size a zs) :
    Calls Try.prog 36 #[.slice a n cap, .int .i64 m, .int .i64 v] w fun e w' => e = .returned (.tuple #[.int .i64 (csT zs m v).1, .int .i64 (csT zs m v).2]) ∧ Below w.heap.size w w' := by
  refine (scs13_any w a cap n zs m v hn hl hcap hz).mono ?_
  rintro e w' ⟨rfl, rfl⟩
  exact ⟨rfl, Below.refl _ _⟩

set_option maxRecDepth 100000 in
set_option maxHeartbeats 8000000 in
theorem lecs (a0 : Option Addr) (len0 cap0 : Nat) (z0 : List Int) (m : Int) (v : Int) (w : World) (w0 : IsRow .i64 w a0 len0 cap0 z0) (w1 : (Lit.int .i64 m).wf = true) (w2 : (Lit.int .i64 v).wf = true) :
    Calls Try.prog 11 #[.slice a0 len0 cap0, .int .i64 m, .int .i64 v] w fun e w' => e = .returned (.bool true) ∧ Below w.heap.size w w' := by
  obtain ⟨hm0, hlen, hz0, -⟩ := Ints.of_row w0
  obtain ⟨ps, hzs⟩ : ∃ zs, z0.take len0 = zs := ⟨_, rfl⟩
  rw [hzs] at hz0 hlen
  subst hlen
  clear hzs w0
  clear w1 w2
  have Hps := Lib.hid (IntL.of hz0)
  clear hz0
  have HB := Lib.hid (Below.refl w.heap.size w)
  by_cases hbps : 1048576 < ps.length
  · go_enter Try.func11, Try.ntmps11
    go_wp2
    go_ret
    exact ⟨rfl, Below.refl _ _⟩
  go_enter Try.func11, Try.ntmps11
  go_wp2_with fail
  refine (to_any _ _ _ ps (by omega) Hps.out.ints).mono ?_
  rintro e w1 ⟨g1, rfl, hg, hr, hb⟩
  replace Hps := Lib.hid (Hps.out.on hb)
  replace HB := Lib.hid (bel_end HB.out hb)
  have q1 := hb.size
  have Sps := Lib.hid (ownA_new hr hg (by omega))
  clear hb hg hr
  go_wp2_with fail
  refine (scs13_b _ _ _ _ ps m v rfl (by omega) (ownA_cap Sps.out) Sps.out.ints).mono ?_
  rintro e w2 ⟨rfl, hb⟩
  replace Hps := Lib.hid (Hps.out.on hb)
  replace Sps := Lib.hid (Sps.out.on hb)
  replace HB := Lib.hid (bel_end HB.out hb)
  have q2 := hb.size
  clear hb
  clear Sps
  go_wp2_with fail
  refine (to_any _ _ _ ps (by omega) Hps.out.ints).mono ?_
  rintro e w3 ⟨g3, rfl, hg, hr, hb⟩
  replace Hps := Lib.hid (Hps.out.on hb)
  replace HB := Lib.hid (bel_end HB.out hb)
  have q3 := hb.size
  have Xps := Lib.hid (ownA_new hr hg (by omega))
  clear hb hg hr
  go_wp2_with fail
  refine (ics_any _ _ _ _ ps m v rfl (by omega) Xps.out.ints).mono ?_
  rintro e w4 ⟨rfl, hb⟩
  replace Hps := Lib.hid (Hps.out.on hb)
  replace Xps := Lib.hid (Xps.out.on hb)
  replace HB := Lib.hid (bel_end HB.out hb)
  have q4 := hb.size
  clear hb
  go_wp2_with fail
  refine (to_any _ _ _ ps (by omega) Hps.out.ints).mono ?_
  rintro e w5 ⟨g5, rfl, hg, hr, hb⟩
  replace Hps := Lib.hid (Hps.out.on hb)
  replace Xps := Lib.hid (Xps.out.on hb)
  replace HB := Lib.hid (bel_end HB.out hb)
  have q5 := hb.size
  have C := Lib.hid (ownA_new hr hg (by omega))
  clear hb hg hr
  go_wp2_with fail
  refine (eql_any _ _ _ _ _ ps (by omega) Xps.out.ints C.out.ints).mono ?_
  rintro e w6 ⟨rfl, hb⟩
  replace Hps := Lib.hid (Hps.out.on hb)
  replace Xps := Lib.hid (Xps.out.on hb)
  replace C := Lib.hid (C.out.on hb)
  replace HB := Lib.hid (bel_end HB.out hb)
  have q6 := hb.size
  clear hb
  clear C
  go_wp2
  go_ret
  exact ⟨rfl, HB.out⟩
end Go.Proofs.Ytgdnapioboodbaa
