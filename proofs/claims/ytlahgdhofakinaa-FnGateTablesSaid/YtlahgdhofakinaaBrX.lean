/- What a drawn region of an exact law leaves: one or two new structs and a code. -/
import Derived.Test.YtlahgdhofakinaaBrM
import Derived.Test.YtlahgdhofakinaaPrs
namespace Go.Proofs.Ytlahgdhofakinaa
def XR1 (wx : World) (s5 s6 : Value) (cs : Array Value) (t : TypeId) (c : Int) : Prop := ∃ g : Nat, s5 = .pointer (some ⟨g, 0, none⟩) ∧ s6 = .int .i64 c ∧ Bk wx g cs t
def XR2 (wx : World) (s5 s6 s7 : Value) (cs : Array Value) (t : TypeId) (ds : Array Value) (t' : TypeId) (c : Int) : Prop := ∃ g1 g2 : Nat, s5 = .pointer (some ⟨g1, 0, none⟩) ∧ s6 = .pointer (some ⟨g2, 0, none⟩) ∧ s7 = .int .i64 c ∧ Bk wx g1 cs t ∧ Bk wx g2 ds t'
end Go.Proofs.Ytlahgdhofakinaa
