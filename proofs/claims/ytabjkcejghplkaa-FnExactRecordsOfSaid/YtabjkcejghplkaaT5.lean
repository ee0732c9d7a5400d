/-
  WALKS: ValidTree of the program.
-/
import Derived.Test.YtabjkcejghplkaaT4
import Derived.Deep.RegionWith
namespace Go.Proofs.Ytabjkcejghplkaa
open Go.RowKit Nm
set_option linter.unusedSimpArgs false
set_option linter.unusedVariables false

/-- a tree in memory -/
def TreeAt (w : World) (B : Nat) (v : Value) (ls : List LgrV) (hs : List HndV) (q : Int) : Prop :=
  ∃ A1 n1 k1 A2 n2 k2, v = .agg #[.slice A1 n1 k1, .slice A2 n2 k2, .int .i64 q] ∧ Ls w B n1 (.slice A1 n1 k1) ls ∧ Hs w B n2 (.slice A2 n2 k2) hs ∧ n1 ≤ 1048576 ∧ n2 ≤ 1048576 ∧ ∀ x ∈ ls, x.hn ≤ 1048576
theorem TreeAt.below {w w' : World} {B B' : Nat} {v : Value} {ls : List LgrV} {hs : List HndV} {q : Int} (h : TreeAt w B v ls hs q) (hb : Below B' w w') (hB : B ≤ B') : TreeAt w' B v ls hs q := by
  obtain ⟨A1, n1, k1, A2, n2, k2, e, h1, h2, r⟩ := h
  exact ⟨A1, n1, k1, A2, n2, k2, e, h1.below hb hB, h2.below hb hB, r⟩
theorem TreeAt.more {w : World} {B B' : Nat} {v : Value} {ls : List LgrV} {hs : List HndV} {q : Int} (h : TreeAt w B v ls hs q) (hB : B ≤ B') : TreeAt w B' v ls hs q := by
  obtain ⟨A1, n1, k1, A2, n2, k2, e, h1, h2, r⟩ := h
  exact ⟨A1, n1, k1, A2, n2, k2, e, h1.more hB, h2.more hB, r⟩

end Go.Proofs.Ytabjkcejghplkaa
