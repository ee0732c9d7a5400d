/-
  E20, E21, E22, E23, E24 laid together.
-/
import Derived.Test.YtioegkcekbkblaaGreatZyGM
import Derived.Test.YtioegkcekbkblaaGreatZyEM
import Derived.Test.YtioegkcekbkblaaGreatZyUM
import Derived.Deep.MidRow
import Derived.Test.YtioegkcekbkblaaGreatZyCM
/-
  LAWS OF SPOTS: lists of spots compared; spots and users, plain.
-/
namespace Go.Proofs.YtioegkcekbkblaaGreat
open Go.RowKit Nm
set_option linter.unusedSimpArgs false
set_option linter.unusedVariables false

variable {L : List Lgr} {H : List Hnd} {q : Int} {x : Name}
end Go.Proofs.YtioegkcekbkblaaGreat

/-
  A WHOLE STRUCT STORED INTO A BOX OF OURS, in a region that draws its order.
-/
namespace Go.Proofs.YtioegkcekbkblaaGreat
open Go.RowKit Nm
set_option linter.unusedSimpArgs false
set_option linter.unusedVariables false

theorem Blk.there {w : World} {b : Nat} {cs : List Value} (h : Blk w b cs) : w.there b 0 cs.length := fun j hj => by
  have := h.2 j cs[j] (List.getElem?_eq_getElem hj)
  rw [Nat.zero_add]
  exact ⟨by rw [this.1]; rfl, this.2⟩
theorem size_setCells (b : Nat) : ∀ (vs : List Value) (o : Nat) (w : World), (w.setCells b o vs).heap.size = w.heap.size
  | [], _, _ => rfl
  | v :: r, o, w => by rw [World.setCells, size_setCells b r]; simp
theorem Blk.store {w : World} {b : Nat} {cs vs : List Value} (h : Blk w b cs) (hl : cs.length = vs.length) : Blk (w.setCells b 0 vs) b vs := by
  have ht := h.there
  rw [hl] at ht
  refine ⟨by rw [size_setCells]; exact h.1, fun j u hu => ⟨?_, ?_⟩⟩
  · have := World.rangeAt_setCells_same w b 0 vs ht j u hu
    rwa [Nat.zero_add] at this
  · rw [World.frozen?_setCells]
    have hj := (List.getElem?_eq_some_iff.1 hu).1
    have := (ht j hj).2
    rwa [Nat.zero_add] at this
end Go.Proofs.YtioegkcekbkblaaGreat

/-
  STOP, plain: a logger's spots are its own, and those of its parent if it does not stop.
-/
namespace Go.Proofs.YtioegkcekbkblaaGreat
open Go.RowKit Nm
set_option linter.unusedSimpArgs false
set_option linter.unusedVariables false

variable {L : List Lgr} {H : List Hnd} {q : Int}
end Go.Proofs.YtioegkcekbkblaaGreat

/-
  A LOGGER ADDED, plain: no level and no spot changes.
-/
namespace Go.Proofs.YtioegkcekbkblaaGreat
open Go.RowKit Nm
set_option linter.unusedSimpArgs false
set_option linter.unusedVariables false

variable {L : List Lgr} {H : List Hnd} {q : Int}
end Go.Proofs.YtioegkcekbkblaaGreat

/-
  LAWS: the names of a tree's loggers.
-/
namespace Go.Proofs.YtioegkcekbkblaaGreat
open Go.RowKit Nm
set_option linter.unusedSimpArgs false
set_option linter.unusedVariables false

end Go.Proofs.YtioegkcekbkblaaGreat
