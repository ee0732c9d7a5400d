/-
  A WHOLE STRUCT STORED INTO A BOX OF OURS, in a region that draws its order.
-/
import Derived.Test.YtpfnjkmkenaipaaE20
import Derived.Deep.MidRow
namespace Go.Proofs.Ytpfnjkmkenaipaa
open Go.RowKit Nm
set_option linter.unusedSimpArgs false
set_option linter.unusedVariables false

theorem below_setCells {B : Nat} {w : World} (b : Nat) (hb : B ≤ b) : ∀ (vs : List Value) (o : Nat) (w' : World), Below B w w' → Below B w (w'.setCells b o vs)
  | [], _, _, h => h
  | v :: r, o, w', h => below_setCells b hb r (o + 1) _ (h.setCell (p := ⟨b, o, none⟩) hb v)
theorem Blk.there {w : World} {b : Nat} {cs : List Value} (h : Blk w b cs) : w.there b 0 cs.length := fun j hj => by
  have := h.2 j cs[j] (List.getElem?_eq_getElem hj)
  rw [Nat.zero_add]
  exact ⟨by rw [this.1]; rfl, this.2⟩
theorem size_setCells (b : Nat) : ∀ (vs : List Value) (o : Nat) (w : World), (w.setCells b o vs).heap.size = w.heap.size
  | [], _, _ => rfl
  | v :: r, o, w => by rw [World.setCells, size_setCells b r]; simp
theorem Blk.store {w : World} {b : Nat} {cs vs : List Value} (h : Blk w b cs) (hl : cs.length = vs.length) : Blk (w.setCells b 0 vs) b vs := by
  have ht := h.there
  rw [hl] at ht
  refine ⟨by rw [size_setCells]; exact h.1, fun j u hu => ⟨?_, ?_⟩⟩
  · have := World.rangeAt_setCells_same w b 0 vs ht j u hu
    rwa [Nat.zero_add] at this
  · rw [World.frozen?_setCells]
    have hj := (List.getElem?_eq_some_iff.1 hu).1
    have := (ht j hj).2
    rwa [Nat.zero_add] at this
theorem spot_next {P X Y : List Spt} {a j : Nat} {s : Spt} (h : P.drop a = X.drop j ++ Y) (hx : X[j]? = some s) : P[a]? = some s ∧ P.drop (a + 1) = X.drop (j + 1) ++ Y := by
  obtain ⟨hj, rfl⟩ := List.getElem?_eq_some_iff.1 hx
  rw [List.drop_eq_getElem_cons hj, List.cons_append] at h
  refine ⟨?_, ?_⟩
  · have h1 := congrArg (fun l => l[0]?) h
    simpa using h1
  · have h1 := congrArg (List.drop 1) h
    simpa using h1
theorem Try.sizeLogger : (Try.prog.info? 47).map (·.size) = some 6 := by kernel_rfl
end Go.Proofs.Ytpfnjkmkenaipaa
