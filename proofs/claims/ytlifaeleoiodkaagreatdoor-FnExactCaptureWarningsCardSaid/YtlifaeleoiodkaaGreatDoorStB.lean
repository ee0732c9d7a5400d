/-
  A STRUCT STORED WHOLE into a box that the call has made: the world behind it, by what it keeps.
-/
import Derived.Test.YtlifaeleoiodkaaGreatDoorBase
import Derived.Deep.MidRow
namespace Go.Proofs.YtlifaeleoiodkaaGreatDoor
open Go.RowKit Nm
set_option linter.unusedSimpArgs false
set_option linter.unusedVariables false

theorem setCells_size (b : Nat) : ∀ (vs : List Value) (o : Nat) (w : World), (w.setCells b o vs).heap.size = w.heap.size
  | [], _, _ => rfl
  | v :: r, o, w => by rw [World.setCells, setCells_size b r, World.size_setCell]
theorem setCells_grown (b : Nat) : ∀ (vs : List Value) (o : Nat) (w : World), w.grownBy (w.setCells b o vs) (some b)
  | [], _, w => World.grownBy.refl w _
  | v :: r, o, w => by
    have h1 := grown_set w b o v
    have h2 := setCells_grown b r (o + 1) (w.setCell ⟨b, o, none⟩ v)
    exact ⟨h2.os.trans h1.os, h2.tape.trans h1.tape, h2.output.trans h1.output, Nat.le_trans h1.size h2.size, fun k hk hn => (h2.block k (Nat.lt_of_lt_of_le hk h1.size) hn).trans (h1.block k hk hn)⟩
theorem setCells_blk {w : World} {b : Nat} {old vs : List Value} (h : Blk w b old) (hl : vs.length = old.length) : Blk (w.setCells b 0 vs) b vs := by
  have hth : w.there b 0 vs.length := fun j hj => by
    obtain ⟨u, hu⟩ : ∃ u, old[j]? = some u := ⟨_, List.getElem?_eq_getElem (by omega)⟩
    obtain ⟨a, c⟩ := h.2 j u hu
    rw [Nat.zero_add]
    exact ⟨by rw [a]; rfl, c⟩
  refine ⟨by rw [setCells_size]; exact h.1, fun j u hu => ?_⟩
  have h1 := World.rangeAt_setCells_same w b 0 vs hth j u hu
  rw [Nat.zero_add] at h1
  refine ⟨h1, ?_⟩
  rw [World.frozen?_setCells]
  have := (hth j (List.getElem?_eq_some_iff.1 hu).1).2
  rwa [Nat.zero_add] at this
/-- a struct goes whole into a box -/
theorem wpList_stB {P : Program} {ops : Array Oper} {rest : List Oper} {op : Oper} {a : Act} {w : World} {Q : Exit → Act → World → Prop} (hgd : op.guard = none) (ty : TypeId) (x y : Operand) (ho : op.op = .store ty x y)
    (b : Nat) (cells : List Value) (hx : a.eval x = .pointer (some ⟨b, 0, none⟩)) (hy : a.eval y = .agg cells.toArray) (old : List Value) (hb : Blk w b old) (hl : cells.length = old.length)
    (hi : (P.info? ty).map (·.size) = some cells.length) (h1 : ∀ v ∈ cells, v.oneCell' = true)
    (h : ∀ w', Blk w' b cells → w.grownBy w' (some b) → w'.heap.size = w.heap.size → wpList P ops Q rest (a.put op.dst undef) w') : wpList P ops Q (op :: rest) a w := by
  refine wpList_store_mid hgd ty x y ho b 0 cells.toArray hx hy ?_ (by simpa using hi) (all_oneCell_toArray h1) ?_
  · intro j hj
    obtain ⟨u, hu⟩ : ∃ u, old[j]? = some u := ⟨_, List.getElem?_eq_getElem (by simp at hj; omega)⟩
    obtain ⟨a, c⟩ := hb.2 j u hu
    rw [Nat.zero_add]
    exact ⟨by rw [a]; rfl, c⟩
  · exact h _ (setCells_blk hb hl) (setCells_grown b cells 0 w) (setCells_size b cells 0 w)
end Go.Proofs.YtlifaeleoiodkaaGreatDoor
