/-
  An argument that is a slice of structs, or a struct: what it reads as, as cells. By gen_open.py.
-/
import Derived.Test.YtlhelhfaogcibaaW16
import Derived.Test.YtlhelhfaogcibaaT1
namespace Go.Proofs.Ytlhelhfaogcibaa
open Go.RowKit Nm Go.ChangeShapes Go.WideShapes Go.Deep
set_option linter.unusedSimpArgs false
set_option linter.unusedVariables false

theorem okWide_agg {P : Program} {w : World} {r : Reach} {base : Nat} {t : TypeId} {v : Value} {fs : Array Field} (ht : P.underlying t = some (.struct fs)) (h : Value.okWide P w r base t v) : ∃ cs, v = .agg cs ∧ cs.size = P.cellsOf t := by
  simp only [Value.okWide, ht] at h
  obtain ⟨cs, h1, h2, _⟩ := h
  exact ⟨cs, h1, h2⟩
/-- a slice of rows -/
theorem open_rows {H : Type} {enc : TypeId × Value → H} {P : Program} {W : World} {base : Nat} {sp : Nat → Bool} {hd : Bool} {t e : TypeId} {v : Value} {z : DataW H × List MemPlace} {m0 : Nat}
    {α : Type} [Inhabited α] (f : α → List Value) (d : Nat) (hfl : ∀ x, (f x).length = d) (hd0 : 0 < d) (Q : α → Prop)
    (ht : P.underlying t = some (.slice e)) (hC : P.cellsOf e = d)
    (hel : ∀ m cs x, DataW.trod enc P W base sp hd m e cs = some x → ∃ y : α, cs = f y ∧ Q y)
    (hf : DataW.trod enc P W base sp hd m0 t [v] = some z) : ∃ (l : List α) (n : Nat), Sl W W.heap.size d n v (l.flatMap f) ∧ ∀ y ∈ l, Q y := by
  rcases open_slice ht hf with ⟨hcs, _⟩ | ⟨a, n0, c0, m, n, D, Pl, hcs, hb, hl, hm, hmm, hx, hi⟩
  · obtain rfl : v = .slice none 0 0 := by simpa using hcs
    exact ⟨[], 0, Sl.nil _ _ _, by simp⟩
  · obtain rfl : v = .slice (some a) n0 c0 := by simpa using hcs
    rw [hC] at hi
    have hlm : n0 ≤ m := by rw [hmm]; split <;> omega
    have hel' : ∀ i, i < n0 → ∃ y : α, (∀ j u, (f y)[j]? = some u → W.cell? (a.add (i * d + j)) = some u) ∧ Q y := by
      intro i hin
      obtain ⟨cs', hc, ht'⟩ := hi i (by omega)
      obtain ⟨y, rfl, hq⟩ := hel _ _ _ ht'
      obtain ⟨_, _, hat⟩ := World.cells?_some hc
      refine ⟨y, fun j u hu => ?_, hq⟩
      have hj : j < d := by have := (List.getElem?_eq_some_iff.1 hu).1; rwa [hfl] at this
      rw [← Go.Deep.add_add, hat j hj, hu]
    obtain ⟨F, hF⟩ := choose_lt hel'
    refine ⟨(List.range n0).map F, n0, ⟨by rw [flat_len f d hfl]; simp, some a, c0, rfl, hl, hm, fun hn => ?_⟩, ?_⟩
    · have h0l : 0 < (f (F 0)).length := by rw [hfl]; exact hd0
      have hz := (hF 0 hn).1 0 _ (List.getElem?_eq_getElem h0l)
      obtain ⟨b, o, spt⟩ := a
      have hspot : spt = none := by simpa [Addr.add] using World.cell?_spot hz
      subst hspot
      have hlt : b < W.heap.size := by
        have := World.block_lt_of_cell? W _ hz
        rwa [block_le] at this
      refine ⟨b, o, rfl, hlt, fun j u hu => ?_⟩
      have hjl : j < n0 * d := by have := (List.getElem?_eq_some_iff.1 hu).1; rw [flat_len f d hfl] at this; simpa using this
      have hq : j / d < n0 := Nat.div_lt_of_lt_mul (by rwa [Nat.mul_comm])
      have hm2 : j / d * d + j % d = j := by rw [Nat.mul_comm]; exact Nat.div_add_mod j d
      have hfl2 : ((List.range n0).map F)[j / d]? = some (F (j / d)) := by simp [hq]
      have hsp := flat_at f d hfl _ (j / d) (j % d) _ hfl2 (Nat.mod_lt _ hd0)
      rw [hm2, hu] at hsp
      have := (hF (j / d) hq).1 (j % d) u hsp.symm
      rw [hm2, Addr.add_lit] at this
      exact this
    · intro y hy
      obtain ⟨i, hir, rfl⟩ := List.mem_map.1 hy
      exact (hF i (List.mem_range.1 hir)).2
end Go.Proofs.Ytlhelhfaogcibaa
