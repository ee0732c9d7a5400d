/-
  The law FnExactValidFilters: its argument opened, its walk.
-/
import Derived.Test.YtlhelhfaogcibaaW15
import Derived.ProofKit
import Derived.Deep.Slices
import Derived.Deep.Fields
namespace Go.Proofs.Ytlhelhfaogcibaa
open Go.RowKit Nm Go.ChangeShapes Go.WideShapes Go.Deep
set_option linter.unusedSimpArgs false
set_option linter.unusedVariables false

instance : Inhabited Flt := ⟨⟨0, [], 0⟩⟩

theorem block_le (a : Addr) (i : Nat) : (a.add i).block = a.block := by unfold Addr.add; split <;> rfl

/-- a struct of an int, a text and an int, in three cells -/
theorem open_flt {H : Type} {enc : TypeId × Value → H} {P : Program} {W : World} {base n : Nat} {sp : Nat → Bool} {hd : Bool} {e : TypeId} {f0 f1 f2 : Field} {cs : List Value} {x : DataW H × List MemPlace}
    (he : P.underlying e = some (.struct #[f0, f1, f2])) (hC : P.cellsOf e = 3) (hone : oneCellFields P #[f0, f1, f2] = true)
    (h0 : P.underlying f0.type = some (.int .i64)) (h1 : P.underlying f1.type = some .string) (h2 : P.underlying f2.type = some (.int .i64))
    (h : DataW.trod enc P W base sp hd n e cs = some x) : ∃ f : Flt, cs = fcells f ∧ f.nm.length ≤ maxLen := by
  obtain ⟨ys, m, _, _, hlen, hyl, hf⟩ := DataW.trod_struct he h
  rw [hC] at hlen
  match cs, hlen with
  | [a, b, c], _ =>
    have ho := hone_of hone
    have k0 := hf 0 f0 rfl
    have k1 := hf 1 f1 rfl
    have k2 := hf 2 f2 rfl
    rw [(ho 0 f0 rfl).1, (ho 0 f0 rfl).2] at k0
    rw [(ho 1 f1 rfl).1, (ho 1 f1 rfl).2] at k1
    rw [(ho 2 f2 rfl).1, (ho 2 f2 rfl).2] at k2
    have hys : ys.length = 3 := hyl
    rw [List.getElem?_eq_getElem (by omega)] at k0 k1 k2
    obtain ⟨p, e0, _, _⟩ := DataW.trod_int h0 k0
    obtain ⟨s, e1, _, hs⟩ := DataW.trod_string h1 k1
    obtain ⟨q, e2, _, _⟩ := DataW.trod_int h2 k2
    simp at e0 e1 e2
    subst e0; subst e1; subst e2
    exact ⟨⟨p, s.data.toList, q⟩, by simp [fcells, txt_data], by show s.data.toList.length ≤ _; rw [← Lib.size_eq]; exact hs⟩

/-- a slice of such structs -/
theorem open_flts {H : Type} {enc : TypeId × Value → H} {P : Program} {W : World} {base : Nat} {sp : Nat → Bool} {hd : Bool} {t e : TypeId} {f0 f1 f2 : Field} {v : Value} {d : DataW H} {pl : List MemPlace}
    (ht : P.underlying t = some (.slice e)) (he : P.underlying e = some (.struct #[f0, f1, f2])) (hC : P.cellsOf e = 3) (hone : oneCellFields P #[f0, f1, f2] = true)
    (h0 : P.underlying f0.type = some (.int .i64)) (h1 : P.underlying f1.type = some .string) (h2 : P.underlying f2.type = some (.int .i64))
    (hv : ∃ a len cap, v = .slice a len cap)
    (h : DataW.Trod enc P W base sp hd t v d pl) : ∃ (l : List Flt) (n : Nat), Sl W W.heap.size 3 n v (fsCells l) ∧ ∀ f ∈ l, f.nm.length ≤ maxLen := by
  obtain ⟨fuel, hf⟩ := h
  obtain ⟨A0, n0, c0, rfl⟩ := hv
  rcases open_slice ht hf with ⟨hcs, _⟩ | ⟨a, len, cap, m, n, D, Pl, hcs, hb, hl, hm, hmm, hx, hi⟩
  · simp [Value.cells] at hcs
    obtain ⟨rfl, rfl, rfl⟩ := hcs
    exact ⟨[], 0, Sl.nil _ _ _, by simp⟩
  · simp [Value.cells] at hcs
    obtain ⟨rfl, rfl, rfl⟩ := hcs
    rw [hC] at hi
    have hlm : n0 ≤ m := by rw [hmm]; split <;> omega
    have hel : ∀ i, i < n0 → ∃ f : Flt, (∀ j u, (fcells f)[j]? = some u → W.cell? (a.add (i * 3 + j)) = some u) ∧ f.nm.length ≤ maxLen := by
      intro i hin
      obtain ⟨cs', hc, ht'⟩ := hi i (by omega)
      obtain ⟨f, rfl, hfl⟩ := open_flt he hC hone h0 h1 h2 ht'
      obtain ⟨_, _, hat⟩ := World.cells?_some hc
      refine ⟨f, fun j u hu => ?_, hfl⟩
      have hj : j < 3 := (List.getElem?_eq_some_iff.1 hu).1
      rw [← Go.Deep.add_add, hat j hj, hu]
    obtain ⟨F, hF⟩ := choose_lt hel
    refine ⟨(List.range n0).map F, n0, ⟨by rw [fsCells_len]; simp, some a, c0, rfl, hl, hm, fun hn => ?_⟩, ?_⟩
    · have hz := (hF 0 hn).1 0 _ rfl
      obtain ⟨b, o, spt⟩ := a
      have hspot : spt = none := by simpa [Addr.add] using World.cell?_spot hz
      subst hspot
      have hlt : b < W.heap.size := by
        have := World.block_lt_of_cell? W _ hz
        rwa [block_le] at this
      refine ⟨b, o, rfl, hlt, fun j u hu => ?_⟩
      have hjl : j < n0 * 3 := by have := (List.getElem?_eq_some_iff.1 hu).1; rw [fsCells_len] at this; simpa using this
      have hq : j / 3 < n0 := by omega
      have hfl : ((List.range n0).map F)[j / 3]? = some (F (j / 3)) := by simp [hq]
      have hsp := fsCells_at _ (j / 3) (j % 3) _ hfl (Nat.mod_lt _ (by omega))
      rw [show j / 3 * 3 + j % 3 = j by omega, hu] at hsp
      have := (hF (j / 3) hq).1 (j % 3) u hsp.symm
      rw [show j / 3 * 3 + j % 3 = j by omega, Addr.add_lit] at this
      exact this
    · intro f hfm
      obtain ⟨i, hir, rfl⟩ := List.mem_map.1 hfm
      exact (hF i (List.mem_range.1 hir)).2

end Go.Proofs.Ytlhelhfaogcibaa
