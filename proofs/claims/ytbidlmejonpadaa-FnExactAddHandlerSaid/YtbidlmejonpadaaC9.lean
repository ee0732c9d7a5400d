/-
  TREES changed: one cell of a logger: the model's SetLevel, SetStop, SetOff. By gen_c9.py.
-/
import Derived.Test.YtbidlmejonpadaaC8
namespace Go.Proofs.Ytbidlmejonpadaa
open Go.RowKit Nm
set_option linter.unusedSimpArgs false
set_option linter.unusedVariables false

theorem upd_map {β : Type} (g : Lgr → β) (L : List Lgr) (k : Nat) (f : Lgr → Lgr) (h : ∀ l, g (f l) = g l) : (updL L k f).map g = L.map g := by
  unfold updL
  cases e : L[k]? with
  | none => rfl
  | some l =>
    show (L.set k (f l)).map g = L.map g
    rw [List.map_set, h]
    refine List.ext_getElem? fun i => ?_
    by_cases hi : i = k
    · subst hi
      rw [List.getElem?_set_self (by rw [List.length_map]; exact (List.getElem?_eq_some_iff.1 e).1), List.getElem?_map, e]; rfl
    · rw [List.getElem?_set_ne (by omega)]
theorem upd_ok (L : List Lgr) (H : List Hnd) (q : Int) (k : Nat) (f : Lgr → Lgr) {j : Nat} {u : Value} (hf : OneCell f j u) (hlv : ∀ l, (f l).lv = l.lv) (h : treeOk L H q = true) : treeOk (updL L k f) H q = true := by
  have h1 : (updL L k f).map (·.nm) = L.map (·.nm) := upd_map _ L k f hf.nm
  have h2 : (updL L k f).map (lgrOk H) = L.map (lgrOk H) := upd_map _ L k f (fun l => by unfold lgrOk; rw [hf.nm, hf.hs, hf.fs, hlv])
  have h3 : (updL L k f).all (lgrOk H) = L.all (lgrOk H) := by
    have a : ∀ l : List Lgr, l.all (lgrOk H) = (l.map (lgrOk H)).all id := fun l => by rw [List.all_map]; rfl
    rw [a, a, h2]
  have h4 : (updL L k f).length = L.length := by have := congrArg List.length h1; simpa using this
  rw [← h]
  unfold treeOk lgrsOk
  rw [h3, h1, h4]
theorem tree_cell {f : Lgr → Lgr} {j : Nat} {u : Value} (hf : OneCell f j u) {W : World} {lo k : Nat} {rs : List Row} {v : Value} {L : List Lgr} {H : List Hnd} {q : Int} (hs : TreeS rs v L H q) (hr : Rows W lo rs) (hk : k < L.length) :
    ∃ g n c A4 n4 c4 y rs', v = .agg #[.slice (some ⟨g, 0, none⟩) n c, .slice A4 n4 c4, .int .i64 q] ∧ k < n ∧ n ≤ c ∧ c ≤ maxLen ∧ lo ≤ g ∧ g < W.heap.size ∧ W.cell? ⟨g, k * 6 + j, none⟩ = some y ∧ W.frozen? ⟨g, k * 6 + j, none⟩ = false ∧
      (∀ W', Rows W' lo rs → Rows (W'.setCell ⟨g, k * 6 + j, none⟩ u) lo rs') ∧ TreeS rs' v (updL L k f) H q := by
  obtain ⟨v1, v2, ls, hs', rfl, h1, h2, rfl⟩ := hs
  have hkl : k < ls.length := by rw [← h1] at hk; simpa [lsOf] using hk
  obtain ⟨hl, hh⟩ := hr.lsIn
  obtain ⟨A, c, rfl, hnc, hcm⟩ := hl.1.form
  obtain ⟨A4, c4, rfl, _, _⟩ := hh.1.form
  clear hl hh
  have hr0 : Rows W lo ([] ++ two 65 6 ls.length (.slice A ls.length c) lcells lrows ls ++ two 49 3 hs'.length (.slice A4 hs'.length c4) hcells hrows hs') := by rw [treeRows_eq] at hr; simpa using hr
  obtain ⟨g, rfl, hglt⟩ := own_some hr0.top (by omega)
  have hgl : lo ≤ g := (hr0.top.lt g rfl).1
  obtain ⟨x, hx⟩ : ∃ x, ls[k]? = some x := ⟨_, List.getElem?_eq_getElem hkl⟩
  obtain ⟨y, hy⟩ : ∃ y, (lcells x)[j]? = some y := ⟨_, List.getElem?_eq_getElem (by rw [lcells_len]; exact hf.lt)⟩
  obtain ⟨c1, c2⟩ := hr0.cell_at (j := j) lcells_len hx hy
  refine ⟨g, ls.length, c, A4, hs'.length, c4, y, treeRows (ls.set k { x with l := f x.l }).length (.slice (some ⟨g, 0, none⟩) ls.length c) (ls.set k { x with l := f x.l }) hs'.length (.slice A4 hs'.length c4) hs', rfl, hkl, hnc, hcm, hgl, hglt, c1, c2, fun W' hW' => ?_, ⟨_, _, ls.set k { x with l := f x.l }, hs', rfl, by rw [lsOf_upd hx f, h1], h2, rfl⟩⟩
  have hr1 : Rows W' lo ([] ++ two 65 6 ls.length (.slice (some ⟨g, 0, none⟩) ls.length c) lcells lrows ls ++ two 49 3 hs'.length (.slice A4 hs'.length c4) hcells hrows hs') := by rw [treeRows_eq] at hW'; simpa using hW'
  have hr2 := hr1.cellset (j := j) (e := 2) (x := x) (y := { x with l := f x.l }) (u := u) lcells_len lrows_len hx hf.lt (hf.cells x) (by simp [lrows, hf.hs, hf.fs])
  rw [treeRows_eq, List.length_set]
  simpa using hr2

end Go.Proofs.Ytbidlmejonpadaa
