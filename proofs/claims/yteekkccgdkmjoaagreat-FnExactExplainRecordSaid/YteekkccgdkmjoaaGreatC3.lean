/-
  TREES changed: what comes back; the program's SetQuiet.
-/
import Derived.Test.YteekkccgdkmjoaaGreatC2
namespace Go.Proofs.YteekkccgdkmjoaaGreat
open Go.RowKit Nm
set_option linter.unusedSimpArgs false
set_option linter.unusedVariables false

abbrev TreeD := List Lgr × List Hnd × Int
def resL (o : Option TreeD) : List Lgr := match o with | some x => x.1 | none => []
def resH (o : Option TreeD) : List Hnd := match o with | some x => x.2.1 | none => []
def resQ (o : Option TreeD) : Int := match o with | some x => x.2.2 | none => 0
/-- a tree comes back, or nothing: its rows are of the call's own -/
def TreePostO (w : World) (o : Option TreeD) (e : Ending) (w' : World) : Prop :=
  ∃ v rs, e = .returned (.tuple #[v, .bool o.isSome]) ∧ TreeS rs v (resL o) (resH o) (resQ o) ∧ Rows w' w.heap.size rs ∧ Below w.heap.size w w'
def ifOk (L : List Lgr) (H : List Hnd) (q : Int) : Option TreeD := if treeOk L H q then some (L, H, q) else none
def setQuietO (L : List Lgr) (H : List Hnd) (q lv : Int) : Option TreeD := if treeOk L H q then ifOk L H lv else none
theorem Rows.none2 (w : World) (lo : Nat) : Rows w lo (treeRows 0 (.slice none 0 0) [] 0 (.slice none 0 0) []) := by
  refine ⟨fun r hr => ?_, ?_⟩
  · simp only [treeRows, lsRow, hsRow, List.flatMap_nil, List.cons_append, List.nil_append, List.mem_cons, List.not_mem_nil, or_false] at hr
    rcases hr with rfl | rfl <;> exact World.ownsRow_nil _ _ _ _
  · simp only [treeRows, lsRow, hsRow, List.flatMap_nil, List.cons_append, List.nil_append]
    exact List.pairwise_cons.2 ⟨fun b hb => ⟨.inl rfl, by rw [List.mem_singleton] at hb; subst hb; exact .inl rfl⟩, List.pairwise_singleton _ _⟩
theorem postO_none {w w' : World} {e : Ending} {o : Option TreeD} (ho : o = none) (he : e = .returned (.tuple #[.agg #[.slice none 0 0, .slice none 0 0, .int .i64 0], .bool false])) (hb : Below w.heap.size w w') : TreePostO w o e w' := by
  subst ho
  exact ⟨_, _, he, ⟨_, _, [], [], rfl, rfl, rfl, rfl⟩, Rows.none2 _ _, hb⟩
theorem name_fit {x : List UInt8} (h : nameOk x = true) : x.length ≤ maxTxt := by have := name_size x h; unfold maxTxt; omega
theorem word_fit {x : List UInt8} (h : wordOk x = true) : x.length ≤ maxTxt := by
  unfold wordOk at h
  simp only [Bool.and_eq_true, decide_eq_true_eq] at h
  unfold maxTxt
  omega
theorem flt_fit {f : Flt} (h : fltOk f = true) : f.nm.length ≤ maxTxt := by
  unfold fltOk at h
  split at h
  · simp only [Bool.and_eq_true] at h; exact name_fit h.2.1
  · split at h
    · simp only [Bool.and_eq_true] at h; exact word_fit h.1
    · split at h
      · simp only [Bool.and_eq_true, decide_eq_true_eq] at h; rw [h.1]; simp
      · cases h
theorem nodup_sub_len {α : Type} [DecidableEq α] {a b : List α} (h : a.Nodup) (hs : a ⊆ b) : a.length ≤ b.length := by
  induction a generalizing b with
  | nil => simp
  | cons x a ih =>
    obtain ⟨h1, h2⟩ := List.nodup_cons.1 h
    have hx : x ∈ b := hs (by simp)
    have := ih (b := b.erase x) h2 (fun y hy => (List.mem_erase_of_ne (fun e => h1 (by rw [← e]; exact hy))).2 (hs (by simp [hy])))
    rw [List.length_erase_of_mem hx] at this
    have hl := List.length_pos_of_mem hx
    rw [List.length_cons]; omega
/-- a valid tree fits -/
theorem fit_ok {L : List Lgr} {H : List Hnd} {q : Int} (h : treeOk L H q = true) : dataFit L H := by
  obtain ⟨_, _, _, h8, _, _⟩ := tree_names h
  obtain ⟨_, _, h6⟩ := tree_small h
  unfold treeOk lgrsOk hndsOk at h
  simp only [Bool.and_eq_true, decide_eq_true_eq, List.all_eq_true] at h
  obtain ⟨_, ⟨h1, hn1, h3⟩, h4, _⟩ := h
  refine ⟨⟨by unfold maxTxt; omega, fun l hl => ?_⟩, ⟨by unfold maxTxt; omega, fun x hx => ?_⟩⟩
  · have := h4 l hl
    unfold lgrOk filtersOk at this
    simp only [Bool.and_eq_true, decide_eq_true_eq, List.all_eq_true] at this
    obtain ⟨a, _, ⟨c1, c2⟩, d1, d2⟩ := this
    refine ⟨name_fit a, ⟨?_, fun t ht => ?_⟩, ⟨by unfold maxTxt; omega, fun f hf => flt_fit (c1 f hf)⟩⟩
    · have hsub : l.hs ⊆ H.map (·.nm) := fun t ht => by
        have := d1 t ht
        unfold hasL at this
        rw [List.any_eq_true] at this
        obtain ⟨x, hx, e⟩ := this
        exact List.mem_map.2 ⟨x, hx, of_decide_eq_true e⟩
      have := nodup_sub_len d2 hsub
      rw [List.length_map] at this
      unfold maxTxt; omega
    · have := d1 t ht
      unfold hasL at this
      rw [List.any_eq_true] at this
      obtain ⟨x, hx, e⟩ := this
      have e2 := of_decide_eq_true e
      have := h1 x hx
      unfold hndOk at this
      simp only [Bool.and_eq_true] at this
      rw [← e2]; exact word_fit this.1
  · have := h1 x hx
    unfold hndOk filtersOk at this
    simp only [Bool.and_eq_true, decide_eq_true_eq, List.all_eq_true] at this
    obtain ⟨a, _, _, c1, c2⟩ := this
    exact ⟨word_fit a, ⟨by unfold maxTxt; omega, fun f hf => flt_fit (c1 f hf)⟩⟩

/-- what a change does to the copy in box bc: 'o' the data then, nothing if it fails -/
def CloPost (lo bc : Nat) (W : World) (o : Option TreeD) (e : Ending) (W' : World) : Prop :=
  Below lo W W' ∧ e = .returned (.bool o.isSome) ∧ ∀ x, o = some x → ∃ A1 n1 k1 A2 n2 k2 rs', Blk W' bc [.slice A1 n1 k1, .slice A2 n2 k2, .int .i64 x.2.2] ∧ TreeS rs' (.agg #[.slice A1 n1 k1, .slice A2 n2 k2, .int .i64 x.2.2]) x.1 x.2.1 x.2.2 ∧ Rows W' lo rs' ∧ dataFit x.1 x.2.1
/-- what a change is called with -/
def CloPre (w : World) (lo bc : Nat) (W : World) (v1 v2 : Value) (rs : List Row) (L : List Lgr) (H : List Hnd) (q : Int) : Prop :=
  Below w.heap.size w W ∧ w.heap.size ≤ lo ∧ lo ≤ bc ∧ Blk W bc [v1, v2, .int .i64 q] ∧ TreeS rs (.agg #[v1, v2, .int .i64 q]) L H q ∧ Rows W lo rs ∧ (∀ r ∈ rs, r.v.ownBlock ≠ some bc) ∧ dataFit L H
def changedO (L : List Lgr) (H : List Hnd) (q : Int) (o : Option TreeD) : Option TreeD := if treeOk L H q then o.bind (fun x => ifOk x.1 x.2.1 x.2.2) else none
theorem rows_below {w : World} {lo : Nat} {rs : List Row} (h : Rows w lo rs) : ∀ r ∈ rs, r.v.ownBlock ≠ some w.heap.size := fun r hr e => by
  have := ((h.1 r hr).lt _ e).2
  omega

end Go.Proofs.YteekkccgdkmjoaaGreat
