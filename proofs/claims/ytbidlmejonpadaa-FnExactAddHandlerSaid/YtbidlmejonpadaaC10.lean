/-
  TREES changed: AddLogger.
-/
import Derived.Test.YtbidlmejonpadaaC9
namespace Go.Proofs.Ytbidlmejonpadaa
open Go.RowKit Nm
set_option linter.unusedSimpArgs false
set_option linter.unusedVariables false

def mkL (s : List UInt8) : Lgr := ⟨s, 0, [], [], false, false⟩
def mkV (s : List UInt8) : LgrV := ⟨mkL s, .slice none 0 0, 0, .slice none 0 0, 0⟩
def addT (L : List Lgr) (s : List UInt8) : List Lgr := if idxL (namesOf L) s < 0 then L ++ [mkL s] else L
def addX (L : List Lgr) (H : List Hnd) (q : Int) (s : List UInt8) : Option TreeD := changedO L H q (some (addT L s, H, q))
abbrev newCells (s : ByteArray) : List Value := [.string s, .int .i64 0, .slice none 0 0, .slice none 0 0, .bool false, .bool false]
theorem new_one (s : ByteArray) : ∀ u ∈ newCells s, Value.oneCell' u = true := by
  intro u hu
  simp only [List.mem_cons, List.not_mem_nil, or_false] at hu
  rcases hu with rfl | rfl | rfl | rfl | rfl | rfl <;> rfl
theorem new_cells (s : ByteArray) : lcells (mkV s.data.toList) = newCells s := by simp [lcells, mkV, mkL, txt_data]
theorem add_fit {L : List Lgr} {H : List Hnd} (s : ByteArray) (h : dataFit L H) (h8 : L.length ≤ 8) (hz : s.size ≤ maxTxt) : dataFit (addT L s.data.toList) H := by
  unfold addT
  split
  · refine ⟨⟨by rw [List.length_append]; unfold maxTxt; simp; omega, fun a ha => ?_⟩, h.2⟩
    rcases List.mem_append.1 ha with ha | ha
    · exact h.1.2 a ha
    · rw [List.mem_singleton] at ha
      subst ha
      exact ⟨by simpa [mkL] using hz, ⟨by simp [mkL], by simp [mkL]⟩, ⟨by simp [mkL], by simp [mkL]⟩⟩
  · exact h
theorem perm_add (a b c : List Row) (t : Row) : (c ++ (t :: (a ++ b))).Perm (t :: ((a ++ c) ++ b)) := by
  have h1 : (c ++ ([t] ++ (a ++ b))).Perm ([t] ++ (c ++ (a ++ b))) := List.perm_append_comm_assoc _ _ _
  have h2 : ([t] ++ (c ++ (a ++ b))).Perm ([t] ++ (a ++ (c ++ b))) := (List.perm_append_comm_assoc _ _ _).append_left _
  have := h1.trans h2
  simpa [List.append_assoc] using this
/-- a logger behind the others -/
theorem tree_app {W W' : World} {lo n c : Nat} {A : Option Addr} {v1' v2 : Value} {ls : List LgrV} {hs : List HndV} (hn : n = ls.length) (hr : Rows W lo (treeRows ls.length (.slice A n c) ls hs.length v2 hs)) (s : ByteArray)
    (ho : W'.ownsRow lo 65 6 v1' (n + 1) (ls.flatMap lcells ++ newCells s)) (hg : W.grownBy W' (Value.slice A n c).ownBlock) (hloc : v1'.ownBlock = (Value.slice A n c).ownBlock ∨ v1'.ownBlock = some (W.heap.size + 1)) (hlo : lo ≤ W.heap.size) :
    Rows W' lo (treeRows (ls ++ [mkV s.data.toList]).length v1' (ls ++ [mkV s.data.toList]) hs.length v2 hs) ∧
    ∀ b, (∀ r ∈ treeRows ls.length (.slice A n c) ls hs.length v2 hs, r.v.ownBlock ≠ some b) → b ≤ W.heap.size → ∀ r ∈ treeRows (ls ++ [mkV s.data.toList]).length v1' (ls ++ [mkV s.data.toList]) hs.length v2 hs, r.v.ownBlock ≠ some b := by
  subst hn
  have e1 : (ls ++ [mkV s.data.toList]).flatMap lcells = ls.flatMap lcells ++ newCells s := by rw [List.flatMap_append]; simp [new_cells]
  have e2 : (ls ++ [mkV s.data.toList]).flatMap lrows = ls.flatMap lrows ++ [⟨9, 1, 0, .slice none 0 0, []⟩, ⟨83, 3, 0, .slice none 0 0, []⟩] := by rw [List.flatMap_append]; simp [lrows, mkV, mkL, fsCells]
  have h0 : Rows W lo ([] ++ ⟨65, 6, ls.length, .slice A ls.length c, ls.flatMap lcells⟩ :: (ls.flatMap lrows ++ two 49 3 hs.length v2 hcells hrows hs)) := by
    rw [treeRows_eq] at hr
    simpa [two] using hr
  have h1 := Rows.app h0 hg ho hloc
  have hn2 : Rows W' W'.heap.size [⟨9, 1, 0, .slice none 0 0, []⟩, ⟨83, 3, 0, .slice none 0 0, []⟩] := by
    refine ⟨fun r hr => ?_, ?_⟩
    · simp only [List.mem_cons, List.not_mem_nil, or_false] at hr
      rcases hr with rfl | rfl <;> exact World.ownsRow_nil _ _ _ _
    · exact List.pairwise_cons.2 ⟨fun b hb => ⟨.inl rfl, by rw [List.mem_singleton] at hb; subst hb; exact .inl rfl⟩, List.pairwise_singleton _ _⟩
  have h2 := h1.newer (Below.refl _ _) hn2 (Nat.le_trans hlo hg.size)
  have h3 := h2.perm (perm_add _ _ _ _)
  have ht : treeRows (ls ++ [mkV s.data.toList]).length v1' (ls ++ [mkV s.data.toList]) hs.length v2 hs = ⟨65, 6, ls.length + 1, v1', ls.flatMap lcells ++ newCells s⟩ :: ((ls.flatMap lrows ++ [⟨9, 1, 0, .slice none 0 0, []⟩, ⟨83, 3, 0, .slice none 0 0, []⟩]) ++ two 49 3 hs.length v2 hcells hrows hs) := by
    rw [treeRows_eq, two, e1, e2]; simp
  rw [ht]
  refine ⟨h3, fun b hb hbW r hr' => ?_⟩
  rw [treeRows_eq] at hb
  simp only [List.mem_cons, List.mem_append, List.not_mem_nil, or_false] at hr'
  rcases hr' with rfl | (hr' | rfl | rfl) | hr'
  · rcases hloc with e | e
    · show v1'.ownBlock ≠ _
      rw [e]
      exact hb ⟨65, 6, ls.length, .slice A ls.length c, ls.flatMap lcells⟩ (by simp [two])
    · show v1'.ownBlock ≠ _
      rw [e]
      intro e2
      have := Option.some.inj e2
      omega
  · exact hb r (by simp only [two, List.mem_append, List.mem_cons]; exact .inl (.inr hr'))
  · intro e; cases e
  · intro e; cases e
  · exact hb r (List.mem_append.2 (.inr hr'))
theorem Rows.off {W : World} {lo b j : Nat} {u : Value} {rs : List Row} (h : Rows W lo rs) (hb : ∀ r ∈ rs, r.v.ownBlock ≠ some b) : Rows (W.setCell ⟨b, j, none⟩ u) lo rs :=
  ⟨fun r hr => (h.1 r hr).kept (grown_set W b j u) (by
    cases hq : r.v.ownBlock with
    | none => exact .inl rfl
    | some g => right; intro e2; exact hb r hr (hq.trans e2)), h.2⟩
/-- the append of a logger to a tree of the call's own -/
theorem run_addL (W : World) {lo n c : Nat} {A : Option Addr} {v2 : Value} {ls : List LgrV} {hs : List HndV} (hn : n = ls.length) (hr : Rows W lo (treeRows ls.length (.slice A n c) ls hs.length v2 hs)) (h8 : n ≤ 8) (s : ByteArray) (hlo : lo ≤ W.heap.size) :
    ∃ A5 c5 W', (Builtin.append_ #[29, 29] 29 #[.slice A n c, .slice (some ⟨W.heap.size, 0, none⟩) 1 1]).run Try.prog (W.alloc (.cells #[.string s, .int .i64 0, .slice none 0 0, .slice none 0 0, .bool false, .bool false] 65)) = .ok (.slice A5 (n + 1) c5) W' ∧
      W'.ownsRow lo 65 6 (.slice A5 (n + 1) c5) (n + 1) (ls.flatMap lcells ++ newCells s) ∧ W.grownBy W' (Value.slice A n c).ownBlock ∧ ((Value.slice A5 (n + 1) c5).ownBlock = (Value.slice A n c).ownBlock ∨ (Value.slice A5 (n + 1) c5).ownBlock = some (W.heap.size + 1)) := by
  obtain ⟨iL, hLi, hLz0, hLz1, hLz2⟩ := info_parts Try.infoLogger
  have htop : W.ownsRow lo 65 6 (.slice A n c) n (ls.flatMap lcells) := hr.1 ⟨65, 6, n, .slice A n c, ls.flatMap lcells⟩ (by rw [treeRows_eq, ← hn]; simp [two])
  obtain ⟨v5, w4, hrun, ho4, hg4, hloc⟩ := run_app1P (P := Try.prog) W 29 lo 65 iL _ 6 80 Try.underlying29 hLi hLz0 hLz1 hLz2 rfl (by decide) _ n _ htop (newCells s) 65 rfl (new_one s) (by unfold maxLen; omega) (by omega) hlo
  obtain ⟨A5, c5, rfl, _, _⟩ := (Sl.of_own ho4).form
  exact ⟨A5, c5, w4, hrun, ho4, hg4, hloc⟩
end Go.Proofs.Ytbidlmejonpadaa
