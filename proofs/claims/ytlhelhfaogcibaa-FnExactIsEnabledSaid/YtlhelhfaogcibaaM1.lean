/-
  A map[string]bool that the call itself makes: which texts are in it.
-/
import Derived.Test.YtlhelhfaogcibaaW4
import Derived.Maps.OwnOps
import Derived.Maps.Views
namespace Go.Proofs.Ytlhelhfaogcibaa
open Go.RowKit Nm
open Go.WideMaps
set_option linter.unusedSimpArgs false
set_option linter.unusedVariables false

theorem zeroBool (w : World) : (zeroValue 4).run Try.prog w = .ok (.bool false) w := by kernel_rfl
theorem plainElem_bool_inv {H : Type} {P : Program} {e : TypeId} (he : P.underlying e = some .bool) {v : Value} {z : DataW H × List MemPlace} (h : plainElem P e v = some z) : ∃ c, v = .bool c ∧ z = (.lit (.bool c), []) := by
  unfold plainElem at h
  rw [he] at h
  cases v <;> simp at h
  subst h
  exact ⟨_, rfl, rfl⟩
/-- block b is a map that says f of each text, of at most n entries -/
def SetM (w : World) (b n : Nat) (f : List UInt8 → Bool) : Prop :=
  ∃ D : DataW Unit, Maps.IsMap D ∧ w.ownsMap Try.prog 9 (plainElem Try.prog 4) b n D ∧ ∀ l, D.atKey (.string l) (.lit (.bool false)) = .lit (.bool (f l))
theorem SetM.made (w : World) : SetM (w.alloc (.map #[] 0)) w.heap.size 0 (fun _ => false) :=
  ⟨.map [], ⟨[], rfl⟩, World.ownsMap_made w _ _ _, fun _ => rfl⟩
theorem SetM.kept {w w' : World} {b n : Nat} {f : List UInt8 → Bool} {row : Option Nat} (h : SetM w b n f) (hg : w.grownBy w' row) (hne : some b ≠ row) : SetM w' b n f := by
  obtain ⟨D, h1, h2, h3⟩ := h
  exact ⟨D, h1, h2.kept hg hne, h3⟩
theorem SetM.lt {w : World} {b n : Nat} {f : List UInt8 → Bool} (h : SetM w b n f) : b < w.heap.size := by
  obtain ⟨D, h1, h2, h3⟩ := h
  exact h2.lt
theorem SetM.below {w w' : World} {b n : Nat} {f : List UInt8 → Bool} (h : SetM w b n f) (hb : Below w.heap.size w w') : SetM w' b n f := h.kept (grown_of hb none) (by simp)
theorem SetM.alloc' {w : World} {b n : Nat} {f : List UInt8 → Bool} (h : SetM w b n f) (o : Obj) : SetM (w.alloc o) b n f := h.kept (World.grownBy_alloc w o none) (by simp)
/-- a look-up: the world stays -/
theorem SetM.look {w : World} {b n : Nat} {f : List UInt8 → Bool} (h : SetM w b n f) (s : ByteArray) (hs : s.size ≤ maxLen) :
    (Instr.lookup 113 (.map (some b)) (.string s) false).run Try.prog w = .ok (.bool (f s.data.toList)) w := by
  obtain ⟨D, h1, h2, h3⟩ := h
  obtain ⟨v, ps, hrun, hv⟩ := h2.lookup (Maps.string_keyed Try.underlying9) Try.underlying113 (zeroBool w) (plainElem_bool Try.underlying4 false) (keyOf_string_mk Try.underlying9 hs)
  obtain ⟨c, rfl, hc⟩ := plainElem_bool_inv Try.underlying4 hv
  have h6 : DataW.lit (H := Unit) (.bool (f s.data.toList)) = .lit (.bool c) := by
    have h7 := congrArg Prod.fst hc
    rw [← h3]; exact h7
  have h5 : f s.data.toList = c := Lit.bool.inj (DataW.lit.inj h6)
  rw [hrun, h5]
/-- a store, for the walk -/
theorem wpList_setM (w : World) {ops : Array Oper} {rest : List Oper} {o : Oper} {a : Act} {Q : Exit → Act → World → Prop} {b n : Nat} {f : List UInt8 → Bool} (h : SetM w b n f)
    (hg : o.guard = none) (m x v : Operand) (hop : o.op = Op.mapUpdate 113 m x v) (hm : a.eval m = .map (some b)) (hn : n < maxLen) (s : ByteArray) (hs : s.size ≤ maxLen) (c : Bool) (hx : a.eval x = .string s) (hv : a.eval v = .bool c)
    (hK : ∀ w', SetM w' b (n + 1) (fun l => if l = s.data.toList then c else f l) → w.grownBy w' (some b) → wpList Try.prog ops Q rest (a.put o.dst undef) w') :
    wpList Try.prog ops Q (o :: rest) a w := by
  obtain ⟨D, h1, h2, h3⟩ := h
  refine wpList_mapUpdate_own w hg m x v 113 hop 9 4 (Maps.string_keyed Try.underlying9) Try.underlying113 _ b n D hm h2 hn (.string s) (.bool c) (.string s.data.toList) hx hv
    (keyOf_string_mk Try.underlying9 hs) (.lit (.bool c)) [] (plainElem_bool Try.underlying4 c) ?_
  intro w' h4 h5
  refine hK w' ⟨_, ?_, h4, fun l => ?_⟩ h5
  · obtain ⟨es, rfl⟩ := h1; exact ⟨_, rfl⟩
  · by_cases hl : l = s.data.toList
    · subst hl
      rw [Maps.atKey_put_same h1 (by trivial)]; simp
    · rw [Maps.atKey_put_other (by intro e; injection e with e; exact hl e), h3]; simp [hl]
end Go.Proofs.Ytlhelhfaogcibaa
