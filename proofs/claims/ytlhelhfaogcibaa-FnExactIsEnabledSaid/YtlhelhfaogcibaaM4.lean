/-
  A map keyed by texts that the call itself makes: what it holds, key by key; ranges over it.
-/
import Derived.Test.YtlhelhfaogcibaaM3
import Derived.Maps.RangeWalk
namespace Go.Proofs.Ytlhelhfaogcibaa
open Go.RowKit Nm
open Go.WideMaps
set_option linter.unusedSimpArgs false
set_option linter.unusedVariables false

/-- block b is a map, of at most n entries, that holds g of each text -/
def MapP (w : World) (b n : Nat) (g : List UInt8 → Option Value) : Prop :=
  ∃ D : DataW Value, Maps.IsMap D ∧ w.ownsMap Try.prog 9 asHeld b n D ∧ (∀ z l, D.atKey (.string l) (.held z) = .held ((g l).getD z)) ∧ ∀ l, Maps.has D (.string l) = (g l).isSome
theorem MapP.made (w : World) : MapP (w.alloc (.map #[] 0)) w.heap.size 0 (fun _ => none) :=
  ⟨.map [], ⟨[], rfl⟩, World.ownsMap_made w _ _ _, fun _ _ => rfl, fun _ => rfl⟩
section
variable {w w' : World} {b n : Nat} {g : List UInt8 → Option Value}
theorem MapP.kept {row : Option Nat} (h : MapP w b n g) (hg : w.grownBy w' row) (hne : some b ≠ row) : MapP w' b n g := by
  obtain ⟨D, h1, h2, h3⟩ := h
  exact ⟨D, h1, h2.kept hg hne, h3⟩
theorem MapP.lt (h : MapP w b n g) : b < w.heap.size := by
  obtain ⟨D, h1, h2, h3⟩ := h
  exact h2.lt
theorem MapP.below (h : MapP w b n g) (hb : Below w.heap.size w w') : MapP w' b n g := h.kept (grown_of hb none) (by simp)
theorem MapP.under {B : Nat} (h : MapP w b n g) (hb : Below B w w') (hlt : b < B) : MapP w' b n g := by
  obtain ⟨D, h1, ⟨es, clock, h2, h4⟩, h3⟩ := h
  exact ⟨D, h1, ⟨es, clock, (hb.block b hlt).trans h2, h4⟩, h3⟩
theorem MapP.alloc' (h : MapP w b n g) (o : Obj) : MapP (w.alloc o) b n g := h.kept (World.grownBy_alloc w o none) (by simp)
theorem MapP.congr {g' : List UInt8 → Option Value} (h : MapP w b n g) (e : ∀ l, g l = g' l) : MapP w b n g' := by
  have : g = g' := funext e
  rwa [← this]
/-- a look-up: the world stays -/
theorem MapP.look {t e : TypeId} {z : Value} (h : MapP w b n g) (ht : Try.prog.underlying t = some (.map 9 e)) (hz : (zeroValue e).run Try.prog w = .ok z w) (s : ByteArray) (hs : s.size ≤ maxLen) :
    (Instr.lookup t (.map (some b)) (.string s) false).run Try.prog w = .ok ((g s.data.toList).getD z) w := by
  obtain ⟨D, h1, h2, h3, _⟩ := h
  obtain ⟨v, ps, hrun, hv⟩ := h2.lookup (Maps.string_keyed Try.underlying9) ht hz (show asHeld z = some (.held z, []) from rfl) (keyOf_string_mk Try.underlying9 hs)
  rw [h3] at hv
  simp only [asHeld, Option.some.injEq, Prod.mk.injEq, DataW.held.injEq] at hv
  rw [hrun, hv.1]
end
/-- a store, for the walk -/
theorem wpList_mapP (w : World) {ops : Array Oper} {rest : List Oper} {o : Oper} {a : Act} {Q : Exit → Act → World → Prop} {b n : Nat} {g : List UInt8 → Option Value} (h : MapP w b n g)
    (t e : TypeId) (ht : Try.prog.underlying t = some (.map 9 e)) (hg : o.guard = none) (m x v : Operand) (hop : o.op = Op.mapUpdate t m x v) (hm : a.eval m = .map (some b)) (hn : n < maxLen)
    (s : ByteArray) (hs : s.size ≤ maxLen) (u : Value) (hx : a.eval x = .string s) (hv : a.eval v = u)
    (hK : ∀ w', MapP w' b (n + 1) (fun l => if l = s.data.toList then some u else g l) → w.grownBy w' (some b) → wpList Try.prog ops Q rest (a.put o.dst undef) w') :
    wpList Try.prog ops Q (o :: rest) a w := by
  obtain ⟨D, h1, h2, h3, h3'⟩ := h
  refine wpList_mapUpdate_own w hg m x v t hop 9 e (Maps.string_keyed Try.underlying9) ht asHeld b n D hm h2 hn (.string s) u (.string s.data.toList) hx hv
    (keyOf_string_mk Try.underlying9 hs) (.held u) [] rfl ?_
  intro w' h4 h5
  refine hK w' ⟨_, ?_, h4, fun z l => ?_, fun l => ?_⟩ h5
  · obtain ⟨es, rfl⟩ := h1; exact ⟨_, rfl⟩
  · by_cases hl : l = s.data.toList
    · subst hl
      rw [Maps.atKey_put_same h1 (by trivial)]; simp
    · rw [Maps.atKey_put_other (by intro e; injection e with e; exact hl e), h3]; simp [hl]
  · by_cases hl : l = s.data.toList
    · subst hl
      rw [Maps.has_put_same h1 (by trivial)]; simp
    · rw [Maps.has_put_other (by intro e; injection e with e; exact hl e), h3']; simp [hl]

/-- a range over the map under way: block r is the iterator; 'left': what is still to come -/
def RangeP (w : World) (b r n : Nat) (g : List UInt8 → Option Value) (left : List UInt8 → Bool) (cnt : Nat) : Prop :=
  ∃ (D : DataW Value) (lf : Lit → Bool), Maps.IsMap D ∧ w.ranges Try.prog 9 asHeld b r n D lf cnt ∧ (∀ z l, D.atKey (.string l) (.held z) = .held ((g l).getD z)) ∧ (∀ l, Maps.has D (.string l) = (g l).isSome) ∧ ∀ l, lf (.string l) = left l
section
variable {w w' : World} {b r n cnt : Nat} {g : List UInt8 → Option Value} {left : List UInt8 → Bool}
theorem RangeP.map (h : RangeP w b r n g left cnt) : MapP w b n g := by
  obtain ⟨D, lf, h1, h2, h3, h4, h5⟩ := h
  exact ⟨D, h1, h2.owns, h3, h4⟩
theorem RangeP.lt (h : RangeP w b r n g left cnt) : r < w.heap.size := by
  obtain ⟨D, lf, h1, h2, _⟩ := h
  exact h2.lt
theorem RangeP.left_eq (h : RangeP w b r n g left cnt) : w.rangeLeft b r = cnt := by
  obtain ⟨D, lf, h1, h2, _⟩ := h
  exact h2.left_eq
theorem RangeP.kept {row : Option Nat} (h : RangeP w b r n g left cnt) (hg : w.grownBy w' row) (hb : some b ≠ row) (hr : some r ≠ row) : RangeP w' b r n g left cnt := by
  obtain ⟨D, lf, h1, h2, h3⟩ := h
  exact ⟨D, lf, h1, h2.kept hg hb hr, h3⟩
end
theorem wpList_rangeP (w : World) {ops : Array Oper} {rest : List Oper} {o : Oper} {a : Act} {Q : Exit → Act → World → Prop} {b n : Nat} {g : List UInt8 → Option Value} (h : MapP w b n g)
    (t e : TypeId) (ht : Try.prog.underlying t = some (.map 9 e)) (hg : o.guard = none) (m : Operand) (hop : o.op = Op.range t m) (hm : a.eval m = .map (some b))
    (hK : ∀ w' cnt, RangeP w' b w.heap.size n g (fun l => (g l).isSome) cnt → w.grownBy w' none → w'.heap.size = w.heap.size + 1 → wpList Try.prog ops Q rest (a.put o.dst (.pointer (some ⟨w.heap.size, 0, none⟩))) w') :
    wpList Try.prog ops Q (o :: rest) a w := by
  obtain ⟨D, h1, h2, h3, h4⟩ := h
  exact wpList_range_own w hg m t hop 9 e (Maps.string_keyed Try.underlying9) ht asHeld b n D hm h2 fun w' hr hg' hz => hK w' _ ⟨D, _, h1, hr, h3, h4, h4⟩ hg' hz
theorem key_str {key : Value} {kl : Lit} (h : keyOf Try.prog 9 key = some kl) : ∃ x : ByteArray, key = .string x ∧ kl = .string x.data.toList ∧ x.size ≤ maxLen := by
  have hk := Try.underlying9
  cases key <;> simp [keyOf, hk, mapKey] at h
  rename_i s
  obtain ⟨hl, rfl⟩ := h
  exact ⟨_, rfl, rfl, by first | exact hl | simpa using hl⟩
theorem wpList_nextP (w : World) {ops : Array Oper} {rest : List Oper} {o : Oper} {a : Act} {Q : Exit → Act → World → Prop} {b r n cnt : Nat} {g : List UInt8 → Option Value} {left : List UInt8 → Bool} (h : RangeP w b r n g left cnt)
    (hg : o.guard = none) (it : Operand) (hop : o.op = Op.next it false) (hit : a.eval it = .pointer (some ⟨r, 0, none⟩))
    (hDone : (∀ l, left l = false) → wpList Try.prog ops Q rest (a.put o.dst (.tuple #[.bool false])) w)
    (hMore : ∀ (x : ByteArray) (v : Value) (w' : World) (cnt' : Nat), x.size ≤ maxLen → left x.data.toList = true → g x.data.toList = some v → RangeP w' b r n g (fun l => left l && !decide (l = x.data.toList)) cnt' → cnt' < cnt →
      w.grownBy w' (some r) → w'.heap.size = w.heap.size → (Instr.entry (.pointer (some ⟨r, 0, none⟩))).run Try.prog w' = .ok (.tuple #[.string x, v]) w' → wpList Try.prog ops Q rest (a.put o.dst (.tuple #[.bool true, .string x, v])) w') :
    wpList Try.prog ops Q (o :: rest) a w := by
  obtain ⟨D, lf, h1, h2, h3, h4, h5⟩ := h
  refine wpList_next_ranges w hg it hop 9 (Maps.string_keyed Try.underlying9) asHeld (Value.string) (fun v : Value => v) (fun key kl hk => by obtain ⟨x, hx, _⟩ := key_str hk; exact ⟨x, hx⟩) (fun v y _ => ⟨v, rfl⟩) b r n D lf cnt hit h2
    (fun _ hl => hDone fun l => by rw [← h5]; exact hl _) ?_
  intro x v kl y w' cnt' hkey hlk hv hat hrg hlt hgr hsz hen
  obtain ⟨x', ex, rfl, hxs⟩ := key_str hkey
  obtain rfl : x = x' := by injection ex
  simp only [asHeld, Option.some.injEq] at hv
  subst hv
  have hgx : g x.data.toList = some v := by
    have e1 := hat (.held (.bool true))
    have e2 := hat (.held (.bool false))
    rw [h3] at e1 e2
    cases hc : g x.data.toList with
    | none =>
      rw [hc] at e1 e2
      simp only [Option.getD_none, DataW.held.injEq] at e1 e2
      rw [← e2] at e1; cases e1
    | some u =>
      rw [hc] at e1
      simp only [Option.getD_some, DataW.held.injEq] at e1
      rw [e1]
  refine hMore x v w' cnt' hxs (by rw [← h5]; exact hlk) hgx ⟨D, _, h1, hrg, h3, h4, fun l => ?_⟩ hlt hgr hsz hen
  have e : (Lit.string l).sameKey (.string x.data.toList) = decide (l = x.data.toList) := by
    rw [Bool.eq_iff_iff, WideAt.sameKey_iff (by trivial), decide_eq_true_eq]
    exact ⟨fun h => Lit.string.inj h, fun h => by rw [h]⟩
  have e2 := h5 l
  show (lf (.string l) && !(Lit.string l).sameKey (.string x.data.toList)) = (left l && !decide (l = x.data.toList))
  rw [e2, e]
end Go.Proofs.Ytlhelhfaogcibaa
