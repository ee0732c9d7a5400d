/-
  append of a whole slice, wherever it lies, nil and empty too.
-/
import Derived.Test.YtlhelhfaogcibaaWords
import Derived.Laws.AppendOwnNone
namespace Go.Proofs.Ytlhelhfaogcibaa
open Go.RowKit
set_option linter.unusedSimpArgs false
set_option linter.unusedVariables false

theorem run_app_none {P : Program} {w : World} (base : Nat) (t ty e : TypeId) (i : TypeInfo) (size c : Nat) (ht : P.underlying t = some (.slice e)) (hi : P.info? e = some i)
    (v : Value) (n : Nat) (xs : List Value) (hown : w.ownsRow base e size v n xs) : (Builtin.append_ #[t, t] ty #[v, .slice none 0 c]).run P w = .ok v w := by
  rcases hown.2 with ⟨rfl, rfl⟩ | ⟨g, cap, cur, rfl, _, _, hnc, _⟩
  · simp [Builtin.append_, run_underlying ht, sizeOf, typeInfo, hi, Builtin.lenOf, Builtin.firstCells]
  · simp [Builtin.append_, run_underlying ht, sizeOf, typeInfo, hi, Builtin.lenOf, Builtin.firstCells, hnc, storeCells]
theorem wpList_appSl {P : Program} (w : World) {ops : Array Oper} {rest : List Oper} {o : Oper} {a : Act} {Q : Exit → Act → World → Prop}
    (hg : o.guard = none) (s x : Operand) (t : TypeId) (ho : o.op = .call { callee := .builtin .append, args := #[s, x], argTypes := #[t, t] })
    (base : Nat) (e : TypeId) (i : TypeInfo) (z : Value) (size bytes : Nat) (ht : P.underlying t = some (.slice e)) (hi : P.info? e = some i) (hz : i.zero = some z)
    (hsize : i.size = size) (hby : i.bytes = bytes) (hzs : z.cells.size = size) (hsz : 0 < size)
    (v : Value) (n : Nat) (xs : List Value) (hs : a.eval s = v) (hown : w.ownsRow base e size v n xs)
    (B m : Nat) (src : Value) (ys : List Value) (hx : a.eval x = src) (hsl : Sl w B size m src ys) (h1 : ∀ u ∈ ys, u.oneCell' = true)
    (h63 : n + m ≤ maxLen) (hbytes : (n + m) * bytes ≤ 140737488355328) (hbase : base ≤ w.heap.size)
    (h : ∀ v' w', w'.ownsRow base e size v' (n + m) (xs ++ ys) → Below base w w' → wpList P ops Q rest (a.put o.dst v') w') :
    wpList P ops Q (o :: rest) a w := by
  obtain ⟨hl, A, c, rfl, hmc, hcm, hA⟩ := hsl
  cases A with
  | some ad =>
    refine wpList_append_own w hg s x t ho base e i z size bytes ht hi hz hsize hby hzs hsz v n xs hs hown ad m c ys hx hl ?_ h1 h63 hbytes hbase fun v' w' h2 h3 _ => h v' w' h2 (below_of_grown h3 hbase (own_lt hown))
    intro j u hu
    have hj := (List.getElem?_eq_some_iff.1 hu).1
    have hm0 : 0 < m := by
      rcases Nat.eq_zero_or_pos m with h0 | h0
      · subst h0; rw [Nat.zero_mul] at hl; omega
      · exact h0
    obtain ⟨b, o', e1, _, hc⟩ := hA hm0
    have e2 : ad = ⟨b, o', none⟩ := Option.some.inj e1
    subst e2
    rw [Addr.add_lit]; exact hc j u hu
  | none =>
    have hm0 : m = 0 := by
      rcases Nat.eq_zero_or_pos m with h0 | h0
      · exact h0
      · obtain ⟨b, o', e1, _⟩ := hA h0; cases e1
    subst hm0
    have hy : ys = [] := List.eq_nil_of_length_eq_zero (by rw [hl, Nat.zero_mul])
    subst hy
    refine wpList_plain hg fun K hK => ?_
    have hrun := run_app_none (P := P) (w := w) base t o.type e i size c ht hi v n xs hown
    unfold Oper.wp
    simp [execOp, ho, resolve, invoke, builtin, hs, hx, hrun, Result.andThen]
    exact hK _ _ (h v w (by simpa using hown) (Below.refl _ _))
/-- a slice without its first k elements -/
theorem Sl.from_ {w : World} {B d n c : Nat} {b o : Nat} {xs : List Value} (h : Sl w B d n (.slice (some ⟨b, o, none⟩) n c) xs) {k : Nat} (hk : k ≤ n) :
    Sl w B d (n - k) (.slice (some ⟨b, o + k * d, none⟩) (n - k) (c - k)) (xs.drop (k * d)) := by
  obtain ⟨hl, A', c', he, h2, h3, h4⟩ := h
  obtain ⟨rfl, rfl⟩ : some ⟨b, o, none⟩ = A' ∧ c = c' := by simpa using he
  refine ⟨by rw [List.length_drop, hl, Nat.sub_mul], _, _, rfl, by omega, by omega, fun hn => ?_⟩
  obtain ⟨b', o', e, hb, hc⟩ := h4 (by omega)
  obtain ⟨rfl, rfl⟩ : b = b' ∧ o = o' := by simpa using e
  exact ⟨b, _, rfl, hb, fun j u hu => by rw [Nat.add_assoc]; exact hc _ u (by rw [List.getElem?_drop] at hu; exact hu)⟩
theorem Sl.cap {w : World} {B d n c : Nat} {A : Option Addr} {xs : List Value} (h : Sl w B d n (.slice A n c) xs) : n ≤ c ∧ c ≤ maxLen := by
  obtain ⟨_, A', c', he, h2, h3, _⟩ := h
  obtain ⟨rfl, rfl⟩ : A = A' ∧ c = c' := by simpa using he
  exact ⟨h2, h3⟩
theorem flat_drop {α : Type} (f : α → List Value) (d : Nat) (hf : ∀ x, (f x).length = d) (l : List α) (k : Nat) : (l.flatMap f).drop (k * d) = (l.drop k).flatMap f := by
  induction k generalizing l with
  | zero => simp
  | succ k ih =>
    cases l with
    | nil => simp
    | cons x l =>
      rw [List.flatMap_cons, List.drop_succ_cons, ← ih l, Nat.add_mul, Nat.one_mul, Nat.add_comm, ← List.drop_drop]
      congr 1
      rw [← hf x, List.drop_left]
end Go.Proofs.Ytlhelhfaogcibaa
