/-
  APPENDS inside a region that has drawn its order; small laws on rows.
-/
import Derived.Test.YtebofooaadoojaaMarks
namespace Go.Proofs.Ytebofooaadoojaa
open Go.RowKit Nm
set_option linter.unusedSimpArgs false
set_option linter.unusedVariables false

/-- append of a slice to an owned one, as a run -/
theorem run_appG {P : Program} (w : World) (t : TypeId) (base : Nat) (e : TypeId) (i : TypeInfo) (z : Value) (size bytes : Nat) (ht : P.underlying t = some (.slice e)) (hi : P.info? e = some i) (hz : i.zero = some z)
    (hsize : i.size = size) (hby : i.bytes = bytes) (hzs : z.cells.size = size) (hsz : 0 < size)
    (v : Value) (n : Nat) (xs : List Value) (hown : w.ownsRow base e size v n xs)
    (B m : Nat) (src : Value) (ys : List Value) (hsl : Sl w B size m src ys) (h1 : ∀ u ∈ ys, u.oneCell' = true)
    (h63 : n + m ≤ maxLen) (hbytes : (n + m) * bytes ≤ 140737488355328) (hbase : base ≤ w.heap.size) :
    ∃ v' w', (Builtin.append_ #[t, t] t #[v, src]).run P w = .ok v' w' ∧ w'.ownsRow base e size v' (n + m) (xs ++ ys) ∧ w.grownBy w' v.ownBlock ∧ (v'.ownBlock = v.ownBlock ∨ v'.ownBlock = some w.heap.size) := by
  obtain ⟨hl, A, c, rfl, hmc, hcm, hA⟩ := hsl
  cases A with
  | some ad =>
    obtain ⟨v', w', h2, h3, h4, _, h6⟩ := run_append_own_at (P := P) (w := w) base t t e i z size bytes ht hi hz hsize hby hzs hsz v n xs hown ad m c ys hl (by
      intro j u hu
      have hj := (List.getElem?_eq_some_iff.1 hu).1
      have hm0 : 0 < m := by
        rcases Nat.eq_zero_or_pos m with h0 | h0
        · subst h0; rw [Nat.zero_mul] at hl; omega
        · exact h0
      obtain ⟨b, o', e1, _, hc⟩ := hA hm0
      have e2 : ad = ⟨b, o', none⟩ := Option.some.inj e1
      subst e2
      rw [Addr.add_lit]; exact hc j u hu) h1 h63 hbytes hbase
    exact ⟨v', w', h2, h3, h4, h6⟩
  | none =>
    have hm0 : m = 0 := by
      rcases Nat.eq_zero_or_pos m with h0 | h0
      · exact h0
      · obtain ⟨b, o', e1, _⟩ := hA h0; cases e1
    subst hm0
    have hy : ys = [] := List.eq_nil_of_length_eq_zero (by rw [hl, Nat.zero_mul])
    subst hy
    exact ⟨v, w, run_app_none (P := P) base t t e i size c ht hi v n xs hown, by simpa using hown, World.grownBy.refl _ _, .inl rfl⟩
/-- at the operation -/
theorem wp_appG {P : Program} {w : World} {o : Oper} {a : Act} {K : Act → World → Prop} {Q : Exit → Act → World → Prop} {s x : Operand} {t : TypeId}
    (ho : o.op = .call { callee := .builtin .append, args := #[s, x], argTypes := #[t, t] }) (hty : o.type = t)
    (base : Nat) (e : TypeId) (i : TypeInfo) (z : Value) (size bytes : Nat) (ht : P.underlying t = some (.slice e)) (hi : P.info? e = some i) (hz : i.zero = some z)
    (hsize : i.size = size) (hby : i.bytes = bytes) (hzs : z.cells.size = size) (hsz : 0 < size)
    {v : Value} {n : Nat} {xs : List Value} (hs : a.eval s = v) (hown : w.ownsRow base e size v n xs)
    {B m : Nat} {src : Value} {ys : List Value} (hx : a.eval x = src) (hsl : Sl w B size m src ys) (h1 : ∀ u ∈ ys, u.oneCell' = true)
    (h63 : n + m ≤ maxLen) (hbytes : (n + m) * bytes ≤ 140737488355328) (hbase : base ≤ w.heap.size)
    (h : ∀ v' w', w'.ownsRow base e size v' (n + m) (xs ++ ys) → w.grownBy w' v.ownBlock → (v'.ownBlock = v.ownBlock ∨ v'.ownBlock = some w.heap.size) → K (a.put o.dst v') w') : o.wp P a w K Q := by
  obtain ⟨v', w', h2, h3, h4, h5⟩ := run_appG (P := P) w t base e i z size bytes ht hi hz hsize hby hzs hsz v n xs hown B m src ys hsl h1 h63 hbytes hbase
  exact wp_app ho hs hx (by rw [hty]; exact h2) (h v' w' h3 h4 h5)
/-- one element that was just laid down -/
theorem Sl.one {w : World} {b size : Nat} {cs : List Value} (h : Blk w b cs) (hl : cs.length = size) : Sl w w.heap.size size 1 (.slice (some ⟨b, 0, none⟩) 1 1) cs :=
  ⟨by rw [hl, Nat.one_mul], _, _, rfl, Nat.le_refl _, by unfold maxLen; omega, fun _ => ⟨b, 0, rfl, h.1, fun j u hu => by simpa using (h.2 j u hu).1⟩⟩
/-- a row of no memory ahead of others -/
theorem Rows.cons_nil {w : World} {lo d : Nat} {T : TypeId} {rs : List Row} (h : Rows w lo rs) : Rows w lo (⟨T, d, 0, .slice none 0 0, []⟩ :: rs) :=
  ⟨fun x hx => by
    rcases List.mem_cons.1 hx with rfl | hx
    · exact World.ownsRow_nil _ _ _ _
    · exact h.1 x hx, List.pairwise_cons.2 ⟨fun b hb => ⟨.inl rfl, by
      cases hq : b.v.ownBlock with
      | none => exact .inl rfl
      | some g => right; intro e; cases e⟩, h.2⟩⟩
theorem Rows.set_low {w : World} {lo : Nat} {rs : List Row} (h : Rows w lo rs) {b j : Nat} {u : Value} (hb : b < lo) : Rows (w.setCell ⟨b, j, none⟩ u) lo rs := h.low hb
theorem Rows.dr {w : World} {lo : Nat} {rs : List Row} (h : Rows w lo rs) : Rows w.drew lo rs := h.below ((Below.refl _ _).drew)
end Go.Proofs.Ytebofooaadoojaa
