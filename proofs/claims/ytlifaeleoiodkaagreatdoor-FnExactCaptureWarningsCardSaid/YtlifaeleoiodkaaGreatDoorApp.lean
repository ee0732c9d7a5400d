/-
  APPENDS inside a region that has drawn its order; small laws on rows.
-/
import Derived.Test.YtlifaeleoiodkaaGreatDoorMarks
namespace Go.Proofs.YtlifaeleoiodkaaGreatDoor
open Go.RowKit Nm
set_option linter.unusedSimpArgs false
set_option linter.unusedVariables false

/-- append of a slice to an owned one, as a run -/
theorem run_appG {P : Program} (w : World) (t : TypeId) (base : Nat) (e : TypeId) (i : TypeInfo) (z : Value) (size bytes : Nat) (ht : P.underlying t = some (.slice e)) (hi : P.info? e = some i) (hz : i.zero = some z)
    (hsize : i.size = size) (hby : i.bytes = bytes) (hzs : z.cells.size = size) (hsz : 0 < size)
    (v : Value) (n : Nat) (xs : List Value) (hown : w.ownsRow base e size v n xs)
    (B m : Nat) (src : Value) (ys : List Value) (hsl : Sl w B size m src ys) (h1 : ∀ u ∈ ys, u.oneCell' = true)
    (h63 : n + m ≤ maxLen) (hbytes : (n + m) * bytes ≤ 140737488355328) (hbase : base ≤ w.heap.size) :
    ∃ v' w', (Builtin.append_ #[t, t] t #[v, src]).run P w = .ok v' w' ∧ w'.ownsRow base e size v' (n + m) (xs ++ ys) ∧ w.grownBy w' v.ownBlock ∧ (v'.ownBlock = v.ownBlock ∨ v'.ownBlock = some w.heap.size) := by
  obtain ⟨hl, A, c, rfl, hmc, hcm, hA⟩ := hsl
  cases A with
  | some ad =>
    obtain ⟨v', w', h2, h3, h4, _, h6⟩ := run_append_own_at (P := P) (w := w) base t t e i z size bytes ht hi hz hsize hby hzs hsz v n xs hown ad m c ys hl (by
      intro j u hu
      have hj := (List.getElem?_eq_some_iff.1 hu).1
      have hm0 : 0 < m := by
        rcases Nat.eq_zero_or_pos m with h0 | h0
        · subst h0; rw [Nat.zero_mul] at hl; omega
        · exact h0
      obtain ⟨b, o', e1, _, hc⟩ := hA hm0
      have e2 : ad = ⟨b, o', none⟩ := Option.some.inj e1
      subst e2
      rw [Addr.add_lit]; exact hc j u hu) h1 h63 hbytes hbase
    exact ⟨v', w', h2, h3, h4, h6⟩
  | none =>
    have hm0 : m = 0 := by
      rcases Nat.eq_zero_or_pos m with h0 | h0
      · exact h0
      · obtain ⟨b, o', e1, _⟩ := hA h0; cases e1
    subst hm0
    have hy : ys = [] := List.eq_nil_of_length_eq_zero (by rw [hl, Nat.zero_mul])
    subst hy
    exact ⟨v, w, run_app_none (P := P) base t t e i size c ht hi v n xs hown, by simpa using hown, World.grownBy.refl _ _, .inl rfl⟩
/-- at the operation -/
theorem wp_appG {P : Program} {w : World} {o : Oper} {a : Act} {K : Act → World → Prop} {Q : Exit → Act → World → Prop} {s x : Operand} {t : TypeId}
    (ho : o.op = .call { callee := .builtin .append, args := #[s, x], argTypes := #[t, t] }) (hty : o.type = t)
    (base : Nat) (e : TypeId) (i : TypeInfo) (z : Value) (size bytes : Nat) (ht : P.underlying t = some (.slice e)) (hi : P.info? e = some i) (hz : i.zero = some z)
    (hsize : i.size = size) (hby : i.bytes = bytes) (hzs : z.cells.size = size) (hsz : 0 < size)
    {v : Value} {n : Nat} {xs : List Value} (hs : a.eval s = v) (hown : w.ownsRow base e size v n xs)
    {B m : Nat} {src : Value} {ys : List Value} (hx : a.eval x = src) (hsl : Sl w B size m src ys) (h1 : ∀ u ∈ ys, u.oneCell' = true)
    (h63 : n + m ≤ maxLen) (hbytes : (n + m) * bytes ≤ 140737488355328) (hbase : base ≤ w.heap.size)
    (h : ∀ v' w', w'.ownsRow base e size v' (n + m) (xs ++ ys) → w.grownBy w' v.ownBlock → (v'.ownBlock = v.ownBlock ∨ v'.ownBlock = some w.heap.size) → K (a.put o.dst v') w') : o.wp P a w K Q := by
  obtain ⟨v', w', h2, h3, h4, h5⟩ := run_appG (P := P) w t base e i z size bytes ht hi hz hsize hby hzs hsz v n xs hown B m src ys hsl h1 h63 hbytes hbase
  exact wp_app ho hs hx (by rw [hty]; exact h2) (h v' w' h3 h4 h5)
/-- one element that was just laid down -/
theorem Sl.one {w : World} {b size : Nat} {cs : List Value} (h : Blk w b cs) (hl : cs.length = size) : Sl w w.heap.size size 1 (.slice (some ⟨b, 0, none⟩) 1 1) cs :=
  ⟨by rw [hl, Nat.one_mul], _, _, rfl, Nat.le_refl _, by unfold maxLen; omega, fun _ => ⟨b, 0, rfl, h.1, fun j u hu => by simpa using (h.2 j u hu).1⟩⟩
/-- a row of no memory ahead of others -/
theorem Rows.cons_nil {w : World} {lo d : Nat} {T : TypeId} {rs : List Row} (h : Rows w lo rs) : Rows w lo (⟨T, d, 0, .slice none 0 0, []⟩ :: rs) :=
  ⟨fun x hx => by
    rcases List.mem_cons.1 hx with rfl | hx
    · exact World.ownsRow_nil _ _ _ _
    · exact h.1 x hx, List.pairwise_cons.2 ⟨fun b hb => ⟨.inl rfl, by
      cases hq : b.v.ownBlock with
      | none => exact .inl rfl
      | some g => right; intro e; cases e⟩, h.2⟩⟩
theorem Rows.bc {w : World} {lo d b : Nat} {T : TypeId} {cs : List Value} (h : Rows w lo [bxRow T d b cs]) (q : Nat) {u : Value} (hu : cs[q]? = some u) : w.cell? ⟨b, q, none⟩ = some u ∧ b < w.heap.size := Rows.bcell h (List.mem_singleton.2 rfl) hu
theorem Rows.set_low {w : World} {lo : Nat} {rs : List Row} (h : Rows w lo rs) {b j : Nat} {u : Value} (hb : b < lo) : Rows (w.setCell ⟨b, j, none⟩ u) lo rs := h.low hb
theorem Rows.dr {w : World} {lo : Nat} {rs : List Row} (h : Rows w lo rs) : Rows w.drew lo rs := h.below ((Below.refl _ _).drew)
/-- the append of one element as a run -/
theorem run_app1P {P : Program} (w : World) (t : TypeId) (base : Nat) (e : TypeId) (i : TypeInfo) (z : Value) (size bytes : Nat) (ht : P.underlying t = some (.slice e)) (hi : P.info? e = some i) (hz : i.zero = some z)
    (hsize : i.size = size) (hby : i.bytes = bytes) (hzs : z.cells.size = size) (hsz : 0 < size)
    (v : Value) (n : Nat) (xs : List Value) (hown : w.ownsRow base e size v n xs) (us : List Value) (te : TypeId) (hl : us.length = size) (h1 : ∀ u ∈ us, u.oneCell' = true)
    (h63 : n + 1 ≤ maxLen) (hbytes : (n + 1) * bytes ≤ 140737488355328) (hbase : base ≤ w.heap.size) :
    ∃ v' w', (Builtin.append_ #[t, t] t #[v, .slice (some ⟨w.heap.size, 0, none⟩) 1 1]).run P (w.alloc (.cells us.toArray te)) = .ok v' w' ∧ w'.ownsRow base e size v' (n + 1) (xs ++ us) ∧ w.grownBy w' v.ownBlock ∧ (v'.ownBlock = v.ownBlock ∨ v'.ownBlock = some (w.heap.size + 1)) := by
  obtain ⟨v', w', h2, h3, h4, _, h6⟩ := run_append_own_at (P := P) (w := w.alloc (.cells us.toArray te)) base t t e i z size bytes ht hi hz hsize hby hzs hsz v n xs (hown.alloc _) ⟨w.heap.size, 0, none⟩ 1 1 us (by rw [hl, Nat.one_mul])
    (many_new w us te) h1 h63 hbytes (by simp; omega)
  exact ⟨v', w', h2, h3, grown_tr (World.grownBy_alloc w _ _) h4, by simpa using h6⟩
/-- a row grows by an append: the others stand, and stand apart -/
theorem Rows.app {w w' : World} {lo d' n' : Nat} {T' : TypeId} {r : Row} {v' : Value} {xs' : List Value} {pre post : List Row} (h : Rows w lo (pre ++ r :: post)) (hg : w.grownBy w' r.v.ownBlock) (ho : w'.ownsRow lo T' d' v' n' xs') (hloc : v'.ownBlock = r.v.ownBlock ∨ v'.ownBlock = some (w.heap.size + 1)) :
    Rows w' lo (pre ++ ⟨T', d', n', v', xs'⟩ :: post) := by
  have hp := List.pairwise_append.1 h.2
  have hp2 := List.pairwise_cons.1 hp.2.1
  have ap : ∀ x ∈ pre ++ post, x.apart r → x.own w lo → x.apart ⟨T', d', n', v', xs'⟩ := fun x _ hx hxo => by
    rcases hloc with e | e
    · exact ⟨by rw [show (⟨T', d', n', v', xs'⟩ : Row).v = v' from rfl, e]; exact hx.1, by rw [show (⟨T', d', n', v', xs'⟩ : Row).v = v' from rfl, e]; exact hx.2⟩
    · constructor
      · cases hq : x.v.ownBlock with
        | none => exact .inl rfl
        | some g => right; intro e2; have := (hxo.lt g hq).2; rw [show (⟨T', d', n', v', xs'⟩ : Row).v = v' from rfl, e] at e2; have : g = w.heap.size + 1 := Option.some.inj e2; omega
      · right; intro e2
        rw [show (⟨T', d', n', v', xs'⟩ : Row).v = v' from rfl, e] at e2
        have := (hxo.lt _ e2.symm).2
        omega
  have own1 : ∀ x ∈ pre, x.own w lo := fun x hx => h.1 x (by simp [hx])
  have own2 : ∀ x ∈ post, x.own w lo := fun x hx => h.1 x (by simp [hx])
  refine ⟨fun x hx => ?_, ?_⟩
  · rcases List.mem_append.1 hx with hx | hx
    · exact (own1 x hx).kept hg (hp.2.2 x hx r (by simp)).1
    · rcases List.mem_cons.1 hx with rfl | hx
      · exact ho
      · exact (own2 x hx).kept hg (hp2.1 x hx).2
  · refine List.pairwise_append.2 ⟨hp.1, List.pairwise_cons.2 ⟨fun b hb => ?_, hp2.2⟩, fun a ha b hb => ?_⟩
    · exact (ap b (by simp [hb]) (hp2.1 b hb).symm (own2 b hb)).symm
    · rcases List.mem_cons.1 hb with rfl | hb
      · exact ap a (by simp [ha]) (hp.2.2 a ha r (by simp)) (own1 a ha)
      · exact hp.2.2 a ha b (by simp [hb])
theorem Rows.boxset {w : World} {lo d b j : Nat} {T : TypeId} {cs : List Value} {u : Value} {pre post : List Row} (h : Rows w lo (pre ++ [bxRow T d b cs] ++ post)) : Rows (w.setCell ⟨b, j, none⟩ u) lo (pre ++ [bxRow T d b (cs.set j u)] ++ post) := by
  have ho : w.ownsRow lo T d (.slice (some ⟨b, 0, none⟩) 1 1) 1 cs := h.1 (bxRow T d b cs) (by simp)
  have hs := ho.stored j u
  rw [List.append_assoc] at h ⊢
  exact Rows.write (r := bxRow T d b cs) h hs.2 hs.1
theorem Rows.bcell2 {w : World} {lo d b q : Nat} {T : TypeId} {cs : List Value} {pre post : List Row} {u : Value} (h : Rows w lo (pre ++ [bxRow T d b cs] ++ post)) (hu : cs[q]? = some u) : w.cell? ⟨b, q, none⟩ = some u ∧ w.frozen? ⟨b, q, none⟩ = false ∧ b < w.heap.size := by
  have ho : w.ownsRow lo T d (.slice (some ⟨b, 0, none⟩) 1 1) 1 cs := h.1 (bxRow T d b cs) (by simp)
  have hlt := (List.getElem?_eq_some_iff.1 hu).1
  exact ⟨(ho.cellAt q (by have := ho.1; omega)).trans hu, ho.frozenAt q, (ho.lt b rfl).2⟩

end Go.Proofs.YtlifaeleoiodkaaGreatDoor
