/-
  NEST: generic: lists of inner rows, rows that grow, appends and copies whose run is known.
-/
import Derived.Test.YtlifaeleoiodkaaGreatDoorNest
import Derived.Laws.IdiomCopy
namespace Go.Proofs.YtlifaeleoiodkaaGreatDoor
open Go.RowKit Nm
set_option linter.unusedSimpArgs false
set_option linter.unusedVariables false

theorem Rows.app4 {w w' : World} {lo : Nat} {r r' : Row} {pre post : List Row} (h : Rows w lo (pre ++ r :: post)) (hg : w.grownBy w' r.v.ownBlock) (ho : r'.own w' lo) (hloc : ∀ z, r'.v.ownBlock = some z → r.v.ownBlock = some z ∨ w.heap.size ≤ z) :
    Rows w' lo (pre ++ r' :: post) := by
  have hp := List.pairwise_append.1 h.2
  have hp2 := List.pairwise_cons.1 hp.2.1
  have ap : ∀ x : Row, x.apart r → x.own w lo → x.apart r' := fun x hx hxo => by
    constructor
    · cases hq : x.v.ownBlock with
      | none => exact .inl rfl
      | some g =>
        right; intro e2
        rcases hloc g e2.symm with e | e
        · rcases hx.1 with h0 | h0
          · rw [hq] at h0; cases h0
          · exact h0 (hq.trans e.symm)
        · have := (hxo.lt g hq).2; omega
    · cases hq : r'.v.ownBlock with
      | none => exact .inl rfl
      | some g =>
        right; intro e2
        rcases hloc g hq with e | e
        · rcases hx.2 with h0 | h0
          · rw [e] at h0; cases h0
          · exact h0 (e.trans e2)
        · have := (hxo.lt g e2.symm).2; omega
  have own1 : ∀ x ∈ pre, x.own w lo := fun x hx => h.1 x (by simp [hx])
  have own2 : ∀ x ∈ post, x.own w lo := fun x hx => h.1 x (by simp [hx])
  refine ⟨fun x hx => ?_, ?_⟩
  · rcases List.mem_append.1 hx with hx | hx
    · exact (own1 x hx).kept hg (hp.2.2 x hx r (by simp)).1
    · rcases List.mem_cons.1 hx with rfl | hx
      · exact ho
      · exact (own2 x hx).kept hg (hp2.1 x hx).2
  · refine List.pairwise_append.2 ⟨hp.1, List.pairwise_cons.2 ⟨fun b hb => ?_, hp2.2⟩, fun a ha b hb => ?_⟩
    · exact (ap b (hp2.1 b hb).symm (own2 b hb)).symm
    · rcases List.mem_cons.1 hb with rfl | hb
      · exact ap a (hp.2.2 a ha r (by simp)) (own1 a ha)
      · exact hp.2.2 a ha b (by simp [hb])
theorem own_cutN {w : World} {lo size n cap g : Nat} {e : TypeId} {xs : List Value} (h : w.ownsRow lo e size (.slice (some ⟨g, 0, none⟩) n cap) n xs) {k : Nat} (hk : k ≤ n) : w.ownsRow lo e size (.slice (some ⟨g, 0, none⟩) k cap) k (xs.take (k * size)) := by
  have h1 := h.1
  have h3 : k * size ≤ n * size := Nat.mul_le_mul_right _ hk
  rcases h.2 with ⟨h', _⟩ | ⟨g', cap', cur, h', hb, hg, hnc, hcm, hcs, ht⟩
  · simp at h'
  · simp only [Value.slice.injEq, Option.some.injEq, Addr.mk.injEq, and_true, true_and] at h'
    obtain ⟨rfl, rfl⟩ := h'
    refine ⟨by rw [List.length_take, h1]; exact Nat.min_eq_left h3, .inr ⟨g, cap, cur, rfl, hb, hg, by omega, hcm, hcs, ?_⟩⟩
    rw [← ht, List.take_take, Nat.min_eq_left h3]
/-- a call of append whose run is known, in a region that goes as it is written -/
theorem wpList_runB {P : Program} {ops : Array Oper} {rest : List Oper} {o : Oper} {a : Act} {w w' : World} {Q : Exit → Act → World → Prop} {v v' src : Value} {t : TypeId} {s x : Operand} (hg : o.guard = none)
    (ho : o.op = .call { callee := .builtin .append, args := #[s, x], argTypes := #[t, t] }) (hs : a.eval s = v) (hx : a.eval x = src)
    (hrun : (Builtin.append_ #[t, t] o.type #[v, src]).run P w = .ok v' w') (h : wpList P ops Q rest (a.put o.dst v') w') : wpList P ops Q (o :: rest) a w :=
  wpList_plain hg fun K hK => wp_app ho hs hx hrun (hK _ _ h)
theorem wpList_copyB {P : Program} (w : World) {ops : Array Oper} {rest : List Oper} {o : Oper} {a : Act} {Q : Exit → Act → World → Prop} (hgd : o.guard = none) (d s : Operand) (t : TypeId)
    (ho : o.op = .call { callee := .builtin .copy, args := #[d, s], argTypes := #[t, t] }) (v u : Value) (hd : a.eval d = v) (hs : a.eval s = u) {v' : Value} {w' : World}
    (hr : (Builtin.copy_ #[t, t] o.type #[v, u]).run P w = .ok v' w') (h : wpList P ops Q rest (a.put o.dst v') w') : wpList P ops Q (o :: rest) a w :=
  wpList_plain hgd fun K hK => by
    unfold Oper.wp execOp
    simp only [ho, resolve, invoke, builtin, Sem.run_bind, Sem.run_pure, Result.andThen_ok, List.map_toArray, List.map_cons, List.map_nil, hd, hs, hr]
    exact hK _ _ h

section
variable {D : Type} {R : List Row → Value → D → Prop} {es fs : List Cell2} {L M : List D} {u : Value} {rs : List Row} {l : D} {k : Nat} {T : TypeId} {v : Value}
def NE (R : List Row → Value → D → Prop) (es : List Cell2) (L : List D) : Prop := es.length = L.length ∧ ∀ (i : Nat) (e : Cell2) (l : D), es[i]? = some e → L[i]? = some l → R e.2 e.1 l
theorem NE.nil : NE R [] ([] : List D) := ⟨rfl, fun i e l h => by simp at h⟩
theorem NE.snoc (h : NE R es L) (h1 : R rs u l) : NE R (es ++ [(u, rs)]) (L ++ [l]) := by
  refine ⟨by simp [h.1], fun i e x he hx => ?_⟩
  by_cases hi : i < es.length
  · rw [List.getElem?_append_left hi] at he
    rw [List.getElem?_append_left (by rw [← h.1]; exact hi)] at hx
    exact h.2 i e x he hx
  · have hi2 : i = es.length := by have := (List.getElem?_eq_some_iff.1 he).1; simp at this; omega
    subst hi2
    rw [List.getElem?_append_right (Nat.le_refl _), Nat.sub_self] at he
    rw [List.getElem?_append_right (by rw [h.1]; exact Nat.le_refl _), h.1, Nat.sub_self] at hx
    cases he; cases hx
    exact h1
theorem NE.app (h : NE R es L) (h1 : NE R fs M) : NE R (es ++ fs) (L ++ M) := by
  refine ⟨by simp [h.1, h1.1], fun i e x he hx => ?_⟩
  by_cases hi : i < es.length
  · rw [List.getElem?_append_left hi] at he
    rw [List.getElem?_append_left (by rw [← h.1]; exact hi)] at hx
    exact h.2 i e x he hx
  · rw [List.getElem?_append_right (by omega)] at he
    rw [List.getElem?_append_right (by have := h.1; omega), ← h.1] at hx
    exact h1.2 _ e x he hx
theorem NE.take (h : NE R es L) : NE R (es.take k) (L.take k) := by
  refine ⟨by rw [List.length_take, List.length_take, h.1], fun i e x he hx => ?_⟩
  have hi : i < k := by have := (List.getElem?_eq_some_iff.1 he).1; rw [List.length_take] at this; omega
  rw [List.getElem?_take_of_lt hi] at he hx
  exact h.2 i e x he hx
theorem NE.toR (h : NE R es L) : NestR T R (nestRows T v es) v L := ⟨es, rfl, h.1, h.2⟩
theorem NestR.ne (h : NestR T R rs v L) : ∃ es, rs = nestRows T v es ∧ NE R es L := by obtain ⟨es, h1, h2, h3⟩ := h; exact ⟨es, h1, h2, h3⟩
theorem NE.cons_inv (h : NE R es (l :: L)) : ∃ u rs fs, es = (u, rs) :: fs ∧ R rs u l ∧ NE R fs L := by
  cases es with
  | nil => have := h.1; simp at this
  | cons e t =>
    refine ⟨e.1, e.2, t, rfl, h.2 0 e l rfl rfl, ?_⟩
    exact ⟨by have := h.1; simp at this; omega, fun i x y hx hy => h.2 (i + 1) x y (by simpa using hx) (by simpa using hy)⟩
theorem NE.cons (h : NE R fs L) (h1 : R rs u l) : NE R ((u, rs) :: fs) (l :: L) := by
  refine ⟨by simp [h.1], fun i e x he hx => ?_⟩
  rcases i with _ | i
  · cases he; cases hx; exact h1
  · exact h.2 i e x (by simpa using he) (by simpa using hx)
end
theorem Rows.bx {w : World} {lo : Nat} {rs : List Row} (h : Rows w lo rs) (hl : lo ≤ w.heap.size) (cs : Array Value) (T : TypeId) (d : Nat) (hd : cs.size = d) : Rows (w.alloc (.cells cs T)) lo ([bxRow T d w.heap.size cs.toList] ++ rs) :=
  h.newer ((Below.refl _ _).alloc (Nat.le_refl _) _) (Rows.box w cs T d hd) hl
theorem Rows.lit {w : World} {lo : Nat} {rs : List Row} (h : Rows w lo rs) (hl : lo ≤ w.heap.size) (cs : Array Value) (T : TypeId) (n : Nat) (hn : cs.size = n) (hm : n ≤ 1000) : Rows (w.alloc (.cells cs T)) lo (⟨T, 1, n, .slice (some ⟨w.heap.size, 0, none⟩) n n, cs.toList⟩ :: rs) :=
  h.newer ((Below.refl _ _).alloc (Nat.le_refl _) _) (Rows.one (r := ⟨T, 1, n, .slice (some ⟨w.heap.size, 0, none⟩) n n, cs.toList⟩) (World.ownsRow_lit w cs n (Nat.le_refl _) (by unfold maxLen; omega) (by rw [hn, Nat.mul_one]))) hl
theorem perm3 (a b c d : List Row) : (a ++ (b ++ (c ++ d))).Perm (c ++ (a ++ (b ++ d))) :=
  (List.Perm.append_left a (List.perm_append_comm_assoc b c d)).trans (List.perm_append_comm_assoc a c (b ++ d))
theorem Rows.nilrow {w : World} {lo : Nat} {r : Row} {rs : List Row} (h : Rows w lo (r :: rs)) (T : TypeId) : Rows w lo (r :: ⟨T, 1, 0, .slice none 0 0, []⟩ :: rs) := (h.cons_nil (T := T) (d := 1)).perm (List.Perm.swap _ _ _)

/-- rows in another order, some let go: J tells which, in order -/
def cat (L : List (List Row)) : List Nat → List Row
  | [] => []
  | [i] => L.getD i []
  | i :: j :: t => L.getD i [] ++ cat L (j :: t)
theorem cat_flat (L : List (List Row)) : ∀ J : List Nat, cat L J = J.flatMap fun i => L.getD i []
  | [] => rfl
  | [i] => by simp [cat]
  | i :: j :: t => by rw [cat, cat_flat L (j :: t), List.flatMap_cons, List.flatMap_cons, List.flatMap_cons]
theorem filter_flat (p : Nat → Bool) (f : Nat → List Row) : ∀ I : List Nat, ((I.filter p).flatMap f).Sublist (I.flatMap f)
  | [] => by simp
  | a :: t => by
    rw [List.filter_cons]
    split
    · rw [List.flatMap_cons, List.flatMap_cons]; exact (List.Sublist.refl _).append (filter_flat p f t)
    · rw [List.flatMap_cons]; exact (filter_flat p f t).trans (List.sublist_append_right _ _)
theorem Rows.re {w : World} {lo : Nat} {L : List (List Row)} {I J : List Nat} (h : Rows w lo (cat L I)) (hj : (J.isPerm (I.filter fun i => J.contains i)) = true) : Rows w lo (cat L J) := by
  rw [cat_flat] at h ⊢
  have h1 : Rows w lo ((I.filter fun i => J.contains i).flatMap fun i => L.getD i []) := h.sub (filter_flat _ _ _)
  exact h1.perm ((List.isPerm_iff.1 hj).symm.flatMap_right _)
section
variable {w : World} {lo : Nat} {a b c d e f g : List Row}
theorem Rows.re3 (h : Rows w lo (a ++ (b ++ c))) (J : List Nat) (hj : (J.isPerm ([0, 1, 2].filter fun i => J.contains i)) = true) : Rows w lo (cat [a, b, c] J) := Rows.re (L := [a, b, c]) (I := [0, 1, 2]) h hj
theorem Rows.re4 (h : Rows w lo (a ++ (b ++ (c ++ d)))) (J : List Nat) (hj : (J.isPerm ([0, 1, 2, 3].filter fun i => J.contains i)) = true) : Rows w lo (cat [a, b, c, d] J) := Rows.re (L := [a, b, c, d]) (I := [0, 1, 2, 3]) h hj
theorem Rows.re5 (h : Rows w lo (a ++ (b ++ (c ++ (d ++ e))))) (J : List Nat) (hj : (J.isPerm ([0, 1, 2, 3, 4].filter fun i => J.contains i)) = true) : Rows w lo (cat [a, b, c, d, e] J) := Rows.re (L := [a, b, c, d, e]) (I := [0, 1, 2, 3, 4]) h hj
theorem Rows.re6 (h : Rows w lo (a ++ (b ++ (c ++ (d ++ (e ++ f)))))) (J : List Nat) (hj : (J.isPerm ([0, 1, 2, 3, 4, 5].filter fun i => J.contains i)) = true) : Rows w lo (cat [a, b, c, d, e, f] J) := Rows.re (L := [a, b, c, d, e, f]) (I := [0, 1, 2, 3, 4, 5]) h hj
theorem Rows.re7 (h : Rows w lo (a ++ (b ++ (c ++ (d ++ (e ++ (f ++ g))))))) (J : List Nat) (hj : (J.isPerm ([0, 1, 2, 3, 4, 5, 6].filter fun i => J.contains i)) = true) : Rows w lo (cat [a, b, c, d, e, f, g] J) := Rows.re (L := [a, b, c, d, e, f, g]) (I := [0, 1, 2, 3, 4, 5, 6]) h hj
end
end Go.Proofs.YtlifaeleoiodkaaGreatDoor
