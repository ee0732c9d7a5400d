/-
  NEST: slices of slices that grow; copyLists of both.
-/
import Derived.Test.YtoiagfdhanhnkaaF5
import Derived.Laws.IdiomCopy
namespace Go.Proofs.Ytoiagfdhanhnkaa
open Go.RowKit Nm
set_option linter.unusedSimpArgs false
set_option linter.unusedVariables false

theorem Rows.app4 {w w' : World} {lo : Nat} {r r' : Row} {pre post : List Row} (h : Rows w lo (pre ++ r :: post)) (hg : w.grownBy w' r.v.ownBlock) (ho : r'.own w' lo) (hloc : ∀ z, r'.v.ownBlock = some z → r.v.ownBlock = some z ∨ w.heap.size ≤ z) :
    Rows w' lo (pre ++ r' :: post) := by
  have hp := List.pairwise_append.1 h.2
  have hp2 := List.pairwise_cons.1 hp.2.1
  have ap : ∀ x : Row, x.apart r → x.own w lo → x.apart r' := fun x hx hxo => by
    constructor
    · cases hq : x.v.ownBlock with
      | none => exact .inl rfl
      | some g =>
        right; intro e2
        rcases hloc g e2.symm with e | e
        · rcases hx.1 with h0 | h0
          · rw [hq] at h0; cases h0
          · exact h0 (hq.trans e.symm)
        · have := (hxo.lt g hq).2; omega
    · cases hq : r'.v.ownBlock with
      | none => exact .inl rfl
      | some g =>
        right; intro e2
        rcases hloc g hq with e | e
        · rcases hx.2 with h0 | h0
          · rw [e] at h0; cases h0
          · exact h0 (e.trans e2)
        · have := (hxo.lt g e2.symm).2; omega
  have own1 : ∀ x ∈ pre, x.own w lo := fun x hx => h.1 x (by simp [hx])
  have own2 : ∀ x ∈ post, x.own w lo := fun x hx => h.1 x (by simp [hx])
  refine ⟨fun x hx => ?_, ?_⟩
  · rcases List.mem_append.1 hx with hx | hx
    · exact (own1 x hx).kept hg (hp.2.2 x hx r (by simp)).1
    · rcases List.mem_cons.1 hx with rfl | hx
      · exact ho
      · exact (own2 x hx).kept hg (hp2.1 x hx).2
  · refine List.pairwise_append.2 ⟨hp.1, List.pairwise_cons.2 ⟨fun b hb => ?_, hp2.2⟩, fun a ha b hb => ?_⟩
    · exact (ap b (hp2.1 b hb).symm (own2 b hb)).symm
    · rcases List.mem_cons.1 hb with rfl | hb
      · exact ap a (hp.2.2 a ha r (by simp)) (own1 a ha)
      · exact hp.2.2 a ha b (by simp [hb])
theorem own_cutN {w : World} {lo size n cap g : Nat} {e : TypeId} {xs : List Value} (h : w.ownsRow lo e size (.slice (some ⟨g, 0, none⟩) n cap) n xs) {k : Nat} (hk : k ≤ n) : w.ownsRow lo e size (.slice (some ⟨g, 0, none⟩) k cap) k (xs.take (k * size)) := by
  have h1 := h.1
  have h3 : k * size ≤ n * size := Nat.mul_le_mul_right _ hk
  rcases h.2 with ⟨h', _⟩ | ⟨g', cap', cur, h', hb, hg, hnc, hcm, hcs, ht⟩
  · simp at h'
  · simp only [Value.slice.injEq, Option.some.injEq, Addr.mk.injEq, and_true, true_and] at h'
    obtain ⟨rfl, rfl⟩ := h'
    refine ⟨by rw [List.length_take, h1]; exact Nat.min_eq_left h3, .inr ⟨g, cap, cur, rfl, hb, hg, by omega, hcm, hcs, ?_⟩⟩
    rw [← ht, List.take_take, Nat.min_eq_left h3]
/-- a call of append whose run is known, in a region that goes as it is written -/
theorem wpList_runB {P : Program} {ops : Array Oper} {rest : List Oper} {o : Oper} {a : Act} {w w' : World} {Q : Exit → Act → World → Prop} {v v' src : Value} {t : TypeId} {s x : Operand} (hg : o.guard = none)
    (ho : o.op = .call { callee := .builtin .append, args := #[s, x], argTypes := #[t, t] }) (hs : a.eval s = v) (hx : a.eval x = src)
    (hrun : (Builtin.append_ #[t, t] o.type #[v, src]).run P w = .ok v' w') (h : wpList P ops Q rest (a.put o.dst v') w') : wpList P ops Q (o :: rest) a w :=
  wpList_plain hg fun K hK => wp_app ho hs hx hrun (hK _ _ h)
theorem wpList_copyB {P : Program} (w : World) {ops : Array Oper} {rest : List Oper} {o : Oper} {a : Act} {Q : Exit → Act → World → Prop} (hgd : o.guard = none) (d s : Operand) (t : TypeId)
    (ho : o.op = .call { callee := .builtin .copy, args := #[d, s], argTypes := #[t, t] }) (v u : Value) (hd : a.eval d = v) (hs : a.eval s = u) {v' : Value} {w' : World}
    (hr : (Builtin.copy_ #[t, t] o.type #[v, u]).run P w = .ok v' w') (h : wpList P ops Q rest (a.put o.dst v') w') : wpList P ops Q (o :: rest) a w :=
  wpList_plain hgd fun K hK => by
    unfold Oper.wp execOp
    simp only [ho, resolve, invoke, builtin, Sem.run_bind, Sem.run_pure, Result.andThen_ok, List.map_toArray, List.map_cons, List.map_nil, hd, hs, hr]
    exact hK _ _ h

section
variable {D : Type} {R : List Row → Value → D → Prop} {es fs : List Cell2} {L M : List D} {u : Value} {rs : List Row} {l : D} {k : Nat} {T : TypeId} {v : Value}
def NE (R : List Row → Value → D → Prop) (es : List Cell2) (L : List D) : Prop := es.length = L.length ∧ ∀ (i : Nat) (e : Cell2) (l : D), es[i]? = some e → L[i]? = some l → R e.2 e.1 l
theorem NE.nil : NE R [] ([] : List D) := ⟨rfl, fun i e l h => by simp at h⟩
theorem NE.snoc (h : NE R es L) (h1 : R rs u l) : NE R (es ++ [(u, rs)]) (L ++ [l]) := by
  refine ⟨by simp [h.1], fun i e x he hx => ?_⟩
  by_cases hi : i < es.length
  · rw [List.getElem?_append_left hi] at he
    rw [List.getElem?_append_left (by rw [← h.1]; exact hi)] at hx
    exact h.2 i e x he hx
  · have hi2 : i = es.length := by have := (List.getElem?_eq_some_iff.1 he).1; simp at this; omega
    subst hi2
    rw [List.getElem?_append_right (Nat.le_refl _), Nat.sub_self] at he
    rw [List.getElem?_append_right (by rw [h.1]; exact Nat.le_refl _), h.1, Nat.sub_self] at hx
    cases he; cases hx
    exact h1
theorem NE.app (h : NE R es L) (h1 : NE R fs M) : NE R (es ++ fs) (L ++ M) := by
  refine ⟨by simp [h.1, h1.1], fun i e x he hx => ?_⟩
  by_cases hi : i < es.length
  · rw [List.getElem?_append_left hi] at he
    rw [List.getElem?_append_left (by rw [← h.1]; exact hi)] at hx
    exact h.2 i e x he hx
  · rw [List.getElem?_append_right (by omega)] at he
    rw [List.getElem?_append_right (by have := h.1; omega), ← h.1] at hx
    exact h1.2 _ e x he hx
theorem NE.take (h : NE R es L) : NE R (es.take k) (L.take k) := by
  refine ⟨by rw [List.length_take, List.length_take, h.1], fun i e x he hx => ?_⟩
  have hi : i < k := by have := (List.getElem?_eq_some_iff.1 he).1; rw [List.length_take] at this; omega
  rw [List.getElem?_take_of_lt hi] at he hx
  exact h.2 i e x he hx
theorem NE.toR (h : NE R es L) : NestR T R (nestRows T v es) v L := ⟨es, rfl, h.1, h.2⟩
theorem NestR.ne (h : NestR T R rs v L) : ∃ es, rs = nestRows T v es ∧ NE R es L := by obtain ⟨es, h1, h2, h3⟩ := h; exact ⟨es, h1, h2, h3⟩
theorem NE.cons_inv (h : NE R es (l :: L)) : ∃ u rs fs, es = (u, rs) :: fs ∧ R rs u l ∧ NE R fs L := by
  cases es with
  | nil => have := h.1; simp at this
  | cons e t =>
    refine ⟨e.1, e.2, t, rfl, h.2 0 e l rfl rfl, ?_⟩
    exact ⟨by have := h.1; simp at this; omega, fun i x y hx hy => h.2 (i + 1) x y (by simpa using hx) (by simpa using hy)⟩
theorem NE.cons (h : NE R fs L) (h1 : R rs u l) : NE R ((u, rs) :: fs) (l :: L) := by
  refine ⟨by simp [h.1], fun i e x he hx => ?_⟩
  rcases i with _ | i
  · cases he; cases hx; exact h1
  · exact h.2 i e x (by simpa using he) (by simpa using hx)
end
theorem below_grown {base : Nat} {w w' w'' : World} {row : Option Nat} (h : Below base w w') (hg : w'.grownBy w'' row) (hb : base ≤ w'.heap.size) (hr : ∀ k, row = some k → base ≤ k) : Below base w w'' := h.grown hg hb hr
/-- an inner value more, whose rows lie there already -/
theorem nest_app1 {w : World} {lo : Nat} {A : Option Addr} {n c : Nat} {u : Value} {es : List Cell2} {rs rest : List Row} (h : Rows w lo (nestRows 35 (.slice A n c) es ++ (rs ++ rest))) (hn : es.length = n) (hu : u.oneCell' = true) (hlo : lo ≤ w.heap.size) (hm : n ≤ 1048576) (te : TypeId) :
    ∃ A' c' w', (Builtin.append_ #[22, 22] 22 #[.slice A n c, .slice (some ⟨w.heap.size, 0, none⟩) 1 1]).run Try.prog (w.alloc (.cells #[u] te)) = .ok (.slice A' (n + 1) c') w' ∧
      Below lo w w' ∧ Rows w' lo (nestRows 35 (.slice A' (n + 1) c') (es ++ [(u, rs)]) ++ rest) ∧ lo ≤ w'.heap.size := by
  subst hn
  obtain ⟨i0, hi, hz0, hz1, hz2⟩ := info_parts Try.infoStrss
  have htop : w.ownsRow lo 35 1 (.slice A es.length c) es.length (heads es) := h.1 ⟨35, 1, es.length, .slice A es.length c, heads es⟩ (by simp [nestRows])
  obtain ⟨v5, w4, hrun, ho4, hg4, hloc⟩ := run_app1P (P := Try.prog) w 22 lo 35 i0 _ 1 24 Try.underlying22 hi hz0 hz1 hz2 rfl (by decide) _ es.length _ htop [u] te rfl (fun x hx => by rw [List.mem_singleton.1 hx]; exact hu) (by unfold maxLen; omega) (by omega) hlo
  obtain ⟨A5, c5, rfl, _, _⟩ := (Sl.of_own ho4).form
  refine ⟨A5, c5, w4, hrun, (Below.refl lo w).grown hg4 hlo (own_lt htop), ?_, Nat.le_trans hlo hg4.size⟩
  have h1 := Rows.app4 (pre := []) (post := inner es ++ (rs ++ rest)) (r := ⟨35, 1, es.length, .slice A es.length c, heads es⟩) (r' := ⟨35, 1, es.length + 1, .slice A5 (es.length + 1) c5, heads es ++ [u]⟩) (by simpa [nestRows] using h) hg4 ho4 (fun z hz => by
    rcases hloc with e | e
    · left; rw [← e]; exact hz
    · right; have hz' : (Value.slice A5 (es.length + 1) c5).ownBlock = some z := hz; rw [e] at hz'; have : w.heap.size + 1 = z := Option.some.inj hz'; omega)
  have e1 : inner (es ++ [(u, rs)]) = inner es ++ rs := by rw [inner_append]; simp [inner]
  have e2 : heads (es ++ [(u, rs)]) = heads es ++ [u] := by simp [heads]
  unfold nestRows
  rw [e1, e2, List.length_append]
  simpa using h1
/-- inner values more, copied from a slice of our own that is let go -/
theorem nest_appN {w : World} {lo : Nat} {A A2 : Option Addr} {n c m c2 : Nat} {es fs : List Cell2} {rest : List Row} (h : Rows w lo (nestRows 35 (.slice A n c) es ++ (nestRows 35 (.slice A2 m c2) fs ++ rest))) (hn : es.length = n) (hm : fs.length = m) (hlo : lo ≤ w.heap.size) (hb : n + m ≤ 1048576) (h1 : ∀ u ∈ heads fs, u.oneCell' = true) :
    ∃ A' c' w', (Builtin.append_ #[22, 22] 22 #[.slice A n c, .slice A2 m c2]).run Try.prog w = .ok (.slice A' (n + m) c') w' ∧
      Below lo w w' ∧ Rows w' lo (nestRows 35 (.slice A' (n + m) c') (es ++ fs) ++ rest) ∧ lo ≤ w'.heap.size := by
  subst hn hm
  obtain ⟨i0, hi, hz0, hz1, hz2⟩ := info_parts Try.infoStrss
  have htop : w.ownsRow lo 35 1 (.slice A es.length c) es.length (heads es) := h.1 ⟨35, 1, es.length, .slice A es.length c, heads es⟩ (by simp [nestRows])
  have hsrc : w.ownsRow lo 35 1 (.slice A2 fs.length c2) fs.length (heads fs) := h.1 ⟨35, 1, fs.length, .slice A2 fs.length c2, heads fs⟩ (by simp [nestRows])
  obtain ⟨v5, w4, hrun, ho4, hg4, hloc⟩ := run_appG (P := Try.prog) w 22 lo 35 i0 _ 1 24 Try.underlying22 hi hz0 hz1 hz2 rfl (by decide) _ es.length _ htop w.heap.size fs.length _ _ (Sl.of_own hsrc) h1 (by unfold maxLen; omega) (by omega) hlo
  obtain ⟨A5, c5, rfl, _, _⟩ := (Sl.of_own ho4).form
  refine ⟨A5, c5, w4, hrun, (Below.refl lo w).grown hg4 hlo (own_lt htop), ?_, Nat.le_trans hlo hg4.size⟩
  have h2 : Rows w lo (⟨35, 1, es.length, .slice A es.length c, heads es⟩ :: (inner es ++ (inner fs ++ rest))) := by
    refine h.sub ?_
    simp only [nestRows, List.cons_append]
    refine List.Sublist.cons_cons _ ((List.Sublist.refl _).append ?_)
    exact List.sublist_cons_self _ _
  have h3 := Rows.app4 (pre := []) (post := inner es ++ (inner fs ++ rest)) (r := ⟨35, 1, es.length, .slice A es.length c, heads es⟩) (r' := ⟨35, 1, es.length + fs.length, .slice A5 (es.length + fs.length) c5, heads es ++ heads fs⟩) h2 hg4 ho4 (fun z hz => by
    rcases hloc with e | e
    · left; rw [← e]; exact hz
    · right; have hz' : (Value.slice A5 (es.length + fs.length) c5).ownBlock = some z := hz; rw [e] at hz'; have : w.heap.size = z := Option.some.inj hz'; omega)
  have e2 : heads (es ++ fs) = heads es ++ heads fs := by simp [heads]
  unfold nestRows
  rw [inner_append, e2, List.length_append]
  simpa using h3
/-- the last ones are let go -/
theorem nest_cut {w : World} {lo n c k : Nat} {A : Option Addr} {es : List Cell2} {rest : List Row} (h : Rows w lo (nestRows 35 (.slice A n c) es ++ rest)) (hn : es.length = n) (hk : k ≤ n) (hk0 : 0 < n) : Rows w lo (nestRows 35 (.slice A k c) (es.take k) ++ rest) := by
  subst hn
  have htop : w.ownsRow lo 35 1 (.slice A es.length c) es.length (heads es) := h.1 ⟨35, 1, es.length, .slice A es.length c, heads es⟩ (by simp [nestRows])
  obtain ⟨g, rfl, _⟩ := own_some htop hk0
  have hc := own_cutN htop hk
  rw [Nat.mul_one] at hc
  have hl : (es.take k).length = k := by rw [List.length_take]; omega
  have e2 : heads (es.take k) = (heads es).take k := by simp [heads, List.map_take]
  have h2 : Rows w lo (⟨35, 1, es.length, .slice (some ⟨g, 0, none⟩) es.length c, heads es⟩ :: (inner (es.take k) ++ rest)) := by
    refine h.sub ?_
    simp only [nestRows, List.cons_append]
    refine List.Sublist.cons_cons _ (List.Sublist.append ?_ (List.Sublist.refl _))
    conv => rhs; rw [← List.take_append_drop k es, inner_append]
    exact List.sublist_append_left _ _
  have h3 := Rows.app4 (w' := w) (pre := []) (post := inner (es.take k) ++ rest) (r := ⟨35, 1, es.length, .slice (some ⟨g, 0, none⟩) es.length c, heads es⟩) (r' := ⟨35, 1, k, .slice (some ⟨g, 0, none⟩) k c, (heads es).take k⟩) h2 (World.grownBy.refl _ _) hc (fun z hz => .inl hz)
  unfold nestRows
  rw [e2, hl]
  simpa using h3
theorem StrsR.own {rs : List Row} {v : Value} {l : TxtL} {w : World} {lo : Nat} (h : StrsR rs v l) (hr : Rows w lo rs) : w.ownsRow lo 9 1 v l.length (l.map txt) := by subst h; exact hr.head

set_option maxHeartbeats 4000000 in
set_option maxRecDepth 100000 in
theorem specCopyLists_c {v : Value} {B : Nat} {L : StrssD} {w : World} (h : StrssIn w B v L) (hB : B ≤ w.heap.size) (hn0 : L.length ≤ 1000) :
    Calls Try.prog 46 #[v] w (StrssPost w L) := by
  obtain ⟨A, c, rfl, hnc, hcm⟩ := h.1.form
  unfold maxLen at hcm
  generalize hnn : L.length = n at *
  have HU := hid (And.intro h hnn)
  have HL := hid (World.ownsRow_lit (e := 35) (size := 1) (base := w.heap.size) w #[] 0 (Nat.le_refl _) (by unfold maxLen; omega) (by simp))
  have HB0 := hid (show Below w.heap.size w (w.alloc (.cells #[] 35)) from (Below.refl _ _).alloc (Nat.le_refl _) _)
  clear h hnn
  go_enter Try.func46, Try.ntmps46
  go_wp2_with fail
  generalize hw0 : w.alloc (.cells #[] 35) = w0 at *
  go_loopw [3, 4] (fun av iv wr => ∃ (k : Nat) (A5 : Option Addr) (c5 : Nat) (es : List Cell2), iv = .int .i64 k ∧ av = .slice A5 k c5 ∧ k ≤ n ∧ Hid (es.length = k ∧ NE StrsR es (L.take k)) ∧ Hid (Rows wr w.heap.size (nestRows 35 (.slice A5 k c5) es ++ [])) ∧ Hid (Below w.heap.size w wr)) (fun _ iv _ => n - (intOf iv).toNat)
  case atStart => exact ⟨0, _, _, [], rfl, rfl, Nat.zero_le _, ⟨rfl, by rw [List.take_zero]; exact NE.nil⟩, Rows.one HL.out, HB0.out⟩
  case round =>
    obtain ⟨k, A5, c5, es, rfl, rfl, hk, HE, HR, HB⟩ := hrel
    by_cases hlt : k < n
    · obtain ⟨b, o, u, l, rfl, hbB, hx, c0, hin⟩ := (HU.out.1.below HB.out hB).elem hlt
      obtain ⟨A', c', rfl, hnc', hcm'⟩ := hin.1.form
      unfold maxLen at hcm'
      have HX := hid hx
      have hb1 : Below wr.heap.size wr (wr.alloc (.cells #[] 9)) := (Below.refl _ _).alloc (Nat.le_refl _) _
      have HI := hid (hin.below hb1 (Nat.le_trans hB HB.out.size))
      have HL1 := hid (World.ownsRow_lit (e := 9) (size := 1) (base := wr.heap.size) wr #[] 0 (Nat.le_refl _) (by unfold maxLen; omega) (by simp))
      have hbl : ([] : TxtL).length + l.length ≤ 4194304 := by have := hin.2.1; unfold maxTxt at this; simp; omega
      have hbs : wr.heap.size ≤ (wr.alloc (.cells #[] 9)).heap.size := by simp
      have HB1 := hid hb1
      have c1 : (wr.alloc (.cells #[] 9)).cell? ⟨b, o + k, none⟩ = some (.slice A' l.length c') := (hb1.cell (p := ⟨b, o + k, none⟩) (Nat.lt_of_lt_of_le hbB (Nat.le_trans hB HB.out.size))).trans c0
      clear hx hin hb1
      go_wp2_with (at_builtin; refine appStrs _ rfl _ _ rfl wr.heap.size _ [] l (by rfl) HL1.out B _ (by rfl) HI.out.1 hbl hbs ?_)
      intro v' w' ho hb
      obtain ⟨A6, c6, rfl, _, _⟩ := (Sl.of_own ho).form
      have hR1 : Rows w' w.heap.size (nestRows 35 (.slice A5 k c5) es ++ ([⟨9, 1, l.length, .slice A6 l.length c6, l.map txt⟩] ++ [])) := by
        have h9 := HR.out.more (HB1.out.trans hb) (Rows.one (r := ⟨9, 1, l.length, .slice A6 l.length c6, l.map txt⟩) (show World.ownsRow _ _ _ _ _ _ _ by simpa using ho)) HB.out.size
        simpa using h9
      have HBw := hid (HB.out.trans ((HB1.out.trans hb).mono HB.out.size))
      obtain ⟨A7, c7, w5, hrun, hb5, hR5, _⟩ := nest_app1 (u := .slice A6 l.length c6) hR1 HE.out.1 rfl HBw.out.size (by omega) 35
      have HR5 := hid hR5
      have HRun := hid hrun
      have HB5 := hid (HBw.out.trans hb5)
      clear ho hb hR1 hrun hb5 hR5
      go_wp2_with (at_builtin; refine wpList_runB rfl rfl (by rfl) (by rfl) HRun.out ?_)
      go_roundw
      case rel =>
        refine ⟨k + 1, A7, c7, _, by go_num, rfl, by omega, ⟨by simp [HE.out.1], ?_⟩, HR5.out, HB5.out⟩
        rw [List.take_add_one, HX.out]
        exact HE.out.2.snoc rfl
      case measure => simp [intOf]; omega
    · obtain rfl : k = n := by omega
      go_wp2_with fail
      go_ret
      refine ⟨_, _, rfl, ?_, by have h9 := HR.out; rw [List.append_nil] at h9; exact h9, HB.out⟩
      have h9 := HE.out.2
      rw [List.take_of_length_le (by rw [HU.out.2]; exact Nat.le_refl _)] at h9
      exact h9.toR
end Go.Proofs.Ytoiagfdhanhnkaa
