/-
  TREES copied: the model's copyHandler, copyTree.
-/
import Derived.Test.YtegknepdobmbnaaC3
namespace Go.Proofs.Ytegknepdobmbnaa
open Go.RowKit Nm
set_option linter.unusedSimpArgs false
set_option linter.unusedVariables false

/-- the append of a whole slice to a fresh empty one, as a run, in a region that has drawn its order -/
theorem run_appSlD {P : Program} (w : World) (t : TypeId) (e : TypeId) (i : TypeInfo) (z : Value) (size bytes : Nat) (ht : P.underlying t = some (.slice e)) (hi : P.info? e = some i) (hz : i.zero = some z)
    (hsize : i.size = size) (hby : i.bytes = bytes) (hzs : z.cells.size = size) (hsz : 0 < size)
    (B m : Nat) (src : Value) (ys : List Value) (hsl : Sl w B size m src ys) (hB : B ≤ w.heap.size) (h1 : ∀ u ∈ ys, u.oneCell' = true) (h63 : m ≤ maxLen) (hbytes : m * bytes ≤ 140737488355328) :
    ∃ v' w', (Builtin.append_ #[t, t] t #[.slice (some ⟨w.heap.size, 0, none⟩) 0 0, src]).run P (w.alloc (.cells #[] e)).drew = .ok v' w' ∧ w'.ownsRow w.heap.size e size v' m ys ∧ Below w.heap.size w w' := by
  have hlit : (w.alloc (.cells #[] e)).drew.ownsRow w.heap.size e size (.slice (some ⟨w.heap.size, 0, none⟩) 0 0) 0 [] := (World.ownsRow_lit w #[] 0 (Nat.le_refl _) (by unfold maxLen; omega) (by simp) : (w.alloc (.cells #[] e)).ownsRow _ e size _ _ _).drew
  have hsl' : Sl (w.alloc (.cells #[] e)).drew B size m src ys := hsl.below (((Below.refl w.heap.size w).alloc (Nat.le_refl _) _).drew) hB
  have hb0 : Below w.heap.size w (w.alloc (.cells #[] e)).drew := ((Below.refl w.heap.size w).alloc (Nat.le_refl _) _).drew
  obtain ⟨hl, A, c, rfl, hmc, hcm, hA⟩ := hsl'
  cases A with
  | some ad =>
    obtain ⟨v', w', h2, h3, h4, _, h6⟩ := run_append_own_at (P := P) (w := (w.alloc (.cells #[] e)).drew) w.heap.size t t e i z size bytes ht hi hz hsize hby hzs hsz _ 0 [] hlit ad m c ys hl (by
      intro j u hu
      have hj := (List.getElem?_eq_some_iff.1 hu).1
      have hm0 : 0 < m := by
        rcases Nat.eq_zero_or_pos m with h0 | h0
        · subst h0; rw [Nat.zero_mul] at hl; omega
        · exact h0
      obtain ⟨b, o', e1, _, hc⟩ := hA hm0
      have e2 : ad = ⟨b, o', none⟩ := Option.some.inj e1
      subst e2
      rw [Addr.add_lit]; exact hc j u hu) h1 (by omega) (by rw [Nat.zero_add]; exact hbytes) (by simp)
    exact ⟨v', w', h2, by simpa using h3, hb0.grown h4 (by simp) (own_lt hlit)⟩
  | none =>
    have hm0 : m = 0 := by
      rcases Nat.eq_zero_or_pos m with h0 | h0
      · exact h0
      · obtain ⟨b, o', e1, _⟩ := hA h0; cases e1
    subst hm0
    have hy : ys = [] := List.eq_nil_of_length_eq_zero (by rw [hl, Nat.zero_mul])
    subst hy
    exact ⟨_, _, run_app_none (P := P) w.heap.size t t e i size c ht hi _ 0 [] hlit, hlit, hb0⟩

/-- the append of one element as a run -/
theorem run_app1P {P : Program} (w : World) (t : TypeId) (base : Nat) (e : TypeId) (i : TypeInfo) (z : Value) (size bytes : Nat) (ht : P.underlying t = some (.slice e)) (hi : P.info? e = some i) (hz : i.zero = some z)
    (hsize : i.size = size) (hby : i.bytes = bytes) (hzs : z.cells.size = size) (hsz : 0 < size)
    (v : Value) (n : Nat) (xs : List Value) (hown : w.ownsRow base e size v n xs) (us : List Value) (te : TypeId) (hl : us.length = size) (h1 : ∀ u ∈ us, u.oneCell' = true)
    (h63 : n + 1 ≤ maxLen) (hbytes : (n + 1) * bytes ≤ 140737488355328) (hbase : base ≤ w.heap.size) :
    ∃ v' w', (Builtin.append_ #[t, t] t #[v, .slice (some ⟨w.heap.size, 0, none⟩) 1 1]).run P (w.alloc (.cells us.toArray te)) = .ok v' w' ∧ w'.ownsRow base e size v' (n + 1) (xs ++ us) ∧ w.grownBy w' v.ownBlock ∧ (v'.ownBlock = v.ownBlock ∨ v'.ownBlock = some (w.heap.size + 1)) := by
  obtain ⟨v', w', h2, h3, h4, _, h6⟩ := run_append_own_at (P := P) (w := w.alloc (.cells us.toArray te)) base t t e i z size bytes ht hi hz hsize hby hzs hsz v n xs (hown.alloc _) ⟨w.heap.size, 0, none⟩ 1 1 us (by rw [hl, Nat.one_mul])
    (many_new w us te) h1 h63 hbytes (by simp; omega)
  exact ⟨v', w', h2, h3, grown_tr (World.grownBy_alloc w _ _) h4, by simpa using h6⟩
/-- a row grows by an append: the others stand, and stand apart -/
theorem Rows.app {w w' : World} {lo d' n' : Nat} {T' : TypeId} {r : Row} {v' : Value} {xs' : List Value} {pre post : List Row} (h : Rows w lo (pre ++ r :: post)) (hg : w.grownBy w' r.v.ownBlock) (ho : w'.ownsRow lo T' d' v' n' xs') (hloc : v'.ownBlock = r.v.ownBlock ∨ v'.ownBlock = some (w.heap.size + 1)) :
    Rows w' lo (pre ++ ⟨T', d', n', v', xs'⟩ :: post) := by
  have hp := List.pairwise_append.1 h.2
  have hp2 := List.pairwise_cons.1 hp.2.1
  have ap : ∀ x ∈ pre ++ post, x.apart r → x.own w lo → x.apart ⟨T', d', n', v', xs'⟩ := fun x _ hx hxo => by
    rcases hloc with e | e
    · exact ⟨by rw [show (⟨T', d', n', v', xs'⟩ : Row).v = v' from rfl, e]; exact hx.1, by rw [show (⟨T', d', n', v', xs'⟩ : Row).v = v' from rfl, e]; exact hx.2⟩
    · constructor
      · cases hq : x.v.ownBlock with
        | none => exact .inl rfl
        | some g => right; intro e2; have := (hxo.lt g hq).2; rw [show (⟨T', d', n', v', xs'⟩ : Row).v = v' from rfl, e] at e2; have : g = w.heap.size + 1 := Option.some.inj e2; omega
      · right; intro e2
        rw [show (⟨T', d', n', v', xs'⟩ : Row).v = v' from rfl, e] at e2
        have := (hxo.lt _ e2.symm).2
        omega
  have own1 : ∀ x ∈ pre, x.own w lo := fun x hx => h.1 x (by simp [hx])
  have own2 : ∀ x ∈ post, x.own w lo := fun x hx => h.1 x (by simp [hx])
  refine ⟨fun x hx => ?_, ?_⟩
  · rcases List.mem_append.1 hx with hx | hx
    · exact (own1 x hx).kept hg (hp.2.2 x hx r (by simp)).1
    · rcases List.mem_cons.1 hx with rfl | hx
      · exact ho
      · exact (own2 x hx).kept hg (hp2.1 x hx).2
  · refine List.pairwise_append.2 ⟨hp.1, List.pairwise_cons.2 ⟨fun b hb => ?_, hp2.2⟩, fun a ha b hb => ?_⟩
    · exact (ap b (by simp [hb]) (hp2.1 b hb).symm (own2 b hb)).symm
    · rcases List.mem_cons.1 hb with rfl | hb
      · exact ap a (by simp [ha]) (hp.2.2 a ha r (by simp)) (own1 a ha)
      · exact hp.2.2 a ha b (by simp [hb])
theorem Rows.boxset {w : World} {lo d b j : Nat} {T : TypeId} {cs : List Value} {u : Value} {pre post : List Row} (h : Rows w lo (pre ++ [bxRow T d b cs] ++ post)) : Rows (w.setCell ⟨b, j, none⟩ u) lo (pre ++ [bxRow T d b (cs.set j u)] ++ post) := by
  have ho : w.ownsRow lo T d (.slice (some ⟨b, 0, none⟩) 1 1) 1 cs := h.1 (bxRow T d b cs) (by simp)
  have hs := ho.stored j u
  rw [List.append_assoc] at h ⊢
  exact Rows.write (r := bxRow T d b cs) h hs.2 hs.1
theorem Rows.bcell2 {w : World} {lo d b q : Nat} {T : TypeId} {cs : List Value} {pre post : List Row} {u : Value} (h : Rows w lo (pre ++ [bxRow T d b cs] ++ post)) (hu : cs[q]? = some u) : w.cell? ⟨b, q, none⟩ = some u ∧ w.frozen? ⟨b, q, none⟩ = false ∧ b < w.heap.size := by
  have ho : w.ownsRow lo T d (.slice (some ⟨b, 0, none⟩) 1 1) 1 cs := h.1 (bxRow T d b cs) (by simp)
  have hlt := (List.getElem?_eq_some_iff.1 hu).1
  exact ⟨(ho.cellAt q (by have := ho.1; omega)).trans hu, ho.frozenAt q, (ho.lt b rfl).2⟩

set_option maxHeartbeats 4000000 in
set_option maxRecDepth 100000 in
theorem specCopyHandler_c (s : ByteArray) (lv : Int) (A : Option Addr) (n c B : Nat) (fs : List Flt) (w : World) (hv : Sl w B 3 n (.slice A n c) (fsCells fs)) (hB : B ≤ w.heap.size) (hn : n ≤ 1048576) :
    Calls Try.prog 63 #[.agg #[.string s, .int .i64 lv, .slice A n c]] w (fun e w' => ∃ v', e = .returned (.agg #[.string s, .int .i64 lv, v']) ∧ w'.ownsRow w.heap.size 106 3 v' n (fsCells fs) ∧ Below w.heap.size w w') := by
  obtain ⟨i0, hi, hz0, hz1, hz2⟩ := info_parts Try.infoFlt
  have hW : Below w.heap.size w ((w.alloc (.cells #[.string s, .int .i64 lv, .slice A n c] 82)).alloc (.cells #[.string ByteArray.empty, .int .i64 0, .slice none 0 0] 82)) := ((Below.refl _ _).alloc (Nat.le_refl _) _).alloc (by simp) _
  obtain ⟨v', w4, hrun, ho, hb⟩ := run_appSlD (P := Try.prog) ((w.alloc (.cells #[.string s, .int .i64 lv, .slice A n c] 82)).alloc (.cells #[.string ByteArray.empty, .int .i64 0, .slice none 0 0] 82)) 51 106 i0 _ 3 32 Try.underlying51 hi hz0 hz1 hz2 rfl (by decide) B n _ _ (hv.below hW hB) (Nat.le_trans hB hW.size) (flts_one fs) (by unfold maxLen; omega) (by omega)
  simp only [World.size_alloc] at hrun
  have HR := hid hrun
  obtain ⟨A3, c3, rfl, _, _⟩ := (Sl.of_own ho).form
  have K0 := hid (((Blk.new w #[.string s, .int .i64 lv, .slice A n c] 82).alloc (.cells #[.string ByteArray.empty, .int .i64 0, .slice none 0 0] 82)).to hb)
  have K1 := hid ((Blk.new (w.alloc (.cells #[.string s, .int .i64 lv, .slice A n c] 82)) #[.string ByteArray.empty, .int .i64 0, .slice none 0 0] 82).to hb)
  simp only [World.size_alloc] at K1
  have HO := hid (own_base ho (base' := w.heap.size + 2) (by simp))
  have HB := hid (hW.trans (hb.mono (by simp; omega)))
  have hsz : w.heap.size + 2 ≤ w4.heap.size := by have := hb.size; simp at this; omega
  have S4 := hid (And.intro (K0.out.2 0 _ rfl).1 (And.intro (K0.out.2 1 _ rfl).1 (K0.out.2 2 _ rfl).1))
  obtain ⟨q0c, q0f⟩ := K1.out.2 0 _ rfl
  obtain ⟨q1c, q1f⟩ := K1.out.2 1 _ rfl
  obtain ⟨q2c, q2f⟩ := K1.out.2 2 _ rfl
  clear hv hrun ho hb hW
  go_enter Try.func63, Try.ntmps63
  go_wp2_with fail
  go_region_held3 (fun w' => w'.cell? ⟨w.heap.size, 0, none⟩ = some (.string s) ∧ w'.cell? ⟨w.heap.size, 1, none⟩ = some (.int .i64 lv) ∧ w'.cell? ⟨w.heap.size, 2, none⟩ = some (.slice A n c)) (first | exact S4.out | go_keep) (first | (refine wp_app rfl (by rfl) (by rfl) HR.out ?_))
  go_wp2_with fail
  have RB := ((K1.out.set 0 (.string s)).set 1 (.int .i64 lv)).set 2 (.slice A3 n c3)
  have f0 := (RB.2 0 _ rfl).1
  have f1 := (RB.2 1 _ rfl).1
  have f2 := (RB.2 2 _ rfl).1
  refine bodyPost_ret (v := .agg #[.string s, .int .i64 lv, .slice A3 n c3]) (by simp [results, Try.results63, go_sem, f0, f1, f2]) rfl ?_
  refine ⟨_, rfl, ?_, ?_⟩
  · refine own_base ?_ (show w.heap.size ≤ w.heap.size + 2 by omega)
    iterate 3 refine own_set_low ?_ (by omega)
    exact HO.out
  · iterate 3 refine Below.setCell ?_ (by simp) _
    exact HB.out
end Go.Proofs.Ytegknepdobmbnaa
