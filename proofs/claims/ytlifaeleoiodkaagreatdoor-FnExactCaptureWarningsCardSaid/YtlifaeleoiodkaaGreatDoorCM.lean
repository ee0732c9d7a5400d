/-
  C1, C2, C3, C5, C6, C4, C7, C8, C9, C10, C11, C12 laid together.
-/
import Derived.Test.YtlifaeleoiodkaaGreatDoorMarks
import Derived.Test.YtlifaeleoiodkaaGreatDoorApp
/-
  TREES copied: the program's freshList, copyTree.
-/
namespace Go.Proofs.YtlifaeleoiodkaaGreatDoor
open Go.RowKit Nm
set_option linter.unusedSimpArgs false
set_option linter.unusedVariables false

theorem txts_one (l : List (List UInt8)) : ∀ u ∈ l.map txt, u.oneCell' = true := by
  intro u hu; obtain ⟨x, _, rfl⟩ := List.mem_map.1 hu; rfl
theorem flts_one (l : List Flt) : ∀ u ∈ fsCells l, u.oneCell' = true := by
  intro u hu
  obtain ⟨x, _, hx⟩ := List.mem_flatMap.1 hu
  simp only [fcells, List.mem_cons, List.not_mem_nil, or_false] at hx
  rcases hx with rfl | rfl | rfl <;> rfl
def sliceV (v : Value) : Prop := ∃ A n c, v = .slice A n c
theorem lgrs_one (l : List LgrV) (h : ∀ x ∈ l, sliceV x.hv ∧ sliceV x.fv) : ∀ u ∈ l.flatMap lcells, u.oneCell' = true := by
  intro u hu
  obtain ⟨x, hxm, hx⟩ := List.mem_flatMap.1 hu
  obtain ⟨⟨A, n, c, e1⟩, ⟨A', n', c', e2⟩⟩ := h x hxm
  simp only [lcells, List.mem_cons, List.not_mem_nil, or_false] at hx
  rcases hx with rfl | rfl | rfl | rfl | rfl | rfl <;> first | rfl | (rw [e1]; rfl) | (rw [e2]; rfl)
theorem hnds_one (l : List HndV) (h : ∀ x ∈ l, sliceV x.fv) : ∀ u ∈ l.flatMap hcells, u.oneCell' = true := by
  intro u hu
  obtain ⟨x, hxm, hx⟩ := List.mem_flatMap.1 hu
  obtain ⟨A', n', c', e2⟩ := h x hxm
  simp only [hcells, List.mem_cons, List.not_mem_nil, or_false] at hx
  rcases hx with rfl | rfl | rfl <;> first | rfl | (rw [e2]; rfl)

theorem Ls.slices {w : World} {B n : Nat} {v : Value} {l : List LgrV} (h : Ls w B n v l) : ∀ x ∈ l, sliceV x.hv ∧ sliceV x.fv := fun x hx => by
  obtain ⟨_, h2, h3⟩ := h.2 x hx
  obtain ⟨A, c, e, _, _⟩ := h2.1.form
  obtain ⟨A', c', e', _, _⟩ := h3.1.form
  exact ⟨⟨A, _, c, e⟩, ⟨A', _, c', e'⟩⟩
theorem Hs.slices {w : World} {B n : Nat} {v : Value} {l : List HndV} (h : Hs w B n v l) : ∀ x ∈ l, sliceV x.fv := fun x hx => by
  obtain ⟨_, h3⟩ := h.2 x hx
  obtain ⟨A', c', e', _, _⟩ := h3.1.form
  exact ⟨A', _, c', e'⟩
end Go.Proofs.YtlifaeleoiodkaaGreatDoor

/-
  TREES copied: the program's copyTree.
-/
namespace Go.Proofs.YtlifaeleoiodkaaGreatDoor
open Go.RowKit Nm
set_option linter.unusedSimpArgs false
set_option linter.unusedVariables false

theorem take_set {α : Type} {l : List α} {k : Nat} {x : α} (h : l[k]? = some x) (y : α) : (l.set k y).take (k + 1) = l.take k ++ [y] := by
  rw [List.take_add_one, set_at h, List.take_set_of_le (Nat.le_refl _)]; rfl
theorem lsOf_set {l : List LgrV} {k : Nat} {x y : LgrV} (h : l[k]? = some x) (e : y.l = x.l) : lsOf (l.set k y) = lsOf l := by
  unfold lsOf
  rw [List.map_set, e]
  refine List.ext_getElem? fun j => ?_
  by_cases hj : j = k
  · subst hj
    rw [List.getElem?_set_self (by rw [List.length_map]; exact (List.getElem?_eq_some_iff.1 h).1), List.getElem?_map, h]; rfl
  · rw [List.getElem?_set_ne (by omega)]
theorem hsOf_set {l : List HndV} {k : Nat} {x y : HndV} (h : l[k]? = some x) (e : y.h = x.h) : hsOf (l.set k y) = hsOf l := by
  unfold hsOf
  rw [List.map_set, e]
  refine List.ext_getElem? fun j => ?_
  by_cases hj : j = k
  · subst hj
    rw [List.getElem?_set_self (by rw [List.length_map]; exact (List.getElem?_eq_some_iff.1 h).1), List.getElem?_map, h]; rfl
  · rw [List.getElem?_set_ne (by omega)]
theorem perm_two (a b : Row) (l m : List Row) : ([a] ++ [b] ++ l ++ m).Perm (l ++ (m ++ [b, a])) := by
  have h1 : ([a] ++ [b] ++ l ++ m).Perm ((l ++ m) ++ [b, a]) := by
    rw [List.append_assoc]
    exact List.perm_append_comm.trans ((List.Perm.swap b a []).append_left _)
  simp only [List.append_assoc] at h1 ⊢
  exact h1
theorem flat_nil {α : Type} (l : List α) : l.flatMap (fun _ => ([] : List Row)) = [] := by
  induction l with
  | nil => rfl
  | cons a l ih => rw [List.flatMap_cons, ih]; rfl
theorem perm_one (a : Row) (p l m : List Row) : ([a] ++ p ++ l ++ m).Perm (p ++ l ++ (m ++ [a])) := by
  have h1 : ([a] ++ (p ++ l ++ m)).Perm ((p ++ l ++ m) ++ [a]) := List.perm_append_comm
  simp only [List.append_assoc] at h1 ⊢
  exact h1
theorem tree_small {L : List Lgr} {H : List Hnd} {q : Int} (h : treeOk L H q = true) : (∀ l ∈ L, l.fs.length ≤ 3) ∧ (∀ x ∈ H, x.fs.length ≤ 3) ∧ H.length ≤ 6 := by
  unfold treeOk lgrsOk hndsOk at h
  simp only [Bool.and_eq_true, decide_eq_true_eq, List.all_eq_true] at h
  obtain ⟨_, ⟨h1, h2, h3⟩, h4, _⟩ := h
  refine ⟨fun l hl => ?_, fun x hx => ?_, h3⟩
  · have := h4 l hl
    unfold lgrOk filtersOk at this
    simp only [Bool.and_eq_true, decide_eq_true_eq] at this
    exact this.2.2.1.2
  · have := h1 x hx
    unfold hndOk filtersOk at this
    simp only [Bool.and_eq_true, decide_eq_true_eq] at this
    exact this.2.2.2.2

end Go.Proofs.YtlifaeleoiodkaaGreatDoor

/-
  TREES changed: what comes back; the program's SetQuiet.
-/
namespace Go.Proofs.YtlifaeleoiodkaaGreatDoor
open Go.RowKit Nm
set_option linter.unusedSimpArgs false
set_option linter.unusedVariables false

abbrev TreeD := List Lgr × List Hnd × Int
def resL (o : Option TreeD) : List Lgr := match o with | some x => x.1 | none => []
def resH (o : Option TreeD) : List Hnd := match o with | some x => x.2.1 | none => []
def resQ (o : Option TreeD) : Int := match o with | some x => x.2.2 | none => 0
/-- a tree comes back, or nothing: its rows are of the call's own -/
def TreePostO (w : World) (o : Option TreeD) (e : Ending) (w' : World) : Prop :=
  ∃ v rs, e = .returned (.tuple #[v, .bool o.isSome]) ∧ TreeS rs v (resL o) (resH o) (resQ o) ∧ Rows w' w.heap.size rs ∧ Below w.heap.size w w'
def ifOk (L : List Lgr) (H : List Hnd) (q : Int) : Option TreeD := if treeOk L H q then some (L, H, q) else none
def setQuietO (L : List Lgr) (H : List Hnd) (q lv : Int) : Option TreeD := if treeOk L H q then ifOk L H lv else none
theorem Rows.none2 (w : World) (lo : Nat) : Rows w lo (treeRows 0 (.slice none 0 0) [] 0 (.slice none 0 0) []) := by
  refine ⟨fun r hr => ?_, ?_⟩
  · simp only [treeRows, lsRow, hsRow, List.flatMap_nil, List.cons_append, List.nil_append, List.mem_cons, List.not_mem_nil, or_false] at hr
    rcases hr with rfl | rfl <;> exact World.ownsRow_nil _ _ _ _
  · simp only [treeRows, lsRow, hsRow, List.flatMap_nil, List.cons_append, List.nil_append]
    exact List.pairwise_cons.2 ⟨fun b hb => ⟨.inl rfl, by rw [List.mem_singleton] at hb; subst hb; exact .inl rfl⟩, List.pairwise_singleton _ _⟩
theorem postO_none {w w' : World} {e : Ending} {o : Option TreeD} (ho : o = none) (he : e = .returned (.tuple #[.agg #[.slice none 0 0, .slice none 0 0, .int .i64 0], .bool false])) (hb : Below w.heap.size w w') : TreePostO w o e w' := by
  subst ho
  exact ⟨_, _, he, ⟨_, _, [], [], rfl, rfl, rfl, rfl⟩, Rows.none2 _ _, hb⟩
theorem name_fit {x : List UInt8} (h : nameOk x = true) : x.length ≤ maxTxt := by have := name_size x h; unfold maxTxt; omega
theorem word_fit {x : List UInt8} (h : wordOk x = true) : x.length ≤ maxTxt := by
  unfold wordOk at h
  simp only [Bool.and_eq_true, decide_eq_true_eq] at h
  unfold maxTxt
  omega
theorem flt_fit {f : Flt} (h : fltOk f = true) : f.nm.length ≤ maxTxt := by
  unfold fltOk at h
  split at h
  · simp only [Bool.and_eq_true] at h; exact name_fit h.2.1
  · split at h
    · simp only [Bool.and_eq_true] at h; exact word_fit h.1
    · split at h
      · simp only [Bool.and_eq_true, decide_eq_true_eq] at h; rw [h.1]; simp
      · cases h
theorem nodup_sub_len {α : Type} [DecidableEq α] {a b : List α} (h : a.Nodup) (hs : a ⊆ b) : a.length ≤ b.length := by
  induction a generalizing b with
  | nil => simp
  | cons x a ih =>
    obtain ⟨h1, h2⟩ := List.nodup_cons.1 h
    have hx : x ∈ b := hs (by simp)
    have := ih (b := b.erase x) h2 (fun y hy => (List.mem_erase_of_ne (fun e => h1 (by rw [← e]; exact hy))).2 (hs (by simp [hy])))
    rw [List.length_erase_of_mem hx] at this
    have hl := List.length_pos_of_mem hx
    rw [List.length_cons]; omega
/-- a valid tree fits -/
theorem fit_ok {L : List Lgr} {H : List Hnd} {q : Int} (h : treeOk L H q = true) : dataFit L H := by
  obtain ⟨_, _, _, h8, _, _⟩ := tree_names h
  obtain ⟨_, _, h6⟩ := tree_small h
  unfold treeOk lgrsOk hndsOk at h
  simp only [Bool.and_eq_true, decide_eq_true_eq, List.all_eq_true] at h
  obtain ⟨_, ⟨h1, hn1, h3⟩, h4, _⟩ := h
  refine ⟨⟨by unfold maxTxt; omega, fun l hl => ?_⟩, ⟨by unfold maxTxt; omega, fun x hx => ?_⟩⟩
  · have := h4 l hl
    unfold lgrOk filtersOk at this
    simp only [Bool.and_eq_true, decide_eq_true_eq, List.all_eq_true] at this
    obtain ⟨a, _, ⟨c1, c2⟩, d1, d2⟩ := this
    refine ⟨name_fit a, ⟨?_, fun t ht => ?_⟩, ⟨by unfold maxTxt; omega, fun f hf => flt_fit (c1 f hf)⟩⟩
    · have hsub : l.hs ⊆ H.map (·.nm) := fun t ht => by
        have := d1 t ht
        unfold hasL at this
        rw [List.any_eq_true] at this
        obtain ⟨x, hx, e⟩ := this
        exact List.mem_map.2 ⟨x, hx, of_decide_eq_true e⟩
      have := nodup_sub_len d2 hsub
      rw [List.length_map] at this
      unfold maxTxt; omega
    · have := d1 t ht
      unfold hasL at this
      rw [List.any_eq_true] at this
      obtain ⟨x, hx, e⟩ := this
      have e2 := of_decide_eq_true e
      have := h1 x hx
      unfold hndOk at this
      simp only [Bool.and_eq_true] at this
      rw [← e2]; exact word_fit this.1
  · have := h1 x hx
    unfold hndOk filtersOk at this
    simp only [Bool.and_eq_true, decide_eq_true_eq, List.all_eq_true] at this
    obtain ⟨a, _, _, c1, c2⟩ := this
    exact ⟨word_fit a, ⟨by unfold maxTxt; omega, fun f hf => flt_fit (c1 f hf)⟩⟩

/-- what a change does to the copy in box bc: 'o' the data then, nothing if it fails -/
def CloPost (lo bc : Nat) (W : World) (o : Option TreeD) (e : Ending) (W' : World) : Prop :=
  Below lo W W' ∧ e = .returned (.bool o.isSome) ∧ ∀ x, o = some x → ∃ A1 n1 k1 A2 n2 k2 rs', Blk W' bc [.slice A1 n1 k1, .slice A2 n2 k2, .int .i64 x.2.2] ∧ TreeS rs' (.agg #[.slice A1 n1 k1, .slice A2 n2 k2, .int .i64 x.2.2]) x.1 x.2.1 x.2.2 ∧ Rows W' lo rs' ∧ dataFit x.1 x.2.1
/-- what a change is called with -/
def CloPre (w : World) (lo bc : Nat) (W : World) (v1 v2 : Value) (rs : List Row) (L : List Lgr) (H : List Hnd) (q : Int) : Prop :=
  Below w.heap.size w W ∧ w.heap.size ≤ lo ∧ lo ≤ bc ∧ Blk W bc [v1, v2, .int .i64 q] ∧ TreeS rs (.agg #[v1, v2, .int .i64 q]) L H q ∧ Rows W lo rs ∧ (∀ r ∈ rs, r.v.ownBlock ≠ some bc) ∧ dataFit L H
def changedO (L : List Lgr) (H : List Hnd) (q : Int) (o : Option TreeD) : Option TreeD := if treeOk L H q then o.bind (fun x => ifOk x.1 x.2.1 x.2.2) else none
theorem rows_below {w : World} {lo : Nat} {rs : List Row} (h : Rows w lo rs) : ∀ r ∈ rs, r.v.ownBlock ≠ some w.heap.size := fun r hr e => by
  have := ((h.1 r hr).lt _ e).2
  omega

end Go.Proofs.YtlifaeleoiodkaaGreatDoor

/-
  TREES copied: the model's copyHandler, copyTree.
-/
namespace Go.Proofs.YtlifaeleoiodkaaGreatDoor
open Go.RowKit Nm
set_option linter.unusedSimpArgs false
set_option linter.unusedVariables false

/-- the append of a whole slice to a fresh empty one, as a run, in a region that has drawn its order -/
theorem run_appSlD {P : Program} (w : World) (t : TypeId) (e : TypeId) (i : TypeInfo) (z : Value) (size bytes : Nat) (ht : P.underlying t = some (.slice e)) (hi : P.info? e = some i) (hz : i.zero = some z)
    (hsize : i.size = size) (hby : i.bytes = bytes) (hzs : z.cells.size = size) (hsz : 0 < size)
    (B m : Nat) (src : Value) (ys : List Value) (hsl : Sl w B size m src ys) (hB : B ≤ w.heap.size) (h1 : ∀ u ∈ ys, u.oneCell' = true) (h63 : m ≤ maxLen) (hbytes : m * bytes ≤ 140737488355328) :
    ∃ v' w', (Builtin.append_ #[t, t] t #[.slice (some ⟨w.heap.size, 0, none⟩) 0 0, src]).run P (w.alloc (.cells #[] e)).drew = .ok v' w' ∧ w'.ownsRow w.heap.size e size v' m ys ∧ Below w.heap.size w w' := by
  have hlit : (w.alloc (.cells #[] e)).drew.ownsRow w.heap.size e size (.slice (some ⟨w.heap.size, 0, none⟩) 0 0) 0 [] := (World.ownsRow_lit w #[] 0 (Nat.le_refl _) (by unfold maxLen; omega) (by simp) : (w.alloc (.cells #[] e)).ownsRow _ e size _ _ _).drew
  have hsl' : Sl (w.alloc (.cells #[] e)).drew B size m src ys := hsl.below (((Below.refl w.heap.size w).alloc (Nat.le_refl _) _).drew) hB
  have hb0 : Below w.heap.size w (w.alloc (.cells #[] e)).drew := ((Below.refl w.heap.size w).alloc (Nat.le_refl _) _).drew
  obtain ⟨hl, A, c, rfl, hmc, hcm, hA⟩ := hsl'
  cases A with
  | some ad =>
    obtain ⟨v', w', h2, h3, h4, _, h6⟩ := run_append_own_at (P := P) (w := (w.alloc (.cells #[] e)).drew) w.heap.size t t e i z size bytes ht hi hz hsize hby hzs hsz _ 0 [] hlit ad m c ys hl (by
      intro j u hu
      have hj := (List.getElem?_eq_some_iff.1 hu).1
      have hm0 : 0 < m := by
        rcases Nat.eq_zero_or_pos m with h0 | h0
        · subst h0; rw [Nat.zero_mul] at hl; omega
        · exact h0
      obtain ⟨b, o', e1, _, hc⟩ := hA hm0
      have e2 : ad = ⟨b, o', none⟩ := Option.some.inj e1
      subst e2
      rw [Addr.add_lit]; exact hc j u hu) h1 (by omega) (by rw [Nat.zero_add]; exact hbytes) (by simp)
    exact ⟨v', w', h2, by simpa using h3, hb0.grown h4 (by simp) (own_lt hlit)⟩
  | none =>
    have hm0 : m = 0 := by
      rcases Nat.eq_zero_or_pos m with h0 | h0
      · exact h0
      · obtain ⟨b, o', e1, _⟩ := hA h0; cases e1
    subst hm0
    have hy : ys = [] := List.eq_nil_of_length_eq_zero (by rw [hl, Nat.zero_mul])
    subst hy
    exact ⟨_, _, run_app_none (P := P) w.heap.size t t e i size c ht hi _ 0 [] hlit, hlit, hb0⟩

end Go.Proofs.YtlifaeleoiodkaaGreatDoor

/-
  TREES copied: the model's copyTree.
-/
namespace Go.Proofs.YtlifaeleoiodkaaGreatDoor
open Go.RowKit Nm
set_option linter.unusedSimpArgs false
set_option linter.unusedVariables false

theorem hcell_one (nm : List UInt8) (lv : Int) (A : Option Addr) (n c : Nat) : ∀ u ∈ [txt nm, .int .i64 lv, .slice A n c], u.oneCell' = true := by
  intro u hu
  simp only [List.mem_cons, List.not_mem_nil, or_false] at hu
  rcases hu with rfl | rfl | rfl <;> rfl

theorem perm_lgr (a b x o r : Row) (l m : List Row) : ([a, b, x] ++ [o] ++ (r :: (l ++ m))).Perm (([] ++ [o] ++ (r :: ((l ++ [b, a]) ++ m))) ++ [x]) := by
  have h1 : ([a, b, x] ++ ([o] ++ (r :: (l ++ m)))).Perm (([o] ++ (r :: (l ++ m))) ++ [a, b, x]) := List.perm_append_comm
  have h2 : ([o] ++ (r :: (l ++ m)) ++ [a, b, x]).Perm ([o] ++ (r :: (l ++ (m ++ [b, a, x])))) := by
    have h := (List.Perm.swap b a [x]).append_left (o :: r :: (l ++ m))
    simpa [List.append_assoc] using h
  have h3 : ([o] ++ (r :: (l ++ (m ++ [b, a, x])))).Perm ([o] ++ (r :: (l ++ ([b, a] ++ (m ++ [x]))))) := by
    have : (m ++ ([b, a] ++ [x])).Perm ([b, a] ++ (m ++ [x])) := List.perm_append_comm_assoc _ _ _
    exact ((this.append_left l).cons r).append_left [o]
  have h := h1.trans (h2.trans h3)
  simp only [List.append_assoc, List.nil_append, List.cons_append] at h ⊢
  exact h
theorem perm_hand (a b : Row) (l m : List Row) : ([a] ++ [b] ++ (l ++ m)).Perm ([] ++ [b] ++ (l ++ (m ++ [a]))) := by
  have h1 : ([a] ++ ([b] ++ (l ++ m))).Perm (([b] ++ (l ++ m)) ++ [a]) := List.perm_append_comm
  simp only [List.append_assoc, List.nil_append] at h1 ⊢
  exact h1

end Go.Proofs.YtlifaeleoiodkaaGreatDoor

/-
  TREES changed: the program's SetQuiet, changedLogger, SetLevel, SetStop, SetOff.
-/
namespace Go.Proofs.YtlifaeleoiodkaaGreatDoor
open Go.RowKit Nm
set_option linter.unusedSimpArgs false
set_option linter.unusedVariables false

theorem enters {f : FuncId} {fn : Func} {c : Code} (hf : Tryz.prog.funcs[f]? = some fn) (hname : (fn.name == "runtime.NumGoroutine") = false) (hb : fn.body = some c) (args : Array Value) (w : World) :
    (callFunc f args).run Tryz.prog w = .ok (.enter f args) w := by
  have h1 : fn.name ≠ "runtime.NumGoroutine" := by simpa using hname
  simp [callFunc, hf, h1, hb]

def setQuietX (L : List Lgr) (H : List Hnd) (q lv : Int) : Option TreeD := changedO L H q (some (L, H, lv))

end Go.Proofs.YtlifaeleoiodkaaGreatDoor

/-
  TREES changed: the model's checkedTree and SetQuiet.
-/
namespace Go.Proofs.YtlifaeleoiodkaaGreatDoor
open Go.RowKit Nm
set_option linter.unusedSimpArgs false
set_option linter.unusedVariables false

theorem changed_fit (L : List Lgr) (H : List Hnd) (q : Int) (o : Option TreeD) : dataFit (resL (changedO L H q o)) (resH (changedO L H q o)) := by
  have hn : dataFit (resL none) (resH none) := ⟨⟨by simp [resL], by simp [resL]⟩, ⟨by simp [resH], by simp [resH]⟩⟩
  unfold changedO
  cases treeOk L H q with
  | false => exact hn
  | true =>
    cases o with
    | none => exact hn
    | some x =>
      show dataFit (resL (ifOk x.1 x.2.1 x.2.2)) (resH (ifOk x.1 x.2.1 x.2.2))
      unfold ifOk
      by_cases h : treeOk x.1 x.2.1 x.2.2 = true
      · rw [if_pos h]; exact fit_ok h
      · rw [if_neg h]; exact hn
/-- what the model's check gives -/
def CheckPost (w : World) (v : Value) (b : Bool) (e : Ending) (w' : World) : Prop :=
  e = .returned (.tuple #[if b then v else .agg #[.slice none 0 0, .slice none 0 0, .int .i64 0], .bool b]) ∧ Below w.heap.size w w'

end Go.Proofs.YtlifaeleoiodkaaGreatDoor

/-
  TREES changed: one cell of a logger: the program's SetLevel, SetStop, SetOff. By gen_c8.py.
-/
namespace Go.Proofs.YtlifaeleoiodkaaGreatDoor
open Go.RowKit Nm
set_option linter.unusedSimpArgs false
set_option linter.unusedVariables false

def updL (L : List Lgr) (k : Nat) (f : Lgr → Lgr) : List Lgr := match L[k]? with | some l => L.set k (f l) | none => L
/-- a change of one cell of a logger -/
structure OneCell (f : Lgr → Lgr) (j : Nat) (u : Value) : Prop where
  nm : ∀ l, (f l).nm = l.nm
  hs : ∀ l, (f l).hs = l.hs
  fs : ∀ l, (f l).fs = l.fs
  cells : ∀ x : LgrV, lcells { x with l := f x.l } = (lcells x).set j u
  lt : j < 6
theorem lsOf_upd {ls : List LgrV} {k : Nat} {x : LgrV} (h : ls[k]? = some x) (f : Lgr → Lgr) : lsOf (ls.set k { x with l := f x.l }) = updL (lsOf ls) k f := by
  have e : (lsOf ls)[k]? = some x.l := by unfold lsOf; rw [List.getElem?_map, h]; rfl
  unfold updL
  rw [e]
  unfold lsOf
  rw [List.map_set]
theorem upd_fit {f : Lgr → Lgr} {j : Nat} {u : Value} (hf : OneCell f j u) {L : List Lgr} {H : List Hnd} {k : Nat} (h : dataFit L H) : dataFit (updL L k f) H := by
  unfold updL
  cases e : L[k]? with
  | none => exact h
  | some l =>
    refine ⟨⟨by show (L.set k (f l)).length ≤ _; rw [List.length_set]; exact h.1.1, fun a ha => ?_⟩, h.2⟩
    rcases List.mem_or_eq_of_mem_set ha with ha | rfl
    · exact h.1.2 a ha
    · have := h.1.2 l (List.mem_of_getElem? e)
      unfold lgrFit at this ⊢
      rw [hf.nm, hf.hs, hf.fs]; exact this
theorem idx_nat {ns : List (List UInt8)} {x : List UInt8} {k : Nat} (h : idxL ns x = (k : Int)) : k < ns.length ∧ ns[k]? = some x := by
  unfold idxL at h
  split at h
  · rename_i hm
    have h2 := List.idxOf_lt_length_of_mem hm
    have h3 : ns.idxOf x = k := by omega
    subst h3
    exact ⟨h2, by rw [List.getElem?_eq_getElem h2]; simp⟩
  · omega

/-- what a change of the logger of a name gives -/
def lgrX (L : List Lgr) (H : List Hnd) (q : Int) (s : List UInt8) (f : Lgr → Lgr) : Option TreeD :=
  if idxL (namesOf L) s < 0 then none else changedO L H q (some (updL L (idxL (namesOf L) s).toNat f, H, q))
theorem lgr_fit (L : List Lgr) (H : List Hnd) (q : Int) (s : List UInt8) (f : Lgr → Lgr) : dataFit (resL (lgrX L H q s f)) (resH (lgrX L H q s f)) := by
  unfold lgrX
  split
  · exact ⟨⟨by simp [resL], by simp [resL]⟩, ⟨by simp [resH], by simp [resH]⟩⟩
  · exact changed_fit _ _ _ _

def setLevelF (lv : Int) (l : Lgr) : Lgr := { l with lv := lv }
theorem setLevel_one (lv : Int) : OneCell (setLevelF lv) 1 (.int .i64 lv) := ⟨fun _ => rfl, fun _ => rfl, fun _ => rfl, fun _ => rfl, by omega⟩
def setStopF (b : Bool) (l : Lgr) : Lgr := { l with stop := b }
theorem setStop_one (b : Bool) : OneCell (setStopF b) 4 (.bool b) := ⟨fun _ => rfl, fun _ => rfl, fun _ => rfl, fun _ => rfl, by omega⟩
def setOffF (b : Bool) (l : Lgr) : Lgr := { l with off := b }
theorem setOff_one (b : Bool) : OneCell (setOffF b) 5 (.bool b) := ⟨fun _ => rfl, fun _ => rfl, fun _ => rfl, fun _ => rfl, by omega⟩
end Go.Proofs.YtlifaeleoiodkaaGreatDoor

/-
  TREES changed: one cell of a logger: the model's SetLevel, SetStop, SetOff. By gen_c9.py.
-/
namespace Go.Proofs.YtlifaeleoiodkaaGreatDoor
open Go.RowKit Nm
set_option linter.unusedSimpArgs false
set_option linter.unusedVariables false

theorem upd_map {β : Type} (g : Lgr → β) (L : List Lgr) (k : Nat) (f : Lgr → Lgr) (h : ∀ l, g (f l) = g l) : (updL L k f).map g = L.map g := by
  unfold updL
  cases e : L[k]? with
  | none => rfl
  | some l =>
    show (L.set k (f l)).map g = L.map g
    rw [List.map_set, h]
    refine List.ext_getElem? fun i => ?_
    by_cases hi : i = k
    · subst hi
      rw [List.getElem?_set_self (by rw [List.length_map]; exact (List.getElem?_eq_some_iff.1 e).1), List.getElem?_map, e]; rfl
    · rw [List.getElem?_set_ne (by omega)]
theorem upd_ok (L : List Lgr) (H : List Hnd) (q : Int) (k : Nat) (f : Lgr → Lgr) {j : Nat} {u : Value} (hf : OneCell f j u) (hlv : ∀ l, (f l).lv = l.lv) (h : treeOk L H q = true) : treeOk (updL L k f) H q = true := by
  have h1 : (updL L k f).map (·.nm) = L.map (·.nm) := upd_map _ L k f hf.nm
  have h2 : (updL L k f).map (lgrOk H) = L.map (lgrOk H) := upd_map _ L k f (fun l => by unfold lgrOk; rw [hf.nm, hf.hs, hf.fs, hlv])
  have h3 : (updL L k f).all (lgrOk H) = L.all (lgrOk H) := by
    have a : ∀ l : List Lgr, l.all (lgrOk H) = (l.map (lgrOk H)).all id := fun l => by rw [List.all_map]; rfl
    rw [a, a, h2]
  have h4 : (updL L k f).length = L.length := by have := congrArg List.length h1; simpa using this
  rw [← h]
  unfold treeOk lgrsOk
  rw [h3, h1, h4]
theorem tree_cell {f : Lgr → Lgr} {j : Nat} {u : Value} (hf : OneCell f j u) {W : World} {lo k : Nat} {rs : List Row} {v : Value} {L : List Lgr} {H : List Hnd} {q : Int} (hs : TreeS rs v L H q) (hr : Rows W lo rs) (hk : k < L.length) :
    ∃ g n c A4 n4 c4 y rs', v = .agg #[.slice (some ⟨g, 0, none⟩) n c, .slice A4 n4 c4, .int .i64 q] ∧ k < n ∧ n ≤ c ∧ c ≤ maxLen ∧ lo ≤ g ∧ g < W.heap.size ∧ W.cell? ⟨g, k * 6 + j, none⟩ = some y ∧ W.frozen? ⟨g, k * 6 + j, none⟩ = false ∧
      (∀ W', Rows W' lo rs → Rows (W'.setCell ⟨g, k * 6 + j, none⟩ u) lo rs') ∧ TreeS rs' v (updL L k f) H q := by
  obtain ⟨v1, v2, ls, hs', rfl, h1, h2, rfl⟩ := hs
  have hkl : k < ls.length := by rw [← h1] at hk; simpa [lsOf] using hk
  obtain ⟨hl, hh⟩ := hr.lsIn
  obtain ⟨A, c, rfl, hnc, hcm⟩ := hl.1.form
  obtain ⟨A4, c4, rfl, _, _⟩ := hh.1.form
  clear hl hh
  have hr0 : Rows W lo ([] ++ two 112 6 ls.length (.slice A ls.length c) lcells lrows ls ++ two 125 3 hs'.length (.slice A4 hs'.length c4) hcells hrows hs') := by rw [treeRows_eq] at hr; simpa using hr
  obtain ⟨g, rfl, hglt⟩ := own_some hr0.top (by omega)
  have hgl : lo ≤ g := (hr0.top.lt g rfl).1
  obtain ⟨x, hx⟩ : ∃ x, ls[k]? = some x := ⟨_, List.getElem?_eq_getElem hkl⟩
  obtain ⟨y, hy⟩ : ∃ y, (lcells x)[j]? = some y := ⟨_, List.getElem?_eq_getElem (by rw [lcells_len]; exact hf.lt)⟩
  obtain ⟨c1, c2⟩ := hr0.cell_at (j := j) lcells_len hx hy
  refine ⟨g, ls.length, c, A4, hs'.length, c4, y, treeRows (ls.set k { x with l := f x.l }).length (.slice (some ⟨g, 0, none⟩) ls.length c) (ls.set k { x with l := f x.l }) hs'.length (.slice A4 hs'.length c4) hs', rfl, hkl, hnc, hcm, hgl, hglt, c1, c2, fun W' hW' => ?_, ⟨_, _, ls.set k { x with l := f x.l }, hs', rfl, by rw [lsOf_upd hx f, h1], h2, rfl⟩⟩
  have hr1 : Rows W' lo ([] ++ two 112 6 ls.length (.slice (some ⟨g, 0, none⟩) ls.length c) lcells lrows ls ++ two 125 3 hs'.length (.slice A4 hs'.length c4) hcells hrows hs') := by rw [treeRows_eq] at hW'; simpa using hW'
  have hr2 := hr1.cellset (j := j) (e := 2) (x := x) (y := { x with l := f x.l }) (u := u) lcells_len lrows_len hx hf.lt (hf.cells x) (by simp [lrows, hf.hs, hf.fs])
  rw [treeRows_eq, List.length_set]
  simpa using hr2

end Go.Proofs.YtlifaeleoiodkaaGreatDoor

/-
  TREES changed: AddLogger.
-/
namespace Go.Proofs.YtlifaeleoiodkaaGreatDoor
open Go.RowKit Nm
set_option linter.unusedSimpArgs false
set_option linter.unusedVariables false

def mkL (s : List UInt8) : Lgr := ⟨s, 0, [], [], false, false⟩
def mkV (s : List UInt8) : LgrV := ⟨mkL s, .slice none 0 0, 0, .slice none 0 0, 0⟩
def addT (L : List Lgr) (s : List UInt8) : List Lgr := if idxL (namesOf L) s < 0 then L ++ [mkL s] else L
def addX (L : List Lgr) (H : List Hnd) (q : Int) (s : List UInt8) : Option TreeD := changedO L H q (some (addT L s, H, q))
abbrev newCells (s : ByteArray) : List Value := [.string s, .int .i64 0, .slice none 0 0, .slice none 0 0, .bool false, .bool false]
theorem new_one (s : ByteArray) : ∀ u ∈ newCells s, Value.oneCell' u = true := by
  intro u hu
  simp only [List.mem_cons, List.not_mem_nil, or_false] at hu
  rcases hu with rfl | rfl | rfl | rfl | rfl | rfl <;> rfl
theorem new_cells (s : ByteArray) : lcells (mkV s.data.toList) = newCells s := by simp [lcells, mkV, mkL, txt_data]
theorem add_fit {L : List Lgr} {H : List Hnd} (s : ByteArray) (h : dataFit L H) (h8 : L.length ≤ 8) (hz : s.size ≤ maxTxt) : dataFit (addT L s.data.toList) H := by
  unfold addT
  split
  · refine ⟨⟨by rw [List.length_append]; unfold maxTxt; simp; omega, fun a ha => ?_⟩, h.2⟩
    rcases List.mem_append.1 ha with ha | ha
    · exact h.1.2 a ha
    · rw [List.mem_singleton] at ha
      subst ha
      exact ⟨by simpa [mkL] using hz, ⟨by simp [mkL], by simp [mkL]⟩, ⟨by simp [mkL], by simp [mkL]⟩⟩
  · exact h
theorem perm_add (a b c : List Row) (t : Row) : (c ++ (t :: (a ++ b))).Perm (t :: ((a ++ c) ++ b)) := by
  have h1 : (c ++ ([t] ++ (a ++ b))).Perm ([t] ++ (c ++ (a ++ b))) := List.perm_append_comm_assoc _ _ _
  have h2 : ([t] ++ (c ++ (a ++ b))).Perm ([t] ++ (a ++ (c ++ b))) := (List.perm_append_comm_assoc _ _ _).append_left _
  have := h1.trans h2
  simpa [List.append_assoc] using this
/-- a logger behind the others -/
theorem tree_app {W W' : World} {lo n c : Nat} {A : Option Addr} {v1' v2 : Value} {ls : List LgrV} {hs : List HndV} (hn : n = ls.length) (hr : Rows W lo (treeRows ls.length (.slice A n c) ls hs.length v2 hs)) (s : ByteArray)
    (ho : W'.ownsRow lo 112 6 v1' (n + 1) (ls.flatMap lcells ++ newCells s)) (hg : W.grownBy W' (Value.slice A n c).ownBlock) (hloc : v1'.ownBlock = (Value.slice A n c).ownBlock ∨ v1'.ownBlock = some (W.heap.size + 1)) (hlo : lo ≤ W.heap.size) :
    Rows W' lo (treeRows (ls ++ [mkV s.data.toList]).length v1' (ls ++ [mkV s.data.toList]) hs.length v2 hs) ∧
    ∀ b, (∀ r ∈ treeRows ls.length (.slice A n c) ls hs.length v2 hs, r.v.ownBlock ≠ some b) → b ≤ W.heap.size → ∀ r ∈ treeRows (ls ++ [mkV s.data.toList]).length v1' (ls ++ [mkV s.data.toList]) hs.length v2 hs, r.v.ownBlock ≠ some b := by
  subst hn
  have e1 : (ls ++ [mkV s.data.toList]).flatMap lcells = ls.flatMap lcells ++ newCells s := by rw [List.flatMap_append]; simp [new_cells]
  have e2 : (ls ++ [mkV s.data.toList]).flatMap lrows = ls.flatMap lrows ++ [⟨9, 1, 0, .slice none 0 0, []⟩, ⟨162, 3, 0, .slice none 0 0, []⟩] := by rw [List.flatMap_append]; simp [lrows, mkV, mkL, fsCells]
  have h0 : Rows W lo ([] ++ ⟨112, 6, ls.length, .slice A ls.length c, ls.flatMap lcells⟩ :: (ls.flatMap lrows ++ two 125 3 hs.length v2 hcells hrows hs)) := by
    rw [treeRows_eq] at hr
    simpa [two] using hr
  have h1 := Rows.app h0 hg ho hloc
  have hn2 : Rows W' W'.heap.size [⟨9, 1, 0, .slice none 0 0, []⟩, ⟨162, 3, 0, .slice none 0 0, []⟩] := by
    refine ⟨fun r hr => ?_, ?_⟩
    · simp only [List.mem_cons, List.not_mem_nil, or_false] at hr
      rcases hr with rfl | rfl <;> exact World.ownsRow_nil _ _ _ _
    · exact List.pairwise_cons.2 ⟨fun b hb => ⟨.inl rfl, by rw [List.mem_singleton] at hb; subst hb; exact .inl rfl⟩, List.pairwise_singleton _ _⟩
  have h2 := h1.newer (Below.refl _ _) hn2 (Nat.le_trans hlo hg.size)
  have h3 := h2.perm (perm_add _ _ _ _)
  have ht : treeRows (ls ++ [mkV s.data.toList]).length v1' (ls ++ [mkV s.data.toList]) hs.length v2 hs = ⟨112, 6, ls.length + 1, v1', ls.flatMap lcells ++ newCells s⟩ :: ((ls.flatMap lrows ++ [⟨9, 1, 0, .slice none 0 0, []⟩, ⟨162, 3, 0, .slice none 0 0, []⟩]) ++ two 125 3 hs.length v2 hcells hrows hs) := by
    rw [treeRows_eq, two, e1, e2]; simp
  rw [ht]
  refine ⟨h3, fun b hb hbW r hr' => ?_⟩
  rw [treeRows_eq] at hb
  simp only [List.mem_cons, List.mem_append, List.not_mem_nil, or_false] at hr'
  rcases hr' with rfl | (hr' | rfl | rfl) | hr'
  · rcases hloc with e | e
    · show v1'.ownBlock ≠ _
      rw [e]
      exact hb ⟨112, 6, ls.length, .slice A ls.length c, ls.flatMap lcells⟩ (by simp [two])
    · show v1'.ownBlock ≠ _
      rw [e]
      intro e2
      have := Option.some.inj e2
      omega
  · exact hb r (by simp only [two, List.mem_append, List.mem_cons]; exact .inl (.inr hr'))
  · intro e; cases e
  · intro e; cases e
  · exact hb r (List.mem_append.2 (.inr hr'))
theorem Rows.off {W : World} {lo b j : Nat} {u : Value} {rs : List Row} (h : Rows W lo rs) (hb : ∀ r ∈ rs, r.v.ownBlock ≠ some b) : Rows (W.setCell ⟨b, j, none⟩ u) lo rs :=
  ⟨fun r hr => (h.1 r hr).kept (grown_set W b j u) (by
    cases hq : r.v.ownBlock with
    | none => exact .inl rfl
    | some g => right; intro e2; exact hb r hr (hq.trans e2)), h.2⟩
/-- the append of a logger to a tree of the call's own -/
theorem run_addL (W : World) {lo n c : Nat} {A : Option Addr} {v2 : Value} {ls : List LgrV} {hs : List HndV} (hn : n = ls.length) (hr : Rows W lo (treeRows ls.length (.slice A n c) ls hs.length v2 hs)) (h8 : n ≤ 8) (s : ByteArray) (hlo : lo ≤ W.heap.size) :
    ∃ A5 c5 W', (Builtin.append_ #[33, 33] 33 #[.slice A n c, .slice (some ⟨W.heap.size, 0, none⟩) 1 1]).run Tryz.prog (W.alloc (.cells #[.string s, .int .i64 0, .slice none 0 0, .slice none 0 0, .bool false, .bool false] 112)) = .ok (.slice A5 (n + 1) c5) W' ∧
      W'.ownsRow lo 112 6 (.slice A5 (n + 1) c5) (n + 1) (ls.flatMap lcells ++ newCells s) ∧ W.grownBy W' (Value.slice A n c).ownBlock ∧ ((Value.slice A5 (n + 1) c5).ownBlock = (Value.slice A n c).ownBlock ∨ (Value.slice A5 (n + 1) c5).ownBlock = some (W.heap.size + 1)) := by
  obtain ⟨iL, hLi, hLz0, hLz1, hLz2⟩ := info_parts Tryz.infoLogger
  have htop : W.ownsRow lo 112 6 (.slice A n c) n (ls.flatMap lcells) := hr.1 ⟨112, 6, n, .slice A n c, ls.flatMap lcells⟩ (by rw [treeRows_eq, ← hn]; simp [two])
  obtain ⟨v5, w4, hrun, ho4, hg4, hloc⟩ := run_app1P (P := Tryz.prog) W 33 lo 112 iL _ 6 80 Tryz.underlying33 hLi hLz0 hLz1 hLz2 rfl (by decide) _ n _ htop (newCells s) 112 rfl (new_one s) (by unfold maxLen; omega) (by omega) hlo
  obtain ⟨A5, c5, rfl, _, _⟩ := (Sl.of_own ho4).form
  exact ⟨A5, c5, w4, hrun, ho4, hg4, hloc⟩
end Go.Proofs.YtlifaeleoiodkaaGreatDoor

/-
  TREES changed: the program's AddLogger.
-/
namespace Go.Proofs.YtlifaeleoiodkaaGreatDoor
open Go.RowKit Nm
set_option linter.unusedSimpArgs false
set_option linter.unusedVariables false

end Go.Proofs.YtlifaeleoiodkaaGreatDoor

/-
  TREES changed: the model's AddLogger. By gen_c12.py.
-/
namespace Go.Proofs.YtlifaeleoiodkaaGreatDoor
open Go.RowKit Nm
set_option linter.unusedSimpArgs false
set_option linter.unusedVariables false

end Go.Proofs.YtlifaeleoiodkaaGreatDoor
