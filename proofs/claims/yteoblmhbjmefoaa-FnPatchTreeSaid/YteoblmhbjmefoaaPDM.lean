/-
  NH1, PT1, NH2, PT2, PT3, NM1, PT4 laid together.
-/
import Derived.Test.YteoblmhbjmefoaaC9
import Derived.Test.YteoblmhbjmefoaaU2
import Derived.Test.YteoblmhbjmefoaaC10
import Derived.Test.YteoblmhbjmefoaaE11
import Derived.Test.YteoblmhbjmefoaaE7
/-
  A HANDLER NAMED ANEW: plain; the program's handlerAt.
-/
namespace Go.Proofs.Yteoblmhbjmefoaa
open Go.RowKit Nm
set_option linter.unusedSimpArgs false
set_option linter.unusedVariables false

def renS (s t x : Name) : Name := if x = s then t else x
def renL (s t : Name) (l : Lgr) : Lgr := { l with hs := l.hs.map (renS s t) }
def renT (L : List Lgr) (s t : Name) : List Lgr := L.map (renL s t)
def setNm (H : List Hnd) (k : Nat) (t : Name) : List Hnd := match H[k]? with | some h => H.set k { h with nm := t } | none => H
def hnm (H : List Hnd) : List Name := H.map (·.nm)
def nameX (L : List Lgr) (H : List Hnd) (q : Int) (s t : Name) : Option TreeD :=
  changedO L H q (if idxL (hnm H) s < 0 then none else some (renT L s t, setNm H (idxL (hnm H) s).toNat t, q))
theorem ren_none {s t : Name} {l : List Name} (h : s ∉ l) : l.map (renS s t) = l := by
  refine (List.map_congr_left fun x hx => ?_).trans (List.map_id l)
  show renS s t x = x
  unfold renS
  rw [if_neg (fun e => h (by rw [← e]; exact hx))]
theorem ren_set {s t : Name} {l : List Name} (hn : l.Nodup) {k : Nat} (hk : l[k]? = some s) : l.set k t = l.map (renS s t) := by
  have hkl := (List.getElem?_eq_some_iff.1 hk).1
  have hke := (List.getElem?_eq_some_iff.1 hk).2
  refine List.ext_getElem (by simp) fun i h1 h2 => ?_
  have hi : i < l.length := by simpa using h1
  rw [List.getElem_map]
  by_cases e : i = k
  · subst e
    rw [List.getElem_set_self, hke]; unfold renS; rw [if_pos rfl]
  · rw [List.getElem_set_ne (by omega)]
    unfold renS
    rw [if_neg]
    intro e2
    exact e (nodup_at hn hi hkl (by simp [List.getD, hi, hkl, e2, hke]))
theorem ren_step {L : List Lgr} {k : Nat} {l : Lgr} (s t : Name) (h : L[k]? = some l) : renT (L.take (k + 1)) s t ++ L.drop (k + 1) = (renT (L.take k) s t ++ L.drop k).set k (renL s t l) := by
  have hk := (List.getElem?_eq_some_iff.1 h).1
  have e1 : renT (L.take (k + 1)) s t = renT (L.take k) s t ++ [renL s t l] := by unfold renT; rw [List.take_add_one, h, List.map_append]; rfl
  have e2 : L.drop k = l :: L.drop (k + 1) := by rw [List.drop_eq_getElem_cons hk]; congr 1; exact (List.getElem?_eq_some_iff.1 h).2
  have e3 : (renT (L.take k) s t).length = k := by unfold renT; rw [List.length_map, List.length_take]; omega
  rw [e1, e2, List.set_append_right _ _ (by omega), e3, Nat.sub_self, List.set_cons_zero, List.append_assoc]; rfl
theorem ren_at {L : List Lgr} {k : Nat} (s t : Name) (hk : k < L.length) : (renT (L.take k) s t ++ L.drop k)[k]? = L[k]? := by
  have e3 : (renT (L.take k) s t).length = k := by unfold renT; rw [List.length_map, List.length_take]; omega
  rw [List.getElem?_append_right (by omega), e3, Nat.sub_self, List.getElem?_drop]; rfl
theorem rename_fit {L : List Lgr} {H : List Hnd} {s t : Name} (k : Nat) (hd : dataFit L H) (ht : t.length ≤ maxTxt) : dataFit (renT L s t) (setNm H k t) := by
  refine ⟨⟨by unfold renT; rw [List.length_map]; exact hd.1.1, fun a ha => ?_⟩, ?_, ?_⟩
  · obtain ⟨l, hl, rfl⟩ := List.mem_map.1 ha
    have h1 := hd.1.2 l hl
    refine ⟨h1.1, ⟨by show (l.hs.map _).length ≤ _; rw [List.length_map]; exact h1.2.1.1, fun x hx => ?_⟩, h1.2.2⟩
    obtain ⟨y, hy, rfl⟩ := List.mem_map.1 hx
    unfold renS
    split
    · exact ht
    · exact h1.2.1.2 y hy
  · unfold setNm; split
    · rw [List.length_set]; exact hd.2.1
    · exact hd.2.1
  · intro h hh
    unfold setNm at hh
    split at hh
    · rename_i x hx
      rcases List.mem_or_eq_of_mem_set hh with hh | rfl
      · exact hd.2.2 h hh
      · exact ⟨ht, (hd.2.2 x (List.mem_of_getElem? hx)).2⟩
    · exact hd.2.2 h hh
theorem nodup_lenN {α : Type} [DecidableEq α] : ∀ (a b : List α), a.Nodup → (∀ x ∈ a, x ∈ b) → a.length ≤ b.length := by
  intro a
  induction a with
  | nil => intro b _ _; simp
  | cons x a ih =>
    intro b hn hs
    rw [List.nodup_cons] at hn
    have hx : x ∈ b := hs x (List.mem_cons_self ..)
    have h1 := ih (b.erase x) hn.2 (fun y hy => (List.mem_erase_of_ne (fun e => hn.1 (by rw [← e]; exact hy))).2 (hs y (List.mem_cons_of_mem _ hy)))
    rw [List.length_erase_of_mem hx] at h1
    have : 0 < b.length := List.length_pos_of_mem hx
    rw [List.length_cons]; omega
theorem tree_nodup {L : List Lgr} {H : List Hnd} {q : Int} (h : treeOk L H q = true) {l : Lgr} (hl : l ∈ L) : l.hs.Nodup ∧ l.hs.length ≤ 6 := by
  have h' := h
  unfold treeOk lgrsOk at h
  simp only [Bool.and_eq_true, decide_eq_true_eq, List.all_eq_true] at h
  have h1 := h.2.2.1 l hl
  unfold lgrOk at h1
  simp only [Bool.and_eq_true, decide_eq_true_eq, List.all_eq_true] at h1
  refine ⟨h1.2.2.2.2, ?_⟩
  have hH := tree_hlen h'
  have hsub : ∀ x ∈ l.hs, x ∈ H.map (·.nm) := fun x hx => by
    have h3 := h1.2.2.2.1 x hx
    unfold hasL at h3
    obtain ⟨y, hy, e⟩ := List.any_eq_true.1 h3
    exact List.mem_map.2 ⟨y, hy, of_decide_eq_true e⟩
  have h4 := nodup_lenN _ _ h1.2.2.2.2 hsub
  rw [List.length_map] at h4
  omega
theorem hnames_hnm (hs : List HndV) : hnames hs = hnm (hsOf hs) := by unfold hnames hnm hsOf; rw [List.map_map]; rfl

set_option maxHeartbeats 1000000 in
set_option maxRecDepth 100000 in
theorem handlerAtFn_c (a s : ByteArray) (lv : Int) (v1 : Value) (bx : Nat) (w : World) (hc : w.cell? ⟨bx, 0, none⟩ = some (.string s)) :
    Calls Try.prog 109 #[.agg #[.string a, .int .i64 lv, v1], .pointer (some ⟨bx, 0, none⟩)] w (BoolPost w (decide (a.data.toList = s.data.toList))) := by
  have hlt : bx < w.heap.size := World.block_lt_of_cell? w _ hc
  have e0 := beq_txt a s
  have e1 : (w.alloc (.cells #[.string a, .int .i64 lv, v1] 83)).cell? ⟨bx, 0, none⟩ = some (.string s) := (World.cell?_alloc_past _ _ _ hlt).trans hc
  go_enter Try.func109, Try.ntmps109
  go_wp2_with fail
  go_ret
  exact ⟨ret_bool (decide_eq_decide.2 Array.toList_inj.symm), by go_grown⟩

theorem hmem_of_at {l : List HndV} {k : Nat} {x : HndV} (hx : l[k]? = some x) : (hnames l)[k]? = some x.h.nm := by simp [hnames, hx]

set_option maxHeartbeats 4000000 in
set_option maxRecDepth 100000 in
theorem indexHnd_c (v : Value) (n B bx : Nat) (l : List HndV) (s : ByteArray) (w : World) (hv : Hs w B n v l) (hB : B ≤ w.heap.size) (hc : w.cell? ⟨bx, 0, none⟩ = some (.string s)) :
    Calls Try.prog 108 #[v, .func (.func 109) #[] #[.pointer (some ⟨bx, 0, none⟩)]] w
      (fun e w' => e = .returned (.int .i64 (idxL (hnames l) s.data.toList)) ∧ Below w.heap.size w w') := by
  have hlt0 : bx < w.heap.size := World.block_lt_of_cell? w _ hc
  have hln := hv.count
  obtain ⟨A, c, rfl, hnc, hcm⟩ := hv.1.form
  unfold maxLen at hcm
  have HV := hid (And.intro hv hln)
  have HC := hid (And.intro hc hlt0)
  clear hv hln hc hlt0
  go_enter Try.func108, Try.ntmps108
  go_wp2_with fail
  go_loopw [8] (fun iv wr => ∃ (k : Nat), iv = .int .i64 k ∧ k ≤ n ∧ Hid (¬ s.data.toList ∈ (hnames l).take k) ∧ Hid (Below w.heap.size w wr)) (fun iv _ => n - (intOf iv).toNat)
  case atStart => exact ⟨0, rfl, by omega, by simp [Hid], Below.refl _ _⟩
  case round =>
    obtain ⟨k, rfl, hk, HN, HB⟩ := hrel
    by_cases hlt : k < n
    · obtain ⟨b, o, x, a, rfl, hbB, hx, ha, _, _, c0, c1, c2⟩ := (HV.out.1.below HB.out hB).at_ hlt
      have E := hid (handlerAtFn_c a s x.h.lv x.fv bx wr ((HB.out.cell (p := ⟨bx, 0, none⟩) HC.out.2).trans HC.out.1))
      have HX := hid (hmem_of_at hx)
      have HA := hid ha
      cases hz : decide (a.data.toList = s.data.toList) with
      | true =>
        rw [hz] at E
        have HZ := hid hz
        clear hx ha hz
        go_wp2_with (go_at_call 109; refine (E.out).mono ?_; rintro e w2 ⟨rfl, hb⟩)
        go_ret
        refine ⟨ret_int ?_, HB.out.trans (hb.mono HB.out.size)⟩
        have h := of_decide_eq_true HZ.out
        rw [idx_hit _ _ k (by rw [HX.out, ← HA.out, h]) HN.out]
      | false =>
        rw [hz] at E
        have HZ := hid hz
        clear hx ha hz
        go_wp2_with (go_at_call 109; refine (E.out).mono ?_; rintro e w2 ⟨rfl, hb⟩)
        go_roundw
        case rel => exact ⟨k + 1, by go_num, by omega, not_take_succ _ _ _ _ HN.out HX.out (by rw [← HA.out]; exact of_decide_eq_false HZ.out), HB.out.trans (hb.mono HB.out.size)⟩
        case measure => simp [intOf]; omega
    · have HE := hid (show ¬ s.data.toList ∈ hnames l by
        have h := HN.out
        rwa [List.take_of_length_le (by unfold hnames; rw [List.length_map]; have := HV.out.2; omega)] at h)
      go_wp2_with fail
      go_ret
      exact ⟨ret_int (by rw [idx_miss _ _ HE.out]), HB.out⟩

set_option maxHeartbeats 1000000 in
set_option maxRecDepth 100000 in
theorem implHandlerAt_c {v : Value} {B : Nat} {L : List Lgr} {H : List Hnd} {q : Int} {w : World} (s : ByteArray) (h : TreeIn w B v L H q) (hB : B ≤ w.heap.size) :
    Calls Try.prog 63 #[v, .string s] w (fun e w' => e = .returned (.int .i64 (idxL (hnm H) s.data.toList)) ∧ Below w.heap.size w w') := by
  obtain ⟨ls, hs, ⟨A1, n1, k1, A2, n2, k2, rfl, _, hh, _⟩, _, hH⟩ := h
  have C2 := hid (fun (bx : Nat) (W : World) (hW : Below w.heap.size w W) (hc : W.cell? ⟨bx, 0, none⟩ = some (.string s)) => indexHnd_c _ n2 B bx hs s W (hh.below hW hB) (Nat.le_trans hB hW.size) hc)
  have hN : hnames hs = hnm H := by rw [hnames_hnm, hH]
  rw [hN] at C2
  have hmf : ∀ (fn : Fn) (first cap : Array Value) (w : World), (Instr.makeFunc fn first cap).run Try.prog w = .ok (.func fn first cap) w := fun _ _ _ _ => rfl
  have HY := hid (show ((w.alloc (.cells #[.slice A1 n1 k1, .slice A2 n2 k2, .int .i64 q] 30)).alloc (.cells #[.string s] 9)).cell? ⟨w.heap.size + 1, 0, none⟩ = some (.string s) by simp)
  have HB1 := hid (show Below w.heap.size w ((w.alloc (.cells #[.slice A1 n1 k1, .slice A2 n2 k2, .int .i64 q] 30)).alloc (.cells #[.string s] 9)) from ((Below.refl _ _).alloc (Nat.le_refl _) _).alloc (by simp) _)
  clear hh hH hN
  go_enter Try.func63, Try.ntmps63
  go_wp2_with fail
  refine (C2.out _ _ HB1.out HY.out).mono ?_
  rintro e w2 ⟨rfl, hb2⟩
  have HB2 := hid (HB1.out.trans (hb2.mono HB1.out.size))
  clear hb2
  go_wp2_with fail
  go_ret
  exact ⟨rfl, HB2.out⟩
end Go.Proofs.Yteoblmhbjmefoaa

/-
  A TREE PATCHED WITH LEVELS OF ANOTHER ONE: plain.
-/
namespace Go.Proofs.Yteoblmhbjmefoaa
open Go.RowKit Nm
set_option linter.unusedSimpArgs false
set_option linter.unusedVariables false

theorem mapk_step {α : Type} (f : α → α) {L : List α} {k : Nat} {l : α} (h : L[k]? = some l) : (L.take (k + 1)).map f ++ L.drop (k + 1) = ((L.take k).map f ++ L.drop k).set k (f l) := by
  have hk := (List.getElem?_eq_some_iff.1 h).1
  have e1 : (L.take (k + 1)).map f = (L.take k).map f ++ [f l] := by rw [List.take_add_one, h, List.map_append]; rfl
  have e2 : L.drop k = l :: L.drop (k + 1) := by rw [List.drop_eq_getElem_cons hk]; congr 1; exact (List.getElem?_eq_some_iff.1 h).2
  have e3 : ((L.take k).map f).length = k := by rw [List.length_map, List.length_take]; omega
  rw [e1, e2, List.set_append_right _ _ (by omega), e3, Nat.sub_self, List.set_cons_zero, List.append_assoc]; rfl
theorem mapk_at {α : Type} (f : α → α) {L : List α} {k : Nat} (hk : k < L.length) : ((L.take k).map f ++ L.drop k)[k]? = L[k]? := by
  have e3 : ((L.take k).map f).length = k := by rw [List.length_map, List.length_take]; omega
  rw [List.getElem?_append_right (by omega), e3, Nat.sub_self, List.getElem?_drop]; rfl
theorem mapk_same {α : Type} (f : α → α) {L : List α} {k : Nat} {l : α} (h : L[k]? = some l) (hf : f l = l) : (L.take (k + 1)).map f ++ L.drop (k + 1) = (L.take k).map f ++ L.drop k := by
  rw [mapk_step f h, hf]
  refine List.ext_getElem? fun i => ?_
  have e := mapk_at f (List.getElem?_eq_some_iff.1 h).1
  rw [h] at e
  rw [List.getElem?_set]
  split
  · rename_i hi
    subst hi
    rw [if_pos (List.getElem?_eq_some_iff.1 e).1, e]
  · rfl

def patH (Hb : List Hnd) (h : Hnd) : Hnd := if idxL (hnm Hb) h.nm < 0 then h else { h with lv := (Hb.map (·.lv)).getD (idxL (hnm Hb) h.nm).toNat 0 }
def patL (Lb : List Lgr) (l : Lgr) : Lgr := if idxL (namesOf Lb) l.nm < 0 then l else { l with lv := (Lb.map (·.lv)).getD (idxL (namesOf Lb) l.nm).toNat 0, stop := (Lb.map (·.stop)).getD (idxL (namesOf Lb) l.nm).toNat false }
def patX (L : List Lgr) (H : List Hnd) (q : Int) (Lb : List Lgr) (Hb : List Hnd) (qb : Int) : Option TreeD :=
  if treeOk Lb Hb qb then changedO L H q (some (L.map (patL Lb), H.map (patH Hb), qb)) else none
theorem patH_nm (Hb : List Hnd) (h : Hnd) : (patH Hb h).nm = h.nm := by unfold patH; split <;> rfl
theorem patH_fs (Hb : List Hnd) (h : Hnd) : (patH Hb h).fs = h.fs := by unfold patH; split <;> rfl
theorem patL_nm (Lb : List Lgr) (l : Lgr) : (patL Lb l).nm = l.nm := by unfold patL; split <;> rfl
theorem patL_hs (Lb : List Lgr) (l : Lgr) : (patL Lb l).hs = l.hs := by unfold patL; split <;> rfl
theorem patL_fs (Lb : List Lgr) (l : Lgr) : (patL Lb l).fs = l.fs := by unfold patL; split <;> rfl
theorem pat_fit {L : List Lgr} {H : List Hnd} (Lb : List Lgr) (Hb : List Hnd) (h : dataFit L H) : dataFit (L.map (patL Lb)) (H.map (patH Hb)) := by
  refine ⟨⟨by rw [List.length_map]; exact h.1.1, fun a ha => ?_⟩, by rw [List.length_map]; exact h.2.1, fun a ha => ?_⟩
  · obtain ⟨l, hl, rfl⟩ := List.mem_map.1 ha
    have := h.1.2 l hl
    unfold lgrFit at this ⊢
    rw [patL_nm, patL_hs, patL_fs]; exact this
  · obtain ⟨l, hl, rfl⟩ := List.mem_map.1 ha
    have := h.2.2 l hl
    unfold hndFit at this ⊢
    rw [patH_nm, patH_fs]; exact this
theorem treeOk_parts {L : List Lgr} {H : List Hnd} {q : Int} (h : treeOk L H q = true) : lvOk q = true ∧ (∀ x ∈ H, lvOk x.lv = true) ∧ (∀ l ∈ L, lvOk l.lv = true) := by
  unfold treeOk lgrsOk hndsOk at h
  simp only [Bool.and_eq_true, decide_eq_true_eq, List.all_eq_true] at h
  obtain ⟨h0, ⟨h1, h2, h3⟩, h4, _⟩ := h
  refine ⟨h0, fun x hx => ?_, fun l hl => ?_⟩
  · have := h1 x hx; unfold hndOk at this; simp only [Bool.and_eq_true] at this; exact this.2.2.1
  · have := h4 l hl; unfold lgrOk at this; simp only [Bool.and_eq_true] at this; exact this.2.1
theorem lv_getD {α : Type} {X : List α} {f : α → Int} (h : ∀ x ∈ X, lvOk (f x) = true) (k : Nat) : lvOk ((X.map f).getD k 0) = true := by
  rw [List.getD_eq_getElem?_getD]
  cases e : (X.map f)[k]? with
  | none => rfl
  | some y => obtain ⟨x, hx, rfl⟩ := List.mem_map.1 (List.mem_of_getElem? e); exact h x hx
theorem pat_ok {L : List Lgr} {H : List Hnd} {q : Int} {Lb : List Lgr} {Hb : List Hnd} {qb : Int} (h : treeOk L H q = true) (hb : treeOk Lb Hb qb = true) : treeOk (L.map (patL Lb)) (H.map (patH Hb)) qb = true := by
  obtain ⟨b0, b1, b2⟩ := treeOk_parts hb
  have eH : (H.map (patH Hb)).map (·.nm) = H.map (·.nm) := by rw [List.map_map]; exact List.map_congr_left fun x _ => patH_nm Hb x
  have eL : (L.map (patL Lb)).map (·.nm) = L.map (·.nm) := by rw [List.map_map]; exact List.map_congr_left fun x _ => patL_nm Lb x
  have eS : ∀ x, hasL (H.map (patH Hb)) x = hasL H x := fun x => by
    unfold hasL; rw [List.any_map]; congr 1; funext y; simp only [Function.comp, patH_nm]
  unfold treeOk lgrsOk hndsOk at h ⊢
  rw [eH, eL]
  simp only [Bool.and_eq_true, decide_eq_true_eq, List.all_eq_true, List.length_map] at h ⊢
  obtain ⟨h0, ⟨h1, h2, h3⟩, h4, h5⟩ := h
  refine ⟨b0, ⟨fun x hx => ?_, h2, h3⟩, fun l hl => ?_, h5⟩
  · obtain ⟨y, hy, rfl⟩ := List.mem_map.1 hx
    have := h1 y hy
    unfold hndOk at this ⊢
    simp only [Bool.and_eq_true] at this ⊢
    rw [patH_nm, patH_fs]
    refine ⟨this.1, this.2.1, ?_, this.2.2.2⟩
    unfold patH
    split
    · exact this.2.2.1
    · exact lv_getD b1 _
  · obtain ⟨y, hy, rfl⟩ := List.mem_map.1 hl
    have := h4 y hy
    unfold lgrOk at this ⊢
    simp only [Bool.and_eq_true] at this ⊢
    rw [patL_nm, patL_fs, patL_hs]
    have e : hasL (H.map (patH Hb)) = hasL H := funext eS
    rw [e]
    refine ⟨this.1, ?_, this.2.2⟩
    unfold patL
    split
    · exact this.2.1
    · exact lv_getD b2 _
theorem pat_res_fit (L : List Lgr) (H : List Hnd) (q : Int) (Lb : List Lgr) (Hb : List Hnd) (qb : Int) : dataFit (resL (patX L H q Lb Hb qb)) (resH (patX L H q Lb Hb qb)) := by
  unfold patX
  split
  · exact changed_fit _ _ _ _
  · exact ⟨⟨by simp [resL], by simp [resL]⟩, ⟨by simp [resH], by simp [resH]⟩⟩
end Go.Proofs.Yteoblmhbjmefoaa

/-
  A HANDLER NAMED ANEW: the program's change.
-/
namespace Go.Proofs.Yteoblmhbjmefoaa
open Go.RowKit Nm
set_option linter.unusedSimpArgs false
set_option linter.unusedVariables false

theorem nm_set {α : Type} {X : List α} {k : Nat} {l : α} (h : X[k]? = some l) : X.set k l = X := by
  refine List.ext_getElem? fun i => ?_
  by_cases hi : i = k
  · subst hi; rw [List.getElem?_set_self (List.getElem?_eq_some_iff.1 h).1, h]
  · rw [List.getElem?_set_ne (by omega)]
theorem idx_natN {ns : List Name} {x : Name} (h : ¬ idxL ns x < 0) : ∃ k : Nat, idxL ns x = (k : Int) ∧ k < ns.length ∧ ns[k]? = some x := by
  obtain ⟨k, hk⟩ : ∃ k : Nat, idxL ns x = (k : Int) := ⟨_, (Int.toNat_of_nonneg (by omega)).symm⟩
  exact ⟨k, hk, idx_nat hk⟩
theorem hset_of {hs : List HndV} {H : List Hnd} (h : hsOf hs = H) {k : Nat} {y : HndV} (hy : hs[k]? = some y) (t : Name) : hsOf (hs.set k { y with h := { y.h with nm := t } }) = setNm H k t := by
  subst h
  unfold hsOf setNm
  rw [List.map_set, List.getElem?_map, hy]; rfl
theorem renL_none {s t : Name} {l : Lgr} (h : s ∉ l.hs) : renL s t l = l := by unfold renL; rw [ren_none h]

set_option maxHeartbeats 8000000 in
set_option maxRecDepth 100000 in
theorem nameClo_c {w : World} {L : List Lgr} {H : List Hnd} {q : Int} {bf bt : Nat} (f t : ByteArray) (hfz : f.size ≤ maxTxt) (htz : t.size ≤ maxTxt) (hbf : w.cell? ⟨bf, 0, none⟩ = some (.string f)) (hbt : w.cell? ⟨bt, 0, none⟩ = some (.string t)) (hok : treeOk L H q = true)
    (W : World) (lo bc : Nat) (v1 v2 : Value) (rs : List Row) (hp : CloPre w lo bc W v1 v2 rs L H q) :
    Calls Try.prog 85 #[.pointer (some ⟨bc, 0, none⟩), .pointer (some ⟨bf, 0, none⟩), .pointer (some ⟨bt, 0, none⟩)] W (CloPost lo bc W (if idxL (hnm H) f.data.toList < 0 then none else some (renT L f.data.toList t.data.toList, setNm H (idxL (hnm H) f.data.toList).toNat t.data.toList, q))) := by
  obtain ⟨hb, hlo, hbc, hkb, hs, hr, hap, hd⟩ := hp
  obtain ⟨_, _, _, h8, h1l, _⟩ := tree_names hok
  have h6 := tree_hlen hok
  have HND := hid (fun (l : Lgr) (hl : l ∈ L) => tree_nodup hok hl)
  have HTX := hid (fun (l : Lgr) (hl : l ∈ L) => (hd.1.2 l hl).2.1.2)
  have HD := hid (rename_fit (s := f.data.toList) (idxL (hnm H) f.data.toList).toNat hd (by rw [← Lib.size_eq]; exact htz : t.data.toList.length ≤ maxTxt))
  have hbfw : bf < w.heap.size := World.block_lt_of_cell? w _ hbf
  have hbtw : bt < w.heap.size := World.block_lt_of_cell? w _ hbt
  have CHA := hid (implHandlerAt_c f (hs.at_ (hr.below (Below.refl W.heap.size W).drew) hd) (Nat.le_refl _))
  obtain ⟨u1, u2, ls, hs', e, h1, h2, h3⟩ := hs
  have e' : v1 = u1 ∧ v2 = u2 := by simpa using e
  obtain ⟨rfl, rfl⟩ := e'
  subst h3
  have hll : ls.length = L.length := by rw [← h1]; simp [lsOf]
  have hlh : hs'.length = H.length := by rw [← h2]; simp [hsOf]
  obtain ⟨hl, hh⟩ := hr.lsIn
  obtain ⟨A, c, rfl, hnc, hcm⟩ := hl.1.form
  obtain ⟨A4, c4, rfl, hnc4, hcm4⟩ := hh.1.form
  clear hl hh
  rw [treeRows_eq] at hr hap
  have hr0 : Rows W lo ([] ++ two 49 6 ls.length (.slice A ls.length c) lcells lrows ls ++ two 83 3 hs'.length (.slice A4 hs'.length c4) hcells hrows hs') := by simpa using hr
  obtain ⟨g, rfl, hglt⟩ := own_some hr0.top (by omega)
  have hgl : lo ≤ g := (hr0.top.lt g rfl).1
  have hgb : g ≠ bc := fun e => hap ⟨49, 6, ls.length, .slice (some ⟨g, 0, none⟩) ls.length c, ls.flatMap lcells⟩ (by simp [two]) (by rw [← e]; rfl)
  have HNB := hid (show ∀ x ∈ ls, x.hv.ownBlock ≠ some bc from fun x hx => hap ⟨9, 1, x.hn, x.hv, x.l.hs.map txt⟩ (by
    rw [List.mem_append]; left
    simp only [two, List.mem_cons, List.mem_flatMap]
    exact .inr ⟨x, hx, by simp [lrows]⟩))
  have HHB := hid (show (Value.slice A4 hs'.length c4).ownBlock ≠ some bc from hap ⟨83, 3, hs'.length, .slice A4 hs'.length c4, hs'.flatMap hcells⟩ (by
    rw [List.mem_append]; right
    simp [two]))
  have hgf : g ≠ bf := by omega
  have hgt : g ≠ bt := by omega
  generalize hN : ls.length = n at *
  have hn8 : n ≤ 8 := by omega
  unfold maxLen at hcm hcm4
  have HR := hid hr0
  have HKB := hid hkb
  have HB := hid hb
  have HBF := hid hbf
  have HBT := hid hbt
  have HH := hid h2
  have HL := hid h1
  have HNe := hid (And.intro hgb (And.intro hgf hgt))
  have HLn := hid hll
  have HLh := hid hlh
  have HLe := hid hN
  have d0 := (HKB.out.2 0 _ rfl).1
  have d1 := (HKB.out.2 1 _ rfl).1
  have d2 := (HKB.out.2 2 _ rfl).1
  have cf := (HB.out.cell (p := ⟨bf, 0, none⟩) hbfw).trans hbf
  clear hap hr hr0 hkb hd h1 h2 e hbf hbt hok hb hgb hgf hgt hll hlh hN h8 h1l
  generalize hO : (if idxL (hnm H) f.data.toList < 0 then none else some (renT L f.data.toList t.data.toList, setNm H (idxL (hnm H) f.data.toList).toNat t.data.toList, q)) = O
  have HO := hid hO
  clear hO
  have HIX := hid (fun (h : ¬ idxL (hnm H) f.data.toList < 0) => idx_natN h)
  go_enter Try.func85, Try.ntmps85
  go_wp2_with fail
  refine wp_region_held_drew (S := (fun w' : World => (w'.cell? ⟨bc, 0, none⟩ = some (.slice (some ⟨g, 0, none⟩) n c) ∧ w'.cell? ⟨bc, 1, none⟩ = some (.slice A4 hs'.length c4) ∧ w'.cell? ⟨bc, 2, none⟩ = some (.int .i64 q)) ∧ w'.cell? ⟨bf, 0, none⟩ = some (.string f))) (by kernel_rfl) ⟨⟨d0, d1, d2⟩, cf⟩ (fun hS => ?_)
  refine wpAnyH_take (i := 0) (oi := ?oi101) (v := ?v101) ?hi101 (by kernel_rfl) ?hf101 ?hr101 ?hQ101 (Or.inl ⟨?hw101, ?hy101⟩) (by assumption) ?rest101
  case hi101 => simp only [List.getElem?_toArray, List.getElem?_cons_succ, List.getElem?_cons_zero]; rfl
  case hf101 => kernel_rfl
  case hr101 => kernel_rfl
  case hw101 => rfl
  case hy101 => (intro w hSw; (try dsimp only at hSw); go_simp; all_goals (first | done | with_reducible rfl))
  case hQ101 => exact fun _ _ _ h => h
  simp only [Act.put, List.setIfInBounds_toArray, List.set_cons_zero, List.set_cons_succ]
  refine wpAnyH_take (i := 1) (oi := ?oi102) (v := ?v102) ?hi102 (by kernel_rfl) ?hf102 ?hr102 ?hQ102 (Or.inl ⟨?hw102, ?hy102⟩) (by assumption) ?rest102
  case hi102 => simp only [List.getElem?_toArray, List.getElem?_cons_succ, List.getElem?_cons_zero]; rfl
  case hf102 => kernel_rfl
  case hr102 => kernel_rfl
  case hw102 => rfl
  case hy102 => (intro w hSw; (try dsimp only at hSw); go_simp; all_goals (first | done | with_reducible rfl))
  case hQ102 => exact fun _ _ _ h => h
  simp only [Act.put, List.setIfInBounds_toArray, List.set_cons_zero, List.set_cons_succ]
  refine wpAnyH_take (i := 2) (oi := ?oi103) (v := ?v103) ?hi103 (by kernel_rfl) ?hf103 ?hr103 ?hQ103 (Or.inl ⟨?hw103, ?hy103⟩) (by assumption) ?rest103
  case hi103 => simp only [List.getElem?_toArray, List.getElem?_cons_succ, List.getElem?_cons_zero]; rfl
  case hf103 => kernel_rfl
  case hr103 => kernel_rfl
  case hw103 => rfl
  case hy103 => (intro w hSw; (try dsimp only at hSw); go_simp; all_goals (first | done | with_reducible rfl))
  case hQ103 => exact fun _ _ _ h => h
  simp only [Act.put, List.setIfInBounds_toArray, List.set_cons_zero, List.set_cons_succ]
  refine wpAnyH_take (i := 3) (oi := ?oi104) (v := ?v104) ?hi104 (by kernel_rfl) ?hf104 ?hr104 ?hQ104 (Or.inl ⟨?hw104, ?hy104⟩) (by assumption) ?rest104
  case hi104 => simp only [List.getElem?_toArray, List.getElem?_cons_succ, List.getElem?_cons_zero]; rfl
  case hf104 => kernel_rfl
  case hr104 => kernel_rfl
  case hw104 => rfl
  case hy104 => (intro w hSw; (try dsimp only at hSw); go_simp; all_goals (first | done | with_reducible rfl))
  case hQ104 => exact fun _ _ _ h => h
  simp only [Act.put, List.setIfInBounds_toArray, List.set_cons_zero, List.set_cons_succ]
  refine wpAnyH_ready (rs := [4]) (by kernel_rfl) (by simp) ?_
  refine AllReadyH.cons (o := ?oi105) ?hi105 (fun K hK => ?step105) AllReadyH.nil
  case hi105 => simp only [List.getElem?_toArray, List.getElem?_cons_succ, List.getElem?_cons_zero]; rfl
  rw [if_pos (by rfl)]
  go_simp
  go_at_call 63
  refine (CHA.out).mono ?_
  rintro e w1 ⟨rfl, hb1⟩
  have HW1 := hid (show Below W.heap.size W w1 from ((Below.refl W.heap.size W).drew).trans hb1)
  have K1 := HKB.out.to HW1.out
  have HK1 := hid K1
  have HR1 := hid (HR.out.below HW1.out)
  have HL1 := hid (HW1.out.mono (show lo ≤ W.heap.size by have := HKB.out.1; omega))
  refine hK.out _ _ ⟨⟨(K1.2 0 _ rfl).1, (K1.2 1 _ rfl).1, (K1.2 2 _ rfl).1⟩, (HW1.out.cell (p := ⟨bf, 0, none⟩) (World.block_lt_of_cell? _ _ cf)).trans cf⟩ (fun hS => ?_)
  refine wpAnyH_take (i := 5) (oi := ?oi106) (v := ?v106) ?hi106 (by kernel_rfl) ?hf106 ?hr106 ?hQ106 (Or.inl ⟨?hw106, ?hy106⟩) (by assumption) ?rest106
  case hi106 => simp only [List.getElem?_toArray, List.getElem?_cons_succ, List.getElem?_cons_zero]; rfl
  case hf106 => kernel_rfl
  case hr106 => kernel_rfl
  case hw106 => rfl
  case hy106 => (intro w hSw; (try dsimp only at hSw); go_simp; all_goals (first | done | with_reducible rfl))
  case hQ106 => exact fun _ _ _ h => h
  simp only [Act.put, List.setIfInBounds_toArray, List.set_cons_zero, List.set_cons_succ]
  refine wpAnyH_done (by kernel_rfl) ?_ _
  clear hb1 K1 d0 d1 d2 hS
  by_cases hneg : idxL (hnm H) f.data.toList < 0
  · have HO1 := hid (show O = none by rw [← HO.out, if_pos hneg])
    generalize idxL (hnm H) f.data.toList = ix at *
    go_wp2_with fail
    go_ret
    exact ⟨HL1.out, by rw [HO1.out]; rfl, fun x hx => by rw [HO1.out] at hx; cases hx⟩
  obtain ⟨kk, hkk, hkl, hkx⟩ := HIX.out (by omega)
  have hO1 : O = some (renT L f.data.toList t.data.toList, setNm H kk t.data.toList, q) := by rw [← HO.out, if_neg hneg, hkk]; rfl
  rw [hkk] at HD
  rw [hkk]
  have hkH : kk < hs'.length := by have := HLh.out; unfold hnm at hkl; rw [List.length_map] at hkl; omega
  obtain ⟨y, hy⟩ : ∃ y, hs'[kk]? = some y := ⟨_, List.getElem?_eq_getElem hkH⟩
  have HO2 := hid hO1
  have HYS := hid (hset_of HH.out hy t.data.toList)
  -- the handler's row
  have hrh : Rows w1 lo (two 49 6 n (.slice (some ⟨g, 0, none⟩) n c) lcells lrows ls ++ two 83 3 hs'.length (.slice A4 hs'.length c4) hcells hrows hs' ++ []) := by simpa using HR1.out
  obtain ⟨g4, rfl, _⟩ := own_some hrh.top (by omega)
  have hg4 : lo ≤ g4 := (hrh.top.lt g4 rfl).1
  have hg4b : g4 ≠ bc := fun e => HHB.out (by rw [← e]; rfl)
  have hg4f : g4 ≠ bf := by omega
  have hg4t : g4 ≠ bt := by omega
  have ho := hrh.cell_at (j := 0) hcells_len hy (u := txt y.h.nm) rfl
  have oc : w1.drew.cell? ⟨g4, kk * 3, none⟩ = some (txt y.h.nm) := ho.1
  have of : w1.drew.frozen? ⟨g4, kk * 3, none⟩ = false := ho.2
  have hrs0 := hrh.cellset (j := 0) (e := 1) (x := y) (y := { y with h := { y.h with nm := t.data.toList } }) (u := .string t) hcells_len hrows_len hy (by omega) (by show [txt _, _, _] = _; rw [txt_data]; rfl) rfl
  have hrs := hrs0.below ((Below.refl _ _).drew)
  have HR2 := hid (show Rows (w1.setCell ⟨g4, kk * 3, none⟩ (.string t)).drew lo ([] ++ two 49 6 n (.slice (some ⟨g, 0, none⟩) n c) lcells lrows ls ++ two 83 3 hs'.length (.slice (some ⟨g4, 0, none⟩) hs'.length c4) hcells hrows (hs'.set kk { y with h := { y.h with nm := t.data.toList } })) by simpa using hrs)
  have HK2 := hid (show Blk (w1.setCell ⟨g4, kk * 3, none⟩ (.string t)).drew bc _ from (HK1.out.apart ⟨g4, kk * 3, none⟩ (.string t) hg4b).dr 1)
  have HL2 := hid ((HL1.out.setCell (p := ⟨g4, kk * 3, none⟩) hg4 (.string t)).drew)
  have d1 := (HK1.out.2 1 _ rfl).1
  have ct : w1.cell? ⟨bt, 0, none⟩ = some (.string t) := (HW1.out.cell (p := ⟨bt, 0, none⟩) (show bt < W.heap.size by have := HB.out.size; omega)).trans ((HB.out.cell (p := ⟨bt, 0, none⟩) hbtw).trans HBT.out)
  have s0 : (0 : Int) ≤ (kk : Int) := by omega
  have s1 : (kk : Int) < (hs'.length : Int) := by omega
  have s2 : ((kk : Int)).toNat = kk := by simp
  have hhl : (hs'.set kk { y with h := { y.h with nm := t.data.toList } }).length = hs'.length := List.length_set ..
  generalize hs'.set kk { y with h := { y.h with nm := t.data.toList } } = hs2 at *
  have HLs := hid hhl
  clear hneg hkk hkl hkx hO1 hrh ho hrs hrs0 cf hhl
  go_wp2_with fail
  refine wp_region_held_drew (S := (fun w' : World => w'.cell? ⟨bc, 1, none⟩ = some (.slice (some ⟨g4, 0, none⟩) hs'.length c4) ∧ w'.cell? ⟨bt, 0, none⟩ = some (.string t))) (by kernel_rfl) ⟨d1, ct⟩ (fun hS => ?_)
  refine wpAnyH_take (i := 0) (oi := ?oi107) (v := ?v107) ?hi107 (by kernel_rfl) ?hf107 ?hr107 ?hQ107 (Or.inl ⟨?hw107, ?hy107⟩) (by assumption) ?rest107
  case hi107 => simp only [List.getElem?_toArray, List.getElem?_cons_succ, List.getElem?_cons_zero]; rfl
  case hf107 => kernel_rfl
  case hr107 => kernel_rfl
  case hw107 => rfl
  case hy107 => (intro w hSw; (try dsimp only at hSw); go_simp; all_goals (first | done | with_reducible rfl))
  case hQ107 => exact fun _ _ _ h => h
  simp only [Act.put, List.setIfInBounds_toArray, List.set_cons_zero, List.set_cons_succ]
  refine wpAnyH_take (i := 1) (oi := ?oi108) (v := ?v108) ?hi108 (by kernel_rfl) ?hf108 ?hr108 ?hQ108 (Or.inl ⟨?hw108, ?hy108⟩) (by assumption) ?rest108
  case hi108 => simp only [List.getElem?_toArray, List.getElem?_cons_succ, List.getElem?_cons_zero]; rfl
  case hf108 => kernel_rfl
  case hr108 => kernel_rfl
  case hw108 => rfl
  case hy108 => (intro w hSw; (try dsimp only at hSw); go_simp; all_goals (first | done | with_reducible rfl))
  case hQ108 => exact fun _ _ _ h => h
  simp only [Act.put, List.setIfInBounds_toArray, List.set_cons_zero, List.set_cons_succ]
  refine wpAnyH_take (i := 2) (oi := ?oi109) (v := ?v109) ?hi109 (by kernel_rfl) ?hf109 ?hr109 ?hQ109 (Or.inl ⟨?hw109, ?hy109⟩) (by assumption) ?rest109
  case hi109 => simp only [List.getElem?_toArray, List.getElem?_cons_succ, List.getElem?_cons_zero]; rfl
  case hf109 => kernel_rfl
  case hr109 => kernel_rfl
  case hw109 => rfl
  case hy109 => (intro w hSw; (try dsimp only at hSw); go_simp; all_goals (first | done | with_reducible rfl))
  case hQ109 => exact fun _ _ _ h => h
  simp only [Act.put, List.setIfInBounds_toArray, List.set_cons_zero, List.set_cons_succ]
  refine wpAnyH_take (i := 3) (oi := ?oi110) (v := ?v110) ?hi110 (by kernel_rfl) ?hf110 ?hr110 ?hQ110 (Or.inl ⟨?hw110, ?hy110⟩) (by assumption) ?rest110
  case hi110 => simp only [List.getElem?_toArray, List.getElem?_cons_succ, List.getElem?_cons_zero]; rfl
  case hf110 => kernel_rfl
  case hr110 => kernel_rfl
  case hw110 => rfl
  case hy110 => (intro w hSw; (try dsimp only at hSw); go_simp; all_goals (first | done | with_reducible rfl))
  case hQ110 => exact fun _ _ _ h => h
  simp only [Act.put, List.setIfInBounds_toArray, List.set_cons_zero, List.set_cons_succ]
  refine wpAnyH_take (i := 4) (oi := ?oi111) (v := ?v111) ?hi111 (by kernel_rfl) ?hf111 ?hr111 ?hQ111 (Or.inl ⟨?hw111, ?hy111⟩) (by assumption) ?rest111
  case hi111 => simp only [List.getElem?_toArray, List.getElem?_cons_succ, List.getElem?_cons_zero]; rfl
  case hf111 => kernel_rfl
  case hr111 => kernel_rfl
  case hw111 => rfl
  case hy111 => (intro w hSw; (try dsimp only at hSw); go_simp; all_goals (first | done | with_reducible rfl))
  case hQ111 => exact fun _ _ _ h => h
  simp only [Act.put, List.setIfInBounds_toArray, List.set_cons_zero, List.set_cons_succ]
  refine wpAnyH_take (i := 5) (oi := ?oi112) (v := ?v112) ?hi112 (by kernel_rfl) ?hf112 ?hr112 ?hQ112 (Or.inl ⟨?hw112, ?hy112⟩) (by assumption) ?rest112
  case hi112 => simp only [List.getElem?_toArray, List.getElem?_cons_succ, List.getElem?_cons_zero]; rfl
  case hf112 => kernel_rfl
  case hr112 => kernel_rfl
  case hw112 => rfl
  case hy112 => (intro w hSw; (try dsimp only at hSw); go_simp; all_goals (first | done | with_reducible rfl))
  case hQ112 => exact fun _ _ _ h => h
  simp only [Act.put, List.setIfInBounds_toArray, List.set_cons_zero, List.set_cons_succ]
  refine wpAnyH_take (i := 6) (oi := ?oi113) (v := ?v113) ?hi113 (by kernel_rfl) ?hf113 ?hr113 ?hQ113 (Or.inl ⟨?hw113, ?hy113⟩) (by assumption) ?rest113
  case hi113 => simp only [List.getElem?_toArray, List.getElem?_cons_succ, List.getElem?_cons_zero]; rfl
  case hf113 => kernel_rfl
  case hr113 => kernel_rfl
  case hw113 => rfl
  case hy113 => (intro w hSw; (try dsimp only at hSw); go_simp; all_goals (first | done | with_reducible rfl))
  case hQ113 => exact fun _ _ _ h => h
  simp only [Act.put, List.setIfInBounds_toArray, List.set_cons_zero, List.set_cons_succ]
  refine wpAnyH_take (i := 7) (oi := ?oi114) (v := ?v114) ?hi114 (by kernel_rfl) ?hf114 ?hr114 ?hQ114 (Or.inl ⟨?hw114, ?hy114⟩) (by assumption) ?rest114
  case hi114 => simp only [List.getElem?_toArray, List.getElem?_cons_succ, List.getElem?_cons_zero]; rfl
  case hf114 => kernel_rfl
  case hr114 => kernel_rfl
  case hw114 => rfl
  case hy114 => (intro w hSw; (try dsimp only at hSw); go_simp; all_goals (first | done | with_reducible rfl))
  case hQ114 => exact fun _ _ _ h => h
  simp only [Act.put, List.setIfInBounds_toArray, List.set_cons_zero, List.set_cons_succ]
  refine wpAnyH_ready (rs := [8]) (by kernel_rfl) (by simp) ?_
  refine AllReadyH.cons (o := ?oi115) ?hi115 (fun K hK => ?step115) AllReadyH.nil
  case hi115 => simp only [List.getElem?_toArray, List.getElem?_cons_succ, List.getElem?_cons_zero]; rfl
  rw [if_pos (by rfl)]
  go_simp
  refine hK.out _ _ ⟨(World.cell?_setCell_far _ _ _ _ hg4b).trans hS.1, (World.cell?_setCell_far _ _ _ _ hg4t).trans hS.2⟩ (fun _ => ?_)
  refine wpAnyH_done (by kernel_rfl) ?_ _
  clear oc of d1 ct hS
  generalize hw2 : (w1.setCell ⟨g4, kk * 3, none⟩ (.string t)).drew = w2 at *
  clear hw2
  have d0 := (HK2.out.2 0 _ rfl).1
  go_wp2_with fail
  clear d0
  have HHs := hid (And.intro HYS.out HLs.out)
  go_loopw [7, 8, 29] (fun lv kv iv wr => ∃ (k : Nat) (cur : List LgrV) (u7 u8 : Value), iv = .int .i64 k ∧ lv = u7 ∧ kv = u8 ∧ k ≤ n ∧ Hid (lsOf cur = renT (L.take k) f.data.toList t.data.toList ++ L.drop k) ∧
    Hid (Rows wr lo ([] ++ two 49 6 n (.slice (some ⟨g, 0, none⟩) n c) lcells lrows cur ++ two 83 3 hs'.length (.slice (some ⟨g4, 0, none⟩) hs'.length c4) hcells hrows hs2)) ∧ Hid (Blk wr bc [.slice (some ⟨g, 0, none⟩) n c, .slice (some ⟨g4, 0, none⟩) hs'.length c4, .int .i64 q]) ∧ Hid (∀ x ∈ cur, x.hv.ownBlock ≠ some bc) ∧ Hid (Below lo W wr)) (fun _ _ iv _ => n - (intOf iv).toNat)
  case atStart => exact ⟨0, ls, _, _, rfl, rfl, rfl, by omega, by simpa [renT, Hid] using HL.out, HR2.out, HK2.out, HNB.out, HL2.out⟩
  case round =>
    obtain ⟨k, cur, u7, u8, rfl, rfl, rfl, hk, HC, HRx, HKx, HNx, HBx⟩ := hrel
    by_cases hlt : k < n
    · have hkL : k < L.length := by have := HLn.out; omega
      obtain ⟨l, hl⟩ : ∃ l, L[k]? = some l := ⟨_, List.getElem?_eq_getElem hkL⟩
      have hcl : (lsOf cur)[k]? = some l := by rw [HC.out, ren_at _ _ hkL]; exact hl
      obtain ⟨x, hx, hxl⟩ : ∃ x, cur[k]? = some x ∧ x.l = l := by
        unfold lsOf at hcl
        rw [List.getElem?_map] at hcl
        cases hx : cur[k]? with
        | none => rw [hx] at hcl; cases hcl
        | some x => rw [hx] at hcl; exact ⟨x, rfl, Option.some.inj hcl⟩
      obtain ⟨xl, xhv, xhn, xfv, xfn⟩ := x
      simp only at hxl
      subst hxl
      have own6 := HRx.out.sub_ hx (r := ⟨9, 1, xhn, xhv, xl.hs.map txt⟩) (by simp [lrows])
      have own7 := HRx.out.sub_ hx (r := ⟨134, 3, xfn, xfv, fsCells xl.fs⟩) (by simp [lrows])
      replace own6 : wr.ownsRow lo 9 1 xhv xhn (xl.hs.map txt) := own6
      replace own7 : wr.ownsRow lo 134 3 xfv xfn (fsCells xl.fs) := own7
      have hnb := HNx.out _ (List.mem_of_getElem? hx)
      simp only at hnb
      obtain ⟨A6, k6, e6, hnc6, hcm6⟩ := (Sl.of_own own6).form
      obtain ⟨A7, k7, e7, _, _⟩ := (Sl.of_own own7).form
      subst e6
      subst e7
      unfold maxLen at hcm6
      have o0 : wr.cell? ⟨g, k * 6, none⟩ = some (txt xl.nm) := (HRx.out.cell_at (j := 0) lcells_len hx rfl).1
      have o1 : wr.cell? ⟨g, k * 6 + 1, none⟩ = some (.int .i64 xl.lv) := (HRx.out.cell_at (j := 1) lcells_len hx rfl).1
      have o2 : wr.cell? ⟨g, k * 6 + 2, none⟩ = some (.slice A6 xhn k6) := (HRx.out.cell_at (j := 2) lcells_len hx rfl).1
      have o3 : wr.cell? ⟨g, k * 6 + 3, none⟩ = some (.slice A7 xfn k7) := (HRx.out.cell_at (j := 3) lcells_len hx rfl).1
      have o4 : wr.cell? ⟨g, k * 6 + 4, none⟩ = some (.bool xl.stop) := (HRx.out.cell_at (j := 4) lcells_len hx rfl).1
      have o5 : wr.cell? ⟨g, k * 6 + 5, none⟩ = some (.bool xl.off) := (HRx.out.cell_at (j := 5) lcells_len hx rfl).1
      obtain ⟨p, hp, hp2⟩ := txt_mk xl.nm
      rw [hp] at o0
      obtain ⟨wb, hwb⟩ : ∃ wb, wb = wr.alloc (.cells #[.string p, .int .i64 xl.lv, .slice A6 xhn k6, .slice A7 xfn k7, .bool xl.stop, .bool xl.off] 49) := ⟨_, rfl⟩
      have hba : Below wr.heap.size wr wb := by rw [hwb]; exact (Below.refl _ _).alloc (Nat.le_refl _) _
      have KX := hid (show Blk wb wr.heap.size [.string p, .int .i64 xl.lv, .slice A6 xhn k6, .slice A7 xfn k7, .bool xl.stop, .bool xl.off] by rw [hwb]; exact Blk.new wr _ _)
      have HRb := hid (HRx.out.below hba)
      have HKb := hid (HKx.out.to hba)
      have hlw : lo ≤ wr.heap.size := by have := HKx.out.1; omega
      have HBb := hid (HBx.out.trans (hba.mono hlw))
      have own6b := own_below own6 hba
      have hgx : ∀ z, (Value.slice A6 xhn k6).ownBlock = some z → z ≠ wr.heap.size := fun z hz => by have := (own6.lt z hz).2; omega
      have hmem : xl ∈ L := List.mem_of_getElem? hl
      have CIX := hid (indexTxt_c (.slice A6 xhn k6) xhn wb.heap.size xl.hs f wb ⟨Sl.of_own own6b, HTX.out xl hmem⟩)
      have cf : wb.cell? ⟨bf, 0, none⟩ = some (.string f) := (HBb.out.cell (p := ⟨bf, 0, none⟩) (show bf < lo by omega)).trans ((HB.out.cell (p := ⟨bf, 0, none⟩) hbfw).trans HBF.out)
      have ct : wb.cell? ⟨bt, 0, none⟩ = some (.string t) := (HBb.out.cell (p := ⟨bt, 0, none⟩) (show bt < lo by omega)).trans ((HB.out.cell (p := ⟨bt, 0, none⟩) hbtw).trans HBT.out)
      have x2 := (KX.out.2 2 _ rfl).1
      have HOW := hid own6b
      have cfe : (wr.alloc (.cells #[.string p, .int .i64 xl.lv, .slice A6 xhn k6, .slice A7 xfn k7, .bool xl.stop, .bool xl.off] 49)).cell? ⟨bf, 0, none⟩ = some (.string f) := by rw [← hwb]; exact cf
      have x2e : (wr.alloc (.cells #[.string p, .int .i64 xl.lv, .slice A6 xhn k6, .slice A7 xfn k7, .bool xl.stop, .bool xl.off] 49)).cell? ⟨wr.heap.size, 2, none⟩ = some (.slice A6 xhn k6) := by rw [← hwb]; exact x2
      have HX := hid hx
      have HLk := hid hl
      have hnd := (HND.out xl hmem).1
      have hlen6 : xl.hs.length = xhn := by have := own6.1; simpa using this
      have hm6 := (HND.out xl hmem).2
      have HND1 := hid (And.intro hnd hlen6)
      have hxn6 : xhn ≤ 6 := by omega
      clear hx hl hcl own6 own7 own6b hmem hp hp2 hnd hlen6 hm6
      by_cases hin : f.data.toList ∈ xl.hs
      · obtain ⟨jj, hjj, hjl, hjx⟩ := idx_natN (ns := xl.hs) (x := f.data.toList) (by unfold idxL; rw [if_pos hin]; omega)
        rw [hjj] at CIX
        have hjn : jj < xhn := by have := HND1.out.2; omega
        obtain ⟨g6, rfl, _⟩ := own_some HOW.out (by omega)
        have hg6 : lo ≤ g6 := (HOW.out.lt g6 rfl).1
        have hg6b : g6 ≠ bc := fun e => hnb (by rw [← e]; rfl)
        have hg6x : g6 ≠ wr.heap.size := hgx g6 rfl
        have hset := hid (ren_set (t := t.data.toList) HND1.out.1 hjx)
        have st := HOW.out.stored jj (.string t)
        have HRs := hid (HRb.out.rowset (j := 0) (e := 2) (x := ⟨xl, .slice (some ⟨g6, 0, none⟩) xhn k6, xhn, .slice A7 xfn k7, xfn⟩) (y := ⟨renL f.data.toList t.data.toList xl, .slice (some ⟨g6, 0, none⟩) xhn k6, xhn, .slice A7 xfn k7, xfn⟩)
          (r := ⟨9, 1, xhn, .slice (some ⟨g6, 0, none⟩) xhn k6, xl.hs.map txt⟩) (ys := (xl.hs.map txt).set jj (.string t)) lcells_len lrows_len HX.out (by omega) rfl st.2 st.1 rfl
          (by
            show [(⟨_, _, _, _, (xl.hs.map (renS f.data.toList t.data.toList)).map txt⟩ : Row), _] = _
            rw [← hset.out, List.map_set, txt_data]; rfl))
        have HKs := hid (HKb.out.apart ⟨g6, jj, none⟩ (.string t) hg6b)
        have HBs := hid (HBb.out.setCell (p := ⟨g6, jj, none⟩) hg6 (.string t))
        have oc := (HOW.out.cellAt jj (by simp; have := HND1.out.2; omega))
        have of := HOW.out.frozenAt jj
        obtain ⟨z, hz⟩ : ∃ z, wb.cell? ⟨g6, jj, none⟩ = some z := own_cell HOW.out (by omega)
        have s0 : (0 : Int) ≤ (k : Int) := by omega
        have s1 : (k : Int) < (n : Int) := by omega
        have s2 : ((k : Int)).toNat = k := by simp
        have t0 : (0 : Int) ≤ (jj : Int) := by omega
        have t1 : (jj : Int) < (xhn : Int) := by omega
        have t2 : ((jj : Int)).toNat = jj := by simp
        clear hjj hjl hjx st hin oc
        go_wp2_with fail
        rw [← hwb]
        refine (CIX.out).mono ?_
        rintro e w9 ⟨rfl, rfl⟩
        clear o0 o1 o2 o3 o4 o5 hwb cfe x2e
        go_wp2_with fail
        go_roundw
        case rel =>
          refine ⟨k + 1, cur.set k ⟨renL f.data.toList t.data.toList xl, .slice (some ⟨g6, 0, none⟩) xhn k6, xhn, .slice A7 xfn k7, xfn⟩, _, _, by go_num, rfl, rfl, by omega, ?_, HRs.out, HKs.out, ?_, HBs.out⟩
          · show lsOf (cur.set k _) = _
            rw [ren_step _ _ HLk.out, ← HC.out]
            unfold lsOf
            rw [List.map_set]
          · intro x hx
            rcases List.mem_or_eq_of_mem_set hx with hx | rfl
            · exact HNx.out x hx
            · exact hnb
        case measure => simp [intOf]; omega
      · have hix : idxL xl.hs f.data.toList = -1 := idx_miss _ _ hin
        rw [hix] at CIX
        have HRL := hid (renL_none (t := t.data.toList) hin)
        have s0 : (0 : Int) ≤ (k : Int) := by omega
        have s1 : (k : Int) < (n : Int) := by omega
        have s2 : ((k : Int)).toNat = k := by simp
        clear hix hin
        go_wp2_with fail
        rw [← hwb]
        refine (CIX.out).mono ?_
        rintro e w9 ⟨rfl, rfl⟩
        clear o0 o1 o2 o3 o4 o5 hwb cfe x2e
        go_wp2_with fail
        go_roundw
        case rel =>
          refine ⟨k + 1, cur, _, _, by go_num, rfl, rfl, by omega, ?_, HRb.out, HKb.out, HNx.out, HBb.out⟩
          show lsOf cur = _
          rw [ren_step _ _ HLk.out, HRL.out, nm_set ((ren_at _ _ hkL).trans HLk.out)]
          exact HC.out
        case measure => simp [intOf]; omega
    · obtain rfl : k = n := by omega
      have hkL := HLn.out
      have e0 : L.take k = L := List.take_of_length_le (by omega)
      have e1 : L.drop k = [] := List.drop_eq_nil_of_le (by omega)
      rw [e0, e1, List.append_nil] at HC
      clear e0 e1
      go_wp2_with fail
      go_ret
      refine ⟨HBx.out, by rw [HO2.out]; rfl, fun x hx => ?_⟩
      rw [HO2.out] at hx
      obtain rfl := Option.some.inj hx
      have hcl : cur.length = k := by have h := congrArg List.length HC.out; simp [lsOf, renT] at h; omega
      refine ⟨_, _, _, _, _, _, treeRows cur.length _ cur hs2.length _ hs2, HKx.out, ⟨_, _, cur, hs2, rfl, HC.out, HHs.out.1, rfl⟩, ?_, HD.out⟩
      rw [treeRows_eq, hcl, HHs.out.2]
      simpa using HRx.out
end Go.Proofs.Yteoblmhbjmefoaa

/-
  A TREE PATCHED WITH LEVELS OF ANOTHER ONE: the program's change.
-/
namespace Go.Proofs.Yteoblmhbjmefoaa
open Go.RowKit Nm
set_option linter.unusedSimpArgs false
set_option linter.unusedVariables false

theorem TreeIn.hndP {w : World} {B n1 k1 n2 k2 : Nat} {A1 A2 : Option Addr} {L : List Lgr} {H : List Hnd} {q : Int} (h : TreeIn w B (.agg #[.slice A1 n1 k1, .slice A2 n2 k2, .int .i64 q]) L H q) {k : Nat} (hk : k < H.length) :
    ∃ b o, A2 = some ⟨b, o, none⟩ ∧ b < B ∧ k < n2 ∧ k2 ≤ maxLen ∧ n2 ≤ k2 ∧ w.cell? ⟨b, o + k * 3 + 1, none⟩ = some (.int .i64 ((H.map (·.lv)).getD k 0)) := by
  obtain ⟨ls, hs, ⟨A1', n1', k1', A2', n2', k2', e, _, h1, _⟩, h2, h3⟩ := h
  simp at e
  obtain ⟨⟨rfl, rfl, rfl⟩, ⟨rfl, rfl, rfl⟩⟩ := e
  have hc := h1.count
  have hkn : k < n2 := by rw [← h3] at hk; unfold hsOf at hk; rw [List.length_map] at hk; omega
  obtain ⟨b, o, x, s, rfl, hb, hx, hsx, _, hf, c0, c1, c2⟩ := h1.at_ hkn
  have e1 : H[k]? = some x.h := by rw [← h3]; unfold hsOf; rw [List.getElem?_map, hx]; rfl
  refine ⟨b, o, rfl, hb, hkn, h1.1.cap.2, h1.1.cap.1, ?_⟩
  rw [c1]
  simp [List.getD, e1]
theorem TreeIn.lgrP {w : World} {B n1 k1 n2 k2 : Nat} {A1 A2 : Option Addr} {L : List Lgr} {H : List Hnd} {q : Int} (h : TreeIn w B (.agg #[.slice A1 n1 k1, .slice A2 n2 k2, .int .i64 q]) L H q) {k : Nat} (hk : k < L.length) :
    ∃ b o, A1 = some ⟨b, o, none⟩ ∧ b < B ∧ k < n1 ∧ k1 ≤ maxLen ∧ n1 ≤ k1 ∧ w.cell? ⟨b, o + k * 6 + 1, none⟩ = some (.int .i64 ((L.map (·.lv)).getD k 0)) ∧ w.cell? ⟨b, o + k * 6 + 4, none⟩ = some (.bool ((L.map (·.stop)).getD k false)) := by
  obtain ⟨ls, hl, hL⟩ := h.loggers
  have hc := hl.count
  have hkn : k < n1 := by rw [← hL] at hk; unfold lsOf at hk; rw [List.length_map] at hk; omega
  obtain ⟨b, o, x, s, rfl, hb, hx, _, _, _, _, _, c1, _, _, c4, _⟩ := hl.at_ hkn
  have e1 : L[k]? = some x.l := by rw [← hL]; unfold lsOf; rw [List.getElem?_map, hx]; rfl
  refine ⟨b, o, rfl, hb, hkn, hl.1.cap.2, hl.1.cap.1, ?_, ?_⟩
  · rw [c1]; simp [List.getD, e1]
  · rw [c4]; simp [List.getD, e1]
theorem patH_no {Hb : List Hnd} {h : Hnd} (hn : idxL (hnm Hb) h.nm < 0) : patH Hb h = h := by unfold patH; rw [if_pos hn]
theorem patH_hit {Hb : List Hnd} {h : Hnd} {k : Nat} (hn : idxL (hnm Hb) h.nm = (k : Int)) : patH Hb h = { h with lv := (Hb.map (·.lv)).getD k 0 } := by unfold patH; rw [hn, if_neg (by omega)]; rfl
theorem patL_no {Lb : List Lgr} {l : Lgr} (hn : idxL (namesOf Lb) l.nm < 0) : patL Lb l = l := by unfold patL; rw [if_pos hn]
theorem patL_hit {Lb : List Lgr} {l : Lgr} {k : Nat} (hn : idxL (namesOf Lb) l.nm = (k : Int)) : patL Lb l = { l with lv := (Lb.map (·.lv)).getD k 0, stop := (Lb.map (·.stop)).getD k false } := by unfold patL; rw [hn, if_neg (by omega)]; rfl
theorem hsOf_at {cur : List HndV} {H : List Hnd} {f : Hnd → Hnd} {k : Nat} {h : Hnd} (hc : hsOf cur = (H.take k).map f ++ H.drop k) (hk : H[k]? = some h) : ∃ x, cur[k]? = some x ∧ x.h = h := by
  have hl := mapk_at f (List.getElem?_eq_some_iff.1 hk).1
  rw [← hc, hk] at hl
  unfold hsOf at hl
  rw [List.getElem?_map] at hl
  cases hx : cur[k]? with
  | none => rw [hx] at hl; cases hl
  | some x => rw [hx] at hl; exact ⟨x, rfl, Option.some.inj hl⟩
theorem lsOf_at {cur : List LgrV} {L : List Lgr} {f : Lgr → Lgr} {k : Nat} {l : Lgr} (hc : lsOf cur = (L.take k).map f ++ L.drop k) (hk : L[k]? = some l) : ∃ x, cur[k]? = some x ∧ x.l = l := by
  have hl := mapk_at f (List.getElem?_eq_some_iff.1 hk).1
  rw [← hc, hk] at hl
  unfold lsOf at hl
  rw [List.getElem?_map] at hl
  cases hx : cur[k]? with
  | none => rw [hx] at hl; cases hl
  | some x => rw [hx] at hl; exact ⟨x, rfl, Option.some.inj hl⟩

set_option maxHeartbeats 16000000 in
set_option maxRecDepth 100000 in
theorem patClo_c {w : World} {B m1 j1 m2 j2 bb : Nat} {B1 B2 : Option Addr} {Lb : List Lgr} {Hb : List Hnd} {qb : Int} {L : List Lgr} {H : List Hnd} {q : Int} (hT : TreeIn w B (.agg #[.slice B1 m1 j1, .slice B2 m2 j2, .int .i64 qb]) Lb Hb qb) (hBw : B ≤ w.heap.size)
    (hbb : Blk w bb [.slice B1 m1 j1, .slice B2 m2 j2, .int .i64 qb]) (hokb : treeOk Lb Hb qb = true) (hok : treeOk L H q = true)
    (W : World) (lo bc : Nat) (v1 v2 : Value) (rs : List Row) (hp : CloPre w lo bc W v1 v2 rs L H q) :
    Calls Try.prog 89 #[.pointer (some ⟨bc, 0, none⟩), .pointer (some ⟨bb, 0, none⟩)] W (CloPost lo bc W (some (L.map (patL Lb), H.map (patH Hb), qb))) := by
  obtain ⟨hb, hlo, hbc, hkb, hs, hr, hap, hd⟩ := hp
  obtain ⟨_, _, _, h8, h1l, _⟩ := tree_names hok
  have h6 := tree_hlen hok
  have HD := hid (pat_fit Lb Hb hd)
  have hbbw : bb < w.heap.size := hbb.1
  have CHA := hid (fun (s : ByteArray) (W' : World) (hW : Below w.heap.size w W') => implHandlerAt_c s (hT.below hW hBw) (Nat.le_trans hBw hW.size))
  have CLA := hid (fun (s : ByteArray) (W' : World) (hW : Below w.heap.size w W') => (show Calls Try.prog 28 #[.agg #[.slice B1 m1 j1, .slice B2 m2 j2, .int .i64 qb], .string s] W' (fun e w' => e = .returned (.int .i64 (idxL (namesOf Lb) s.data.toList)) ∧ Below W'.heap.size W' w') from by
    have h9 := implLoggerAtX_c s (hT.below hW hBw) (Nat.le_trans hBw hW.size); rw [if_pos hokb] at h9; exact h9))
  have HHB := hid (fun (k : Nat) (hk : k < Hb.length) => hT.hndP hk)
  have HLB := hid (fun (k : Nat) (hk : k < Lb.length) => hT.lgrP hk)
  have HIN := hid (fun (W' : World) (hW : Below w.heap.size w W') => hbb.to hW)
  obtain ⟨u1, u2, ls, hs', e, h1, h2, h3⟩ := hs
  have e' : v1 = u1 ∧ v2 = u2 := by simpa using e
  obtain ⟨rfl, rfl⟩ := e'
  subst h3
  have hll : ls.length = L.length := by rw [← h1]; simp [lsOf]
  have hlh : hs'.length = H.length := by rw [← h2]; simp [hsOf]
  obtain ⟨hl, hh⟩ := hr.lsIn
  obtain ⟨A, c, rfl, hnc, hcm⟩ := hl.1.form
  obtain ⟨A4, c4, rfl, hnc4, hcm4⟩ := hh.1.form
  clear hl hh
  rw [treeRows_eq] at hr hap
  have hr0 : Rows W lo ([] ++ two 49 6 ls.length (.slice A ls.length c) lcells lrows ls ++ two 83 3 hs'.length (.slice A4 hs'.length c4) hcells hrows hs') := by simpa using hr
  obtain ⟨g, rfl, hglt⟩ := own_some hr0.top (by omega)
  have hgl : lo ≤ g := (hr0.top.lt g rfl).1
  have hgb : g ≠ bc := fun e => hap ⟨49, 6, ls.length, .slice (some ⟨g, 0, none⟩) ls.length c, ls.flatMap lcells⟩ (by simp [two]) (by rw [← e]; rfl)
  have HHN := hid (show (Value.slice A4 hs'.length c4).ownBlock ≠ some bc from hap ⟨83, 3, hs'.length, .slice A4 hs'.length c4, hs'.flatMap hcells⟩ (by
    rw [List.mem_append]; right
    simp [two]))
  have HNL := hid (show ∀ x ∈ ls, x.hv.ownBlock ≠ some bc ∧ x.fv.ownBlock ≠ some bc from fun x hx => ⟨hap ⟨9, 1, x.hn, x.hv, x.l.hs.map txt⟩ (by
    rw [List.mem_append]; left
    simp only [two, List.mem_cons, List.mem_flatMap]
    exact .inr ⟨x, hx, by simp [lrows]⟩), hap ⟨134, 3, x.fn, x.fv, fsCells x.l.fs⟩ (by
    rw [List.mem_append]; left
    simp only [two, List.mem_cons, List.mem_flatMap]
    exact .inr ⟨x, hx, by simp [lrows]⟩)⟩)
  have HNH := hid (show ∀ x ∈ hs', x.fv.ownBlock ≠ some bc from fun x hx => hap ⟨134, 3, x.fn, x.fv, fsCells x.h.fs⟩ (by
    rw [List.mem_append]; right
    simp only [two, List.mem_cons, List.mem_flatMap]
    exact .inr ⟨x, hx, by simp [hrows]⟩))
  have hgx : g ≠ bb := by omega
  have hbcb : bc ≠ bb := by omega
  generalize hN : ls.length = n at *
  generalize hN2 : hs'.length = nh at *
  have hn8 : n ≤ 8 := by omega
  have hn6 : nh ≤ 6 := by omega
  unfold maxLen at hcm hcm4
  have HR := hid hr0
  have HKB := hid hkb
  have HB := hid hb
  have HH := hid h2
  have HL := hid h1
  have HLn := hid hll
  have HLh := hid hlh
  have HLO := hid (And.intro hlo hbc)
  have HT := hid hT
  have HBW := hid hBw
  have d1 := (HKB.out.2 1 _ rfl).1
  clear hap hr hr0 hkb hd h1 h2 e hok hokb hb hll hlh hN hN2 h8 h1l h6 hT hbb hBw hlo hbc
  go_enter Try.func89, Try.ntmps89
  go_wp2_with fail
  clear d1
  go_loopw [4, 5, 6, 15] (fun a5 a6 a7 iv wr => ∃ (k : Nat) (cur : List HndV) (u5 u6 u7 : Value), iv = .int .i64 k ∧ a5 = u5 ∧ a6 = u6 ∧ a7 = u7 ∧ k ≤ nh ∧ Hid (hsOf cur = (H.take k).map (patH Hb) ++ H.drop k) ∧
    Hid (Rows wr lo ([] ++ two 49 6 n (.slice (some ⟨g, 0, none⟩) n c) lcells lrows ls ++ two 83 3 nh (.slice A4 nh c4) hcells hrows cur)) ∧ Hid (Blk wr bc [.slice (some ⟨g, 0, none⟩) n c, .slice A4 nh c4, .int .i64 q]) ∧ Hid (Below lo W wr) ∧ Hid (∀ x ∈ cur, x.fv.ownBlock ≠ some bc)) (fun _ _ _ iv _ => nh - (intOf iv).toNat)
  case atStart => exact ⟨0, hs', _, _, _, rfl, rfl, rfl, rfl, by omega, by simpa [Hid] using HH.out, HR.out, HKB.out, Below.refl _ _, HNH.out⟩
  case round =>
    obtain ⟨k, cur, u5, u6, u7, rfl, rfl, rfl, rfl, hk, HC, HRx, HKx, HBx, HNx⟩ := hrel
    have hlw : lo ≤ wr.heap.size := by have := HKx.out.1; have := HLO.out.2; omega
    have HWx := hid (HB.out.trans (HBx.out.mono HLO.out.1))
    by_cases hlt : k < nh
    · have hkH : k < H.length := by have := HLh.out; omega
      obtain ⟨h0, hh0⟩ : ∃ l, H[k]? = some l := ⟨_, List.getElem?_eq_getElem hkH⟩
      obtain ⟨x, hx, hxl⟩ := hsOf_at HC.out hh0
      subst hxl
      have hrh : Rows wr lo (two 49 6 n (.slice (some ⟨g, 0, none⟩) n c) lcells lrows ls ++ two 83 3 nh (.slice A4 nh c4) hcells hrows cur ++ []) := by simpa using HRx.out
      obtain ⟨g4, rfl, _⟩ := own_some hrh.top (by omega)
      have hg4 : lo ≤ g4 := (hrh.top.lt g4 rfl).1
      have hg4b : g4 ≠ bc := fun e => HHN.out (by rw [← e]; rfl)
      have hg4x : g4 ≠ bb := by have := HLO.out.1; omega
      have ho := hrh.cell_at (j := 0) hcells_len hx (u := txt x.h.nm) rfl
      have o1 := hrh.cell_at (j := 1) hcells_len hx (u := .int .i64 x.h.lv) rfl
      obtain ⟨p, hpt, hp2⟩ := txt_mk x.h.nm
      rw [hpt] at ho
      have c0 : wr.cell? ⟨g4, k * 3, none⟩ = some (.string p) := ho.1
      have d1 := (HKx.out.2 1 _ rfl).1
      have e0 := ((HIN.out _ HWx.out).2 0 _ rfl).1
      have e1 := ((HIN.out _ HWx.out).2 1 _ rfl).1
      have e2 := ((HIN.out _ HWx.out).2 2 _ rfl).1
      have s0 : (0 : Int) ≤ (k : Int) := by omega
      have s1 : (k : Int) < (nh : Int) := by omega
      have s2 : ((k : Int)).toNat = k := by simp
      have HWd := hid (HWx.out.drew)
      have CH := hid (CHA.out p wr.drew HWd.out)
      rw [hp2] at CH
      have HX := hid (And.intro hx hh0)
      have HO1 := hid o1
      have HP := hid hpt
      clear hx hh0 hrh ho o1 hpt hp2
      go_wp2_with fail
      refine wp_region_held_drew (S := (fun w' : World => (w'.cell? ⟨bb, 0, none⟩ = some (.slice B1 m1 j1) ∧ w'.cell? ⟨bb, 1, none⟩ = some (.slice B2 m2 j2) ∧ w'.cell? ⟨bb, 2, none⟩ = some (.int .i64 qb)) ∧ w'.cell? ⟨g4, k * 3, none⟩ = some (.string p))) (by kernel_rfl) ⟨⟨e0, e1, e2⟩, c0⟩ (fun hS => ?_)
      refine wpAnyH_take (i := 0) (oi := ?oi116) (v := ?v116) ?hi116 (by kernel_rfl) ?hf116 ?hr116 ?hQ116 (Or.inl ⟨?hw116, ?hy116⟩) (by assumption) ?rest116
      case hi116 => simp only [List.getElem?_toArray, List.getElem?_cons_succ, List.getElem?_cons_zero]; rfl
      case hf116 => kernel_rfl
      case hr116 => kernel_rfl
      case hw116 => rfl
      case hy116 => (intro w hSw; (try dsimp only at hSw); go_simp; all_goals (first | done | with_reducible rfl))
      case hQ116 => exact fun _ _ _ h => h
      simp only [Act.put, List.setIfInBounds_toArray, List.set_cons_zero, List.set_cons_succ]
      refine wpAnyH_take (i := 1) (oi := ?oi117) (v := ?v117) ?hi117 (by kernel_rfl) ?hf117 ?hr117 ?hQ117 (Or.inl ⟨?hw117, ?hy117⟩) (by assumption) ?rest117
      case hi117 => simp only [List.getElem?_toArray, List.getElem?_cons_succ, List.getElem?_cons_zero]; rfl
      case hf117 => kernel_rfl
      case hr117 => kernel_rfl
      case hw117 => rfl
      case hy117 => (intro w hSw; (try dsimp only at hSw); go_simp; all_goals (first | done | with_reducible rfl))
      case hQ117 => exact fun _ _ _ h => h
      simp only [Act.put, List.setIfInBounds_toArray, List.set_cons_zero, List.set_cons_succ]
      refine wpAnyH_take (i := 2) (oi := ?oi118) (v := ?v118) ?hi118 (by kernel_rfl) ?hf118 ?hr118 ?hQ118 (Or.inl ⟨?hw118, ?hy118⟩) (by assumption) ?rest118
      case hi118 => simp only [List.getElem?_toArray, List.getElem?_cons_succ, List.getElem?_cons_zero]; rfl
      case hf118 => kernel_rfl
      case hr118 => kernel_rfl
      case hw118 => rfl
      case hy118 => (intro w hSw; (try dsimp only at hSw); go_simp; all_goals (first | done | with_reducible rfl))
      case hQ118 => exact fun _ _ _ h => h
      simp only [Act.put, List.setIfInBounds_toArray, List.set_cons_zero, List.set_cons_succ]
      refine wpAnyH_take (i := 3) (oi := ?oi119) (v := ?v119) ?hi119 (by kernel_rfl) ?hf119 ?hr119 ?hQ119 (Or.inl ⟨?hw119, ?hy119⟩) (by assumption) ?rest119
      case hi119 => simp only [List.getElem?_toArray, List.getElem?_cons_succ, List.getElem?_cons_zero]; rfl
      case hf119 => kernel_rfl
      case hr119 => kernel_rfl
      case hw119 => rfl
      case hy119 => (intro w hSw; (try dsimp only at hSw); go_simp; all_goals (first | done | with_reducible rfl))
      case hQ119 => exact fun _ _ _ h => h
      simp only [Act.put, List.setIfInBounds_toArray, List.set_cons_zero, List.set_cons_succ]
      refine wpAnyH_take (i := 4) (oi := ?oi120) (v := ?v120) ?hi120 (by kernel_rfl) ?hf120 ?hr120 ?hQ120 (Or.inl ⟨?hw120, ?hy120⟩) (by assumption) ?rest120
      case hi120 => simp only [List.getElem?_toArray, List.getElem?_cons_succ, List.getElem?_cons_zero]; rfl
      case hf120 => kernel_rfl
      case hr120 => kernel_rfl
      case hw120 => rfl
      case hy120 => (intro w hSw; (try dsimp only at hSw); go_simp; all_goals (first | done | with_reducible rfl))
      case hQ120 => exact fun _ _ _ h => h
      simp only [Act.put, List.setIfInBounds_toArray, List.set_cons_zero, List.set_cons_succ]
      refine wpAnyH_ready (rs := [5]) (by kernel_rfl) (by simp) ?_
      refine AllReadyH.cons (o := ?oi121) ?hi121 (fun K hK => ?step121) AllReadyH.nil
      case hi121 => simp only [List.getElem?_toArray, List.getElem?_cons_succ, List.getElem?_cons_zero]; rfl
      rw [if_pos (by rfl)]
      go_simp
      go_at_call 63
      refine (CH.out).mono ?_
      rintro e w1 ⟨rfl, hb1⟩
      have HW1 := hid (HWd.out.trans (hb1.mono HWd.out.size))
      have hr1 : Below wr.heap.size wr w1 := ((Below.refl wr.heap.size wr).drew).trans hb1
      have HR1 := hid (HRx.out.below hr1)
      have HK1 := hid (HKx.out.to hr1)
      have HB1 := hid (HBx.out.trans (hr1.mono hlw))
      have hgl4 : g4 < wr.heap.size := World.block_lt_of_cell? wr ⟨g4, k * 3, none⟩ c0
      have c01 : w1.cell? ⟨g4, k * 3, none⟩ = some (.string p) := (hr1.cell (p := ⟨g4, k * 3, none⟩) (World.block_lt_of_cell? _ _ c0)).trans c0
      have oc : w1.cell? ⟨g4, k * 3 + 1, none⟩ = some (.int .i64 x.h.lv) := (hr1.cell (p := ⟨g4, k * 3 + 1, none⟩) hgl4).trans HO1.out.1
      have of : w1.frozen? ⟨g4, k * 3 + 1, none⟩ = false := (hr1.frozen (p := ⟨g4, k * 3 + 1, none⟩) hgl4).trans HO1.out.2
      refine hK.out _ _ ⟨⟨((HIN.out _ HW1.out).2 0 _ rfl).1, ((HIN.out _ HW1.out).2 1 _ rfl).1, ((HIN.out _ HW1.out).2 2 _ rfl).1⟩, c01⟩ (fun hS => ?_)
      refine wpAnyH_take (i := 6) (oi := ?oi122) (v := ?v122) ?hi122 (by kernel_rfl) ?hf122 ?hr122 ?hQ122 (Or.inl ⟨?hw122, ?hy122⟩) (by assumption) ?rest122
      case hi122 => simp only [List.getElem?_toArray, List.getElem?_cons_succ, List.getElem?_cons_zero]; rfl
      case hf122 => kernel_rfl
      case hr122 => kernel_rfl
      case hw122 => rfl
      case hy122 => (intro w hSw; (try dsimp only at hSw); go_simp; all_goals (first | done | with_reducible rfl))
      case hQ122 => exact fun _ _ _ h => h
      simp only [Act.put, List.setIfInBounds_toArray, List.set_cons_zero, List.set_cons_succ]
      refine wpAnyH_done (by kernel_rfl) ?_ _
      clear hb1 hr1 hS c0 d1 e0 e1 e2 c01
      by_cases hneg : idxL (hnm Hb) x.h.nm < 0
      · have HN := hid (patH_no hneg)
        generalize idxL (hnm Hb) x.h.nm = ix at *
        clear oc of
        go_wp2_with fail
        go_roundw
        case rel =>
          refine ⟨k + 1, cur, _, _, _, by go_num, rfl, rfl, rfl, by omega, ?_, HR1.out, HK1.out, HB1.out, HNx.out⟩
          show hsOf cur = _
          rw [mapk_same _ HX.out.2 HN.out]; exact HC.out
        case measure => simp [intOf]; omega
      · obtain ⟨kk, hkk, hkl, _⟩ := idx_natN hneg
        have hkb : kk < Hb.length := by unfold hnm at hkl; rw [List.length_map] at hkl; exact hkl
        have HN := hid (patH_hit hkk)
        rw [hkk]
        obtain ⟨gb, ob, hB2, hgbB, hkm, hj2, hmj, hcl⟩ := HHB.out kk hkb
        subst hB2
        unfold maxLen at hj2
        generalize (Hb.map (·.lv)).getD kk 0 = lvb at *
        have e1 := ((HIN.out _ HW1.out).2 1 _ rfl).1
        have cl : w1.cell? ⟨gb, ob + kk * 3 + 1, none⟩ = some (.int .i64 lvb) := (HW1.out.cell (p := ⟨gb, ob + kk * 3 + 1, none⟩) (show gb < w.heap.size by have := HBW.out; omega)).trans hcl
        have t0 : (0 : Int) ≤ (kk : Int) := by omega
        have t1 : (kk : Int) < (m2 : Int) := by omega
        have t2 : ((kk : Int)).toNat = kk := by simp
        have hrh1 : Rows w1 lo (two 49 6 n (.slice (some ⟨g, 0, none⟩) n c) lcells lrows ls ++ two 83 3 nh (.slice (some ⟨g4, 0, none⟩) nh c4) hcells hrows cur ++ []) := by simpa using HR1.out
        have hrs0 := hrh1.cellset (j := 1) (e := 1) (x := x) (y := { x with h := patH Hb x.h }) (u := .int .i64 lvb) hcells_len hrows_len HX.out.1 (by omega) (by rw [HN.out]; rfl) (by rw [HN.out]; rfl)
        have HRs := hid (show Rows (w1.setCell ⟨g4, k * 3 + 1, none⟩ (.int .i64 lvb)) lo ([] ++ two 49 6 n (.slice (some ⟨g, 0, none⟩) n c) lcells lrows ls ++ two 83 3 nh (.slice (some ⟨g4, 0, none⟩) nh c4) hcells hrows (cur.set k { x with h := patH Hb x.h })) by simpa using hrs0)
        have HKs := hid (HK1.out.apart ⟨g4, k * 3 + 1, none⟩ (.int .i64 lvb) hg4b)
        have HBs := hid (HB1.out.setCell (p := ⟨g4, k * 3 + 1, none⟩) hg4 (.int .i64 lvb))
        clear hneg hkk hkl hkb hcl hrs0 hrh1
        go_wp2_with fail
        go_roundw
        case rel =>
          refine ⟨k + 1, _, _, _, _, by go_num, rfl, rfl, rfl, by omega, ?_, HRs.out, HKs.out, HBs.out, ?_⟩
          · show hsOf (cur.set k _) = _
            rw [mapk_step _ HX.out.2, ← HC.out]
            unfold hsOf
            rw [List.map_set]
          · intro y hy
            rcases List.mem_or_eq_of_mem_set hy with hy | rfl
            · exact HNx.out y hy
            · exact HNx.out x (List.mem_of_getElem? HX.out.1)
        case measure => simp [intOf]; omega
    · obtain rfl : k = nh := by omega
      have HCH := hid (show hsOf cur = H.map (patH Hb) by
        have hkL := HLh.out
        have h := HC.out
        rw [List.take_of_length_le (by omega), List.drop_eq_nil_of_le (by omega), List.append_nil] at h
        exact h)
      have hcl : cur.length = k := by have h := congrArg List.length HCH.out; have := HLh.out; simp [hsOf] at h; omega
      have HCL := hid hcl
      have d0 := (HKx.out.2 0 _ rfl).1
      clear hcl HC
      go_wp2_with fail
      clear d0
      go_loopw [7, 8, 9, 47] (fun a5 a6 a7 iv wr => ∃ (j : Nat) (cul : List LgrV) (u5 u6 u7 : Value), iv = .int .i64 j ∧ a5 = u5 ∧ a6 = u6 ∧ a7 = u7 ∧ j ≤ n ∧ Hid (lsOf cul = (L.take j).map (patL Lb) ++ L.drop j) ∧
        Hid (Rows wr lo ([] ++ two 49 6 n (.slice (some ⟨g, 0, none⟩) n c) lcells lrows cul ++ two 83 3 k (.slice A4 k c4) hcells hrows cur)) ∧ Hid (Blk wr bc [.slice (some ⟨g, 0, none⟩) n c, .slice A4 k c4, .int .i64 q]) ∧ Hid (Below lo W wr) ∧ Hid (∀ x ∈ cul, x.hv.ownBlock ≠ some bc ∧ x.fv.ownBlock ≠ some bc)) (fun _ _ _ iv _ => n - (intOf iv).toNat)
      case atStart => exact ⟨0, ls, _, _, _, rfl, rfl, rfl, rfl, by omega, by simpa [Hid] using HL.out, HRx.out, HKx.out, HBx.out, HNL.out⟩
      case round =>
        clear HRx HKx HBx HWx hlw
        obtain ⟨j, cul, u5, u6, u7, rfl, rfl, rfl, rfl, hj, HC, HRx, HKx, HBx, HNy⟩ := hrel
        have hlw : lo ≤ wr.heap.size := by have := HKx.out.1; have := HLO.out.2; omega
        have HWx := hid (HB.out.trans (HBx.out.mono HLO.out.1))
        by_cases hlt : j < n
        · have hkL : j < L.length := by have := HLn.out; omega
          obtain ⟨l0, hl0⟩ : ∃ l, L[j]? = some l := ⟨_, List.getElem?_eq_getElem hkL⟩
          obtain ⟨x, hx, hxl⟩ := lsOf_at HC.out hl0
          subst hxl
          have ho := HRx.out.cell_at (j := 0) lcells_len hx (u := txt x.l.nm) rfl
          have o1 := HRx.out.cell_at (j := 1) lcells_len hx (u := .int .i64 x.l.lv) rfl
          have o4 := HRx.out.cell_at (j := 4) lcells_len hx (u := .bool x.l.stop) rfl
          obtain ⟨p, hpt, hp2⟩ := txt_mk x.l.nm
          rw [hpt] at ho
          have c0 : wr.cell? ⟨g, j * 6, none⟩ = some (.string p) := ho.1
          have d0 := (HKx.out.2 0 _ rfl).1
          have e0 := ((HIN.out _ HWx.out).2 0 _ rfl).1
          have e1 := ((HIN.out _ HWx.out).2 1 _ rfl).1
          have e2 := ((HIN.out _ HWx.out).2 2 _ rfl).1
          have s0 : (0 : Int) ≤ (j : Int) := by omega
          have s1 : (j : Int) < (n : Int) := by omega
          have s2 : ((j : Int)).toNat = j := by simp
          have HWd := hid (HWx.out.drew)
          have CH := hid (CLA.out p wr.drew HWd.out)
          rw [hp2] at CH
          have HX := hid (And.intro hx hl0)
          have HO1 := hid o1
          have HO4 := hid o4
          clear hx hl0 ho o1 o4 hpt hp2
          go_wp2_with fail
          refine wp_region_held_drew (S := (fun w' : World => (w'.cell? ⟨bb, 0, none⟩ = some (.slice B1 m1 j1) ∧ w'.cell? ⟨bb, 1, none⟩ = some (.slice B2 m2 j2) ∧ w'.cell? ⟨bb, 2, none⟩ = some (.int .i64 qb)) ∧ w'.cell? ⟨g, j * 6, none⟩ = some (.string p))) (by kernel_rfl) ⟨⟨e0, e1, e2⟩, c0⟩ (fun hS => ?_)
          refine wpAnyH_take (i := 0) (oi := ?oi123) (v := ?v123) ?hi123 (by kernel_rfl) ?hf123 ?hr123 ?hQ123 (Or.inl ⟨?hw123, ?hy123⟩) (by assumption) ?rest123
          case hi123 => simp only [List.getElem?_toArray, List.getElem?_cons_succ, List.getElem?_cons_zero]; rfl
          case hf123 => kernel_rfl
          case hr123 => kernel_rfl
          case hw123 => rfl
          case hy123 => (intro w hSw; (try dsimp only at hSw); go_simp; all_goals (first | done | with_reducible rfl))
          case hQ123 => exact fun _ _ _ h => h
          simp only [Act.put, List.setIfInBounds_toArray, List.set_cons_zero, List.set_cons_succ]
          refine wpAnyH_take (i := 1) (oi := ?oi124) (v := ?v124) ?hi124 (by kernel_rfl) ?hf124 ?hr124 ?hQ124 (Or.inl ⟨?hw124, ?hy124⟩) (by assumption) ?rest124
          case hi124 => simp only [List.getElem?_toArray, List.getElem?_cons_succ, List.getElem?_cons_zero]; rfl
          case hf124 => kernel_rfl
          case hr124 => kernel_rfl
          case hw124 => rfl
          case hy124 => (intro w hSw; (try dsimp only at hSw); go_simp; all_goals (first | done | with_reducible rfl))
          case hQ124 => exact fun _ _ _ h => h
          simp only [Act.put, List.setIfInBounds_toArray, List.set_cons_zero, List.set_cons_succ]
          refine wpAnyH_take (i := 2) (oi := ?oi125) (v := ?v125) ?hi125 (by kernel_rfl) ?hf125 ?hr125 ?hQ125 (Or.inl ⟨?hw125, ?hy125⟩) (by assumption) ?rest125
          case hi125 => simp only [List.getElem?_toArray, List.getElem?_cons_succ, List.getElem?_cons_zero]; rfl
          case hf125 => kernel_rfl
          case hr125 => kernel_rfl
          case hw125 => rfl
          case hy125 => (intro w hSw; (try dsimp only at hSw); go_simp; all_goals (first | done | with_reducible rfl))
          case hQ125 => exact fun _ _ _ h => h
          simp only [Act.put, List.setIfInBounds_toArray, List.set_cons_zero, List.set_cons_succ]
          refine wpAnyH_take (i := 3) (oi := ?oi126) (v := ?v126) ?hi126 (by kernel_rfl) ?hf126 ?hr126 ?hQ126 (Or.inl ⟨?hw126, ?hy126⟩) (by assumption) ?rest126
          case hi126 => simp only [List.getElem?_toArray, List.getElem?_cons_succ, List.getElem?_cons_zero]; rfl
          case hf126 => kernel_rfl
          case hr126 => kernel_rfl
          case hw126 => rfl
          case hy126 => (intro w hSw; (try dsimp only at hSw); go_simp; all_goals (first | done | with_reducible rfl))
          case hQ126 => exact fun _ _ _ h => h
          simp only [Act.put, List.setIfInBounds_toArray, List.set_cons_zero, List.set_cons_succ]
          refine wpAnyH_take (i := 4) (oi := ?oi127) (v := ?v127) ?hi127 (by kernel_rfl) ?hf127 ?hr127 ?hQ127 (Or.inl ⟨?hw127, ?hy127⟩) (by assumption) ?rest127
          case hi127 => simp only [List.getElem?_toArray, List.getElem?_cons_succ, List.getElem?_cons_zero]; rfl
          case hf127 => kernel_rfl
          case hr127 => kernel_rfl
          case hw127 => rfl
          case hy127 => (intro w hSw; (try dsimp only at hSw); go_simp; all_goals (first | done | with_reducible rfl))
          case hQ127 => exact fun _ _ _ h => h
          simp only [Act.put, List.setIfInBounds_toArray, List.set_cons_zero, List.set_cons_succ]
          refine wpAnyH_ready (rs := [5]) (by kernel_rfl) (by simp) ?_
          refine AllReadyH.cons (o := ?oi128) ?hi128 (fun K hK => ?step128) AllReadyH.nil
          case hi128 => simp only [List.getElem?_toArray, List.getElem?_cons_succ, List.getElem?_cons_zero]; rfl
          rw [if_pos (by rfl)]
          go_simp
          go_at_call 28
          refine (CH.out).mono ?_
          rintro e w1 ⟨rfl, hb1⟩
          have HW1 := hid (HWd.out.trans (hb1.mono HWd.out.size))
          have hr1 : Below wr.heap.size wr w1 := ((Below.refl wr.heap.size wr).drew).trans hb1
          have HR1 := hid (HRx.out.below hr1)
          have HK1 := hid (HKx.out.to hr1)
          have HB1 := hid (HBx.out.trans (hr1.mono hlw))
          have hglw : g < wr.heap.size := World.block_lt_of_cell? wr ⟨g, j * 6, none⟩ c0
          have c01 : w1.cell? ⟨g, j * 6, none⟩ = some (.string p) := (hr1.cell (p := ⟨g, j * 6, none⟩) (World.block_lt_of_cell? _ _ c0)).trans c0
          have oc : w1.cell? ⟨g, j * 6 + 1, none⟩ = some (.int .i64 x.l.lv) := (hr1.cell (p := ⟨g, j * 6 + 1, none⟩) hglw).trans HO1.out.1
          have of : w1.frozen? ⟨g, j * 6 + 1, none⟩ = false := (hr1.frozen (p := ⟨g, j * 6 + 1, none⟩) hglw).trans HO1.out.2
          have oc4 : w1.cell? ⟨g, j * 6 + 4, none⟩ = some (.bool x.l.stop) := (hr1.cell (p := ⟨g, j * 6 + 4, none⟩) hglw).trans HO4.out.1
          have of4 : w1.frozen? ⟨g, j * 6 + 4, none⟩ = false := (hr1.frozen (p := ⟨g, j * 6 + 4, none⟩) hglw).trans HO4.out.2
          refine hK.out _ _ ⟨⟨((HIN.out _ HW1.out).2 0 _ rfl).1, ((HIN.out _ HW1.out).2 1 _ rfl).1, ((HIN.out _ HW1.out).2 2 _ rfl).1⟩, c01⟩ (fun hS => ?_)
          refine wpAnyH_take (i := 6) (oi := ?oi129) (v := ?v129) ?hi129 (by kernel_rfl) ?hf129 ?hr129 ?hQ129 (Or.inl ⟨?hw129, ?hy129⟩) (by assumption) ?rest129
          case hi129 => simp only [List.getElem?_toArray, List.getElem?_cons_succ, List.getElem?_cons_zero]; rfl
          case hf129 => kernel_rfl
          case hr129 => kernel_rfl
          case hw129 => rfl
          case hy129 => (intro w hSw; (try dsimp only at hSw); go_simp; all_goals (first | done | with_reducible rfl))
          case hQ129 => exact fun _ _ _ h => h
          simp only [Act.put, List.setIfInBounds_toArray, List.set_cons_zero, List.set_cons_succ]
          refine wpAnyH_done (by kernel_rfl) ?_ _
          clear hb1 hr1 hS c0 d0 e0 e1 e2 c01
          by_cases hneg : idxL (namesOf Lb) x.l.nm < 0
          · have HN := hid (patL_no hneg)
            generalize idxL (namesOf Lb) x.l.nm = ix at *
            clear oc of oc4 of4
            go_wp2_with fail
            go_roundw
            case rel =>
              refine ⟨j + 1, cul, _, _, _, by go_num, rfl, rfl, rfl, by omega, ?_, HR1.out, HK1.out, HB1.out, HNy.out⟩
              show lsOf cul = _
              rw [mapk_same _ HX.out.2 HN.out]; exact HC.out
            case measure => simp [intOf]; omega
          · obtain ⟨kk, hkk, hkl, _⟩ := idx_natN hneg
            have hkb : kk < Lb.length := by unfold namesOf at hkl; rw [List.length_map] at hkl; exact hkl
            have HN := hid (patL_hit hkk)
            rw [hkk]
            obtain ⟨gb, ob, hB1, hgbB, hkm, hj2, hmj, hcl, hcs⟩ := HLB.out kk hkb
            subst hB1
            unfold maxLen at hj2
            generalize (Lb.map (·.lv)).getD kk 0 = lvb at *
            generalize (Lb.map (·.stop)).getD kk false = stb at *
            have hgbw : gb < w.heap.size := by have := HBW.out; omega
            have e0 := ((HIN.out _ HW1.out).2 0 _ rfl).1
            have cl : w1.cell? ⟨gb, ob + kk * 6 + 1, none⟩ = some (.int .i64 lvb) := (HW1.out.cell (p := ⟨gb, ob + kk * 6 + 1, none⟩) hgbw).trans hcl
            have cs : w1.cell? ⟨gb, ob + kk * 6 + 4, none⟩ = some (.bool stb) := (HW1.out.cell (p := ⟨gb, ob + kk * 6 + 4, none⟩) hgbw).trans hcs
            have hgg : g ≠ gb := by have := HLO.out.1; omega
            have t0 : (0 : Int) ≤ (kk : Int) := by omega
            have t1 : (kk : Int) < (m1 : Int) := by omega
            have t2 : ((kk : Int)).toNat = kk := by simp
            have hrd : Rows w1.drew lo ([] ++ two 49 6 n (.slice (some ⟨g, 0, none⟩) n c) lcells lrows cul ++ two 83 3 k (.slice A4 k c4) hcells hrows cur) := HR1.out.below ((Below.refl _ _).drew)
            have hrs0 := hrd.cellset (j := 1) (e := 2) (x := x) (y := { x with l := { x.l with lv := lvb } }) (u := .int .i64 lvb) lcells_len lrows_len HX.out.1 (by omega) rfl rfl
            have hx1 : (cul.set j { x with l := { x.l with lv := lvb } })[j]? = some { x with l := { x.l with lv := lvb } } := List.getElem?_set_self (List.getElem?_eq_some_iff.1 HX.out.1).1
            have hrs1 := hrs0.cellset (j := 4) (e := 2) (x := { x with l := { x.l with lv := lvb } }) (y := { x with l := patL Lb x.l }) (u := .bool stb) lcells_len lrows_len hx1 (by omega) (by rw [HN.out]; rfl) (by rw [HN.out]; rfl)
            rw [List.set_set] at hrs1
            have HRs := hid hrs1
            have HKs := hid (((HK1.out.dr 1).apart ⟨g, j * 6 + 1, none⟩ (.int .i64 lvb) hgb).apart ⟨g, j * 6 + 4, none⟩ (.bool stb) hgb)
            have HBs := hid ((HB1.out.drew.setCell (p := ⟨g, j * 6 + 1, none⟩) hgl (.int .i64 lvb)).setCell (p := ⟨g, j * 6 + 4, none⟩) hgl (.bool stb))
            clear hneg hkk hkl hkb hcl hcs hrs0 hrs1 hrd hx1
            go_wp2_with fail
            refine wp_region_held_drew (S := (fun w' : World => w'.cell? ⟨bb, 0, none⟩ = some (.slice (some ⟨gb, ob, none⟩) m1 j1) ∧ w'.cell? ⟨gb, ob + kk * 6 + 1, none⟩ = some (.int .i64 lvb) ∧ w'.cell? ⟨gb, ob + kk * 6 + 4, none⟩ = some (.bool stb))) (by kernel_rfl) ⟨e0, cl, cs⟩ (fun hS => ?_)
            refine wpAnyH_take (i := 0) (oi := ?oi130) (v := ?v130) ?hi130 (by kernel_rfl) ?hf130 ?hr130 ?hQ130 (Or.inl ⟨?hw130, ?hy130⟩) (by assumption) ?rest130
            case hi130 => simp only [List.getElem?_toArray, List.getElem?_cons_succ, List.getElem?_cons_zero]; rfl
            case hf130 => kernel_rfl
            case hr130 => kernel_rfl
            case hw130 => rfl
            case hy130 => (intro w hSw; (try dsimp only at hSw); go_simp; all_goals (first | done | with_reducible rfl))
            case hQ130 => exact fun _ _ _ h => h
            simp only [Act.put, List.setIfInBounds_toArray, List.set_cons_zero, List.set_cons_succ]
            refine wpAnyH_take (i := 1) (oi := ?oi131) (v := ?v131) ?hi131 (by kernel_rfl) ?hf131 ?hr131 ?hQ131 (Or.inl ⟨?hw131, ?hy131⟩) (by assumption) ?rest131
            case hi131 => simp only [List.getElem?_toArray, List.getElem?_cons_succ, List.getElem?_cons_zero]; rfl
            case hf131 => kernel_rfl
            case hr131 => kernel_rfl
            case hw131 => rfl
            case hy131 => (intro w hSw; (try dsimp only at hSw); go_simp; all_goals (first | done | with_reducible rfl))
            case hQ131 => exact fun _ _ _ h => h
            simp only [Act.put, List.setIfInBounds_toArray, List.set_cons_zero, List.set_cons_succ]
            refine wpAnyH_take (i := 2) (oi := ?oi132) (v := ?v132) ?hi132 (by kernel_rfl) ?hf132 ?hr132 ?hQ132 (Or.inl ⟨?hw132, ?hy132⟩) (by assumption) ?rest132
            case hi132 => simp only [List.getElem?_toArray, List.getElem?_cons_succ, List.getElem?_cons_zero]; rfl
            case hf132 => kernel_rfl
            case hr132 => kernel_rfl
            case hw132 => rfl
            case hy132 => (intro w hSw; (try dsimp only at hSw); go_simp; all_goals (first | done | with_reducible rfl))
            case hQ132 => exact fun _ _ _ h => h
            simp only [Act.put, List.setIfInBounds_toArray, List.set_cons_zero, List.set_cons_succ]
            refine wpAnyH_take (i := 3) (oi := ?oi133) (v := ?v133) ?hi133 (by kernel_rfl) ?hf133 ?hr133 ?hQ133 (Or.inl ⟨?hw133, ?hy133⟩) (by assumption) ?rest133
            case hi133 => simp only [List.getElem?_toArray, List.getElem?_cons_succ, List.getElem?_cons_zero]; rfl
            case hf133 => kernel_rfl
            case hr133 => kernel_rfl
            case hw133 => rfl
            case hy133 => (intro w hSw; (try dsimp only at hSw); go_simp; all_goals (first | done | with_reducible rfl))
            case hQ133 => exact fun _ _ _ h => h
            simp only [Act.put, List.setIfInBounds_toArray, List.set_cons_zero, List.set_cons_succ]
            refine wpAnyH_take (i := 4) (oi := ?oi134) (v := ?v134) ?hi134 (by kernel_rfl) ?hf134 ?hr134 ?hQ134 (Or.inl ⟨?hw134, ?hy134⟩) (by assumption) ?rest134
            case hi134 => simp only [List.getElem?_toArray, List.getElem?_cons_succ, List.getElem?_cons_zero]; rfl
            case hf134 => kernel_rfl
            case hr134 => kernel_rfl
            case hw134 => rfl
            case hy134 => (intro w hSw; (try dsimp only at hSw); go_simp; all_goals (first | done | with_reducible rfl))
            case hQ134 => exact fun _ _ _ h => h
            simp only [Act.put, List.setIfInBounds_toArray, List.set_cons_zero, List.set_cons_succ]
            refine wpAnyH_take (i := 5) (oi := ?oi135) (v := ?v135) ?hi135 (by kernel_rfl) ?hf135 ?hr135 ?hQ135 (Or.inl ⟨?hw135, ?hy135⟩) (by assumption) ?rest135
            case hi135 => simp only [List.getElem?_toArray, List.getElem?_cons_succ, List.getElem?_cons_zero]; rfl
            case hf135 => kernel_rfl
            case hr135 => kernel_rfl
            case hw135 => rfl
            case hy135 => (intro w hSw; (try dsimp only at hSw); go_simp; all_goals (first | done | with_reducible rfl))
            case hQ135 => exact fun _ _ _ h => h
            simp only [Act.put, List.setIfInBounds_toArray, List.set_cons_zero, List.set_cons_succ]
            refine wpAnyH_take (i := 6) (oi := ?oi136) (v := ?v136) ?hi136 (by kernel_rfl) ?hf136 ?hr136 ?hQ136 (Or.inl ⟨?hw136, ?hy136⟩) (by assumption) ?rest136
            case hi136 => simp only [List.getElem?_toArray, List.getElem?_cons_succ, List.getElem?_cons_zero]; rfl
            case hf136 => kernel_rfl
            case hr136 => kernel_rfl
            case hw136 => rfl
            case hy136 => (intro w hSw; (try dsimp only at hSw); go_simp; all_goals (first | done | with_reducible rfl))
            case hQ136 => exact fun _ _ _ h => h
            simp only [Act.put, List.setIfInBounds_toArray, List.set_cons_zero, List.set_cons_succ]
            refine wpAnyH_take (i := 7) (oi := ?oi137) (v := ?v137) ?hi137 (by kernel_rfl) ?hf137 ?hr137 ?hQ137 (Or.inl ⟨?hw137, ?hy137⟩) (by assumption) ?rest137
            case hi137 => simp only [List.getElem?_toArray, List.getElem?_cons_succ, List.getElem?_cons_zero]; rfl
            case hf137 => kernel_rfl
            case hr137 => kernel_rfl
            case hw137 => rfl
            case hy137 => (intro w hSw; (try dsimp only at hSw); go_simp; all_goals (first | done | with_reducible rfl))
            case hQ137 => exact fun _ _ _ h => h
            simp only [Act.put, List.setIfInBounds_toArray, List.set_cons_zero, List.set_cons_succ]
            refine wpAnyH_take (i := 8) (oi := ?oi138) (v := ?v138) ?hi138 (by kernel_rfl) ?hf138 ?hr138 ?hQ138 (Or.inl ⟨?hw138, ?hy138⟩) (by assumption) ?rest138
            case hi138 => simp only [List.getElem?_toArray, List.getElem?_cons_succ, List.getElem?_cons_zero]; rfl
            case hf138 => kernel_rfl
            case hr138 => kernel_rfl
            case hw138 => rfl
            case hy138 => (intro w hSw; (try dsimp only at hSw); go_simp; all_goals (first | done | with_reducible rfl))
            case hQ138 => exact fun _ _ _ h => h
            simp only [Act.put, List.setIfInBounds_toArray, List.set_cons_zero, List.set_cons_succ]
            refine wpAnyH_take (i := 9) (oi := ?oi139) (v := ?v139) ?hi139 (by kernel_rfl) ?hf139 ?hr139 ?hQ139 (Or.inl ⟨?hw139, ?hy139⟩) (by assumption) ?rest139
            case hi139 => simp only [List.getElem?_toArray, List.getElem?_cons_succ, List.getElem?_cons_zero]; rfl
            case hf139 => kernel_rfl
            case hr139 => kernel_rfl
            case hw139 => rfl
            case hy139 => (intro w hSw; (try dsimp only at hSw); go_simp; all_goals (first | done | with_reducible rfl))
            case hQ139 => exact fun _ _ _ h => h
            simp only [Act.put, List.setIfInBounds_toArray, List.set_cons_zero, List.set_cons_succ]
            refine wpAnyH_take (i := 10) (oi := ?oi140) (v := ?v140) ?hi140 (by kernel_rfl) ?hf140 ?hr140 ?hQ140 (Or.inl ⟨?hw140, ?hy140⟩) (by assumption) ?rest140
            case hi140 => simp only [List.getElem?_toArray, List.getElem?_cons_succ, List.getElem?_cons_zero]; rfl
            case hf140 => kernel_rfl
            case hr140 => kernel_rfl
            case hw140 => rfl
            case hy140 => (intro w hSw; (try dsimp only at hSw); go_simp; all_goals (first | done | with_reducible rfl))
            case hQ140 => exact fun _ _ _ h => h
            simp only [Act.put, List.setIfInBounds_toArray, List.set_cons_zero, List.set_cons_succ]
            refine wpAnyH_take (i := 11) (oi := ?oi141) (v := ?v141) ?hi141 (by kernel_rfl) ?hf141 ?hr141 ?hQ141 (Or.inl ⟨?hw141, ?hy141⟩) (by assumption) ?rest141
            case hi141 => simp only [List.getElem?_toArray, List.getElem?_cons_succ, List.getElem?_cons_zero]; rfl
            case hf141 => kernel_rfl
            case hr141 => kernel_rfl
            case hw141 => rfl
            case hy141 => (intro w hSw; (try dsimp only at hSw); go_simp; all_goals (first | done | with_reducible rfl))
            case hQ141 => exact fun _ _ _ h => h
            simp only [Act.put, List.setIfInBounds_toArray, List.set_cons_zero, List.set_cons_succ]
            refine wpAnyH_take (i := 12) (oi := ?oi142) (v := ?v142) ?hi142 (by kernel_rfl) ?hf142 ?hr142 ?hQ142 (Or.inl ⟨?hw142, ?hy142⟩) (by assumption) ?rest142
            case hi142 => simp only [List.getElem?_toArray, List.getElem?_cons_succ, List.getElem?_cons_zero]; rfl
            case hf142 => kernel_rfl
            case hr142 => kernel_rfl
            case hw142 => rfl
            case hy142 => (intro w hSw; (try dsimp only at hSw); go_simp; all_goals (first | done | with_reducible rfl))
            case hQ142 => exact fun _ _ _ h => h
            simp only [Act.put, List.setIfInBounds_toArray, List.set_cons_zero, List.set_cons_succ]
            refine wpAnyH_take (i := 13) (oi := ?oi143) (v := ?v143) ?hi143 (by kernel_rfl) ?hf143 ?hr143 ?hQ143 (Or.inl ⟨?hw143, ?hy143⟩) (by assumption) ?rest143
            case hi143 => simp only [List.getElem?_toArray, List.getElem?_cons_succ, List.getElem?_cons_zero]; rfl
            case hf143 => kernel_rfl
            case hr143 => kernel_rfl
            case hw143 => rfl
            case hy143 => (intro w hSw; (try dsimp only at hSw); go_simp; all_goals (first | done | with_reducible rfl))
            case hQ143 => exact fun _ _ _ h => h
            simp only [Act.put, List.setIfInBounds_toArray, List.set_cons_zero, List.set_cons_succ]
            refine wpAnyH_take (i := 14) (oi := ?oi144) (v := ?v144) ?hi144 (by kernel_rfl) ?hf144 ?hr144 ?hQ144 (Or.inl ⟨?hw144, ?hy144⟩) (by assumption) ?rest144
            case hi144 => simp only [List.getElem?_toArray, List.getElem?_cons_succ, List.getElem?_cons_zero]; rfl
            case hf144 => kernel_rfl
            case hr144 => kernel_rfl
            case hw144 => rfl
            case hy144 => (intro w hSw; (try dsimp only at hSw); go_simp; all_goals (first | done | with_reducible rfl))
            case hQ144 => exact fun _ _ _ h => h
            simp only [Act.put, List.setIfInBounds_toArray, List.set_cons_zero, List.set_cons_succ]
            refine wpAnyH_take (i := 15) (oi := ?oi145) (v := ?v145) ?hi145 (by kernel_rfl) ?hf145 ?hr145 ?hQ145 (Or.inl ⟨?hw145, ?hy145⟩) (by assumption) ?rest145
            case hi145 => simp only [List.getElem?_toArray, List.getElem?_cons_succ, List.getElem?_cons_zero]; rfl
            case hf145 => kernel_rfl
            case hr145 => kernel_rfl
            case hw145 => rfl
            case hy145 => (intro w hSw; (try dsimp only at hSw); go_simp; all_goals (first | done | with_reducible rfl))
            case hQ145 => exact fun _ _ _ h => h
            simp only [Act.put, List.setIfInBounds_toArray, List.set_cons_zero, List.set_cons_succ]
            refine wpAnyH_ready (rs := [16]) (by kernel_rfl) (by simp) ?_
            refine AllReadyH.cons (o := ?oi146) ?hi146 (fun K hK => ?step146) AllReadyH.nil
            case hi146 => simp only [List.getElem?_toArray, List.getElem?_cons_succ, List.getElem?_cons_zero]; rfl
            rw [if_pos (by rfl)]
            go_simp
            refine hK.out _ _ ⟨(World.cell?_setCell_far _ _ _ _ hgx).trans hS.1, (World.cell?_setCell_far _ _ _ _ hgg).trans hS.2.1, (World.cell?_setCell_far _ _ _ _ hgg).trans hS.2.2⟩ (fun hS => ?_)
            refine wpAnyH_take (i := 17) (oi := ?oi147) (v := ?v147) ?hi147 (by kernel_rfl) ?hf147 ?hr147 ?hQ147 (Or.inl ⟨?hw147, ?hy147⟩) (by assumption) ?rest147
            case hi147 => simp only [List.getElem?_toArray, List.getElem?_cons_succ, List.getElem?_cons_zero]; rfl
            case hf147 => kernel_rfl
            case hr147 => kernel_rfl
            case hw147 => rfl
            case hy147 => (intro w hSw; (try dsimp only at hSw); go_simp; all_goals (first | done | with_reducible rfl))
            case hQ147 => exact fun _ _ _ h => h
            simp only [Act.put, List.setIfInBounds_toArray, List.set_cons_zero, List.set_cons_succ]
            refine wpAnyH_take (i := 18) (oi := ?oi148) (v := ?v148) ?hi148 (by kernel_rfl) ?hf148 ?hr148 ?hQ148 (Or.inl ⟨?hw148, ?hy148⟩) (by assumption) ?rest148
            case hi148 => simp only [List.getElem?_toArray, List.getElem?_cons_succ, List.getElem?_cons_zero]; rfl
            case hf148 => kernel_rfl
            case hr148 => kernel_rfl
            case hw148 => rfl
            case hy148 => (intro w hSw; (try dsimp only at hSw); go_simp; all_goals (first | done | with_reducible rfl))
            case hQ148 => exact fun _ _ _ h => h
            simp only [Act.put, List.setIfInBounds_toArray, List.set_cons_zero, List.set_cons_succ]
            refine wpAnyH_ready (rs := [19]) (by kernel_rfl) (by simp) ?_
            refine AllReadyH.cons (o := ?oi149) ?hi149 (fun K hK => ?step149) AllReadyH.nil
            case hi149 => simp only [List.getElem?_toArray, List.getElem?_cons_succ, List.getElem?_cons_zero]; rfl
            rw [if_pos (by rfl)]
            go_simp
            refine hK.out _ _ ⟨(World.cell?_setCell_far _ _ _ _ hgx).trans hS.1, (World.cell?_setCell_far _ _ _ _ hgg).trans hS.2.1, (World.cell?_setCell_far _ _ _ _ hgg).trans hS.2.2⟩ (fun hS => ?_)
            refine wpAnyH_done (by kernel_rfl) ?_ _
            clear oc of oc4 of4 e0 cl cs hS
            go_wp2_with fail
            go_roundw
            case rel =>
              refine ⟨j + 1, _, _, _, _, by go_num, rfl, rfl, rfl, by omega, ?_, HRs.out, HKs.out, HBs.out, ?_⟩
              · show lsOf (cul.set j _) = _
                rw [mapk_step _ HX.out.2, ← HC.out]
                unfold lsOf
                rw [List.map_set]
              · intro y hy
                rcases List.mem_or_eq_of_mem_set hy with hy | rfl
                · exact HNy.out y hy
                · exact HNy.out x (List.mem_of_getElem? HX.out.1)
            case measure => simp [intOf]; omega
        · obtain rfl : j = n := by omega
          have HCC := hid (show lsOf cul = L.map (patL Lb) by
            have hkL := HLn.out
            have h := HC.out
            rw [List.take_of_length_le (by omega), List.drop_eq_nil_of_le (by omega), List.append_nil] at h
            exact h)
          have hcll : cul.length = j := by have h := congrArg List.length HCC.out; have := HLn.out; simp [lsOf] at h; omega
          have HCLL := hid hcll
          have d2 := (HKx.out.2 2 _ rfl).1
          have f2 := (HKx.out.2 2 _ rfl).2
          have e2 := ((HIN.out _ HWx.out).2 2 _ rfl).1
          have hlob := HLO.out.2
          clear hcll HC
          go_wp2_with fail
          go_ret
          refine ⟨HBx.out.setCell hlob _, rfl, fun x hx => ?_⟩
          obtain rfl := Option.some.inj hx
          refine ⟨_, _, _, _, _, _, treeRows cul.length _ cul cur.length _ cur, HKx.out.set 2 (.int .i64 qb), ⟨_, _, cul, cur, rfl, HCC.out, HCH.out, rfl⟩, ?_, HD.out⟩
          rw [treeRows_eq, HCLL.out, HCL.out]
          refine Rows.off ?_ ?_
          · simpa using HRx.out
          · intro r hr
            simp only [two, hrows, lrows, List.mem_append, List.mem_cons, List.mem_flatMap, List.not_mem_nil, or_false] at hr
            rcases hr with (rfl | ⟨y, hy, rfl | rfl⟩) | rfl | ⟨y, hy, rfl⟩
            · exact fun e => hgb (Option.some.inj e)
            · exact (HNy.out y hy).1
            · exact (HNy.out y hy).2
            · exact HHN.out
            · exact HNx.out y hy
end Go.Proofs.Yteoblmhbjmefoaa

/-
  A TREE PATCHED WITH LEVELS OF ANOTHER ONE: PatchTree of the program and of the model. By gen_pt3.py.
-/
namespace Go.Proofs.Yteoblmhbjmefoaa
open Go.RowKit Nm
set_option linter.unusedSimpArgs false
set_option linter.unusedVariables false

theorem post_none {w w' : World} {e : Ending} {L : List Lgr} {H : List Hnd} {q : Int} (hL : L = []) (hH : H = []) (hq : q = 0) (he : e = .returned (.agg #[.slice none 0 0, .slice none 0 0, .int .i64 0])) (hb : Below w.heap.size w w') : TreePost w L H q e w' := by
  subst hL hH hq
  exact ⟨_, _, he, ⟨_, _, [], [], rfl, rfl, rfl, rfl⟩, Rows.none2 _ _, hb⟩

set_option maxHeartbeats 8000000 in
set_option maxRecDepth 100000 in
theorem implPatchTree_c {w : World} {B B' : Nat} {v vb : Value} {L : List Lgr} {H : List Hnd} {q : Int} {Lb : List Lgr} {Hb : List Hnd} {qb : Int} (h : TreeIn w B v L H q) (hB : B ≤ w.heap.size) (h' : TreeIn w B' vb Lb Hb qb) (hB' : B' ≤ w.heap.size) :
    Calls Try.prog 39 #[v, vb] w (TreePost w (resL (patX L H q Lb Hb qb)) (resH (patX L H q Lb Hb qb)) (resQ (patX L H q Lb Hb qb))) := by
  obtain ⟨A1, n1, k1, A2, n2, k2, rfl⟩ := h.form
  obtain ⟨B1, m1, j1, B2, m2, j2, rfl⟩ := h'.form
  have HW := hid (show Below w.heap.size w (((w.alloc (.cells #[.slice A1 n1 k1, .slice A2 n2 k2, .int .i64 q] 30)).alloc (.cells #[.slice B1 m1 j1, .slice B2 m2 j2, .int .i64 qb] 30)).alloc (.cells #[.slice none 0 0, .slice none 0 0, .int .i64 0] 30)) from (((Below.refl _ _).alloc (Nat.le_refl _) _).alloc (by simp) _).alloc (by simp; omega) _)
  have KA := hid (((Blk.new w #[.slice A1 n1 k1, .slice A2 n2 k2, .int .i64 q] 30).alloc (.cells #[.slice B1 m1 j1, .slice B2 m2 j2, .int .i64 qb] 30)).alloc (.cells #[.slice none 0 0, .slice none 0 0, .int .i64 0] 30))
  have KB := hid ((Blk.new (w.alloc (.cells #[.slice A1 n1 k1, .slice A2 n2 k2, .int .i64 q] 30)) #[.slice B1 m1 j1, .slice B2 m2 j2, .int .i64 qb] 30).alloc (.cells #[.slice none 0 0, .slice none 0 0, .int .i64 0] 30))
  have KR := hid (Blk.new ((w.alloc (.cells #[.slice A1 n1 k1, .slice A2 n2 k2, .int .i64 q] 30)).alloc (.cells #[.slice B1 m1 j1, .slice B2 m2 j2, .int .i64 qb] 30)) #[.slice none 0 0, .slice none 0 0, .int .i64 0] 30)
  simp only [World.size_alloc] at KB KR
  have hsz3 : (((w.alloc (.cells #[.slice A1 n1 k1, .slice A2 n2 k2, .int .i64 q] 30)).alloc (.cells #[.slice B1 m1 j1, .slice B2 m2 j2, .int .i64 qb] 30)).alloc (.cells #[.slice none 0 0, .slice none 0 0, .int .i64 0] 30)).heap.size = w.heap.size + 3 := by simp
  have CV := implValidTreeX_c (h'.below HW.out hB') (Nat.le_trans hB' HW.out.size)
  have hmf : ∀ (fn : Fn) (first cap : Array Value) (w : World), (Instr.makeFunc fn first cap).run Try.prog w = .ok (.func fn first cap) w := fun _ _ _ _ => rfl
  have HT := hid h
  have HT' := hid h'
  clear h h'
  have d0 := (KB.out.2 0 _ rfl).1
  have d1 := (KB.out.2 1 _ rfl).1
  have d2 := (KB.out.2 2 _ rfl).1
  cases hz : treeOk Lb Hb qb with
  | false =>
    have HX := hid (show patX L H q Lb Hb qb = none by unfold patX; rw [hz]; rfl)
    rw [hz] at CV
    generalize patX L H q Lb Hb qb = X at *
    replace CV := hid CV
    clear hz
    go_enter Try.func39, Try.ntmps39
    go_wp2_with fail
    refine (CV.out).mono ?_
    rintro e w4 ⟨rfl, hb4⟩
    have HW4 := hid (HW.out.trans (hb4.mono HW.out.size))
    have KR4 := hid (KR.out.to hb4)
    clear hb4 d0 d1 d2 hsz3
    obtain ⟨q0c, q0f⟩ := KR4.out.2 0 _ rfl
    obtain ⟨q1c, q1f⟩ := KR4.out.2 1 _ rfl
    obtain ⟨q2c, q2f⟩ := KR4.out.2 2 _ rfl
    go_wp2_with fail
    have RB := ((KR4.out.set 0 (.slice none 0 0)).set 1 (.slice none 0 0)).set 2 (.int .i64 0)
    have f0 := (RB.2 0 _ rfl).1
    have f1 := (RB.2 1 _ rfl).1
    have f2 := (RB.2 2 _ rfl).1
    refine bodyPost_ret (v := .agg #[.slice none 0 0, .slice none 0 0, .int .i64 0]) (by simp [results, Try.results39, go_sem, f0, f1, f2]) rfl ?_
    refine post_none (by rw [HX.out]; rfl) (by rw [HX.out]; rfl) (by rw [HX.out]; rfl) rfl ?_
    iterate 3 refine Below.setCell ?_ (by simp; try omega) _
    exact HW4.out
  | true =>
    have HX := hid (show patX L H q Lb Hb qb = changedO L H q (some (L.map (patL Lb), H.map (patH Hb), qb)) by unfold patX; rw [hz]; rfl)
    rw [hz] at CV
    generalize patX L H q Lb Hb qb = X at *
    replace CV := hid CV
    have HZ := hid hz
    clear hz
    go_enter Try.func39, Try.ntmps39
    go_wp2_with fail
    refine (CV.out).mono ?_
    rintro e w4 ⟨rfl, hb4⟩
    have HW4 := hid (HW.out.trans (hb4.mono HW.out.size))
    have KA4 := hid (KA.out.to hb4)
    have KB4 := hid (KB.out.to hb4)
    have KR4 := hid (KR.out.to hb4)
    have hw4 : w.heap.size + 3 ≤ w4.heap.size := by have := hb4.size; rw [hsz3] at this; exact this
    have CQ := hid (implChanged1_c 89 (.pointer (some ⟨w.heap.size + 1, 0, none⟩)) (some (L.map (patL Lb), H.map (patH Hb), qb)) (HT.out.below HW4.out hB) (Nat.le_trans hB HW4.out.size) (fun args w => enters rfl (by kernel_rfl) rfl args w)
      (fun W lo bc v1 v2 rs hok hp => patClo_c (HT'.out.below HW4.out hB') (Nat.le_trans hB' HW4.out.size) KB4.out HZ.out hok W lo bc v1 v2 rs hp))
    clear hb4 d0 d1 d2 hsz3
    have d0 := (KA4.out.2 0 _ rfl).1
    have d1 := (KA4.out.2 1 _ rfl).1
    have d2 := (KA4.out.2 2 _ rfl).1
    go_wp2_with fail
    refine (CQ.out).mono ?_
    rintro e w5 ⟨v', rs, rfl, hs, hr, hb5⟩
    have HX' := hid (show changedO L H q (some (L.map (patL Lb), H.map (patH Hb), qb)) = X from HX.out.symm)
    rw [HX'.out] at hs
    obtain ⟨u1, u2, ls, hs', rfl, hL, hH, rfl⟩ := hs
    have HB5 := hid (HW4.out.trans (hb5.mono HW4.out.size))
    have HS5 := hid (show TreeS (treeRows ls.length u1 ls hs'.length u2 hs') (.agg #[u1, u2, .int .i64 (resQ X)]) (resL X) (resH X) (resQ X) from ⟨u1, u2, ls, hs', rfl, hL, hH, rfl⟩)
    obtain ⟨hl, hh⟩ := hr.lsIn
    obtain ⟨A3, c3, rfl, _, _⟩ := hl.1.form
    obtain ⟨A4, c4, rfl, _, _⟩ := hh.1.form
    have HR5 := hid hr
    have KR5 := hid ((KR4.out.to hb5).alloc (.cells #[.slice A3 ls.length c3, .slice A4 hs'.length c4, .int .i64 (resQ X)] 30))
    have HBa := hid (show Below w5.heap.size w5 (w5.alloc (.cells #[.slice A3 ls.length c3, .slice A4 hs'.length c4, .int .i64 (resQ X)] 30)) from (Below.refl _ _).alloc (Nat.le_refl _) _)
    generalize hq0 : resQ X = q0 at *
    generalize hi0 : (changedO L H q (some (L.map (patL Lb), H.map (patH Hb), qb))).isSome = i0 at *
    clear hq0 hi0 hb5 hr hl hh hL hH d0 d1 d2
    obtain ⟨q0c, q0f⟩ := KR5.out.2 0 _ rfl
    obtain ⟨q1c, q1f⟩ := KR5.out.2 1 _ rfl
    obtain ⟨q2c, q2f⟩ := KR5.out.2 2 _ rfl
    go_wp2_with fail
    have RB := ((KR5.out.set 0 (.slice A3 ls.length c3)).set 1 (.slice A4 hs'.length c4)).set 2 (.int .i64 q0)
    have f0 := (RB.2 0 _ rfl).1
    have f1 := (RB.2 1 _ rfl).1
    have f2 := (RB.2 2 _ rfl).1
    refine bodyPost_ret (v := .agg #[.slice A3 ls.length c3, .slice A4 hs'.length c4, .int .i64 q0]) (by simp [results, Try.results39, go_sem, f0, f1, f2]) rfl ?_
    refine ⟨_, _, rfl, HS5.out, ?_, ?_⟩
    · refine Rows.base ?_ (show w.heap.size ≤ w4.heap.size by omega)
      iterate 3 refine Rows.low ?_ (by omega)
      exact HR5.out.below HBa.out
    · iterate 3 refine Below.setCell ?_ (by simp; try omega) _
      exact HB5.out.trans (HBa.out.mono HB5.out.size)

set_option maxHeartbeats 16000000 in
set_option maxRecDepth 100000 in
theorem specPatchTree_c {w : World} {B B' : Nat} {v vb : Value} {L : List Lgr} {H : List Hnd} {q : Int} {Lb : List Lgr} {Hb : List Hnd} {qb : Int} (h : TreeIn w B v L H q) (hB : B ≤ w.heap.size) (h' : TreeIn w B' vb Lb Hb qb) (hB' : B' ≤ w.heap.size) :
    Calls Try.prog 40 #[v, vb] w (TreePost w (resL (patX L H q Lb Hb qb)) (resH (patX L H q Lb Hb qb)) (resQ (patX L H q Lb Hb qb))) := by
  obtain ⟨A1, n1, k1, A2, n2, k2, rfl⟩ := h.form
  obtain ⟨B1, m1, j1, B2, m2, j2, rfl⟩ := h'.form
  have HW := hid (show Below w.heap.size w (((w.alloc (.cells #[.slice A1 n1 k1, .slice A2 n2 k2, .int .i64 q] 30)).alloc (.cells #[.slice B1 m1 j1, .slice B2 m2 j2, .int .i64 qb] 30)).alloc (.cells #[.slice none 0 0, .slice none 0 0, .int .i64 0] 30)) from (((Below.refl _ _).alloc (Nat.le_refl _) _).alloc (by simp) _).alloc (by simp; omega) _)
  have KA := hid (((Blk.new w #[.slice A1 n1 k1, .slice A2 n2 k2, .int .i64 q] 30).alloc (.cells #[.slice B1 m1 j1, .slice B2 m2 j2, .int .i64 qb] 30)).alloc (.cells #[.slice none 0 0, .slice none 0 0, .int .i64 0] 30))
  have KB := hid ((Blk.new (w.alloc (.cells #[.slice A1 n1 k1, .slice A2 n2 k2, .int .i64 q] 30)) #[.slice B1 m1 j1, .slice B2 m2 j2, .int .i64 qb] 30).alloc (.cells #[.slice none 0 0, .slice none 0 0, .int .i64 0] 30))
  have KR := hid (Blk.new ((w.alloc (.cells #[.slice A1 n1 k1, .slice A2 n2 k2, .int .i64 q] 30)).alloc (.cells #[.slice B1 m1 j1, .slice B2 m2 j2, .int .i64 qb] 30)) #[.slice none 0 0, .slice none 0 0, .int .i64 0] 30)
  simp only [World.size_alloc] at KB KR
  have hsz3 : (((w.alloc (.cells #[.slice A1 n1 k1, .slice A2 n2 k2, .int .i64 q] 30)).alloc (.cells #[.slice B1 m1 j1, .slice B2 m2 j2, .int .i64 qb] 30)).alloc (.cells #[.slice none 0 0, .slice none 0 0, .int .i64 0] 30)).heap.size = w.heap.size + 3 := by simp
  have CV := specTreeX_c (h.below HW.out hB) (Nat.le_trans hB HW.out.size)
  have CV' := fun (W : World) (hW : Below w.heap.size w W) => specTreeX_c (h'.below hW hB') (Nat.le_trans hB' hW.size)
  have CC := fun (hz : treeOk L H q = true) (W : World) (hW : Below w.heap.size w W) => specCopy_c (h.below hW hB) hz (Nat.le_trans hB hW.size)
  have HHB := hid (fun (k : Nat) (hk : k < Hb.length) => h'.hndP hk)
  have HLB := hid (fun (k : Nat) (hk : k < Lb.length) => h'.lgrP hk)
  obtain ⟨lb, hlb, hLb⟩ := h'.loggers
  have ATL := hid (fun (s : ByteArray) (W : World) (hW : Below w.heap.size w W) => (show Calls Try.prog 46 #[.slice B1 m1 j1, .string s] W (fun e w' => e = .returned (.int .i64 (idxL (namesOf Lb) s.data.toList)) ∧ w' = W) from by
    have h9 := loggerAt_c (.slice B1 m1 j1) m1 B' lb s W (hlb.below hW hB'); rw [show lnames lb = namesOf Lb by rw [← hLb, namesOf_ls]] at h9; exact h9))
  have HX0 : ∀ {X}, patX L H q Lb Hb qb = X → Hid (patX L H q Lb Hb qb = X) := fun h => h
  obtain ⟨lsb, hsb, ⟨B1', m1', j1', B2', m2', j2', eb, _, hhb, _⟩, _, hHb⟩ := h'
  simp at eb
  obtain ⟨⟨rfl, rfl, rfl⟩, ⟨rfl, rfl, rfl⟩⟩ := eb
  have ATH := hid (fun (s : ByteArray) (W : World) (hW : Below w.heap.size w W) => (show Calls Try.prog 60 #[.slice B2 m2 j2, .string s] W (fun e w' => e = .returned (.int .i64 (idxL (hnm Hb) s.data.toList)) ∧ w' = W) from by
    have h9 := handlerAt_c (.slice B2 m2 j2) m2 B' hsb s W (hhb.below hW hB'); rw [show hnames hsb = hnm Hb by rw [hnames_hnm, hHb]] at h9; exact h9))
  clear h hhb hHb hlb hLb HX0
  have d0 := (KA.out.2 0 _ rfl).1
  have d1 := (KA.out.2 1 _ rfl).1
  have d2 := (KA.out.2 2 _ rfl).1
  cases hza : treeOk L H q with
  | false =>
    have HX := hid (show patX L H q Lb Hb qb = none by unfold patX changedO; rw [hza]; split <;> rfl)
    rw [hza] at CV
    generalize patX L H q Lb Hb qb = X at *
    replace CV := hid CV
    clear hza CV' CC
    go_enter Try.func40, Try.ntmps40
    go_wp2_with fail
    refine (CV.out).mono ?_
    rintro e w4 ⟨rfl, hb4⟩
    have HW4 := hid (HW.out.trans (hb4.mono HW.out.size))
    have KR4 := hid (KR.out.to hb4)
    clear hb4 d0 d1 d2 hsz3
    obtain ⟨q0c, q0f⟩ := KR4.out.2 0 _ rfl
    obtain ⟨q1c, q1f⟩ := KR4.out.2 1 _ rfl
    obtain ⟨q2c, q2f⟩ := KR4.out.2 2 _ rfl
    go_wp2_with fail
    have RB := ((KR4.out.set 0 (.slice none 0 0)).set 1 (.slice none 0 0)).set 2 (.int .i64 0)
    have f0 := (RB.2 0 _ rfl).1
    have f1 := (RB.2 1 _ rfl).1
    have f2 := (RB.2 2 _ rfl).1
    refine bodyPost_ret (v := .agg #[.slice none 0 0, .slice none 0 0, .int .i64 0]) (by simp [results, Try.results40, go_sem, f0, f1, f2]) rfl ?_
    refine post_none (by rw [HX.out]; rfl) (by rw [HX.out]; rfl) (by rw [HX.out]; rfl) rfl ?_
    iterate 3 refine Below.setCell ?_ (by simp; try omega) _
    exact HW4.out
  | true =>
    rw [hza] at CV
    replace CV := hid CV
    replace CC := hid (CC hza)
    cases hzb : treeOk Lb Hb qb with
    | false =>
      have HX := hid (show patX L H q Lb Hb qb = none by unfold patX; rw [hzb]; rfl)
      rw [hzb] at CV'
      generalize patX L H q Lb Hb qb = X at *
      replace CV' := hid CV'
      clear hza hzb CC
      go_enter Try.func40, Try.ntmps40
      go_wp2_with fail
      refine (CV.out).mono ?_
      rintro e w4 ⟨rfl, hb4⟩
      have HW4 := hid (HW.out.trans (hb4.mono HW.out.size))
      have KB4 := hid (KB.out.to hb4)
      have KR4 := hid (KR.out.to hb4)
      clear hb4 d0 d1 d2 hsz3
      have d0 := (KB4.out.2 0 _ rfl).1
      have d1 := (KB4.out.2 1 _ rfl).1
      have d2 := (KB4.out.2 2 _ rfl).1
      go_wp2_with fail
      refine (CV'.out _ HW4.out).mono ?_
      rintro e w5 ⟨rfl, hb5⟩
      have HW5 := hid (HW4.out.trans (hb5.mono HW4.out.size))
      have KR5 := hid (KR4.out.to hb5)
      clear hb5 d0 d1 d2
      obtain ⟨q0c, q0f⟩ := KR5.out.2 0 _ rfl
      obtain ⟨q1c, q1f⟩ := KR5.out.2 1 _ rfl
      obtain ⟨q2c, q2f⟩ := KR5.out.2 2 _ rfl
      go_wp2_with fail
      have RB := ((KR5.out.set 0 (.slice none 0 0)).set 1 (.slice none 0 0)).set 2 (.int .i64 0)
      have f0 := (RB.2 0 _ rfl).1
      have f1 := (RB.2 1 _ rfl).1
      have f2 := (RB.2 2 _ rfl).1
      refine bodyPost_ret (v := .agg #[.slice none 0 0, .slice none 0 0, .int .i64 0]) (by simp [results, Try.results40, go_sem, f0, f1, f2]) rfl ?_
      refine post_none (by rw [HX.out]; rfl) (by rw [HX.out]; rfl) (by rw [HX.out]; rfl) rfl ?_
      iterate 3 refine Below.setCell ?_ (by simp; try omega) _
      exact HW5.out
    | true =>
      have HX := hid (show patX L H q Lb Hb qb = some (L.map (patL Lb), H.map (patH Hb), qb) by
        unfold patX changedO; rw [hza, hzb]; simp only [if_true, Option.bind_some]; unfold ifOk; rw [pat_ok hza hzb]; rfl)
      rw [hzb] at CV'
      generalize patX L H q Lb Hb qb = X at *
      replace CV' := hid CV'
      obtain ⟨_, _, _, h8, h1l, _⟩ := tree_names hza
      have h6 := tree_hlen hza
      clear hza hzb
      go_enter Try.func40, Try.ntmps40
      go_wp2_with fail
      refine (CV.out).mono ?_
      rintro e w4 ⟨rfl, hb4⟩
      have HW4 := hid (HW.out.trans (hb4.mono HW.out.size))
      have KA4 := hid (KA.out.to hb4)
      have KB4 := hid (KB.out.to hb4)
      have KR4 := hid (KR.out.to hb4)
      have hw4 : w.heap.size + 3 ≤ w4.heap.size := by have := hb4.size; rw [hsz3] at this; exact this
      clear hb4 d0 d1 d2 hsz3
      have d0 := (KB4.out.2 0 _ rfl).1
      have d1 := (KB4.out.2 1 _ rfl).1
      have d2 := (KB4.out.2 2 _ rfl).1
      go_wp2_with fail
      refine (CV'.out _ HW4.out).mono ?_
      rintro e w1 ⟨rfl, hb5⟩
      have HW1 := hid (HW4.out.trans (hb5.mono HW4.out.size))
      have KA1 := hid (KA4.out.to hb5)
      have KB1 := hid (KB4.out.to hb5)
      have KR1 := hid (KR4.out.to hb5)
      have hw1 : w.heap.size + 3 ≤ w1.heap.size := by have := hb5.size; omega
      clear hb5 d0 d1 d2 hw4 HW4 KA4 KB4 KR4
      have d0 := (KA1.out.2 0 _ rfl).1
      have d1 := (KA1.out.2 1 _ rfl).1
      have d2 := (KA1.out.2 2 _ rfl).1
      go_wp2_with fail
      refine (CC.out _ HW1.out).mono ?_
      rintro e w2 ⟨v', rs, rfl, hs, hr, hb2⟩
      obtain ⟨u1, u2, ls, hs', rfl, hL, hH, rfl⟩ := hs
      have hll : ls.length = L.length := by rw [← hL]; simp [lsOf]
      have hlh : hs'.length = H.length := by rw [← hH]; simp [hsOf]
      obtain ⟨hl, hh⟩ := hr.lsIn
      obtain ⟨A, c, rfl, hnc, hcm⟩ := hl.1.form
      obtain ⟨A4, c4, rfl, hnc4, hcm4⟩ := hh.1.form
      clear hl hh
      have hr0 : Rows w2 w1.heap.size ([] ++ two 49 6 ls.length (.slice A ls.length c) lcells lrows ls ++ two 83 3 hs'.length (.slice A4 hs'.length c4) hcells hrows hs') := by rw [treeRows_eq] at hr; simpa using hr
      obtain ⟨g, rfl, hglt⟩ := own_some hr0.top (by omega)
      have hgl : w1.heap.size ≤ g := (hr0.top.lt g rfl).1
      have hrh : Rows w2 w1.heap.size (two 49 6 ls.length (.slice (some ⟨g, 0, none⟩) ls.length c) lcells lrows ls ++ two 83 3 hs'.length (.slice A4 hs'.length c4) hcells hrows hs' ++ []) := by simpa using hr0
      have HHN := hid (fun (z : Nat) (hz : (Value.slice A4 hs'.length c4).ownBlock = some z) => hrh.top.lt z hz)
      generalize hN : ls.length = n at *
      generalize hN2 : hs'.length = nh at *
      have hn8 : n ≤ 8 := by omega
      have hn6 : nh ≤ 6 := by omega
      unfold maxLen at hcm hcm4
      have HBA := hid (show Below w2.heap.size w2 (w2.alloc (.cells #[.slice (some ⟨g, 0, none⟩) n c, .slice A4 nh c4, .int .i64 qb] 30)) from (Below.refl _ _).alloc (Nat.le_refl _) _)
      have HB3 := hid ((show Below w1.heap.size w1 w2 from hb2).trans (HBA.out.mono hb2.size))
      have KO := hid (Blk.new w2 #[.slice (some ⟨g, 0, none⟩) n c, .slice A4 nh c4, .int .i64 qb] 30)
      have HR3 := hid (hr0.below HBA.out)
      have HH := hid hH
      have HL := hid hL
      have HLn := hid hll
      have HLh := hid hlh
      have e2 := ((KB1.out.to hb2).alloc (.cells #[.slice (some ⟨g, 0, none⟩) n c, .slice A4 nh c4, .int .i64 q] 30)).2 2 _ rfl |>.1
      have hgo : g ≠ w2.heap.size := by omega
      have hbo1 : w1.heap.size ≤ w2.heap.size := hb2.size
      clear hr hr0 hrh hb2 hL hH hll hlh hN hN2 h8 h1l h6 d0 d1 d2
      go_wp2_with fail
      generalize hw3 : w2.alloc (.cells #[.slice (some ⟨g, 0, none⟩) n c, .slice A4 nh c4, .int .i64 qb] 30) = w3 at *
      generalize hbo : w2.heap.size = bo at *
      clear hw3 hbo e2 HBA
      go_loopw [6, 7] (fun iv av wr => ∃ (k : Nat) (cur : List HndV) (u7 : Value), iv = .int .i64 k ∧ av = u7 ∧ k ≤ nh ∧ Hid (hsOf cur = (H.take k).map (patH Hb) ++ H.drop k) ∧
        Hid (Rows wr w1.heap.size ([] ++ two 49 6 n (.slice (some ⟨g, 0, none⟩) n c) lcells lrows ls ++ two 83 3 nh (.slice A4 nh c4) hcells hrows cur)) ∧ Hid (Blk wr bo [.slice (some ⟨g, 0, none⟩) n c, .slice A4 nh c4, .int .i64 qb]) ∧ Hid (Below w1.heap.size w1 wr)) (fun iv _ _ => nh - (intOf iv).toNat)
      case atStart => exact ⟨0, hs', _, rfl, rfl, by omega, by simpa [Hid] using HH.out, HR3.out, KO.out, HB3.out⟩
      case round =>
        obtain ⟨k, cur, u7, rfl, rfl, hk, HC, HRx, HKx, HBx⟩ := hrel
        have HWx := hid (HW1.out.trans (HBx.out.mono HW1.out.size))
        have f1 := (HKx.out.2 1 _ rfl).1
        by_cases hlt : k < nh
        · have hkH : k < H.length := by have := HLh.out; omega
          obtain ⟨h0, hh0⟩ : ∃ l, H[k]? = some l := ⟨_, List.getElem?_eq_getElem hkH⟩
          obtain ⟨x, hx, hxl⟩ := hsOf_at HC.out hh0
          subst hxl
          have hrh : Rows wr w1.heap.size (two 49 6 n (.slice (some ⟨g, 0, none⟩) n c) lcells lrows ls ++ two 83 3 nh (.slice A4 nh c4) hcells hrows cur ++ []) := by simpa using HRx.out
          obtain ⟨g4, rfl, _⟩ := own_some hrh.top (by omega)
          have hg4 : w1.heap.size ≤ g4 := (hrh.top.lt g4 rfl).1
          have hg4b : g4 ≠ bo := by have := (HHN.out g4 rfl).2; omega
          have hg4x : g4 ≠ w.heap.size + 1 := by omega
          have ho := hrh.cell_at (j := 0) hcells_len hx (u := txt x.h.nm) rfl
          have o1 := hrh.cell_at (j := 1) hcells_len hx (u := .int .i64 x.h.lv) rfl
          obtain ⟨p, hpt, hp2⟩ := txt_mk x.h.nm
          rw [hpt] at ho
          have c0 : wr.cell? ⟨g4, k * 3, none⟩ = some (.string p) := ho.1
          have oc : wr.cell? ⟨g4, k * 3 + 1, none⟩ = some (.int .i64 x.h.lv) := o1.1
          have of : wr.frozen? ⟨g4, k * 3 + 1, none⟩ = false := o1.2
          have e1 := ((KB1.out.to HBx.out).2 1 _ rfl).1
          have s0 : (0 : Int) ≤ (k : Int) := by omega
          have s1 : (k : Int) < (nh : Int) := by omega
          have s2 : ((k : Int)).toNat = k := by simp
          have CH := hid (ATH.out p wr.drew (HWx.out.drew))
          rw [hp2] at CH
          have HX1 := hid (And.intro hx hh0)
          have HRd := hid (HRx.out.below ((Below.refl wr.heap.size wr).drew))
          have HKd := hid (HKx.out.dr 1)
          have HBd := hid (HBx.out.drew)
          clear hx hh0 hrh ho o1 hpt hp2
          go_wp2_with fail
          refine wp_region_held_drew (S := (fun w' : World => w'.cell? ⟨w.heap.size + 1, 1, none⟩ = some (.slice B2 m2 j2) ∧ w'.cell? ⟨bo, 1, none⟩ = some (.slice (some ⟨g4, 0, none⟩) nh c4) ∧ w'.cell? ⟨g4, k * 3, none⟩ = some (.string p))) (by kernel_rfl) ⟨e1, f1, c0⟩ (fun hS => ?_)
          refine wpAnyH_take (i := 0) (oi := ?oi150) (v := ?v150) ?hi150 (by kernel_rfl) ?hf150 ?hr150 ?hQ150 (Or.inl ⟨?hw150, ?hy150⟩) (by assumption) ?rest150
          case hi150 => simp only [List.getElem?_toArray, List.getElem?_cons_succ, List.getElem?_cons_zero]; rfl
          case hf150 => kernel_rfl
          case hr150 => kernel_rfl
          case hw150 => rfl
          case hy150 => (intro w hSw; (try dsimp only at hSw); go_simp; all_goals (first | done | with_reducible rfl))
          case hQ150 => exact fun _ _ _ h => h
          simp only [Act.put, List.setIfInBounds_toArray, List.set_cons_zero, List.set_cons_succ]
          refine wpAnyH_take (i := 1) (oi := ?oi151) (v := ?v151) ?hi151 (by kernel_rfl) ?hf151 ?hr151 ?hQ151 (Or.inl ⟨?hw151, ?hy151⟩) (by assumption) ?rest151
          case hi151 => simp only [List.getElem?_toArray, List.getElem?_cons_succ, List.getElem?_cons_zero]; rfl
          case hf151 => kernel_rfl
          case hr151 => kernel_rfl
          case hw151 => rfl
          case hy151 => (intro w hSw; (try dsimp only at hSw); go_simp; all_goals (first | done | with_reducible rfl))
          case hQ151 => exact fun _ _ _ h => h
          simp only [Act.put, List.setIfInBounds_toArray, List.set_cons_zero, List.set_cons_succ]
          refine wpAnyH_take (i := 2) (oi := ?oi152) (v := ?v152) ?hi152 (by kernel_rfl) ?hf152 ?hr152 ?hQ152 (Or.inl ⟨?hw152, ?hy152⟩) (by assumption) ?rest152
          case hi152 => simp only [List.getElem?_toArray, List.getElem?_cons_succ, List.getElem?_cons_zero]; rfl
          case hf152 => kernel_rfl
          case hr152 => kernel_rfl
          case hw152 => rfl
          case hy152 => (intro w hSw; (try dsimp only at hSw); go_simp; all_goals (first | done | with_reducible rfl))
          case hQ152 => exact fun _ _ _ h => h
          simp only [Act.put, List.setIfInBounds_toArray, List.set_cons_zero, List.set_cons_succ]
          refine wpAnyH_take (i := 3) (oi := ?oi153) (v := ?v153) ?hi153 (by kernel_rfl) ?hf153 ?hr153 ?hQ153 (Or.inl ⟨?hw153, ?hy153⟩) (by assumption) ?rest153
          case hi153 => simp only [List.getElem?_toArray, List.getElem?_cons_succ, List.getElem?_cons_zero]; rfl
          case hf153 => kernel_rfl
          case hr153 => kernel_rfl
          case hw153 => rfl
          case hy153 => (intro w hSw; (try dsimp only at hSw); go_simp; all_goals (first | done | with_reducible rfl))
          case hQ153 => exact fun _ _ _ h => h
          simp only [Act.put, List.setIfInBounds_toArray, List.set_cons_zero, List.set_cons_succ]
          refine wpAnyH_take (i := 4) (oi := ?oi154) (v := ?v154) ?hi154 (by kernel_rfl) ?hf154 ?hr154 ?hQ154 (Or.inl ⟨?hw154, ?hy154⟩) (by assumption) ?rest154
          case hi154 => simp only [List.getElem?_toArray, List.getElem?_cons_succ, List.getElem?_cons_zero]; rfl
          case hf154 => kernel_rfl
          case hr154 => kernel_rfl
          case hw154 => rfl
          case hy154 => (intro w hSw; (try dsimp only at hSw); go_simp; all_goals (first | done | with_reducible rfl))
          case hQ154 => exact fun _ _ _ h => h
          simp only [Act.put, List.setIfInBounds_toArray, List.set_cons_zero, List.set_cons_succ]
          refine wpAnyH_take (i := 5) (oi := ?oi155) (v := ?v155) ?hi155 (by kernel_rfl) ?hf155 ?hr155 ?hQ155 (Or.inl ⟨?hw155, ?hy155⟩) (by assumption) ?rest155
          case hi155 => simp only [List.getElem?_toArray, List.getElem?_cons_succ, List.getElem?_cons_zero]; rfl
          case hf155 => kernel_rfl
          case hr155 => kernel_rfl
          case hw155 => rfl
          case hy155 => (intro w hSw; (try dsimp only at hSw); go_simp; all_goals (first | done | with_reducible rfl))
          case hQ155 => exact fun _ _ _ h => h
          simp only [Act.put, List.setIfInBounds_toArray, List.set_cons_zero, List.set_cons_succ]
          refine wpAnyH_take (i := 6) (oi := ?oi156) (v := ?v156) ?hi156 (by kernel_rfl) ?hf156 ?hr156 ?hQ156 (Or.inl ⟨?hw156, ?hy156⟩) (by assumption) ?rest156
          case hi156 => simp only [List.getElem?_toArray, List.getElem?_cons_succ, List.getElem?_cons_zero]; rfl
          case hf156 => kernel_rfl
          case hr156 => kernel_rfl
          case hw156 => rfl
          case hy156 => (intro w hSw; (try dsimp only at hSw); go_simp; all_goals (first | done | with_reducible rfl))
          case hQ156 => exact fun _ _ _ h => h
          simp only [Act.put, List.setIfInBounds_toArray, List.set_cons_zero, List.set_cons_succ]
          refine wpAnyH_take (i := 7) (oi := ?oi157) (v := ?v157) ?hi157 (by kernel_rfl) ?hf157 ?hr157 ?hQ157 (Or.inl ⟨?hw157, ?hy157⟩) (by assumption) ?rest157
          case hi157 => simp only [List.getElem?_toArray, List.getElem?_cons_succ, List.getElem?_cons_zero]; rfl
          case hf157 => kernel_rfl
          case hr157 => kernel_rfl
          case hw157 => rfl
          case hy157 => (intro w hSw; (try dsimp only at hSw); go_simp; all_goals (first | done | with_reducible rfl))
          case hQ157 => exact fun _ _ _ h => h
          simp only [Act.put, List.setIfInBounds_toArray, List.set_cons_zero, List.set_cons_succ]
          refine wpAnyH_ready (rs := [8]) (by kernel_rfl) (by simp) ?_
          refine AllReadyH.cons (o := ?oi158) ?hi158 (fun K hK => ?step158) AllReadyH.nil
          case hi158 => simp only [List.getElem?_toArray, List.getElem?_cons_succ, List.getElem?_cons_zero]; rfl
          rw [if_pos (by rfl)]
          go_simp
          go_at_call 60
          refine (CH.out).mono ?_
          rintro e w9 ⟨rfl, rfl⟩
          refine hK.out _ _ hS (fun hS => ?_)
          refine wpAnyH_take (i := 9) (oi := ?oi159) (v := ?v159) ?hi159 (by kernel_rfl) ?hf159 ?hr159 ?hQ159 (Or.inl ⟨?hw159, ?hy159⟩) (by assumption) ?rest159
          case hi159 => simp only [List.getElem?_toArray, List.getElem?_cons_succ, List.getElem?_cons_zero]; rfl
          case hf159 => kernel_rfl
          case hr159 => kernel_rfl
          case hw159 => rfl
          case hy159 => (intro w hSw; (try dsimp only at hSw); go_simp; all_goals (first | done | with_reducible rfl))
          case hQ159 => exact fun _ _ _ h => h
          simp only [Act.put, List.setIfInBounds_toArray, List.set_cons_zero, List.set_cons_succ]
          refine wpAnyH_done (by kernel_rfl) ?_ _
          clear hS
          by_cases hneg : idxL (hnm Hb) x.h.nm < 0
          · have HN := hid (patH_no hneg)
            generalize idxL (hnm Hb) x.h.nm = ix at *
            clear oc of f1 e1 c0
            go_wp2_with fail
            go_roundw
            case rel =>
              refine ⟨k + 1, cur, _, by go_num, rfl, by omega, ?_, HRd.out, HKd.out, HBd.out⟩
              show hsOf cur = _
              rw [mapk_same _ HX1.out.2 HN.out]; exact HC.out
            case measure => simp [intOf]; omega
          · obtain ⟨kk, hkk, hkl, _⟩ := idx_natN hneg
            have hkb : kk < Hb.length := by unfold hnm at hkl; rw [List.length_map] at hkl; exact hkl
            have HN := hid (patH_hit hkk)
            rw [hkk]
            obtain ⟨gb, ob, hB2, hgbB, hkm, hj2, hmj, hcl⟩ := HHB.out kk hkb
            subst hB2
            unfold maxLen at hj2
            generalize (Hb.map (·.lv)).getD kk 0 = lvb at *
            have cl : wr.cell? ⟨gb, ob + kk * 3 + 1, none⟩ = some (.int .i64 lvb) := (HWx.out.cell (p := ⟨gb, ob + kk * 3 + 1, none⟩) (show gb < w.heap.size by omega)).trans hcl
            have t0 : (0 : Int) ≤ (kk : Int) := by omega
            have t1 : (kk : Int) < (m2 : Int) := by omega
            have t2 : ((kk : Int)).toNat = kk := by simp
            have hg4g : g4 ≠ gb := by omega
            have hrh1 : Rows wr.drew.drew w1.heap.size (two 49 6 n (.slice (some ⟨g, 0, none⟩) n c) lcells lrows ls ++ two 83 3 nh (.slice (some ⟨g4, 0, none⟩) nh c4) hcells hrows cur ++ []) := by simpa using HRd.out.below ((Below.refl _ _).drew)
            have hrs0 := hrh1.cellset (j := 1) (e := 1) (x := x) (y := { x with h := patH Hb x.h }) (u := .int .i64 lvb) hcells_len hrows_len HX1.out.1 (by omega) (by rw [HN.out]; rfl) (by rw [HN.out]; rfl)
            have HRs := hid (show Rows (wr.drew.drew.setCell ⟨g4, k * 3 + 1, none⟩ (.int .i64 lvb)) w1.heap.size ([] ++ two 49 6 n (.slice (some ⟨g, 0, none⟩) n c) lcells lrows ls ++ two 83 3 nh (.slice (some ⟨g4, 0, none⟩) nh c4) hcells hrows (cur.set k { x with h := patH Hb x.h })) by simpa using hrs0)
            have HKs := hid ((HKd.out.dr 1).apart ⟨g4, k * 3 + 1, none⟩ (.int .i64 lvb) hg4b)
            have HBs := hid (HBd.out.drew.setCell (p := ⟨g4, k * 3 + 1, none⟩) hg4 (.int .i64 lvb))
            clear hneg hkk hkl hkb hcl hrs0 hrh1 c0
            go_wp2_with fail
            refine wp_region_held_drew (S := (fun w' : World => w'.cell? ⟨w.heap.size + 1, 1, none⟩ = some (.slice (some ⟨gb, ob, none⟩) m2 j2) ∧ w'.cell? ⟨bo, 1, none⟩ = some (.slice (some ⟨g4, 0, none⟩) nh c4) ∧ w'.cell? ⟨gb, ob + kk * 3 + 1, none⟩ = some (.int .i64 lvb))) (by kernel_rfl) ⟨e1, f1, cl⟩ (fun hS => ?_)
            refine wpAnyH_take (i := 0) (oi := ?oi160) (v := ?v160) ?hi160 (by kernel_rfl) ?hf160 ?hr160 ?hQ160 (Or.inl ⟨?hw160, ?hy160⟩) (by assumption) ?rest160
            case hi160 => simp only [List.getElem?_toArray, List.getElem?_cons_succ, List.getElem?_cons_zero]; rfl
            case hf160 => kernel_rfl
            case hr160 => kernel_rfl
            case hw160 => rfl
            case hy160 => (intro w hSw; (try dsimp only at hSw); go_simp; all_goals (first | done | with_reducible rfl))
            case hQ160 => exact fun _ _ _ h => h
            simp only [Act.put, List.setIfInBounds_toArray, List.set_cons_zero, List.set_cons_succ]
            refine wpAnyH_take (i := 1) (oi := ?oi161) (v := ?v161) ?hi161 (by kernel_rfl) ?hf161 ?hr161 ?hQ161 (Or.inl ⟨?hw161, ?hy161⟩) (by assumption) ?rest161
            case hi161 => simp only [List.getElem?_toArray, List.getElem?_cons_succ, List.getElem?_cons_zero]; rfl
            case hf161 => kernel_rfl
            case hr161 => kernel_rfl
            case hw161 => rfl
            case hy161 => (intro w hSw; (try dsimp only at hSw); go_simp; all_goals (first | done | with_reducible rfl))
            case hQ161 => exact fun _ _ _ h => h
            simp only [Act.put, List.setIfInBounds_toArray, List.set_cons_zero, List.set_cons_succ]
            refine wpAnyH_take (i := 2) (oi := ?oi162) (v := ?v162) ?hi162 (by kernel_rfl) ?hf162 ?hr162 ?hQ162 (Or.inl ⟨?hw162, ?hy162⟩) (by assumption) ?rest162
            case hi162 => simp only [List.getElem?_toArray, List.getElem?_cons_succ, List.getElem?_cons_zero]; rfl
            case hf162 => kernel_rfl
            case hr162 => kernel_rfl
            case hw162 => rfl
            case hy162 => (intro w hSw; (try dsimp only at hSw); go_simp; all_goals (first | done | with_reducible rfl))
            case hQ162 => exact fun _ _ _ h => h
            simp only [Act.put, List.setIfInBounds_toArray, List.set_cons_zero, List.set_cons_succ]
            refine wpAnyH_take (i := 3) (oi := ?oi163) (v := ?v163) ?hi163 (by kernel_rfl) ?hf163 ?hr163 ?hQ163 (Or.inl ⟨?hw163, ?hy163⟩) (by assumption) ?rest163
            case hi163 => simp only [List.getElem?_toArray, List.getElem?_cons_succ, List.getElem?_cons_zero]; rfl
            case hf163 => kernel_rfl
            case hr163 => kernel_rfl
            case hw163 => rfl
            case hy163 => (intro w hSw; (try dsimp only at hSw); go_simp; all_goals (first | done | with_reducible rfl))
            case hQ163 => exact fun _ _ _ h => h
            simp only [Act.put, List.setIfInBounds_toArray, List.set_cons_zero, List.set_cons_succ]
            refine wpAnyH_take (i := 4) (oi := ?oi164) (v := ?v164) ?hi164 (by kernel_rfl) ?hf164 ?hr164 ?hQ164 (Or.inl ⟨?hw164, ?hy164⟩) (by assumption) ?rest164
            case hi164 => simp only [List.getElem?_toArray, List.getElem?_cons_succ, List.getElem?_cons_zero]; rfl
            case hf164 => kernel_rfl
            case hr164 => kernel_rfl
            case hw164 => rfl
            case hy164 => (intro w hSw; (try dsimp only at hSw); go_simp; all_goals (first | done | with_reducible rfl))
            case hQ164 => exact fun _ _ _ h => h
            simp only [Act.put, List.setIfInBounds_toArray, List.set_cons_zero, List.set_cons_succ]
            refine wpAnyH_take (i := 5) (oi := ?oi165) (v := ?v165) ?hi165 (by kernel_rfl) ?hf165 ?hr165 ?hQ165 (Or.inl ⟨?hw165, ?hy165⟩) (by assumption) ?rest165
            case hi165 => simp only [List.getElem?_toArray, List.getElem?_cons_succ, List.getElem?_cons_zero]; rfl
            case hf165 => kernel_rfl
            case hr165 => kernel_rfl
            case hw165 => rfl
            case hy165 => (intro w hSw; (try dsimp only at hSw); go_simp; all_goals (first | done | with_reducible rfl))
            case hQ165 => exact fun _ _ _ h => h
            simp only [Act.put, List.setIfInBounds_toArray, List.set_cons_zero, List.set_cons_succ]
            refine wpAnyH_take (i := 6) (oi := ?oi166) (v := ?v166) ?hi166 (by kernel_rfl) ?hf166 ?hr166 ?hQ166 (Or.inl ⟨?hw166, ?hy166⟩) (by assumption) ?rest166
            case hi166 => simp only [List.getElem?_toArray, List.getElem?_cons_succ, List.getElem?_cons_zero]; rfl
            case hf166 => kernel_rfl
            case hr166 => kernel_rfl
            case hw166 => rfl
            case hy166 => (intro w hSw; (try dsimp only at hSw); go_simp; all_goals (first | done | with_reducible rfl))
            case hQ166 => exact fun _ _ _ h => h
            simp only [Act.put, List.setIfInBounds_toArray, List.set_cons_zero, List.set_cons_succ]
            refine wpAnyH_take (i := 7) (oi := ?oi167) (v := ?v167) ?hi167 (by kernel_rfl) ?hf167 ?hr167 ?hQ167 (Or.inl ⟨?hw167, ?hy167⟩) (by assumption) ?rest167
            case hi167 => simp only [List.getElem?_toArray, List.getElem?_cons_succ, List.getElem?_cons_zero]; rfl
            case hf167 => kernel_rfl
            case hr167 => kernel_rfl
            case hw167 => rfl
            case hy167 => (intro w hSw; (try dsimp only at hSw); go_simp; all_goals (first | done | with_reducible rfl))
            case hQ167 => exact fun _ _ _ h => h
            simp only [Act.put, List.setIfInBounds_toArray, List.set_cons_zero, List.set_cons_succ]
            refine wpAnyH_take (i := 8) (oi := ?oi168) (v := ?v168) ?hi168 (by kernel_rfl) ?hf168 ?hr168 ?hQ168 (Or.inl ⟨?hw168, ?hy168⟩) (by assumption) ?rest168
            case hi168 => simp only [List.getElem?_toArray, List.getElem?_cons_succ, List.getElem?_cons_zero]; rfl
            case hf168 => kernel_rfl
            case hr168 => kernel_rfl
            case hw168 => rfl
            case hy168 => (intro w hSw; (try dsimp only at hSw); go_simp; all_goals (first | done | with_reducible rfl))
            case hQ168 => exact fun _ _ _ h => h
            simp only [Act.put, List.setIfInBounds_toArray, List.set_cons_zero, List.set_cons_succ]
            refine wpAnyH_take (i := 9) (oi := ?oi169) (v := ?v169) ?hi169 (by kernel_rfl) ?hf169 ?hr169 ?hQ169 (Or.inl ⟨?hw169, ?hy169⟩) (by assumption) ?rest169
            case hi169 => simp only [List.getElem?_toArray, List.getElem?_cons_succ, List.getElem?_cons_zero]; rfl
            case hf169 => kernel_rfl
            case hr169 => kernel_rfl
            case hw169 => rfl
            case hy169 => (intro w hSw; (try dsimp only at hSw); go_simp; all_goals (first | done | with_reducible rfl))
            case hQ169 => exact fun _ _ _ h => h
            simp only [Act.put, List.setIfInBounds_toArray, List.set_cons_zero, List.set_cons_succ]
            refine wpAnyH_take (i := 10) (oi := ?oi170) (v := ?v170) ?hi170 (by kernel_rfl) ?hf170 ?hr170 ?hQ170 (Or.inl ⟨?hw170, ?hy170⟩) (by assumption) ?rest170
            case hi170 => simp only [List.getElem?_toArray, List.getElem?_cons_succ, List.getElem?_cons_zero]; rfl
            case hf170 => kernel_rfl
            case hr170 => kernel_rfl
            case hw170 => rfl
            case hy170 => (intro w hSw; (try dsimp only at hSw); go_simp; all_goals (first | done | with_reducible rfl))
            case hQ170 => exact fun _ _ _ h => h
            simp only [Act.put, List.setIfInBounds_toArray, List.set_cons_zero, List.set_cons_succ]
            refine wpAnyH_ready (rs := [11]) (by kernel_rfl) (by simp) ?_
            refine AllReadyH.cons (o := ?oi171) ?hi171 (fun K hK => ?step171) AllReadyH.nil
            case hi171 => simp only [List.getElem?_toArray, List.getElem?_cons_succ, List.getElem?_cons_zero]; rfl
            rw [if_pos (by rfl)]
            go_simp
            refine hK.out _ _ ⟨(World.cell?_setCell_far _ _ _ _ hg4x).trans hS.1, (World.cell?_setCell_far _ _ _ _ hg4b).trans hS.2.1, (World.cell?_setCell_far _ _ _ _ hg4g).trans hS.2.2⟩ (fun hS => ?_)
            refine wpAnyH_done (by kernel_rfl) ?_ _
            clear oc of f1 e1 cl hS
            go_wp2_with fail
            go_roundw
            case rel =>
              refine ⟨k + 1, _, _, by go_num, rfl, by omega, ?_, HRs.out, HKs.out, HBs.out⟩
              show hsOf (cur.set k _) = _
              rw [mapk_step _ HX1.out.2, ← HC.out]
              unfold hsOf
              rw [List.map_set]
            case measure => simp [intOf]; omega
        · obtain rfl : k = nh := by omega
          have HCH := hid (show hsOf cur = H.map (patH Hb) by
            have hkL := HLh.out
            have h := HC.out
            rw [List.take_of_length_le (by omega), List.drop_eq_nil_of_le (by omega), List.append_nil] at h
            exact h)
          have hcl : cur.length = k := by have h := congrArg List.length HCH.out; have := HLh.out; simp [hsOf] at h; omega
          have HCL := hid hcl
          clear hcl HC
          go_wp2_with fail
          clear f1
          go_loopw [8, 9] (fun iv av wr => ∃ (j : Nat) (cul : List LgrV) (u9 : Value), iv = .int .i64 j ∧ av = u9 ∧ j ≤ n ∧ Hid (lsOf cul = (L.take j).map (patL Lb) ++ L.drop j) ∧
            Hid (Rows wr w1.heap.size ([] ++ two 49 6 n (.slice (some ⟨g, 0, none⟩) n c) lcells lrows cul ++ two 83 3 k (.slice A4 k c4) hcells hrows cur)) ∧ Hid (Blk wr bo [.slice (some ⟨g, 0, none⟩) n c, .slice A4 k c4, .int .i64 qb]) ∧ Hid (Below w1.heap.size w1 wr)) (fun iv _ _ => n - (intOf iv).toNat)
          case atStart => exact ⟨0, ls, _, rfl, rfl, by omega, by simpa [Hid] using HL.out, HRx.out, HKx.out, HBx.out⟩
          case round =>
            clear HRx HKx HBx HWx
            obtain ⟨j, cul, u9, rfl, rfl, hj, HC, HRx, HKx, HBx⟩ := hrel
            have HWx := hid (HW1.out.trans (HBx.out.mono HW1.out.size))
            have f0 := (HKx.out.2 0 _ rfl).1
            by_cases hlt : j < n
            · have hkL : j < L.length := by have := HLn.out; omega
              obtain ⟨l0, hl0⟩ : ∃ l, L[j]? = some l := ⟨_, List.getElem?_eq_getElem hkL⟩
              obtain ⟨x, hx, hxl⟩ := lsOf_at HC.out hl0
              subst hxl
              have ho := HRx.out.cell_at (j := 0) lcells_len hx (u := txt x.l.nm) rfl
              have o1 := HRx.out.cell_at (j := 1) lcells_len hx (u := .int .i64 x.l.lv) rfl
              have o4 := HRx.out.cell_at (j := 4) lcells_len hx (u := .bool x.l.stop) rfl
              obtain ⟨p, hpt, hp2⟩ := txt_mk x.l.nm
              rw [hpt] at ho
              have c0 : wr.cell? ⟨g, j * 6, none⟩ = some (.string p) := ho.1
              have oc : wr.cell? ⟨g, j * 6 + 1, none⟩ = some (.int .i64 x.l.lv) := o1.1
              have of : wr.frozen? ⟨g, j * 6 + 1, none⟩ = false := o1.2
              have oc4 : wr.cell? ⟨g, j * 6 + 4, none⟩ = some (.bool x.l.stop) := o4.1
              have of4 : wr.frozen? ⟨g, j * 6 + 4, none⟩ = false := o4.2
              have e0 := ((KB1.out.to HBx.out).2 0 _ rfl).1
              have hgx : g ≠ w.heap.size + 1 := by omega
              have s0 : (0 : Int) ≤ (j : Int) := by omega
              have s1 : (j : Int) < (n : Int) := by omega
              have s2 : ((j : Int)).toNat = j := by simp
              have CH := hid (ATL.out p wr.drew (HWx.out.drew))
              rw [hp2] at CH
              have HX1 := hid (And.intro hx hl0)
              have HRd := hid (HRx.out.below ((Below.refl wr.heap.size wr).drew))
              have HKd := hid (HKx.out.dr 1)
              have HBd := hid (HBx.out.drew)
              clear hx hl0 ho o1 o4 hpt hp2
              go_wp2_with fail
              refine wp_region_held_drew (S := (fun w' : World => w'.cell? ⟨w.heap.size + 1, 0, none⟩ = some (.slice B1 m1 j1) ∧ w'.cell? ⟨bo, 0, none⟩ = some (.slice (some ⟨g, 0, none⟩) n c) ∧ w'.cell? ⟨g, j * 6, none⟩ = some (.string p))) (by kernel_rfl) ⟨e0, f0, c0⟩ (fun hS => ?_)
              refine wpAnyH_take (i := 0) (oi := ?oi172) (v := ?v172) ?hi172 (by kernel_rfl) ?hf172 ?hr172 ?hQ172 (Or.inl ⟨?hw172, ?hy172⟩) (by assumption) ?rest172
              case hi172 => simp only [List.getElem?_toArray, List.getElem?_cons_succ, List.getElem?_cons_zero]; rfl
              case hf172 => kernel_rfl
              case hr172 => kernel_rfl
              case hw172 => rfl
              case hy172 => (intro w hSw; (try dsimp only at hSw); go_simp; all_goals (first | done | with_reducible rfl))
              case hQ172 => exact fun _ _ _ h => h
              simp only [Act.put, List.setIfInBounds_toArray, List.set_cons_zero, List.set_cons_succ]
              refine wpAnyH_take (i := 1) (oi := ?oi173) (v := ?v173) ?hi173 (by kernel_rfl) ?hf173 ?hr173 ?hQ173 (Or.inl ⟨?hw173, ?hy173⟩) (by assumption) ?rest173
              case hi173 => simp only [List.getElem?_toArray, List.getElem?_cons_succ, List.getElem?_cons_zero]; rfl
              case hf173 => kernel_rfl
              case hr173 => kernel_rfl
              case hw173 => rfl
              case hy173 => (intro w hSw; (try dsimp only at hSw); go_simp; all_goals (first | done | with_reducible rfl))
              case hQ173 => exact fun _ _ _ h => h
              simp only [Act.put, List.setIfInBounds_toArray, List.set_cons_zero, List.set_cons_succ]
              refine wpAnyH_take (i := 2) (oi := ?oi174) (v := ?v174) ?hi174 (by kernel_rfl) ?hf174 ?hr174 ?hQ174 (Or.inl ⟨?hw174, ?hy174⟩) (by assumption) ?rest174
              case hi174 => simp only [List.getElem?_toArray, List.getElem?_cons_succ, List.getElem?_cons_zero]; rfl
              case hf174 => kernel_rfl
              case hr174 => kernel_rfl
              case hw174 => rfl
              case hy174 => (intro w hSw; (try dsimp only at hSw); go_simp; all_goals (first | done | with_reducible rfl))
              case hQ174 => exact fun _ _ _ h => h
              simp only [Act.put, List.setIfInBounds_toArray, List.set_cons_zero, List.set_cons_succ]
              refine wpAnyH_take (i := 3) (oi := ?oi175) (v := ?v175) ?hi175 (by kernel_rfl) ?hf175 ?hr175 ?hQ175 (Or.inl ⟨?hw175, ?hy175⟩) (by assumption) ?rest175
              case hi175 => simp only [List.getElem?_toArray, List.getElem?_cons_succ, List.getElem?_cons_zero]; rfl
              case hf175 => kernel_rfl
              case hr175 => kernel_rfl
              case hw175 => rfl
              case hy175 => (intro w hSw; (try dsimp only at hSw); go_simp; all_goals (first | done | with_reducible rfl))
              case hQ175 => exact fun _ _ _ h => h
              simp only [Act.put, List.setIfInBounds_toArray, List.set_cons_zero, List.set_cons_succ]
              refine wpAnyH_take (i := 4) (oi := ?oi176) (v := ?v176) ?hi176 (by kernel_rfl) ?hf176 ?hr176 ?hQ176 (Or.inl ⟨?hw176, ?hy176⟩) (by assumption) ?rest176
              case hi176 => simp only [List.getElem?_toArray, List.getElem?_cons_succ, List.getElem?_cons_zero]; rfl
              case hf176 => kernel_rfl
              case hr176 => kernel_rfl
              case hw176 => rfl
              case hy176 => (intro w hSw; (try dsimp only at hSw); go_simp; all_goals (first | done | with_reducible rfl))
              case hQ176 => exact fun _ _ _ h => h
              simp only [Act.put, List.setIfInBounds_toArray, List.set_cons_zero, List.set_cons_succ]
              refine wpAnyH_take (i := 5) (oi := ?oi177) (v := ?v177) ?hi177 (by kernel_rfl) ?hf177 ?hr177 ?hQ177 (Or.inl ⟨?hw177, ?hy177⟩) (by assumption) ?rest177
              case hi177 => simp only [List.getElem?_toArray, List.getElem?_cons_succ, List.getElem?_cons_zero]; rfl
              case hf177 => kernel_rfl
              case hr177 => kernel_rfl
              case hw177 => rfl
              case hy177 => (intro w hSw; (try dsimp only at hSw); go_simp; all_goals (first | done | with_reducible rfl))
              case hQ177 => exact fun _ _ _ h => h
              simp only [Act.put, List.setIfInBounds_toArray, List.set_cons_zero, List.set_cons_succ]
              refine wpAnyH_take (i := 6) (oi := ?oi178) (v := ?v178) ?hi178 (by kernel_rfl) ?hf178 ?hr178 ?hQ178 (Or.inl ⟨?hw178, ?hy178⟩) (by assumption) ?rest178
              case hi178 => simp only [List.getElem?_toArray, List.getElem?_cons_succ, List.getElem?_cons_zero]; rfl
              case hf178 => kernel_rfl
              case hr178 => kernel_rfl
              case hw178 => rfl
              case hy178 => (intro w hSw; (try dsimp only at hSw); go_simp; all_goals (first | done | with_reducible rfl))
              case hQ178 => exact fun _ _ _ h => h
              simp only [Act.put, List.setIfInBounds_toArray, List.set_cons_zero, List.set_cons_succ]
              refine wpAnyH_take (i := 7) (oi := ?oi179) (v := ?v179) ?hi179 (by kernel_rfl) ?hf179 ?hr179 ?hQ179 (Or.inl ⟨?hw179, ?hy179⟩) (by assumption) ?rest179
              case hi179 => simp only [List.getElem?_toArray, List.getElem?_cons_succ, List.getElem?_cons_zero]; rfl
              case hf179 => kernel_rfl
              case hr179 => kernel_rfl
              case hw179 => rfl
              case hy179 => (intro w hSw; (try dsimp only at hSw); go_simp; all_goals (first | done | with_reducible rfl))
              case hQ179 => exact fun _ _ _ h => h
              simp only [Act.put, List.setIfInBounds_toArray, List.set_cons_zero, List.set_cons_succ]
              refine wpAnyH_ready (rs := [8]) (by kernel_rfl) (by simp) ?_
              refine AllReadyH.cons (o := ?oi180) ?hi180 (fun K hK => ?step180) AllReadyH.nil
              case hi180 => simp only [List.getElem?_toArray, List.getElem?_cons_succ, List.getElem?_cons_zero]; rfl
              rw [if_pos (by rfl)]
              go_simp
              go_at_call 46
              refine (CH.out).mono ?_
              rintro e w9 ⟨rfl, rfl⟩
              refine hK.out _ _ hS (fun hS => ?_)
              refine wpAnyH_take (i := 9) (oi := ?oi181) (v := ?v181) ?hi181 (by kernel_rfl) ?hf181 ?hr181 ?hQ181 (Or.inl ⟨?hw181, ?hy181⟩) (by assumption) ?rest181
              case hi181 => simp only [List.getElem?_toArray, List.getElem?_cons_succ, List.getElem?_cons_zero]; rfl
              case hf181 => kernel_rfl
              case hr181 => kernel_rfl
              case hw181 => rfl
              case hy181 => (intro w hSw; (try dsimp only at hSw); go_simp; all_goals (first | done | with_reducible rfl))
              case hQ181 => exact fun _ _ _ h => h
              simp only [Act.put, List.setIfInBounds_toArray, List.set_cons_zero, List.set_cons_succ]
              refine wpAnyH_done (by kernel_rfl) ?_ _
              clear hS
              by_cases hneg : idxL (namesOf Lb) x.l.nm < 0
              · have HN := hid (patL_no hneg)
                generalize idxL (namesOf Lb) x.l.nm = ix at *
                clear oc of oc4 of4 f0 e0 c0
                go_wp2_with fail
                go_roundw
                case rel =>
                  refine ⟨j + 1, cul, _, by go_num, rfl, by omega, ?_, HRd.out, HKd.out, HBd.out⟩
                  show lsOf cul = _
                  rw [mapk_same _ HX1.out.2 HN.out]; exact HC.out
                case measure => simp [intOf]; omega
              · obtain ⟨kk, hkk, hkl, _⟩ := idx_natN hneg
                have hkb : kk < Lb.length := by unfold namesOf at hkl; rw [List.length_map] at hkl; exact hkl
                have HN := hid (patL_hit hkk)
                rw [hkk]
                obtain ⟨gb, ob, hB1, hgbB, hkm, hj2, hmj, hcl, hcs⟩ := HLB.out kk hkb
                subst hB1
                unfold maxLen at hj2
                generalize (Lb.map (·.lv)).getD kk 0 = lvb at *
                generalize (Lb.map (·.stop)).getD kk false = stb at *
                have hgbw : gb < w.heap.size := by omega
                have cl : wr.cell? ⟨gb, ob + kk * 6 + 1, none⟩ = some (.int .i64 lvb) := (HWx.out.cell (p := ⟨gb, ob + kk * 6 + 1, none⟩) hgbw).trans hcl
                have cs : wr.cell? ⟨gb, ob + kk * 6 + 4, none⟩ = some (.bool stb) := (HWx.out.cell (p := ⟨gb, ob + kk * 6 + 4, none⟩) hgbw).trans hcs
                have hgg : g ≠ gb := by omega
                have t0 : (0 : Int) ≤ (kk : Int) := by omega
                have t1 : (kk : Int) < (m1 : Int) := by omega
                have t2 : ((kk : Int)).toNat = kk := by simp
                have hrd : Rows wr.drew.drew w1.heap.size ([] ++ two 49 6 n (.slice (some ⟨g, 0, none⟩) n c) lcells lrows cul ++ two 83 3 k (.slice A4 k c4) hcells hrows cur) := HRd.out.below ((Below.refl _ _).drew)
                have hrs0 := hrd.cellset (j := 1) (e := 2) (x := x) (y := { x with l := { x.l with lv := lvb } }) (u := .int .i64 lvb) lcells_len lrows_len HX1.out.1 (by omega) rfl rfl
                have hrs2 : Rows (wr.drew.drew.setCell ⟨g, j * 6 + 1, none⟩ (.int .i64 lvb)).drew _ _ := hrs0.below ((Below.refl _ _).drew)
                have hx1 : (cul.set j { x with l := { x.l with lv := lvb } })[j]? = some { x with l := { x.l with lv := lvb } } := List.getElem?_set_self (List.getElem?_eq_some_iff.1 HX1.out.1).1
                have hrs1 := hrs2.cellset (j := 4) (e := 2) (x := { x with l := { x.l with lv := lvb } }) (y := { x with l := patL Lb x.l }) (u := .bool stb) lcells_len lrows_len hx1 (by omega) (by rw [HN.out]; rfl) (by rw [HN.out]; rfl)
                rw [List.set_set] at hrs1
                have HRs := hid hrs1
                have HKs := hid ((((HKd.out.dr 1).apart ⟨g, j * 6 + 1, none⟩ (.int .i64 lvb) hgo).dr 1).apart ⟨g, j * 6 + 4, none⟩ (.bool stb) hgo)
                have HBs := hid (((HBd.out.drew.setCell (p := ⟨g, j * 6 + 1, none⟩) hgl (.int .i64 lvb)).drew).setCell (p := ⟨g, j * 6 + 4, none⟩) hgl (.bool stb))
                clear hneg hkk hkl hkb hcl hcs hrs0 hrs1 hrs2 hrd hx1 c0
                go_wp2_with fail
                refine wp_region_held_drew (S := (fun w' : World => w'.cell? ⟨w.heap.size + 1, 0, none⟩ = some (.slice (some ⟨gb, ob, none⟩) m1 j1) ∧ w'.cell? ⟨bo, 0, none⟩ = some (.slice (some ⟨g, 0, none⟩) n c) ∧ w'.cell? ⟨gb, ob + kk * 6 + 1, none⟩ = some (.int .i64 lvb))) (by kernel_rfl) ⟨e0, f0, cl⟩ (fun hS => ?_)
                refine wpAnyH_take (i := 0) (oi := ?oi182) (v := ?v182) ?hi182 (by kernel_rfl) ?hf182 ?hr182 ?hQ182 (Or.inl ⟨?hw182, ?hy182⟩) (by assumption) ?rest182
                case hi182 => simp only [List.getElem?_toArray, List.getElem?_cons_succ, List.getElem?_cons_zero]; rfl
                case hf182 => kernel_rfl
                case hr182 => kernel_rfl
                case hw182 => rfl
                case hy182 => (intro w hSw; (try dsimp only at hSw); go_simp; all_goals (first | done | with_reducible rfl))
                case hQ182 => exact fun _ _ _ h => h
                simp only [Act.put, List.setIfInBounds_toArray, List.set_cons_zero, List.set_cons_succ]
                refine wpAnyH_take (i := 1) (oi := ?oi183) (v := ?v183) ?hi183 (by kernel_rfl) ?hf183 ?hr183 ?hQ183 (Or.inl ⟨?hw183, ?hy183⟩) (by assumption) ?rest183
                case hi183 => simp only [List.getElem?_toArray, List.getElem?_cons_succ, List.getElem?_cons_zero]; rfl
                case hf183 => kernel_rfl
                case hr183 => kernel_rfl
                case hw183 => rfl
                case hy183 => (intro w hSw; (try dsimp only at hSw); go_simp; all_goals (first | done | with_reducible rfl))
                case hQ183 => exact fun _ _ _ h => h
                simp only [Act.put, List.setIfInBounds_toArray, List.set_cons_zero, List.set_cons_succ]
                refine wpAnyH_take (i := 2) (oi := ?oi184) (v := ?v184) ?hi184 (by kernel_rfl) ?hf184 ?hr184 ?hQ184 (Or.inl ⟨?hw184, ?hy184⟩) (by assumption) ?rest184
                case hi184 => simp only [List.getElem?_toArray, List.getElem?_cons_succ, List.getElem?_cons_zero]; rfl
                case hf184 => kernel_rfl
                case hr184 => kernel_rfl
                case hw184 => rfl
                case hy184 => (intro w hSw; (try dsimp only at hSw); go_simp; all_goals (first | done | with_reducible rfl))
                case hQ184 => exact fun _ _ _ h => h
                simp only [Act.put, List.setIfInBounds_toArray, List.set_cons_zero, List.set_cons_succ]
                refine wpAnyH_take (i := 3) (oi := ?oi185) (v := ?v185) ?hi185 (by kernel_rfl) ?hf185 ?hr185 ?hQ185 (Or.inl ⟨?hw185, ?hy185⟩) (by assumption) ?rest185
                case hi185 => simp only [List.getElem?_toArray, List.getElem?_cons_succ, List.getElem?_cons_zero]; rfl
                case hf185 => kernel_rfl
                case hr185 => kernel_rfl
                case hw185 => rfl
                case hy185 => (intro w hSw; (try dsimp only at hSw); go_simp; all_goals (first | done | with_reducible rfl))
                case hQ185 => exact fun _ _ _ h => h
                simp only [Act.put, List.setIfInBounds_toArray, List.set_cons_zero, List.set_cons_succ]
                refine wpAnyH_take (i := 4) (oi := ?oi186) (v := ?v186) ?hi186 (by kernel_rfl) ?hf186 ?hr186 ?hQ186 (Or.inl ⟨?hw186, ?hy186⟩) (by assumption) ?rest186
                case hi186 => simp only [List.getElem?_toArray, List.getElem?_cons_succ, List.getElem?_cons_zero]; rfl
                case hf186 => kernel_rfl
                case hr186 => kernel_rfl
                case hw186 => rfl
                case hy186 => (intro w hSw; (try dsimp only at hSw); go_simp; all_goals (first | done | with_reducible rfl))
                case hQ186 => exact fun _ _ _ h => h
                simp only [Act.put, List.setIfInBounds_toArray, List.set_cons_zero, List.set_cons_succ]
                refine wpAnyH_take (i := 5) (oi := ?oi187) (v := ?v187) ?hi187 (by kernel_rfl) ?hf187 ?hr187 ?hQ187 (Or.inl ⟨?hw187, ?hy187⟩) (by assumption) ?rest187
                case hi187 => simp only [List.getElem?_toArray, List.getElem?_cons_succ, List.getElem?_cons_zero]; rfl
                case hf187 => kernel_rfl
                case hr187 => kernel_rfl
                case hw187 => rfl
                case hy187 => (intro w hSw; (try dsimp only at hSw); go_simp; all_goals (first | done | with_reducible rfl))
                case hQ187 => exact fun _ _ _ h => h
                simp only [Act.put, List.setIfInBounds_toArray, List.set_cons_zero, List.set_cons_succ]
                refine wpAnyH_take (i := 6) (oi := ?oi188) (v := ?v188) ?hi188 (by kernel_rfl) ?hf188 ?hr188 ?hQ188 (Or.inl ⟨?hw188, ?hy188⟩) (by assumption) ?rest188
                case hi188 => simp only [List.getElem?_toArray, List.getElem?_cons_succ, List.getElem?_cons_zero]; rfl
                case hf188 => kernel_rfl
                case hr188 => kernel_rfl
                case hw188 => rfl
                case hy188 => (intro w hSw; (try dsimp only at hSw); go_simp; all_goals (first | done | with_reducible rfl))
                case hQ188 => exact fun _ _ _ h => h
                simp only [Act.put, List.setIfInBounds_toArray, List.set_cons_zero, List.set_cons_succ]
                refine wpAnyH_take (i := 7) (oi := ?oi189) (v := ?v189) ?hi189 (by kernel_rfl) ?hf189 ?hr189 ?hQ189 (Or.inl ⟨?hw189, ?hy189⟩) (by assumption) ?rest189
                case hi189 => simp only [List.getElem?_toArray, List.getElem?_cons_succ, List.getElem?_cons_zero]; rfl
                case hf189 => kernel_rfl
                case hr189 => kernel_rfl
                case hw189 => rfl
                case hy189 => (intro w hSw; (try dsimp only at hSw); go_simp; all_goals (first | done | with_reducible rfl))
                case hQ189 => exact fun _ _ _ h => h
                simp only [Act.put, List.setIfInBounds_toArray, List.set_cons_zero, List.set_cons_succ]
                refine wpAnyH_take (i := 8) (oi := ?oi190) (v := ?v190) ?hi190 (by kernel_rfl) ?hf190 ?hr190 ?hQ190 (Or.inl ⟨?hw190, ?hy190⟩) (by assumption) ?rest190
                case hi190 => simp only [List.getElem?_toArray, List.getElem?_cons_succ, List.getElem?_cons_zero]; rfl
                case hf190 => kernel_rfl
                case hr190 => kernel_rfl
                case hw190 => rfl
                case hy190 => (intro w hSw; (try dsimp only at hSw); go_simp; all_goals (first | done | with_reducible rfl))
                case hQ190 => exact fun _ _ _ h => h
                simp only [Act.put, List.setIfInBounds_toArray, List.set_cons_zero, List.set_cons_succ]
                refine wpAnyH_take (i := 9) (oi := ?oi191) (v := ?v191) ?hi191 (by kernel_rfl) ?hf191 ?hr191 ?hQ191 (Or.inl ⟨?hw191, ?hy191⟩) (by assumption) ?rest191
                case hi191 => simp only [List.getElem?_toArray, List.getElem?_cons_succ, List.getElem?_cons_zero]; rfl
                case hf191 => kernel_rfl
                case hr191 => kernel_rfl
                case hw191 => rfl
                case hy191 => (intro w hSw; (try dsimp only at hSw); go_simp; all_goals (first | done | with_reducible rfl))
                case hQ191 => exact fun _ _ _ h => h
                simp only [Act.put, List.setIfInBounds_toArray, List.set_cons_zero, List.set_cons_succ]
                refine wpAnyH_take (i := 10) (oi := ?oi192) (v := ?v192) ?hi192 (by kernel_rfl) ?hf192 ?hr192 ?hQ192 (Or.inl ⟨?hw192, ?hy192⟩) (by assumption) ?rest192
                case hi192 => simp only [List.getElem?_toArray, List.getElem?_cons_succ, List.getElem?_cons_zero]; rfl
                case hf192 => kernel_rfl
                case hr192 => kernel_rfl
                case hw192 => rfl
                case hy192 => (intro w hSw; (try dsimp only at hSw); go_simp; all_goals (first | done | with_reducible rfl))
                case hQ192 => exact fun _ _ _ h => h
                simp only [Act.put, List.setIfInBounds_toArray, List.set_cons_zero, List.set_cons_succ]
                refine wpAnyH_ready (rs := [11]) (by kernel_rfl) (by simp) ?_
                refine AllReadyH.cons (o := ?oi193) ?hi193 (fun K hK => ?step193) AllReadyH.nil
                case hi193 => simp only [List.getElem?_toArray, List.getElem?_cons_succ, List.getElem?_cons_zero]; rfl
                rw [if_pos (by rfl)]
                go_simp
                refine hK.out _ _ ⟨(World.cell?_setCell_far _ _ _ _ hgx).trans hS.1, (World.cell?_setCell_far _ _ _ _ hgo).trans hS.2.1, (World.cell?_setCell_far _ _ _ _ hgg).trans hS.2.2⟩ (fun hS => ?_)
                refine wpAnyH_done (by kernel_rfl) ?_ _
                have e0' := hS.1
                have f0' := hS.2.1
                have cs' := (World.cell?_setCell_far (wr.drew.drew) ⟨g, j * 6 + 1, none⟩ ⟨gb, ob + kk * 6 + 4, none⟩ (.int .i64 lvb) hgg).trans cs
                clear hS e0 f0 cl cs
                go_wp2_with fail
                refine wp_region_held_drew (S := (fun w' : World => w'.cell? ⟨w.heap.size + 1, 0, none⟩ = some (.slice (some ⟨gb, ob, none⟩) m1 j1) ∧ w'.cell? ⟨bo, 0, none⟩ = some (.slice (some ⟨g, 0, none⟩) n c) ∧ w'.cell? ⟨gb, ob + kk * 6 + 4, none⟩ = some (.bool stb))) (by kernel_rfl) ⟨e0', f0', cs'⟩ (fun hS => ?_)
                refine wpAnyH_take (i := 0) (oi := ?oi194) (v := ?v194) ?hi194 (by kernel_rfl) ?hf194 ?hr194 ?hQ194 (Or.inl ⟨?hw194, ?hy194⟩) (by assumption) ?rest194
                case hi194 => simp only [List.getElem?_toArray, List.getElem?_cons_succ, List.getElem?_cons_zero]; rfl
                case hf194 => kernel_rfl
                case hr194 => kernel_rfl
                case hw194 => rfl
                case hy194 => (intro w hSw; (try dsimp only at hSw); go_simp; all_goals (first | done | with_reducible rfl))
                case hQ194 => exact fun _ _ _ h => h
                simp only [Act.put, List.setIfInBounds_toArray, List.set_cons_zero, List.set_cons_succ]
                refine wpAnyH_take (i := 1) (oi := ?oi195) (v := ?v195) ?hi195 (by kernel_rfl) ?hf195 ?hr195 ?hQ195 (Or.inl ⟨?hw195, ?hy195⟩) (by assumption) ?rest195
                case hi195 => simp only [List.getElem?_toArray, List.getElem?_cons_succ, List.getElem?_cons_zero]; rfl
                case hf195 => kernel_rfl
                case hr195 => kernel_rfl
                case hw195 => rfl
                case hy195 => (intro w hSw; (try dsimp only at hSw); go_simp; all_goals (first | done | with_reducible rfl))
                case hQ195 => exact fun _ _ _ h => h
                simp only [Act.put, List.setIfInBounds_toArray, List.set_cons_zero, List.set_cons_succ]
                refine wpAnyH_take (i := 2) (oi := ?oi196) (v := ?v196) ?hi196 (by kernel_rfl) ?hf196 ?hr196 ?hQ196 (Or.inl ⟨?hw196, ?hy196⟩) (by assumption) ?rest196
                case hi196 => simp only [List.getElem?_toArray, List.getElem?_cons_succ, List.getElem?_cons_zero]; rfl
                case hf196 => kernel_rfl
                case hr196 => kernel_rfl
                case hw196 => rfl
                case hy196 => (intro w hSw; (try dsimp only at hSw); go_simp; all_goals (first | done | with_reducible rfl))
                case hQ196 => exact fun _ _ _ h => h
                simp only [Act.put, List.setIfInBounds_toArray, List.set_cons_zero, List.set_cons_succ]
                refine wpAnyH_take (i := 3) (oi := ?oi197) (v := ?v197) ?hi197 (by kernel_rfl) ?hf197 ?hr197 ?hQ197 (Or.inl ⟨?hw197, ?hy197⟩) (by assumption) ?rest197
                case hi197 => simp only [List.getElem?_toArray, List.getElem?_cons_succ, List.getElem?_cons_zero]; rfl
                case hf197 => kernel_rfl
                case hr197 => kernel_rfl
                case hw197 => rfl
                case hy197 => (intro w hSw; (try dsimp only at hSw); go_simp; all_goals (first | done | with_reducible rfl))
                case hQ197 => exact fun _ _ _ h => h
                simp only [Act.put, List.setIfInBounds_toArray, List.set_cons_zero, List.set_cons_succ]
                refine wpAnyH_take (i := 4) (oi := ?oi198) (v := ?v198) ?hi198 (by kernel_rfl) ?hf198 ?hr198 ?hQ198 (Or.inl ⟨?hw198, ?hy198⟩) (by assumption) ?rest198
                case hi198 => simp only [List.getElem?_toArray, List.getElem?_cons_succ, List.getElem?_cons_zero]; rfl
                case hf198 => kernel_rfl
                case hr198 => kernel_rfl
                case hw198 => rfl
                case hy198 => (intro w hSw; (try dsimp only at hSw); go_simp; all_goals (first | done | with_reducible rfl))
                case hQ198 => exact fun _ _ _ h => h
                simp only [Act.put, List.setIfInBounds_toArray, List.set_cons_zero, List.set_cons_succ]
                refine wpAnyH_take (i := 5) (oi := ?oi199) (v := ?v199) ?hi199 (by kernel_rfl) ?hf199 ?hr199 ?hQ199 (Or.inl ⟨?hw199, ?hy199⟩) (by assumption) ?rest199
                case hi199 => simp only [List.getElem?_toArray, List.getElem?_cons_succ, List.getElem?_cons_zero]; rfl
                case hf199 => kernel_rfl
                case hr199 => kernel_rfl
                case hw199 => rfl
                case hy199 => (intro w hSw; (try dsimp only at hSw); go_simp; all_goals (first | done | with_reducible rfl))
                case hQ199 => exact fun _ _ _ h => h
                simp only [Act.put, List.setIfInBounds_toArray, List.set_cons_zero, List.set_cons_succ]
                refine wpAnyH_take (i := 6) (oi := ?oi200) (v := ?v200) ?hi200 (by kernel_rfl) ?hf200 ?hr200 ?hQ200 (Or.inl ⟨?hw200, ?hy200⟩) (by assumption) ?rest200
                case hi200 => simp only [List.getElem?_toArray, List.getElem?_cons_succ, List.getElem?_cons_zero]; rfl
                case hf200 => kernel_rfl
                case hr200 => kernel_rfl
                case hw200 => rfl
                case hy200 => (intro w hSw; (try dsimp only at hSw); go_simp; all_goals (first | done | with_reducible rfl))
                case hQ200 => exact fun _ _ _ h => h
                simp only [Act.put, List.setIfInBounds_toArray, List.set_cons_zero, List.set_cons_succ]
                refine wpAnyH_take (i := 7) (oi := ?oi201) (v := ?v201) ?hi201 (by kernel_rfl) ?hf201 ?hr201 ?hQ201 (Or.inl ⟨?hw201, ?hy201⟩) (by assumption) ?rest201
                case hi201 => simp only [List.getElem?_toArray, List.getElem?_cons_succ, List.getElem?_cons_zero]; rfl
                case hf201 => kernel_rfl
                case hr201 => kernel_rfl
                case hw201 => rfl
                case hy201 => (intro w hSw; (try dsimp only at hSw); go_simp; all_goals (first | done | with_reducible rfl))
                case hQ201 => exact fun _ _ _ h => h
                simp only [Act.put, List.setIfInBounds_toArray, List.set_cons_zero, List.set_cons_succ]
                refine wpAnyH_take (i := 8) (oi := ?oi202) (v := ?v202) ?hi202 (by kernel_rfl) ?hf202 ?hr202 ?hQ202 (Or.inl ⟨?hw202, ?hy202⟩) (by assumption) ?rest202
                case hi202 => simp only [List.getElem?_toArray, List.getElem?_cons_succ, List.getElem?_cons_zero]; rfl
                case hf202 => kernel_rfl
                case hr202 => kernel_rfl
                case hw202 => rfl
                case hy202 => (intro w hSw; (try dsimp only at hSw); go_simp; all_goals (first | done | with_reducible rfl))
                case hQ202 => exact fun _ _ _ h => h
                simp only [Act.put, List.setIfInBounds_toArray, List.set_cons_zero, List.set_cons_succ]
                refine wpAnyH_take (i := 9) (oi := ?oi203) (v := ?v203) ?hi203 (by kernel_rfl) ?hf203 ?hr203 ?hQ203 (Or.inl ⟨?hw203, ?hy203⟩) (by assumption) ?rest203
                case hi203 => simp only [List.getElem?_toArray, List.getElem?_cons_succ, List.getElem?_cons_zero]; rfl
                case hf203 => kernel_rfl
                case hr203 => kernel_rfl
                case hw203 => rfl
                case hy203 => (intro w hSw; (try dsimp only at hSw); go_simp; all_goals (first | done | with_reducible rfl))
                case hQ203 => exact fun _ _ _ h => h
                simp only [Act.put, List.setIfInBounds_toArray, List.set_cons_zero, List.set_cons_succ]
                refine wpAnyH_take (i := 10) (oi := ?oi204) (v := ?v204) ?hi204 (by kernel_rfl) ?hf204 ?hr204 ?hQ204 (Or.inl ⟨?hw204, ?hy204⟩) (by assumption) ?rest204
                case hi204 => simp only [List.getElem?_toArray, List.getElem?_cons_succ, List.getElem?_cons_zero]; rfl
                case hf204 => kernel_rfl
                case hr204 => kernel_rfl
                case hw204 => rfl
                case hy204 => (intro w hSw; (try dsimp only at hSw); go_simp; all_goals (first | done | with_reducible rfl))
                case hQ204 => exact fun _ _ _ h => h
                simp only [Act.put, List.setIfInBounds_toArray, List.set_cons_zero, List.set_cons_succ]
                refine wpAnyH_ready (rs := [11]) (by kernel_rfl) (by simp) ?_
                refine AllReadyH.cons (o := ?oi205) ?hi205 (fun K hK => ?step205) AllReadyH.nil
                case hi205 => simp only [List.getElem?_toArray, List.getElem?_cons_succ, List.getElem?_cons_zero]; rfl
                rw [if_pos (by rfl)]
                go_simp
                refine hK.out _ _ ⟨(World.cell?_setCell_far _ _ _ _ hgx).trans hS.1, (World.cell?_setCell_far _ _ _ _ hgo).trans hS.2.1, (World.cell?_setCell_far _ _ _ _ hgg).trans hS.2.2⟩ (fun hS => ?_)
                refine wpAnyH_done (by kernel_rfl) ?_ _
                clear oc of oc4 of4 e0' f0' cs' hS
                go_wp2_with fail
                go_roundw
                case rel =>
                  refine ⟨j + 1, _, _, by go_num, rfl, by omega, ?_, HRs.out, HKs.out, HBs.out⟩
                  show lsOf (cul.set j _) = _
                  rw [mapk_step _ HX1.out.2, ← HC.out]
                  unfold lsOf
                  rw [List.map_set]
                case measure => simp [intOf]; omega
            · obtain rfl : j = n := by omega
              have HCC := hid (show lsOf cul = L.map (patL Lb) by
                have hkL := HLn.out
                have h := HC.out
                rw [List.take_of_length_le (by omega), List.drop_eq_nil_of_le (by omega), List.append_nil] at h
                exact h)
              have hcll : cul.length = j := by have h := congrArg List.length HCC.out; have := HLn.out; simp [lsOf] at h; omega
              have HCLL := hid hcll
              have f1 := (HKx.out.2 1 _ rfl).1
              have f2 := (HKx.out.2 2 _ rfl).1
              have KR9 := hid (KR1.out.to HBx.out)
              clear hcll HC
              obtain ⟨q0c, q0f⟩ := KR9.out.2 0 _ rfl
              obtain ⟨q1c, q1f⟩ := KR9.out.2 1 _ rfl
              obtain ⟨q2c, q2f⟩ := KR9.out.2 2 _ rfl
              go_wp2_with fail
              have RB := ((KR9.out.set 0 (.slice (some ⟨g, 0, none⟩) j c)).set 1 (.slice A4 k c4)).set 2 (.int .i64 qb)
              have f0 := (RB.2 0 _ rfl).1
              have f1 := (RB.2 1 _ rfl).1
              have f2 := (RB.2 2 _ rfl).1
              refine bodyPost_ret (v := .agg #[.slice (some ⟨g, 0, none⟩) j c, .slice A4 k c4, .int .i64 qb]) (by simp [results, Try.results40, go_sem, f0, f1, f2]) rfl ?_
              refine ⟨_, treeRows cul.length (.slice (some ⟨g, 0, none⟩) j c) cul cur.length (.slice A4 k c4) cur, rfl, ?_, ?_, ?_⟩
              · rw [HX.out]
                exact ⟨_, _, cul, cur, rfl, HCC.out, HCH.out, rfl⟩
              · refine Rows.base ?_ (show w.heap.size ≤ w1.heap.size by omega)
                iterate 3 refine Rows.low ?_ (by omega)
                rw [treeRows_eq, HCLL.out, HCL.out]
                simpa using HRx.out
              · iterate 3 refine Below.setCell ?_ (by simp; try omega) _
                exact HWx.out
end Go.Proofs.Yteoblmhbjmefoaa

/-
  A HANDLER RENAMED, plain: renamed back, and its users. By gen_nameh.py.
-/
namespace Go.Proofs.Yteoblmhbjmefoaa
open Go.RowKit Nm
set_option linter.unusedSimpArgs false
set_option linter.unusedVariables false

theorem name_cases (L : List Lgr) (H : List Hnd) (q : Int) (s t : Name) : nameX L H q s t = none ∨ ∃ k : Nat, treeOk L H q = true ∧ idxL (hnm H) s = (k : Int) ∧ treeOk (renT L s t) (setNm H k t) q = true ∧ nameX L H q s t = some (renT L s t, setNm H k t, q) := by
  by_cases hz : treeOk L H q = true
  · by_cases hn : idxL (hnm H) s < 0
    · left; unfold nameX changedO; rw [if_pos hn]; split <;> rfl
    · obtain ⟨k, hk⟩ : ∃ k : Nat, idxL (hnm H) s = (k : Int) := ⟨_, (Int.toNat_of_nonneg (by omega)).symm⟩
      have e : nameX L H q s t = ifOk (renT L s t) (setNm H k t) q := by
        unfold nameX changedO
        rw [if_neg hn, if_pos hz, hk]
        rfl
      by_cases hy : treeOk (renT L s t) (setNm H k t) q = true
      · right; exact ⟨k, hz, hk, hy, by rw [e]; unfold ifOk; rw [if_pos hy]⟩
      · left; rw [e]; unfold ifOk; rw [if_neg hy]
  · left; unfold nameX changedO; rw [if_neg hz]
theorem hn_nodup {L : List Lgr} {H : List Hnd} {q : Int} (h : treeOk L H q = true) : (hnm H).Nodup := by
  unfold treeOk hndsOk at h
  simp only [Bool.and_eq_true, decide_eq_true_eq, List.all_eq_true] at h
  exact h.2.1.2.1
theorem hs_in {L : List Lgr} {H : List Hnd} {q : Int} (h : treeOk L H q = true) {l : Lgr} (hl : l ∈ L) {x : Name} (hx : x ∈ l.hs) : x ∈ hnm H := by
  unfold treeOk lgrsOk at h
  simp only [Bool.and_eq_true, decide_eq_true_eq, List.all_eq_true] at h
  have h1 := h.2.2.1 l hl
  unfold lgrOk at h1
  simp only [Bool.and_eq_true, decide_eq_true_eq, List.all_eq_true] at h1
  have h3 := h1.2.2.2.1 x hx
  unfold hasL at h3
  obtain ⟨y, hy, e⟩ := List.any_eq_true.1 h3
  exact List.mem_map.2 ⟨y, hy, of_decide_eq_true e⟩
theorem set_sameN {α : Type} {l : List α} {k : Nat} {x : α} (h : l[k]? = some x) : l.set k x = l := by
  refine List.ext_getElem? fun i => ?_
  by_cases hi : i = k
  · subst hi; rw [List.getElem?_set_self (List.getElem?_eq_some_iff.1 h).1, h]
  · rw [List.getElem?_set_ne (fun e => hi e.symm)]
theorem hnm_set {H : List Hnd} {k : Nat} (hk : k < H.length) (t : Name) : hnm (setNm H k t) = (hnm H).set k t := by
  unfold setNm hnm
  rw [List.getElem?_eq_getElem hk]
  show (H.set k _).map _ = _
  rw [List.map_set]
theorem idx_nodup {ns : List Name} (hn : ns.Nodup) {k : Nat} {x : Name} (h : ns[k]? = some x) : idxL ns x = (k : Int) := by
  refine idx_hit ns x k h fun hm => ?_
  obtain ⟨j, hj⟩ := List.getElem?_of_mem hm
  have hjl := (List.getElem?_eq_some_iff.1 hj).1
  rw [List.length_take] at hjl
  rw [List.getElem?_take_of_lt (by omega)] at hj
  have hk := (List.getElem?_eq_some_iff.1 h).1
  have := nodup_at hn (i := j) (j := k) (by omega) hk (by simp [List.getD, hj, h])
  omega
theorem name_other {L : List Lgr} {H : List Hnd} {q : Int} {s t : Name} {k : Nat} (hk : idxL (hnm H) s = (k : Int)) (h' : treeOk (renT L s t) (setNm H k t) q = true) (hne : t ≠ s) : t ∉ hnm H := by
  obtain ⟨hkl, hks⟩ := idx_nat hk
  have hkH : k < H.length := by unfold hnm at hkl; rwa [List.length_map] at hkl
  have hnd := hn_nodup h'
  rw [hnm_set hkH] at hnd
  intro hm
  obtain ⟨j, hj⟩ := List.getElem?_of_mem hm
  have hjl := (List.getElem?_eq_some_iff.1 hj).1
  have hjk : j ≠ k := fun e => by subst e; rw [hj] at hks; exact hne (Option.some.inj hks)
  have e1 : ((hnm H).set k t)[j]? = some t := by rw [List.getElem?_set_ne (fun e => hjk e.symm)]; exact hj
  have e2 : ((hnm H).set k t)[k]? = some t := List.getElem?_set_self hkl
  exact hjk (nodup_at hnd (i := j) (j := k) (by rw [List.length_set]; exact hjl) (by rw [List.length_set]; exact hkl) (by simp only [List.getD, e1, e2]))
theorem ren_back {L : List Lgr} {H : List Hnd} {q : Int} {s t : Name} {k : Nat} (h : treeOk L H q = true) (hk : idxL (hnm H) s = (k : Int)) (h' : treeOk (renT L s t) (setNm H k t) q = true) : renT (renT L s t) t s = L := by
  unfold renT
  rw [List.map_map]
  refine (List.map_congr_left fun l hl => ?_).trans (List.map_id L)
  show renL t s (renL s t l) = l
  unfold renL
  have e : (l.hs.map (renS s t)).map (renS t s) = l.hs := by
    rw [List.map_map]
    refine (List.map_congr_left fun x hx => ?_).trans (List.map_id l.hs)
    show renS t s (renS s t x) = x
    by_cases hxs : x = s
    · unfold renS; rw [if_pos hxs, if_pos rfl, hxs]
    · have hxt : x ≠ t := fun e2 => by
        by_cases e3 : t = s
        · exact hxs (e2.trans e3)
        · exact name_other hk h' e3 (e2 ▸ hs_in h hl hx)
      unfold renS; rw [if_neg hxs, if_neg hxt]
  simp only [e]
theorem name_back {L : List Lgr} {H : List Hnd} {q : Int} {s t : Name} {k : Nat} (h : treeOk L H q = true) (hk : idxL (hnm H) s = (k : Int)) (h' : treeOk (renT L s t) (setNm H k t) q = true) : nameX (renT L s t) (setNm H k t) q t s = some (L, H, q) := by
  obtain ⟨hkl, hks⟩ := idx_nat hk
  have hkH : k < H.length := by unfold hnm at hkl; rwa [List.length_map] at hkl
  have e1 : (hnm (setNm H k t))[k]? = some t := by rw [hnm_set hkH]; exact List.getElem?_set_self hkl
  have e2 := idx_nodup (hn_nodup h') e1
  have e3 : setNm (setNm H k t) k s = H := by
    obtain ⟨x, hx⟩ : ∃ x, H[k]? = some x := ⟨_, List.getElem?_eq_getElem hkH⟩
    have hxn : x.nm = s := by unfold hnm at hks; rw [List.getElem?_map, hx] at hks; exact Option.some.inj hks
    have e4 : setNm H k t = H.set k { x with nm := t } := by unfold setNm; rw [hx]
    rw [e4]
    unfold setNm
    rw [List.getElem?_set_self hkH]
    show (H.set k _).set k _ = H
    rw [List.set_set]
    refine set_sameN ?_
    rw [hx, ← hxn]
  unfold nameX changedO
  rw [if_pos h', e2, if_neg (show ¬ ((k : Int) < 0) by omega)]
  show ifOk (renT (renT L s t) t s) (setNm (setNm H k t) (k : Int).toNat s) q = _
  rw [Int.toNat_natCast, e3, ren_back h hk h']
  unfold ifOk
  rw [if_pos h]
theorem name_users {L : List Lgr} {H : List Hnd} {q : Int} {s t : Name} {k : Nat} (h : treeOk L H q = true) (hk : idxL (hnm H) s = (k : Int)) (h' : treeOk (renT L s t) (setNm H k t) q = true) : usersT (renT L s t) (setNm H k t) q t = usersT L H q s := by
  unfold usersT
  rw [h, h', if_pos rfl, if_pos rfl, usersN_eq, usersN_eq]
  unfold renT
  rw [List.filter_map, List.map_map]
  have e : L.filter ((fun l => decide (t ∈ l.hs)) ∘ renL s t) = L.filter (fun l => decide (s ∈ l.hs)) := by
    refine List.filter_congr fun l hl => ?_
    show decide (t ∈ l.hs.map (renS s t)) = decide (s ∈ l.hs)
    refine decide_eq_decide.2 ⟨fun hm => ?_, fun hm => List.mem_map.2 ⟨s, hm, by unfold renS; rw [if_pos rfl]⟩⟩
    obtain ⟨x, hx, e⟩ := List.mem_map.1 hm
    by_cases hxs : x = s
    · rw [← hxs]; exact hx
    · unfold renS at e
      rw [if_neg hxs] at e
      by_cases e3 : t = s
      · exact absurd (e.trans e3) hxs
      · exact absurd (e ▸ hs_in h hl hx) (name_other hk h' e3)
  rw [e]
  rfl
end Go.Proofs.Yteoblmhbjmefoaa

/-
  A TREE PATCHED, plain: patched twice, patched by itself, its names and levels. By gen_patd.py.
-/
namespace Go.Proofs.Yteoblmhbjmefoaa
open Go.RowKit Nm
set_option linter.unusedSimpArgs false
set_option linter.unusedVariables false

theorem pat_some {L : List Lgr} {H : List Hnd} {q : Int} {Lb : List Lgr} {Hb : List Hnd} {qb : Int} (h : treeOk L H q = true) (hb : treeOk Lb Hb qb = true) : patX L H q Lb Hb qb = some (L.map (patL Lb), H.map (patH Hb), qb) := by
  unfold patX changedO
  rw [if_pos hb, if_pos h]
  show ifOk _ _ _ = _
  unfold ifOk
  rw [if_pos (pat_ok h hb)]
theorem pat_none {L : List Lgr} {H : List Hnd} {q : Int} {Lb : List Lgr} {Hb : List Hnd} {qb : Int} (h : ¬ (treeOk L H q = true ∧ treeOk Lb Hb qb = true)) : patX L H q Lb Hb qb = none := by
  unfold patX changedO
  by_cases hb : treeOk Lb Hb qb = true
  · rw [if_pos hb, if_neg (fun e => h ⟨e, hb⟩)]
  · rw [if_neg hb]
theorem patL_twice (Lb : List Lgr) (l : Lgr) : patL Lb (patL Lb l) = patL Lb l := by
  by_cases hi : idxL (namesOf Lb) l.nm < 0
  · have e : patL Lb l = l := by unfold patL; rw [if_pos hi]
    rw [e, e]
  · have e : patL Lb l = { l with lv := (Lb.map (·.lv)).getD (idxL (namesOf Lb) l.nm).toNat 0, stop := (Lb.map (·.stop)).getD (idxL (namesOf Lb) l.nm).toNat false } := by unfold patL; rw [if_neg hi]
    rw [e]
    unfold patL
    rw [if_neg (show ¬ idxL (namesOf Lb) l.nm < 0 from hi)]
theorem patH_twice (Hb : List Hnd) (h : Hnd) : patH Hb (patH Hb h) = patH Hb h := by
  by_cases hi : idxL (hnm Hb) h.nm < 0
  · have e : patH Hb h = h := by unfold patH; rw [if_pos hi]
    rw [e, e]
  · have e : patH Hb h = { h with lv := (Hb.map (·.lv)).getD (idxL (hnm Hb) h.nm).toNat 0 } := by unfold patH; rw [if_neg hi]
    rw [e]
    unfold patH
    rw [if_neg (show ¬ idxL (hnm Hb) h.nm < 0 from hi)]
theorem pat_twice {L : List Lgr} {H : List Hnd} {q : Int} {Lb : List Lgr} {Hb : List Hnd} {qb : Int} (h : treeOk L H q = true) (hb : treeOk Lb Hb qb = true) : patX (L.map (patL Lb)) (H.map (patH Hb)) qb Lb Hb qb = some (L.map (patL Lb), H.map (patH Hb), qb) := by
  rw [pat_some (pat_ok h hb) hb, List.map_map, List.map_map]
  congr 1
  refine Prod.ext ?_ (Prod.ext ?_ rfl)
  · exact List.map_congr_left fun l _ => patL_twice Lb l
  · exact List.map_congr_left fun x _ => patH_twice Hb x
theorem pat_self {L : List Lgr} {H : List Hnd} {q : Int} (h : treeOk L H q = true) : patX L H q L H q = some (L, H, q) := by
  rw [pat_some h h]
  have e1 : L.map (patL L) = L := by
    refine (List.map_congr_left fun l hl => ?_).trans (List.map_id L)
    show patL L l = l
    obtain ⟨k, hk⟩ := List.getElem?_of_mem hl
    unfold patL
    rw [tree_idx h hk, if_neg (by omega)]
    simp [List.getD, hk]
  have e2 : H.map (patH H) = H := by
    refine (List.map_congr_left fun x hx => ?_).trans (List.map_id H)
    show patH H x = x
    obtain ⟨k, hk⟩ := List.getElem?_of_mem hx
    unfold patH
    have hi : idxL (hnm H) x.nm = (k : Int) := idx_nodup (hn_nodup h) (by unfold hnm; rw [List.getElem?_map, hk]; rfl)
    rw [hi, if_neg (by omega)]
    simp [List.getD, hk]
  rw [e1, e2]
theorem pat_names (L Lb : List Lgr) : nsOf (L.map (patL Lb)) = nsOf L := by
  unfold nsOf
  rw [List.map_map]
  exact List.map_congr_left fun l _ => patL_nm Lb l
theorem pat_level {L Lb : List Lgr} {k i : Nat} {x : Name} (hk : k < L.length) (hx : x = (nsOf (L.map (patL Lb))).getD k []) (hi : idxL (namesOf Lb) x = (i : Int)) : lvAt (L.map (patL Lb)) k = lvAt Lb i ∧ stopAt (L.map (patL Lb)) k = stopAt Lb i := by
  have hl : L[k]? = some L[k] := List.getElem?_eq_getElem hk
  have hn : x = L[k].nm := by rw [hx, pat_names]; unfold nsOf; simp [List.getD, hk]
  rw [hn] at hi
  have e : patL Lb L[k] = { L[k] with lv := lvAt Lb i, stop := stopAt Lb i } := by
    unfold patL lvAt stopAt
    rw [hi, if_neg (by omega)]
    rfl
  constructor
  · show ((L.map (patL Lb)).map (·.lv)).getD k 0 = _
    rw [List.getD_eq_getElem?_getD, List.getElem?_map, List.getElem?_map, hl]
    show (patL Lb L[k]).lv = _
    rw [e]
  · show ((L.map (patL Lb)).map (·.stop)).getD k false = _
    rw [List.getD_eq_getElem?_getD, List.getElem?_map, List.getElem?_map, hl]
    show (patL Lb L[k]).stop = _
    rw [e]
end Go.Proofs.Yteoblmhbjmefoaa
