/-
  NH1, PT1, DL1, DL2, DL4, DL5, DL3, DL6, NH2, DL7, DL8 laid together.
-/
import Derived.Test.YteoblmhbjmefoaaC9
import Derived.Test.YteoblmhbjmefoaaU2
import Derived.Test.YteoblmhbjmefoaaApp
import Derived.Test.YteoblmhbjmefoaaU1
import Derived.Test.YteoblmhbjmefoaaC2
import Derived.Test.YteoblmhbjmefoaaC10
import Derived.Test.YteoblmhbjmefoaaHeld
/-
  A HANDLER NAMED ANEW: plain; the program's handlerAt.
-/
namespace Go.Proofs.Yteoblmhbjmefoaa
open Go.RowKit Nm
set_option linter.unusedSimpArgs false
set_option linter.unusedVariables false

def renS (s t x : Name) : Name := if x = s then t else x
def renL (s t : Name) (l : Lgr) : Lgr := { l with hs := l.hs.map (renS s t) }
def renT (L : List Lgr) (s t : Name) : List Lgr := L.map (renL s t)
def setNm (H : List Hnd) (k : Nat) (t : Name) : List Hnd := match H[k]? with | some h => H.set k { h with nm := t } | none => H
def hnm (H : List Hnd) : List Name := H.map (·.nm)
def nameX (L : List Lgr) (H : List Hnd) (q : Int) (s t : Name) : Option TreeD :=
  changedO L H q (if idxL (hnm H) s < 0 then none else some (renT L s t, setNm H (idxL (hnm H) s).toNat t, q))
theorem ren_none {s t : Name} {l : List Name} (h : s ∉ l) : l.map (renS s t) = l := by
  refine (List.map_congr_left fun x hx => ?_).trans (List.map_id l)
  show renS s t x = x
  unfold renS
  rw [if_neg (fun e => h (by rw [← e]; exact hx))]
theorem ren_set {s t : Name} {l : List Name} (hn : l.Nodup) {k : Nat} (hk : l[k]? = some s) : l.set k t = l.map (renS s t) := by
  have hkl := (List.getElem?_eq_some_iff.1 hk).1
  have hke := (List.getElem?_eq_some_iff.1 hk).2
  refine List.ext_getElem (by simp) fun i h1 h2 => ?_
  have hi : i < l.length := by simpa using h1
  rw [List.getElem_map]
  by_cases e : i = k
  · subst e
    rw [List.getElem_set_self, hke]; unfold renS; rw [if_pos rfl]
  · rw [List.getElem_set_ne (by omega)]
    unfold renS
    rw [if_neg]
    intro e2
    exact e (nodup_at hn hi hkl (by simp [List.getD, hi, hkl, e2, hke]))
theorem ren_step {L : List Lgr} {k : Nat} {l : Lgr} (s t : Name) (h : L[k]? = some l) : renT (L.take (k + 1)) s t ++ L.drop (k + 1) = (renT (L.take k) s t ++ L.drop k).set k (renL s t l) := by
  have hk := (List.getElem?_eq_some_iff.1 h).1
  have e1 : renT (L.take (k + 1)) s t = renT (L.take k) s t ++ [renL s t l] := by unfold renT; rw [List.take_add_one, h, List.map_append]; rfl
  have e2 : L.drop k = l :: L.drop (k + 1) := by rw [List.drop_eq_getElem_cons hk]; congr 1; exact (List.getElem?_eq_some_iff.1 h).2
  have e3 : (renT (L.take k) s t).length = k := by unfold renT; rw [List.length_map, List.length_take]; omega
  rw [e1, e2, List.set_append_right _ _ (by omega), e3, Nat.sub_self, List.set_cons_zero, List.append_assoc]; rfl
theorem ren_at {L : List Lgr} {k : Nat} (s t : Name) (hk : k < L.length) : (renT (L.take k) s t ++ L.drop k)[k]? = L[k]? := by
  have e3 : (renT (L.take k) s t).length = k := by unfold renT; rw [List.length_map, List.length_take]; omega
  rw [List.getElem?_append_right (by omega), e3, Nat.sub_self, List.getElem?_drop]; rfl
theorem rename_fit {L : List Lgr} {H : List Hnd} {s t : Name} (k : Nat) (hd : dataFit L H) (ht : t.length ≤ maxTxt) : dataFit (renT L s t) (setNm H k t) := by
  refine ⟨⟨by unfold renT; rw [List.length_map]; exact hd.1.1, fun a ha => ?_⟩, ?_, ?_⟩
  · obtain ⟨l, hl, rfl⟩ := List.mem_map.1 ha
    have h1 := hd.1.2 l hl
    refine ⟨h1.1, ⟨by show (l.hs.map _).length ≤ _; rw [List.length_map]; exact h1.2.1.1, fun x hx => ?_⟩, h1.2.2⟩
    obtain ⟨y, hy, rfl⟩ := List.mem_map.1 hx
    unfold renS
    split
    · exact ht
    · exact h1.2.1.2 y hy
  · unfold setNm; split
    · rw [List.length_set]; exact hd.2.1
    · exact hd.2.1
  · intro h hh
    unfold setNm at hh
    split at hh
    · rename_i x hx
      rcases List.mem_or_eq_of_mem_set hh with hh | rfl
      · exact hd.2.2 h hh
      · exact ⟨ht, (hd.2.2 x (List.mem_of_getElem? hx)).2⟩
    · exact hd.2.2 h hh
theorem nodup_lenN {α : Type} [DecidableEq α] : ∀ (a b : List α), a.Nodup → (∀ x ∈ a, x ∈ b) → a.length ≤ b.length := by
  intro a
  induction a with
  | nil => intro b _ _; simp
  | cons x a ih =>
    intro b hn hs
    rw [List.nodup_cons] at hn
    have hx : x ∈ b := hs x (List.mem_cons_self ..)
    have h1 := ih (b.erase x) hn.2 (fun y hy => (List.mem_erase_of_ne (fun e => hn.1 (by rw [← e]; exact hy))).2 (hs y (List.mem_cons_of_mem _ hy)))
    rw [List.length_erase_of_mem hx] at h1
    have : 0 < b.length := List.length_pos_of_mem hx
    rw [List.length_cons]; omega
theorem tree_nodup {L : List Lgr} {H : List Hnd} {q : Int} (h : treeOk L H q = true) {l : Lgr} (hl : l ∈ L) : l.hs.Nodup ∧ l.hs.length ≤ 6 := by
  have h' := h
  unfold treeOk lgrsOk at h
  simp only [Bool.and_eq_true, decide_eq_true_eq, List.all_eq_true] at h
  have h1 := h.2.2.1 l hl
  unfold lgrOk at h1
  simp only [Bool.and_eq_true, decide_eq_true_eq, List.all_eq_true] at h1
  refine ⟨h1.2.2.2.2, ?_⟩
  have hH := tree_hlen h'
  have hsub : ∀ x ∈ l.hs, x ∈ H.map (·.nm) := fun x hx => by
    have h3 := h1.2.2.2.1 x hx
    unfold hasL at h3
    obtain ⟨y, hy, e⟩ := List.any_eq_true.1 h3
    exact List.mem_map.2 ⟨y, hy, of_decide_eq_true e⟩
  have h4 := nodup_lenN _ _ h1.2.2.2.2 hsub
  rw [List.length_map] at h4
  omega
theorem hnames_hnm (hs : List HndV) : hnames hs = hnm (hsOf hs) := by unfold hnames hnm hsOf; rw [List.map_map]; rfl

set_option maxHeartbeats 1000000 in
set_option maxRecDepth 100000 in
theorem handlerAtFn_c (a s : ByteArray) (lv : Int) (v1 : Value) (bx : Nat) (w : World) (hc : w.cell? ⟨bx, 0, none⟩ = some (.string s)) :
    Calls Try.prog 109 #[.agg #[.string a, .int .i64 lv, v1], .pointer (some ⟨bx, 0, none⟩)] w (BoolPost w (decide (a.data.toList = s.data.toList))) := by
  have hlt : bx < w.heap.size := World.block_lt_of_cell? w _ hc
  have e0 := beq_txt a s
  have e1 : (w.alloc (.cells #[.string a, .int .i64 lv, v1] 83)).cell? ⟨bx, 0, none⟩ = some (.string s) := (World.cell?_alloc_past _ _ _ hlt).trans hc
  go_enter Try.func109, Try.ntmps109
  go_wp2_with fail
  go_ret
  exact ⟨ret_bool (decide_eq_decide.2 Array.toList_inj.symm), by go_grown⟩

theorem hmem_of_at {l : List HndV} {k : Nat} {x : HndV} (hx : l[k]? = some x) : (hnames l)[k]? = some x.h.nm := by simp [hnames, hx]

set_option maxHeartbeats 4000000 in
set_option maxRecDepth 100000 in
theorem indexHnd_c (v : Value) (n B bx : Nat) (l : List HndV) (s : ByteArray) (w : World) (hv : Hs w B n v l) (hB : B ≤ w.heap.size) (hc : w.cell? ⟨bx, 0, none⟩ = some (.string s)) :
    Calls Try.prog 108 #[v, .func (.func 109) #[] #[.pointer (some ⟨bx, 0, none⟩)]] w
      (fun e w' => e = .returned (.int .i64 (idxL (hnames l) s.data.toList)) ∧ Below w.heap.size w w') := by
  have hlt0 : bx < w.heap.size := World.block_lt_of_cell? w _ hc
  have hln := hv.count
  obtain ⟨A, c, rfl, hnc, hcm⟩ := hv.1.form
  unfold maxLen at hcm
  have HV := hid (And.intro hv hln)
  have HC := hid (And.intro hc hlt0)
  clear hv hln hc hlt0
  go_enter Try.func108, Try.ntmps108
  go_wp2_with fail
  go_loopw [8] (fun iv wr => ∃ (k : Nat), iv = .int .i64 k ∧ k ≤ n ∧ Hid (¬ s.data.toList ∈ (hnames l).take k) ∧ Hid (Below w.heap.size w wr)) (fun iv _ => n - (intOf iv).toNat)
  case atStart => exact ⟨0, rfl, by omega, by simp [Hid], Below.refl _ _⟩
  case round =>
    obtain ⟨k, rfl, hk, HN, HB⟩ := hrel
    by_cases hlt : k < n
    · obtain ⟨b, o, x, a, rfl, hbB, hx, ha, _, _, c0, c1, c2⟩ := (HV.out.1.below HB.out hB).at_ hlt
      have E := hid (handlerAtFn_c a s x.h.lv x.fv bx wr ((HB.out.cell (p := ⟨bx, 0, none⟩) HC.out.2).trans HC.out.1))
      have HX := hid (hmem_of_at hx)
      have HA := hid ha
      cases hz : decide (a.data.toList = s.data.toList) with
      | true =>
        rw [hz] at E
        have HZ := hid hz
        clear hx ha hz
        go_wp2_with (go_at_call 109; refine (E.out).mono ?_; rintro e w2 ⟨rfl, hb⟩)
        go_ret
        refine ⟨ret_int ?_, HB.out.trans (hb.mono HB.out.size)⟩
        have h := of_decide_eq_true HZ.out
        rw [idx_hit _ _ k (by rw [HX.out, ← HA.out, h]) HN.out]
      | false =>
        rw [hz] at E
        have HZ := hid hz
        clear hx ha hz
        go_wp2_with (go_at_call 109; refine (E.out).mono ?_; rintro e w2 ⟨rfl, hb⟩)
        go_roundw
        case rel => exact ⟨k + 1, by go_num, by omega, not_take_succ _ _ _ _ HN.out HX.out (by rw [← HA.out]; exact of_decide_eq_false HZ.out), HB.out.trans (hb.mono HB.out.size)⟩
        case measure => simp [intOf]; omega
    · have HE := hid (show ¬ s.data.toList ∈ hnames l by
        have h := HN.out
        rwa [List.take_of_length_le (by unfold hnames; rw [List.length_map]; have := HV.out.2; omega)] at h)
      go_wp2_with fail
      go_ret
      exact ⟨ret_int (by rw [idx_miss _ _ HE.out]), HB.out⟩

set_option maxHeartbeats 1000000 in
set_option maxRecDepth 100000 in
theorem implHandlerAt_c {v : Value} {B : Nat} {L : List Lgr} {H : List Hnd} {q : Int} {w : World} (s : ByteArray) (h : TreeIn w B v L H q) (hB : B ≤ w.heap.size) :
    Calls Try.prog 63 #[v, .string s] w (fun e w' => e = .returned (.int .i64 (idxL (hnm H) s.data.toList)) ∧ Below w.heap.size w w') := by
  obtain ⟨ls, hs, ⟨A1, n1, k1, A2, n2, k2, rfl, _, hh, _⟩, _, hH⟩ := h
  have C2 := hid (fun (bx : Nat) (W : World) (hW : Below w.heap.size w W) (hc : W.cell? ⟨bx, 0, none⟩ = some (.string s)) => indexHnd_c _ n2 B bx hs s W (hh.below hW hB) (Nat.le_trans hB hW.size) hc)
  have hN : hnames hs = hnm H := by rw [hnames_hnm, hH]
  rw [hN] at C2
  have hmf : ∀ (fn : Fn) (first cap : Array Value) (w : World), (Instr.makeFunc fn first cap).run Try.prog w = .ok (.func fn first cap) w := fun _ _ _ _ => rfl
  have HY := hid (show ((w.alloc (.cells #[.slice A1 n1 k1, .slice A2 n2 k2, .int .i64 q] 30)).alloc (.cells #[.string s] 9)).cell? ⟨w.heap.size + 1, 0, none⟩ = some (.string s) by simp)
  have HB1 := hid (show Below w.heap.size w ((w.alloc (.cells #[.slice A1 n1 k1, .slice A2 n2 k2, .int .i64 q] 30)).alloc (.cells #[.string s] 9)) from ((Below.refl _ _).alloc (Nat.le_refl _) _).alloc (by simp) _)
  clear hh hH hN
  go_enter Try.func63, Try.ntmps63
  go_wp2_with fail
  refine (C2.out _ _ HB1.out HY.out).mono ?_
  rintro e w2 ⟨rfl, hb2⟩
  have HB2 := hid (HB1.out.trans (hb2.mono HB1.out.size))
  clear hb2
  go_wp2_with fail
  go_ret
  exact ⟨rfl, HB2.out⟩
end Go.Proofs.Yteoblmhbjmefoaa

/-
  A TREE PATCHED WITH LEVELS OF ANOTHER ONE: plain.
-/
namespace Go.Proofs.Yteoblmhbjmefoaa
open Go.RowKit Nm
set_option linter.unusedSimpArgs false
set_option linter.unusedVariables false

theorem mapk_step {α : Type} (f : α → α) {L : List α} {k : Nat} {l : α} (h : L[k]? = some l) : (L.take (k + 1)).map f ++ L.drop (k + 1) = ((L.take k).map f ++ L.drop k).set k (f l) := by
  have hk := (List.getElem?_eq_some_iff.1 h).1
  have e1 : (L.take (k + 1)).map f = (L.take k).map f ++ [f l] := by rw [List.take_add_one, h, List.map_append]; rfl
  have e2 : L.drop k = l :: L.drop (k + 1) := by rw [List.drop_eq_getElem_cons hk]; congr 1; exact (List.getElem?_eq_some_iff.1 h).2
  have e3 : ((L.take k).map f).length = k := by rw [List.length_map, List.length_take]; omega
  rw [e1, e2, List.set_append_right _ _ (by omega), e3, Nat.sub_self, List.set_cons_zero, List.append_assoc]; rfl
theorem mapk_at {α : Type} (f : α → α) {L : List α} {k : Nat} (hk : k < L.length) : ((L.take k).map f ++ L.drop k)[k]? = L[k]? := by
  have e3 : ((L.take k).map f).length = k := by rw [List.length_map, List.length_take]; omega
  rw [List.getElem?_append_right (by omega), e3, Nat.sub_self, List.getElem?_drop]; rfl
theorem mapk_same {α : Type} (f : α → α) {L : List α} {k : Nat} {l : α} (h : L[k]? = some l) (hf : f l = l) : (L.take (k + 1)).map f ++ L.drop (k + 1) = (L.take k).map f ++ L.drop k := by
  rw [mapk_step f h, hf]
  refine List.ext_getElem? fun i => ?_
  have e := mapk_at f (List.getElem?_eq_some_iff.1 h).1
  rw [h] at e
  rw [List.getElem?_set]
  split
  · rename_i hi
    subst hi
    rw [if_pos (List.getElem?_eq_some_iff.1 e).1, e]
  · rfl

def patH (Hb : List Hnd) (h : Hnd) : Hnd := if idxL (hnm Hb) h.nm < 0 then h else { h with lv := (Hb.map (·.lv)).getD (idxL (hnm Hb) h.nm).toNat 0 }
def patL (Lb : List Lgr) (l : Lgr) : Lgr := if idxL (namesOf Lb) l.nm < 0 then l else { l with lv := (Lb.map (·.lv)).getD (idxL (namesOf Lb) l.nm).toNat 0, stop := (Lb.map (·.stop)).getD (idxL (namesOf Lb) l.nm).toNat false }
def patX (L : List Lgr) (H : List Hnd) (q : Int) (Lb : List Lgr) (Hb : List Hnd) (qb : Int) : Option TreeD :=
  if treeOk Lb Hb qb then changedO L H q (some (L.map (patL Lb), H.map (patH Hb), qb)) else none
theorem patH_nm (Hb : List Hnd) (h : Hnd) : (patH Hb h).nm = h.nm := by unfold patH; split <;> rfl
theorem patH_fs (Hb : List Hnd) (h : Hnd) : (patH Hb h).fs = h.fs := by unfold patH; split <;> rfl
theorem patL_nm (Lb : List Lgr) (l : Lgr) : (patL Lb l).nm = l.nm := by unfold patL; split <;> rfl
theorem patL_hs (Lb : List Lgr) (l : Lgr) : (patL Lb l).hs = l.hs := by unfold patL; split <;> rfl
theorem patL_fs (Lb : List Lgr) (l : Lgr) : (patL Lb l).fs = l.fs := by unfold patL; split <;> rfl
theorem pat_fit {L : List Lgr} {H : List Hnd} (Lb : List Lgr) (Hb : List Hnd) (h : dataFit L H) : dataFit (L.map (patL Lb)) (H.map (patH Hb)) := by
  refine ⟨⟨by rw [List.length_map]; exact h.1.1, fun a ha => ?_⟩, by rw [List.length_map]; exact h.2.1, fun a ha => ?_⟩
  · obtain ⟨l, hl, rfl⟩ := List.mem_map.1 ha
    have := h.1.2 l hl
    unfold lgrFit at this ⊢
    rw [patL_nm, patL_hs, patL_fs]; exact this
  · obtain ⟨l, hl, rfl⟩ := List.mem_map.1 ha
    have := h.2.2 l hl
    unfold hndFit at this ⊢
    rw [patH_nm, patH_fs]; exact this
theorem treeOk_parts {L : List Lgr} {H : List Hnd} {q : Int} (h : treeOk L H q = true) : lvOk q = true ∧ (∀ x ∈ H, lvOk x.lv = true) ∧ (∀ l ∈ L, lvOk l.lv = true) := by
  unfold treeOk lgrsOk hndsOk at h
  simp only [Bool.and_eq_true, decide_eq_true_eq, List.all_eq_true] at h
  obtain ⟨h0, ⟨h1, h2, h3⟩, h4, _⟩ := h
  refine ⟨h0, fun x hx => ?_, fun l hl => ?_⟩
  · have := h1 x hx; unfold hndOk at this; simp only [Bool.and_eq_true] at this; exact this.2.2.1
  · have := h4 l hl; unfold lgrOk at this; simp only [Bool.and_eq_true] at this; exact this.2.1
theorem lv_getD {α : Type} {X : List α} {f : α → Int} (h : ∀ x ∈ X, lvOk (f x) = true) (k : Nat) : lvOk ((X.map f).getD k 0) = true := by
  rw [List.getD_eq_getElem?_getD]
  cases e : (X.map f)[k]? with
  | none => rfl
  | some y => obtain ⟨x, hx, rfl⟩ := List.mem_map.1 (List.mem_of_getElem? e); exact h x hx
theorem pat_ok {L : List Lgr} {H : List Hnd} {q : Int} {Lb : List Lgr} {Hb : List Hnd} {qb : Int} (h : treeOk L H q = true) (hb : treeOk Lb Hb qb = true) : treeOk (L.map (patL Lb)) (H.map (patH Hb)) qb = true := by
  obtain ⟨b0, b1, b2⟩ := treeOk_parts hb
  have eH : (H.map (patH Hb)).map (·.nm) = H.map (·.nm) := by rw [List.map_map]; exact List.map_congr_left fun x _ => patH_nm Hb x
  have eL : (L.map (patL Lb)).map (·.nm) = L.map (·.nm) := by rw [List.map_map]; exact List.map_congr_left fun x _ => patL_nm Lb x
  have eS : ∀ x, hasL (H.map (patH Hb)) x = hasL H x := fun x => by
    unfold hasL; rw [List.any_map]; congr 1; funext y; simp only [Function.comp, patH_nm]
  unfold treeOk lgrsOk hndsOk at h ⊢
  rw [eH, eL]
  simp only [Bool.and_eq_true, decide_eq_true_eq, List.all_eq_true, List.length_map] at h ⊢
  obtain ⟨h0, ⟨h1, h2, h3⟩, h4, h5⟩ := h
  refine ⟨b0, ⟨fun x hx => ?_, h2, h3⟩, fun l hl => ?_, h5⟩
  · obtain ⟨y, hy, rfl⟩ := List.mem_map.1 hx
    have := h1 y hy
    unfold hndOk at this ⊢
    simp only [Bool.and_eq_true] at this ⊢
    rw [patH_nm, patH_fs]
    refine ⟨this.1, this.2.1, ?_, this.2.2.2⟩
    unfold patH
    split
    · exact this.2.2.1
    · exact lv_getD b1 _
  · obtain ⟨y, hy, rfl⟩ := List.mem_map.1 hl
    have := h4 y hy
    unfold lgrOk at this ⊢
    simp only [Bool.and_eq_true] at this ⊢
    rw [patL_nm, patL_fs, patL_hs]
    have e : hasL (H.map (patH Hb)) = hasL H := funext eS
    rw [e]
    refine ⟨this.1, ?_, this.2.2⟩
    unfold patL
    split
    · exact this.2.1
    · exact lv_getD b2 _
theorem pat_res_fit (L : List Lgr) (H : List Hnd) (q : Int) (Lb : List Lgr) (Hb : List Hnd) (qb : Int) : dataFit (resL (patX L H q Lb Hb qb)) (resH (patX L H q Lb Hb qb)) := by
  unfold patX
  split
  · exact changed_fit _ _ _ _
  · exact ⟨⟨by simp [resL], by simp [resL]⟩, ⟨by simp [resH], by simp [resH]⟩⟩
end Go.Proofs.Yteoblmhbjmefoaa

/-
  LOGGERS AND HANDLERS DROPPED, ATTACHED, DETACHED: plain.
-/
namespace Go.Proofs.Yteoblmhbjmefoaa
open Go.RowKit Nm
set_option linter.unusedSimpArgs false
set_option linter.unusedVariables false

theorem none_fit : dataFit (resL none) (resH none) := ⟨⟨by simp [resL], by simp [resL]⟩, ⟨by simp [resH], by simp [resH]⟩⟩
theorem sub_fit {L L' : List Lgr} {H H' : List Hnd} (h : dataFit L H) (hl : L'.Sublist L) (hh : H'.Sublist H) : dataFit L' H' :=
  ⟨⟨Nat.le_trans hl.length_le h.1.1, fun a ha => h.1.2 a (hl.subset ha)⟩, Nat.le_trans hh.length_le h.2.1, fun a ha => h.2.2 a (hh.subset ha)⟩
def dropX (L : List Lgr) (H : List Hnd) (q : Int) (s : Name) : Option TreeD := if idxL (namesOf L) s ≤ 0 then none else changedO L H q (some (L.eraseIdx (idxL (namesOf L) s).toNat, H, q))
theorem drop_res_fit (L : List Lgr) (H : List Hnd) (q : Int) (s : Name) : dataFit (resL (dropX L H q s)) (resH (dropX L H q s)) := by
  unfold dropX
  split
  · exact none_fit
  · exact changed_fit _ _ _ _
/-- fewer loggers, the root still the first -/
theorem sub_ok {L L' : List Lgr} {H : List Hnd} {q : Int} (h : treeOk L H q = true) (hs : L'.Sublist L) (h0 : L'[0]? = L[0]?) : treeOk L' H q = true := by
  unfold treeOk lgrsOk at h ⊢
  simp only [Bool.and_eq_true, decide_eq_true_eq, List.all_eq_true] at h ⊢
  obtain ⟨a, b, c, d, e, f, g⟩ := h
  refine ⟨a, b, fun l hl => c l (hs.subset hl), (hs.map _).nodup d, ?_, Nat.le_trans hs.length_le f, ?_⟩
  · rw [List.getElem?_map] at g
    cases hx : L[0]? with
    | none => rw [hx] at g; cases g
    | some x => rw [hx] at h0; have := (List.getElem?_eq_some_iff.1 h0).1; omega
  · rw [List.getElem?_map, h0, ← List.getElem?_map]; exact g
theorem drop_ok {L : List Lgr} {H : List Hnd} {q : Int} {k : Nat} (h : treeOk L H q = true) (hk : 0 < k) : treeOk (L.eraseIdx k) H q = true :=
  sub_ok h (List.eraseIdx_sublist _ _) (by rw [List.getElem?_eraseIdx, if_pos hk])
theorem drop_some {L : List Lgr} {H : List Hnd} {q : Int} {s : Name} {k : Nat} (h : treeOk L H q = true) (hk : idxL (namesOf L) s = (k : Int)) (h0 : 0 < k) : dropX L H q s = some (L.eraseIdx k, H, q) := by
  unfold dropX changedO
  rw [hk, if_neg (by omega), h]
  simp only [Int.toNat_natCast, if_true, Option.bind_some]
  unfold ifOk
  rw [drop_ok h h0]; rfl

/-- the same names, each logger still right -/
theorem treeOk_of {L L' : List Lgr} {H : List Hnd} {q : Int} (h : treeOk L H q = true) (hn : L'.map (·.nm) = L.map (·.nm)) (ha : ∀ l ∈ L', lgrOk H l = true) : treeOk L' H q = true := by
  have hl : L'.length = L.length := by have := congrArg List.length hn; simpa using this
  unfold treeOk lgrsOk at h ⊢
  rw [hn, hl]
  simp only [Bool.and_eq_true, decide_eq_true_eq, List.all_eq_true] at h ⊢
  exact ⟨h.1, h.2.1, ha, h.2.2.2⟩
theorem treeOk_lgr {L : List Lgr} {H : List Hnd} {q : Int} (h : treeOk L H q = true) : ∀ l ∈ L, lgrOk H l = true := by
  unfold treeOk lgrsOk at h
  simp only [Bool.and_eq_true, decide_eq_true_eq, List.all_eq_true] at h
  exact h.2.2.1

def notS (s x : Name) : Bool := !decide (x = s)
def woL (s : Name) (l : Lgr) : Lgr := { l with hs := l.hs.filter (notS s) }
def dropHX (L : List Lgr) (H : List Hnd) (q : Int) (s : Name) : Option TreeD :=
  changedO L H q (if idxL (hnm H) s < 0 then none else some (L.map (woL s), H.eraseIdx (idxL (hnm H) s).toNat, q))
theorem wo_lgrFit {l : Lgr} (s : Name) (h : lgrFit l) : lgrFit (woL s l) := by
  unfold lgrFit at h ⊢
  exact ⟨h.1, ⟨Nat.le_trans (List.length_filter_le _ _) h.2.1.1, fun x hx => h.2.1.2 x ((List.mem_filter.1 hx).1)⟩, h.2.2⟩
theorem dropH_fit {L : List Lgr} {H : List Hnd} (s : Name) (k : Nat) (h : dataFit L H) : dataFit (L.map (woL s)) (H.eraseIdx k) := by
  refine ⟨⟨by rw [List.length_map]; exact h.1.1, fun a ha => ?_⟩, Nat.le_trans (List.eraseIdx_sublist _ _).length_le h.2.1, fun a ha => h.2.2 a ((List.eraseIdx_sublist _ _).subset ha)⟩
  obtain ⟨l, hl, rfl⟩ := List.mem_map.1 ha
  exact wo_lgrFit s (h.1.2 l hl)
theorem wo_lgrOk {H : List Hnd} {l : Lgr} (s : Name) (h : lgrOk H l = true) : lgrOk H (woL s l) = true := by
  unfold lgrOk at h ⊢
  simp only [Bool.and_eq_true, decide_eq_true_eq, List.all_eq_true] at h ⊢
  exact ⟨h.1, h.2.1, h.2.2.1, fun x hx => h.2.2.2.1 x ((List.mem_filter.1 hx).1), h.2.2.2.2.filter _⟩
theorem dropH_ok {L : List Lgr} {H : List Hnd} {q : Int} {s : Name} {k : Nat} (h : treeOk L H q = true) (hk : (hnm H)[k]? = some s) : treeOk (L.map (woL s)) (H.eraseIdx k) q = true := by
  have hn : (L.map (woL s)).map (·.nm) = L.map (·.nm) := by rw [List.map_map]; rfl
  have h' := h
  unfold treeOk lgrsOk hndsOk at h ⊢
  rw [hn, List.length_map]
  simp only [Bool.and_eq_true, decide_eq_true_eq, List.all_eq_true] at h ⊢
  obtain ⟨a, ⟨b1, b2, b3⟩, c, d⟩ := h
  have hsub := List.eraseIdx_sublist H k
  refine ⟨a, ⟨fun x hx => b1 x (hsub.subset hx), (hsub.map _).nodup b2, Nat.le_trans hsub.length_le b3⟩, fun l hl => ?_, d⟩
  obtain ⟨y, hy, rfl⟩ := List.mem_map.1 hl
  have := c y hy
  unfold lgrOk at this ⊢
  simp only [Bool.and_eq_true, decide_eq_true_eq, List.all_eq_true] at this ⊢
  refine ⟨this.1, this.2.1, this.2.2.1, fun x hx => ?_, this.2.2.2.2.filter _⟩
  obtain ⟨hx1, hx2⟩ := List.mem_filter.1 hx
  have hne : x ≠ s := by unfold notS at hx2; simpa using hx2
  have h3 := this.2.2.2.1 x hx1
  unfold hasL at h3 ⊢
  rw [List.any_eq_true] at h3 ⊢
  obtain ⟨g, hg, e⟩ := h3
  refine ⟨g, ?_, e⟩
  have e' := of_decide_eq_true e
  rw [List.mem_eraseIdx_iff_getElem?]
  obtain ⟨i, hi⟩ := List.getElem?_of_mem hg
  refine ⟨i, fun hik => ?_, hi⟩
  subst hik
  unfold hnm at hk
  rw [List.getElem?_map, hi] at hk
  exact hne (e'.symm.trans (Option.some.inj hk))
theorem dropH_res_fit (L : List Lgr) (H : List Hnd) (q : Int) (s : Name) : dataFit (resL (dropHX L H q s)) (resH (dropHX L H q s)) := changed_fit _ _ _ _
theorem dropH_some {L : List Lgr} {H : List Hnd} {q : Int} {s : Name} {k : Nat} (h : treeOk L H q = true) (hk : idxL (hnm H) s = (k : Int)) : dropHX L H q s = some (L.map (woL s), H.eraseIdx k, q) := by
  have e : ¬ ((k : Int) < 0) := by omega
  unfold dropHX changedO
  simp only [hk, h, if_neg e, Int.toNat_natCast, if_true, Option.bind_some]
  unfold ifOk
  rw [dropH_ok h (idx_nat hk).2]; rfl

theorem upd_mem {L : List Lgr} {k : Nat} {f : Lgr → Lgr} {a : Lgr} (ha : a ∈ updL L k f) : a ∈ L ∨ ∃ l, L[k]? = some l ∧ a = f l := by
  unfold updL at ha
  cases e : L[k]? with
  | none => rw [e] at ha; exact .inl ha
  | some l =>
    rw [e] at ha
    rcases List.mem_or_eq_of_mem_set ha with ha | rfl
    · exact .inl ha
    · exact .inr ⟨l, rfl, rfl⟩
theorem upd_map' {β : Type} (g : Lgr → β) (L : List Lgr) (k : Nat) (f : Lgr → Lgr) (h : ∀ l, g (f l) = g l) : (updL L k f).map g = L.map g := by
  unfold updL
  cases e : L[k]? with
  | none => rfl
  | some l =>
    show (L.set k (f l)).map g = L.map g
    rw [List.map_set, h]
    refine List.ext_getElem? fun i => ?_
    by_cases hi : i = k
    · subst hi
      rw [List.getElem?_set_self (by rw [List.length_map]; exact (List.getElem?_eq_some_iff.1 e).1), List.getElem?_map, e]; rfl
    · rw [List.getElem?_set_ne (by omega)]
theorem updl_fit {L : List Lgr} {H : List Hnd} {k : Nat} {f : Lgr → Lgr} (h : dataFit L H) (hf : ∀ l, L[k]? = some l → lgrFit l → lgrFit (f l)) : dataFit (updL L k f) H := by
  refine ⟨⟨?_, fun a ha => ?_⟩, h.2⟩
  · unfold updL; split
    · rw [List.length_set]; exact h.1.1
    · exact h.1.1
  · rcases upd_mem ha with ha | ⟨l, hl, rfl⟩
    · exact h.1.2 a ha
    · exact hf l hl (h.1.2 l (List.mem_of_getElem? hl))
theorem wo_ok {L : List Lgr} {H : List Hnd} {q : Int} (k : Nat) (s : Name) (h : treeOk L H q = true) : treeOk (updL L k (woL s)) H q = true := by
  refine treeOk_of h (upd_map' (·.nm) L k (woL s) (fun _ => rfl)) fun a ha => ?_
  rcases upd_mem ha with ha | ⟨l, hl, rfl⟩
  · exact treeOk_lgr h a ha
  · exact wo_lgrOk s (treeOk_lgr h l (List.mem_of_getElem? hl))

def addHL (s : Name) (l : Lgr) : Lgr := if s ∈ l.hs then l else { l with hs := l.hs ++ [s] }
theorem addHL_nm (s : Name) (l : Lgr) : (addHL s l).nm = l.nm := by unfold addHL; split <;> rfl
theorem addH_ok {L : List Lgr} {H : List Hnd} {q : Int} {k : Nat} {l : Lgr} (s : Name) (h : treeOk L H q = true) (hl : L[k]? = some l) : treeOk (updL L k (addHL s)) H q = decide (s ∈ hnm H) := by
  have hm := treeOk_lgr h l (List.mem_of_getElem? hl)
  have hiff : ∀ x, hasL H x = true ↔ x ∈ hnm H := fun x => by
    unfold hasL hnm
    rw [List.any_eq_true, List.mem_map]
    exact ⟨fun ⟨y, a, b⟩ => ⟨y, a, of_decide_eq_true b⟩, fun ⟨y, a, b⟩ => ⟨y, a, decide_eq_true b⟩⟩
  by_cases hs : s ∈ hnm H
  · rw [decide_eq_true hs]
    refine treeOk_of h (upd_map' (·.nm) L k (addHL s) (addHL_nm s)) fun a ha => ?_
    rcases upd_mem ha with ha | ⟨l', hl', rfl⟩
    · exact treeOk_lgr h a ha
    · rw [hl] at hl'
      obtain rfl := Option.some.inj hl'
      unfold addHL
      split
      · exact hm
      · rename_i hn
        unfold lgrOk at hm ⊢
        simp only [Bool.and_eq_true, decide_eq_true_eq, List.all_eq_true] at hm ⊢
        refine ⟨hm.1, hm.2.1, hm.2.2.1, fun x hx => ?_, ?_⟩
        · rcases List.mem_append.1 hx with hx | hx
          · exact hm.2.2.2.1 x hx
          · rw [List.mem_singleton] at hx; subst hx; exact (hiff _).2 hs
        · exact List.nodup_append.2 ⟨hm.2.2.2.2, List.nodup_cons.2 ⟨by simp, List.nodup_nil⟩, fun a ha b hb e => by
            rw [List.mem_singleton] at hb; rw [e, hb] at ha; exact hn ha⟩
  · rw [decide_eq_false hs]
    have hn : s ∉ l.hs := fun hx => by
      unfold lgrOk at hm
      simp only [Bool.and_eq_true, decide_eq_true_eq, List.all_eq_true] at hm
      exact hs ((hiff _).1 (hm.2.2.2.1 s hx))
    cases hc : treeOk (updL L k (addHL s)) H q with
    | false => rfl
    | true =>
      exfalso
      have h2 := treeOk_lgr hc (addHL s l) (by
        unfold updL; rw [hl]
        exact List.mem_of_getElem? (List.getElem?_set_self (List.getElem?_eq_some_iff.1 hl).1))
      unfold addHL at h2
      rw [if_neg hn] at h2
      unfold lgrOk at h2
      simp only [Bool.and_eq_true, decide_eq_true_eq, List.all_eq_true] at h2
      exact hs ((hiff _).1 (h2.2.2.2.1 s (by simp)))

def keepL (l : Lgr) : Bool := !(!decide (l.nm = []) && (decide (l.lv = 0) && (decide (l.hs.length = 0) && (decide (l.fs.length = 0) && (!l.stop && !l.off)))))
def dropPX (L : List Lgr) (H : List Hnd) (q : Int) : Option TreeD := changedO L H q (some (L.filter keepL, H, q))
theorem dropP_res_fit (L : List Lgr) (H : List Hnd) (q : Int) : dataFit (resL (dropPX L H q)) (resH (dropPX L H q)) := changed_fit _ _ _ _
theorem dropP_ok {L : List Lgr} {H : List Hnd} {q : Int} (h : treeOk L H q = true) : treeOk (L.filter keepL) H q = true := by
  obtain ⟨_, _, _, h8, h1, h0⟩ := tree_names h
  refine sub_ok h List.filter_sublist ?_
  cases L with
  | nil => rfl
  | cons a L =>
    have ha : a.nm = [] := by
      unfold treeOk lgrsOk at h
      simp only [Bool.and_eq_true, decide_eq_true_eq] at h
      have := h.2.2.2.2.2.2
      simpa using this
    have hk : keepL a = true := by unfold keepL; rw [ha]; simp
    rw [List.filter_cons, if_pos hk]; rfl
theorem dropP_some {L : List Lgr} {H : List Hnd} {q : Int} (h : treeOk L H q = true) : dropPX L H q = some (L.filter keepL, H, q) := by
  unfold dropPX changedO
  rw [h]
  simp only [if_true, Option.bind_some]
  unfold ifOk
  rw [dropP_ok h]; rfl
end Go.Proofs.Yteoblmhbjmefoaa

/-
  slices.Delete of a list of the call's own. By gen_dl2.py.
-/
namespace Go.Proofs.Yteoblmhbjmefoaa
open Go.RowKit Nm
set_option linter.unusedSimpArgs false
set_option linter.unusedVariables false

theorem own_cut {w : World} {lo size n cap g : Nat} {e : TypeId} {xs : List Value} (h : w.ownsRow lo e size (.slice (some ⟨g, 0, none⟩) n cap) n xs) {k : Nat} (hk : k ≤ n) : w.ownsRow lo e size (.slice (some ⟨g, 0, none⟩) k cap) k (xs.take (k * size)) := by
  have h1 := h.1
  have h3 : k * size ≤ n * size := Nat.mul_le_mul_right _ hk
  rcases h.2 with ⟨h', _⟩ | ⟨g', cap', cur, h', hb, hg, hnc, hcm, hcs, ht⟩
  · simp at h'
  · simp only [Value.slice.injEq, Option.some.injEq, Addr.mk.injEq, and_true, true_and] at h'
    obtain ⟨rfl, rfl⟩ := h'
    refine ⟨by rw [List.length_take, h1]; exact Nat.min_eq_left h3, .inr ⟨g, cap, cur, rfl, hb, hg, by omega, hcm, hcs, ?_⟩⟩
    rw [← ht, List.take_take, Nat.min_eq_left h3]
theorem run_delete {P : Program} {W : World} {lo size m cap g k : Nat} {e t : TypeId} {i : TypeInfo} {xs : List Value} (ht : P.underlying t = some (.slice e)) (hi : P.info? e = some i) (hsize : i.size = size)
    (h : W.ownsRow lo e size (.slice (some ⟨g, 0, none⟩) (m + 1) cap) (m + 1) xs) (hk : k ≤ m) (hc : m + 1 ≤ cap) (h1 : ∀ u ∈ xs, u.oneCell' = true) {A : Addr} (hA : (if cap = k + 1 then (some ⟨g, 0, none⟩ : Option Addr) else some ⟨g, (k + 1) * size, none⟩) = some A) :
    ∃ w', (Builtin.append_ #[t, t] t #[.slice (some ⟨g, 0, none⟩) k cap, .slice (some A) (m - k) (cap - (k + 1))]).run P W = .ok (.slice (some ⟨g, 0, none⟩) m cap) w' ∧
      w'.ownsRow lo e size (.slice (some ⟨g, 0, none⟩) m cap) m (xs.take (k * size) ++ xs.drop ((k + 1) * size)) ∧ W.grownBy w' (some g) := by
  have hl := h.1
  have e1 : k + (m - k) = m := by omega
  have e2 : (m + 1) * size - (k + 1) * size = (m - k) * size := by rw [← Nat.sub_mul]; congr 1; omega
  obtain ⟨w', a, b, c⟩ := run_append_fits (P := P) W lo t t e i size ht hi hsize g k cap (xs.take (k * size)) (own_cut h (by omega)) A (m - k) (cap - (k + 1)) (xs.drop ((k + 1) * size)) (by rw [List.length_drop, hl, e2]) (fun j u hu => by
    rw [List.getElem?_drop] at hu
    have hj := (List.getElem?_eq_some_iff.1 hu).1
    have hpos : (k + 1) * size + j < (m + 1) * size := by rw [hl] at hj; exact hj
    have hne : ¬ cap = k + 1 := fun e0 => by
      have : k = m := by omega
      subst this
      omega
    rw [if_neg hne] at hA
    obtain rfl := Option.some.inj hA
    rw [Addr.add_lit, h.cellAt _ hpos]
    exact hu) (fun u hu => h1 u (List.mem_of_mem_drop hu)) (by omega)
  rw [e1] at a b
  exact ⟨w', a, b, c⟩
theorem run_clear_own {P : Program} {W : World} {lo size n cap g o q c : Nat} {e t ty : TypeId} {z : Value} {xs : List Value} (ht : P.underlying t = some (.slice e)) (hz : (zeroValue e).run P W = .ok z W) (hzs : z.cells.size = size) (hz1 : ∀ u ∈ z.cells.toList, u.oneCell' = true)
    (h : W.ownsRow lo e size (.slice (some ⟨g, 0, none⟩) n cap) n xs) (hno : n * size ≤ o) (hoc : o + q * size ≤ cap * size) (hq : 0 < q) :
    ∃ W', (Builtin.clear_ #[t] ty #[.slice (some ⟨g, o, none⟩) q c]).run P W = .ok (.tuple #[]) W' ∧ W'.ownsRow lo e size (.slice (some ⟨g, 0, none⟩) n cap) n xs ∧ W.grownBy W' (some g) := by
  have h1 := h.1
  rcases h.2 with ⟨h', _⟩ | ⟨g', cap', cur, h', hb, hg, hnc, hcm, hcs, htk⟩
  · simp at h'
  · simp only [Value.slice.injEq, Option.some.injEq, Addr.mk.injEq, and_true, true_and] at h'
    obtain ⟨rfl, rfl⟩ := h'
    have hzl : (Builtin.zeroCells z.cells q).toList.length = q * size := by rw [Array.length_toList, size_zeroCells, hzs]
    have hfit : o + 0 + (Builtin.zeroCells z.cells q).toList.length ≤ cur.size := by rw [hzl, hcs]; omega
    have hst := run_storeCells_at P g o e (Builtin.zeroCells z.cells q).toList 0 cur W hg hfit (fun u hu => by
      unfold Builtin.zeroCells at hu
      rw [Array.toList_map] at hu
      obtain ⟨j, hj, rfl⟩ := List.mem_map.1 hu
      by_cases hs : z.cells.size = 0
      · rw [Array.toList_range, List.mem_range, hs] at hj; omega
      · have hlt : j % z.cells.size < z.cells.size := Nat.mod_lt _ (by omega)
        rw [getElem!_pos z.cells _ hlt]
        exact hz1 _ (Array.getElem_mem_toList hlt))
    obtain ⟨q', rfl⟩ : ∃ q', q = q' + 1 := ⟨q - 1, by omega⟩
    refine ⟨_, by simp [Builtin.clear_, run_underlying ht, hz, hst]; rfl, ?_, ?_⟩
    · refine ⟨h1, .inr ⟨g, cap, _, rfl, hb, setRow_heap W g cur _ e _ hg, hnc, hcm, ?_, ?_⟩⟩
      · simp only [List.size_toArray, List.length_append, List.length_take, List.length_drop, Array.length_toList] at hfit ⊢
        omega
      · simp only [Nat.add_zero, List.append_assoc]
        rw [List.take_append_of_le_length (by rw [List.length_take, Array.length_toList]; rw [hzl] at hfit; omega), List.take_take, Nat.min_eq_left hno, htk]
    · exact ⟨rfl, rfl, rfl, by simp [World.setRow], fun k _ hk => setRow_other W g k _ (fun e => hk (by simp [e]))⟩

theorem grown_dr (w : World) (row : Option Nat) : w.grownBy w.drew row := ⟨rfl, rfl, rfl, Nat.le_refl _, fun _ _ _ => rfl⟩
theorem grown2 {a b c : World} {row : Option Nat} (h1 : a.grownBy b row) (h2 : b.grownBy c row) : a.grownBy c row := ⟨h2.os.trans h1.os, h2.tape.trans h1.tape, h2.output.trans h1.output, Nat.le_trans h1.size h2.size, fun k hk hr => (h2.block k (Nat.lt_of_lt_of_le hk h1.size) hr).trans (h1.block k hk hr)⟩

theorem zeroLgr (w : World) : (zeroValue 49).run Try.prog w = .ok (.agg #[.string ByteArray.empty, .int .i64 0, .slice none 0 0, .slice none 0 0, .bool false, .bool false]) w := by kernel_rfl
set_option maxHeartbeats 4000000 in
set_option maxRecDepth 100000 in
theorem deleteLgr_c {W : World} {lo g m cap k : Nat} {xs : List Value} (hown : W.ownsRow lo 49 6 (.slice (some ⟨g, 0, none⟩) (m + 1) cap) (m + 1) xs) (hk : k ≤ m) (h1 : ∀ u ∈ xs, u.oneCell' = true) (hm : m ≤ 64) :
    Calls Try.prog 53 #[.slice (some ⟨g, 0, none⟩) (m + 1) cap, .int .i64 (k : Int), .int .i64 ((k : Int) + 1)] W (fun e w' => e = .returned (.slice (some ⟨g, 0, none⟩) m cap) ∧
      w'.ownsRow lo 49 6 (.slice (some ⟨g, 0, none⟩) m cap) m (xs.take (k * 6) ++ xs.drop ((k + 1) * 6)) ∧ W.grownBy w' (some g)) := by
  obtain ⟨i0, hi, _, hz1, _⟩ := info_parts Try.infoLogger
  obtain ⟨A0, c0, e0, hc, hcm⟩ := (Sl.of_own hown).form
  have e0' : cap = c0 := by have h9 := e0; simp at h9; exact h9.2
  subst e0'
  unfold maxLen at hcm
  obtain ⟨A, hA⟩ : ∃ A : Addr, (if cap = k + 1 then (some ⟨g, 0, none⟩ : Option Addr) else some ⟨g, (k + 1) * 6, none⟩) = some A := by split <;> exact ⟨_, rfl⟩
  obtain ⟨w1, hrun, ho1, hg1⟩ := run_delete (P := Try.prog) Try.underlying27 hi hz1 hown.drew hk (by omega) h1 hA
  obtain ⟨w2, hcl, ho2, hg2⟩ := run_clear_own (P := Try.prog) (ty := 0) (c := cap - m) Try.underlying27 (zeroLgr w1) (size := 6) rfl (by decide) ho1 (o := m * 6) (q := 1) (Nat.le_refl _) (by omega) (by omega)
  have hcl' : ∀ ty, (Builtin.clear_ #[27] ty #[.slice (some ⟨g, m * 6, none⟩) 1 (cap - m)]).run Try.prog w1 = .ok (.tuple #[]) w2 := fun ty => hcl
  have HRun := hid hrun
  have HO := hid (And.intro ho2 (grown2 (show W.grownBy W.drew (some g) from grown_dr W _) (grown2 hg1 hg2)))
  have s0 : (0 : Int) ≤ (k : Int) := by omega
  have s1 : (k : Int) ≤ (k : Int) + 1 := by omega
  have s2 : ((k : Int)).toNat = k := by simp
  have s3 : ((k : Int) + 1).toNat = k + 1 := by omega
  have s4 : (k : Int) + 1 ≤ ((m + 1 : Nat) : Int) := by omega
  have s5 : (0 : Int) ≤ (k : Int) + 1 := by omega
  have s6 : (k : Int) ≤ (cap : Int) := by omega
  have s7 : ((k : Int) == (k : Int) + 1) = false := by simp; omega
  have s8 : k + 1 ≤ m + 1 := by omega
  clear hcl hrun ho1 hg1 ho2 hg2 hown h1 e0
  go_enter Try.func53, Try.ntmps53
  go_wp2_with fail
  refine wp_region_held_drew (S := (fun _ : World => True)) (by kernel_rfl) trivial (fun hS => ?_)
  refine wpAnyH_take (i := 0) (oi := ?oi101) (v := ?v101) ?hi101 (by kernel_rfl) ?hf101 ?hr101 ?hQ101 (Or.inl ⟨?hw101, ?hy101⟩) (by assumption) ?rest101
  case hi101 => simp only [List.getElem?_toArray, List.getElem?_cons_succ, List.getElem?_cons_zero]; rfl
  case hf101 => kernel_rfl
  case hr101 => kernel_rfl
  case hw101 => rfl
  case hy101 => (intro w hSw; (try dsimp only at hSw); go_simp; all_goals (first | done | with_reducible rfl))
  case hQ101 => exact fun _ _ _ h => h
  simp only [Act.put, List.setIfInBounds_toArray, List.set_cons_zero, List.set_cons_succ]
  refine wpAnyH_take (i := 1) (oi := ?oi102) (v := ?v102) ?hi102 (by kernel_rfl) ?hf102 ?hr102 ?hQ102 (Or.inl ⟨?hw102, ?hy102⟩) (by assumption) ?rest102
  case hi102 => simp only [List.getElem?_toArray, List.getElem?_cons_succ, List.getElem?_cons_zero]; rfl
  case hf102 => kernel_rfl
  case hr102 => kernel_rfl
  case hw102 => rfl
  case hy102 => (intro w hSw; (try dsimp only at hSw); go_simp; all_goals (first | done | with_reducible rfl))
  case hQ102 => exact fun _ _ _ h => h
  simp only [Act.put, List.setIfInBounds_toArray, List.set_cons_zero, List.set_cons_succ]
  refine wpAnyH_take (i := 2) (oi := ?oi103) (v := ?v103) ?hi103 (by kernel_rfl) ?hf103 ?hr103 ?hQ103 (Or.inl ⟨?hw103, ?hy103⟩) (by assumption) ?rest103
  case hi103 => simp only [List.getElem?_toArray, List.getElem?_cons_succ, List.getElem?_cons_zero]; rfl
  case hf103 => kernel_rfl
  case hr103 => kernel_rfl
  case hw103 => rfl
  case hy103 => (intro w hSw; (try dsimp only at hSw); go_simp; all_goals (first | done | with_reducible rfl))
  case hQ103 => exact fun _ _ _ h => h
  simp only [Act.put, List.setIfInBounds_toArray, List.set_cons_zero, List.set_cons_succ]
  refine wpAnyH_take (i := 3) (oi := ?oi104) (v := ?v104) ?hi104 (by kernel_rfl) ?hf104 ?hr104 ?hQ104 (Or.inl ⟨?hw104, ?hy104⟩) (by assumption) ?rest104
  case hi104 => simp only [List.getElem?_toArray, List.getElem?_cons_succ, List.getElem?_cons_zero]; rfl
  case hf104 => kernel_rfl
  case hr104 => kernel_rfl
  case hw104 => rfl
  case hy104 => (intro w hSw; (try dsimp only at hSw); go_simp; all_goals (first | done | with_reducible rfl))
  case hQ104 => exact fun _ _ _ h => h
  simp only [Act.put, List.setIfInBounds_toArray, List.set_cons_zero, List.set_cons_succ]
  refine wpAnyH_take (i := 4) (oi := ?oi105) (v := ?v105) ?hi105 (by kernel_rfl) ?hf105 ?hr105 ?hQ105 (Or.inl ⟨?hw105, ?hy105⟩) (by assumption) ?rest105
  case hi105 => simp only [List.getElem?_toArray, List.getElem?_cons_succ, List.getElem?_cons_zero]; rfl
  case hf105 => kernel_rfl
  case hr105 => kernel_rfl
  case hw105 => rfl
  case hy105 => (intro w hSw; (try dsimp only at hSw); go_simp; all_goals (first | done | with_reducible rfl))
  case hQ105 => exact fun _ _ _ h => h
  simp only [Act.put, List.setIfInBounds_toArray, List.set_cons_zero, List.set_cons_succ]
  refine wpAnyH_take (i := 5) (oi := ?oi106) (v := ?v106) ?hi106 (by kernel_rfl) ?hf106 ?hr106 ?hQ106 (Or.inl ⟨?hw106, ?hy106⟩) (by assumption) ?rest106
  case hi106 => simp only [List.getElem?_toArray, List.getElem?_cons_succ, List.getElem?_cons_zero]; rfl
  case hf106 => kernel_rfl
  case hr106 => kernel_rfl
  case hw106 => rfl
  case hy106 => (intro w hSw; (try dsimp only at hSw); go_simp; all_goals (first | done | with_reducible rfl))
  case hQ106 => exact fun _ _ _ h => h
  simp only [Act.put, List.setIfInBounds_toArray, List.set_cons_zero, List.set_cons_succ]
  refine wpAnyH_ready (rs := [6]) (by kernel_rfl) (by simp) ?_
  refine AllReadyH.cons (o := ?oi107) ?hi107 (fun K hK => ?step107) AllReadyH.nil
  case hi107 => simp only [List.getElem?_toArray, List.getElem?_cons_succ, List.getElem?_cons_zero]; rfl
  rw [if_pos (by rfl)]
  refine wp_app rfl (by rfl) (by rfl) HRun.out ?_
  refine hK.out _ _ trivial (fun _ => ?_)
  simp only [Act.put, List.setIfInBounds_toArray, List.set_cons_zero, List.set_cons_succ]
  refine wpAnyH_take (i := 7) (oi := ?oi108) (v := ?v108) ?hi108 (by kernel_rfl) ?hf108 ?hr108 ?hQ108 (Or.inl ⟨?hw108, ?hy108⟩) (by assumption) ?rest108
  case hi108 => simp only [List.getElem?_toArray, List.getElem?_cons_succ, List.getElem?_cons_zero]; rfl
  case hf108 => kernel_rfl
  case hr108 => kernel_rfl
  case hw108 => rfl
  case hy108 => (intro w hSw; (try dsimp only at hSw); go_simp; all_goals (first | done | with_reducible rfl))
  case hQ108 => exact fun _ _ _ h => h
  simp only [Act.put, List.setIfInBounds_toArray, List.set_cons_zero, List.set_cons_succ]
  refine wpAnyH_done (by kernel_rfl) ?_ _
  go_wp2_with fail
  go_ret
  exact ⟨rfl, HO.out.1, HO.out.2⟩

theorem zeroHnd (w : World) : (zeroValue 83).run Try.prog w = .ok (.agg #[.string ByteArray.empty, .int .i64 0, .slice none 0 0]) w := by kernel_rfl
set_option maxHeartbeats 4000000 in
set_option maxRecDepth 100000 in
theorem deleteHnd_c {W : World} {lo g m cap k : Nat} {xs : List Value} (hown : W.ownsRow lo 83 3 (.slice (some ⟨g, 0, none⟩) (m + 1) cap) (m + 1) xs) (hk : k ≤ m) (h1 : ∀ u ∈ xs, u.oneCell' = true) (hm : m ≤ 64) :
    Calls Try.prog 64 #[.slice (some ⟨g, 0, none⟩) (m + 1) cap, .int .i64 (k : Int), .int .i64 ((k : Int) + 1)] W (fun e w' => e = .returned (.slice (some ⟨g, 0, none⟩) m cap) ∧
      w'.ownsRow lo 83 3 (.slice (some ⟨g, 0, none⟩) m cap) m (xs.take (k * 3) ++ xs.drop ((k + 1) * 3)) ∧ W.grownBy w' (some g)) := by
  obtain ⟨i0, hi, _, hz1, _⟩ := info_parts Try.infoHandler
  obtain ⟨A0, c0, e0, hc, hcm⟩ := (Sl.of_own hown).form
  have e0' : cap = c0 := by have h9 := e0; simp at h9; exact h9.2
  subst e0'
  unfold maxLen at hcm
  obtain ⟨A, hA⟩ : ∃ A : Addr, (if cap = k + 1 then (some ⟨g, 0, none⟩ : Option Addr) else some ⟨g, (k + 1) * 3, none⟩) = some A := by split <;> exact ⟨_, rfl⟩
  obtain ⟨w1, hrun, ho1, hg1⟩ := run_delete (P := Try.prog) Try.underlying28 hi hz1 hown.drew hk (by omega) h1 hA
  obtain ⟨w2, hcl, ho2, hg2⟩ := run_clear_own (P := Try.prog) (ty := 0) (c := cap - m) Try.underlying28 (zeroHnd w1) (size := 3) rfl (by decide) ho1 (o := m * 3) (q := 1) (Nat.le_refl _) (by omega) (by omega)
  have hcl' : ∀ ty, (Builtin.clear_ #[28] ty #[.slice (some ⟨g, m * 3, none⟩) 1 (cap - m)]).run Try.prog w1 = .ok (.tuple #[]) w2 := fun ty => hcl
  have HRun := hid hrun
  have HO := hid (And.intro ho2 (grown2 (show W.grownBy W.drew (some g) from grown_dr W _) (grown2 hg1 hg2)))
  have s0 : (0 : Int) ≤ (k : Int) := by omega
  have s1 : (k : Int) ≤ (k : Int) + 1 := by omega
  have s2 : ((k : Int)).toNat = k := by simp
  have s3 : ((k : Int) + 1).toNat = k + 1 := by omega
  have s4 : (k : Int) + 1 ≤ ((m + 1 : Nat) : Int) := by omega
  have s5 : (0 : Int) ≤ (k : Int) + 1 := by omega
  have s6 : (k : Int) ≤ (cap : Int) := by omega
  have s7 : ((k : Int) == (k : Int) + 1) = false := by simp; omega
  have s8 : k + 1 ≤ m + 1 := by omega
  clear hcl hrun ho1 hg1 ho2 hg2 hown h1 e0
  go_enter Try.func64, Try.ntmps64
  go_wp2_with fail
  refine wp_region_held_drew (S := (fun _ : World => True)) (by kernel_rfl) trivial (fun hS => ?_)
  refine wpAnyH_take (i := 0) (oi := ?oi109) (v := ?v109) ?hi109 (by kernel_rfl) ?hf109 ?hr109 ?hQ109 (Or.inl ⟨?hw109, ?hy109⟩) (by assumption) ?rest109
  case hi109 => simp only [List.getElem?_toArray, List.getElem?_cons_succ, List.getElem?_cons_zero]; rfl
  case hf109 => kernel_rfl
  case hr109 => kernel_rfl
  case hw109 => rfl
  case hy109 => (intro w hSw; (try dsimp only at hSw); go_simp; all_goals (first | done | with_reducible rfl))
  case hQ109 => exact fun _ _ _ h => h
  simp only [Act.put, List.setIfInBounds_toArray, List.set_cons_zero, List.set_cons_succ]
  refine wpAnyH_take (i := 1) (oi := ?oi110) (v := ?v110) ?hi110 (by kernel_rfl) ?hf110 ?hr110 ?hQ110 (Or.inl ⟨?hw110, ?hy110⟩) (by assumption) ?rest110
  case hi110 => simp only [List.getElem?_toArray, List.getElem?_cons_succ, List.getElem?_cons_zero]; rfl
  case hf110 => kernel_rfl
  case hr110 => kernel_rfl
  case hw110 => rfl
  case hy110 => (intro w hSw; (try dsimp only at hSw); go_simp; all_goals (first | done | with_reducible rfl))
  case hQ110 => exact fun _ _ _ h => h
  simp only [Act.put, List.setIfInBounds_toArray, List.set_cons_zero, List.set_cons_succ]
  refine wpAnyH_take (i := 2) (oi := ?oi111) (v := ?v111) ?hi111 (by kernel_rfl) ?hf111 ?hr111 ?hQ111 (Or.inl ⟨?hw111, ?hy111⟩) (by assumption) ?rest111
  case hi111 => simp only [List.getElem?_toArray, List.getElem?_cons_succ, List.getElem?_cons_zero]; rfl
  case hf111 => kernel_rfl
  case hr111 => kernel_rfl
  case hw111 => rfl
  case hy111 => (intro w hSw; (try dsimp only at hSw); go_simp; all_goals (first | done | with_reducible rfl))
  case hQ111 => exact fun _ _ _ h => h
  simp only [Act.put, List.setIfInBounds_toArray, List.set_cons_zero, List.set_cons_succ]
  refine wpAnyH_take (i := 3) (oi := ?oi112) (v := ?v112) ?hi112 (by kernel_rfl) ?hf112 ?hr112 ?hQ112 (Or.inl ⟨?hw112, ?hy112⟩) (by assumption) ?rest112
  case hi112 => simp only [List.getElem?_toArray, List.getElem?_cons_succ, List.getElem?_cons_zero]; rfl
  case hf112 => kernel_rfl
  case hr112 => kernel_rfl
  case hw112 => rfl
  case hy112 => (intro w hSw; (try dsimp only at hSw); go_simp; all_goals (first | done | with_reducible rfl))
  case hQ112 => exact fun _ _ _ h => h
  simp only [Act.put, List.setIfInBounds_toArray, List.set_cons_zero, List.set_cons_succ]
  refine wpAnyH_take (i := 4) (oi := ?oi113) (v := ?v113) ?hi113 (by kernel_rfl) ?hf113 ?hr113 ?hQ113 (Or.inl ⟨?hw113, ?hy113⟩) (by assumption) ?rest113
  case hi113 => simp only [List.getElem?_toArray, List.getElem?_cons_succ, List.getElem?_cons_zero]; rfl
  case hf113 => kernel_rfl
  case hr113 => kernel_rfl
  case hw113 => rfl
  case hy113 => (intro w hSw; (try dsimp only at hSw); go_simp; all_goals (first | done | with_reducible rfl))
  case hQ113 => exact fun _ _ _ h => h
  simp only [Act.put, List.setIfInBounds_toArray, List.set_cons_zero, List.set_cons_succ]
  refine wpAnyH_take (i := 5) (oi := ?oi114) (v := ?v114) ?hi114 (by kernel_rfl) ?hf114 ?hr114 ?hQ114 (Or.inl ⟨?hw114, ?hy114⟩) (by assumption) ?rest114
  case hi114 => simp only [List.getElem?_toArray, List.getElem?_cons_succ, List.getElem?_cons_zero]; rfl
  case hf114 => kernel_rfl
  case hr114 => kernel_rfl
  case hw114 => rfl
  case hy114 => (intro w hSw; (try dsimp only at hSw); go_simp; all_goals (first | done | with_reducible rfl))
  case hQ114 => exact fun _ _ _ h => h
  simp only [Act.put, List.setIfInBounds_toArray, List.set_cons_zero, List.set_cons_succ]
  refine wpAnyH_ready (rs := [6]) (by kernel_rfl) (by simp) ?_
  refine AllReadyH.cons (o := ?oi115) ?hi115 (fun K hK => ?step115) AllReadyH.nil
  case hi115 => simp only [List.getElem?_toArray, List.getElem?_cons_succ, List.getElem?_cons_zero]; rfl
  rw [if_pos (by rfl)]
  refine wp_app rfl (by rfl) (by rfl) HRun.out ?_
  refine hK.out _ _ trivial (fun _ => ?_)
  simp only [Act.put, List.setIfInBounds_toArray, List.set_cons_zero, List.set_cons_succ]
  refine wpAnyH_take (i := 7) (oi := ?oi116) (v := ?v116) ?hi116 (by kernel_rfl) ?hf116 ?hr116 ?hQ116 (Or.inl ⟨?hw116, ?hy116⟩) (by assumption) ?rest116
  case hi116 => simp only [List.getElem?_toArray, List.getElem?_cons_succ, List.getElem?_cons_zero]; rfl
  case hf116 => kernel_rfl
  case hr116 => kernel_rfl
  case hw116 => rfl
  case hy116 => (intro w hSw; (try dsimp only at hSw); go_simp; all_goals (first | done | with_reducible rfl))
  case hQ116 => exact fun _ _ _ h => h
  simp only [Act.put, List.setIfInBounds_toArray, List.set_cons_zero, List.set_cons_succ]
  refine wpAnyH_done (by kernel_rfl) ?_ _
  go_wp2_with fail
  go_ret
  exact ⟨rfl, HO.out.1, HO.out.2⟩
end Go.Proofs.Yteoblmhbjmefoaa

/-
  A HANDLER TAKEN AWAY FROM A LOGGER: slices.DeleteFunc over texts, detach; the model's without.
-/
namespace Go.Proofs.Yteoblmhbjmefoaa
open Go.RowKit Nm
set_option linter.unusedSimpArgs false
set_option linter.unusedVariables false

theorem Rows.app2 {w w' : World} {lo : Nat} {r r' : Row} {pre post : List Row} (h : Rows w lo (pre ++ r :: post)) (hg : w.grownBy w' r.v.ownBlock) (ho : r'.own w' lo) (hloc : ∀ z, r'.v.ownBlock = some z → r.v.ownBlock = some z ∨ w.heap.size ≤ z) :
    Rows w' lo (pre ++ r' :: post) := by
  have hp := List.pairwise_append.1 h.2
  have hp2 := List.pairwise_cons.1 hp.2.1
  have ap : ∀ x : Row, x.apart r → x.own w lo → x.apart r' := fun x hx hxo => by
    constructor
    · cases hq : x.v.ownBlock with
      | none => exact .inl rfl
      | some g =>
        right; intro e2
        rcases hloc g e2.symm with e | e
        · rcases hx.1 with h0 | h0
          · rw [hq] at h0; cases h0
          · exact h0 (hq.trans e.symm)
        · have := (hxo.lt g hq).2; omega
    · cases hq : r'.v.ownBlock with
      | none => exact .inl rfl
      | some g =>
        right; intro e2
        rcases hloc g hq with e | e
        · rcases hx.2 with h0 | h0
          · rw [e] at h0; cases h0
          · exact h0 (e.trans e2)
        · have := (hxo.lt g e2.symm).2; omega
  have own1 : ∀ x ∈ pre, x.own w lo := fun x hx => h.1 x (by simp [hx])
  have own2 : ∀ x ∈ post, x.own w lo := fun x hx => h.1 x (by simp [hx])
  refine ⟨fun x hx => ?_, ?_⟩
  · rcases List.mem_append.1 hx with hx | hx
    · exact (own1 x hx).kept hg (hp.2.2 x hx r (by simp)).1
    · rcases List.mem_cons.1 hx with rfl | hx
      · exact ho
      · exact (own2 x hx).kept hg (hp2.1 x hx).2
  · refine List.pairwise_append.2 ⟨hp.1, List.pairwise_cons.2 ⟨fun b hb => ?_, hp2.2⟩, fun a ha b hb => ?_⟩
    · exact (ap b (hp2.1 b hb).symm (own2 b hb)).symm
    · rcases List.mem_cons.1 hb with rfl | hb
      · exact ap a (hp.2.2 a ha r (by simp)) (own1 a ha)
      · exact hp.2.2 a ha b (by simp [hb])
/-- an element's inner row is another one, and one of its cells is set -/
theorem Rows.rowcell {α : Type} {w w' : World} {lo d e n g c i j q : Nat} {T : TypeId} {fc : α → List Value} {fr : α → List Row} {l : List α} {pre post : List Row} {x y : α} {r r' : Row} {u : Value} (hfc : ∀ x, (fc x).length = d) (hfr : ∀ x, (fr x).length = e)
    (h : Rows w lo (pre ++ two T d n (.slice (some ⟨g, 0, none⟩) n c) fc fr l ++ post)) (hx : l[i]? = some x) (hj : j < e) (hr : (fr x)[j]? = some r) (hg : w.grownBy w' r.v.ownBlock) (ho : r'.own w' lo) (hloc : ∀ z, r'.v.ownBlock = some z → r.v.ownBlock = some z ∨ w.heap.size ≤ z)
    (hq : q < d) (hc : fc y = (fc x).set q u) (hry : fr y = (fr x).set j r') : Rows (w'.setCell ⟨g, i * d + q, none⟩ u) lo (pre ++ two T d n (.slice (some ⟨g, 0, none⟩) n c) fc fr (l.set i y) ++ post) := by
  have hin : i * e + j < (l.flatMap fr).length := by
    have := flat_get fr e hfr l i j x hx hj
    rw [hr] at this
    exact (List.getElem?_eq_some_iff.1 this).1
  have hJ : (pre ++ two T d n (.slice (some ⟨g, 0, none⟩) n c) fc fr l ++ post)[pre.length + (1 + (i * e + j))]? = some r := by
    rw [two, List.append_assoc, List.getElem?_append_right (by omega), show pre.length + (1 + (i * e + j)) - pre.length = (i * e + j) + 1 by omega, List.cons_append, List.getElem?_cons_succ, List.getElem?_append_left hin, flat_get fr e hfr l i j x hx hj, hr]
  have hl := (List.getElem?_eq_some_iff.1 hJ).1
  generalize hrs : pre ++ two T d n (.slice (some ⟨g, 0, none⟩) n c) fc fr l ++ post = rs at *
  have e0 : rs = rs.take (pre.length + (1 + (i * e + j))) ++ r :: rs.drop (pre.length + (1 + (i * e + j)) + 1) := by
    have := (List.getElem?_eq_some_iff.1 hJ).2
    rw [← this, ← List.drop_eq_getElem_cons hl, List.take_append_drop]
  rw [e0] at h
  have h1 := h.app2 hg ho hloc
  have e9 : rs.take (pre.length + (1 + (i * e + j))) ++ r' :: rs.drop (pre.length + (1 + (i * e + j)) + 1) = rs.set (pre.length + (1 + (i * e + j))) r' := by rw [List.set_eq_take_append_cons_drop, if_pos hl]
  rw [e9] at h1
  have e1 : rs.set (pre.length + (1 + (i * e + j))) r' = pre ++ (⟨T, d, n, .slice (some ⟨g, 0, none⟩) n c, l.flatMap fc⟩ :: (l.set i y).flatMap fr) ++ post := by
    rw [← hrs, two, List.append_assoc, List.set_append_right _ _ (by omega), show pre.length + (1 + (i * e + j)) - pre.length = (i * e + j) + 1 by omega, List.cons_append, List.set_cons_succ, List.set_append_left _ _ hin, flat_set fr e hfr l i j x y _ hx hj hry]
    simp
  rw [e1] at h1
  have hs := (show w'.ownsRow lo T d (.slice (some ⟨g, 0, none⟩) n c) n (l.flatMap fc) from h1.1 ⟨T, d, n, .slice (some ⟨g, 0, none⟩) n c, l.flatMap fc⟩ (by simp)).stored (i * d + q) u
  have h2 := h1.put (j := pre.length) (r := ⟨T, d, n, .slice (some ⟨g, 0, none⟩) n c, l.flatMap fc⟩) (by rw [List.append_assoc, List.getElem?_append_right (Nat.le_refl _), Nat.sub_self]; simp) hs.2 hs.1
  rw [flat_set fc d hfc l i q x y u hx hq hc] at h2
  have e2 : (pre ++ (⟨T, d, n, .slice (some ⟨g, 0, none⟩) n c, l.flatMap fc⟩ :: (l.set i y).flatMap fr) ++ post).set pre.length ⟨T, d, n, .slice (some ⟨g, 0, none⟩) n c, (l.set i y).flatMap fc⟩ = pre ++ two T d n (.slice (some ⟨g, 0, none⟩) n c) fc fr (l.set i y) ++ post := by
    rw [List.append_assoc, List.set_append_right _ _ (Nat.le_refl _), Nat.sub_self, two]
    simp
  rw [e2] at h2
  exact h2

set_option maxHeartbeats 1000000 in
set_option maxRecDepth 100000 in
theorem detachFn_c (a s : ByteArray) (bx : Nat) (w : World) (hc : w.cell? ⟨bx, 0, none⟩ = some (.string s)) :
    Calls Try.prog 111 #[.string a, .pointer (some ⟨bx, 0, none⟩)] w (BoolPost w (decide (a.data.toList = s.data.toList))) := by
  have e0 := beq_txt a s
  go_enter Try.func111, Try.ntmps111
  go_wp2_with fail
  go_ret
  exact ⟨ret_bool (decide_eq_decide.2 Array.toList_inj.symm), by go_grown⟩

set_option maxHeartbeats 4000000 in
set_option maxRecDepth 100000 in
theorem indexTxtFn_c (v : Value) (n B bx : Nat) (l : List Name) (s : ByteArray) (w : World) (hv : Sl w B 1 n v (l.map txt)) (hB : B ≤ w.heap.size) (hc : w.cell? ⟨bx, 0, none⟩ = some (.string s)) :
    Calls Try.prog 134 #[v, .func (.func 111) #[] #[.pointer (some ⟨bx, 0, none⟩)]] w
      (fun e w' => e = .returned (.int .i64 (idxL l s.data.toList)) ∧ Below w.heap.size w w') := by
  have hlt0 : bx < w.heap.size := World.block_lt_of_cell? w _ hc
  have hln : l.length = n := by have := hv.1; simpa using this
  obtain ⟨A, c, rfl, hnc, hcm⟩ := hv.form
  unfold maxLen at hcm
  have HV := hid (And.intro hv hln)
  have HC := hid (And.intro hc hlt0)
  clear hv hln hc hlt0
  go_enter Try.func134, Try.ntmps134
  go_wp2_with fail
  go_loopw [5, 8] (fun av iv wr => ∃ (k : Nat) (u : Value), iv = .int .i64 k ∧ av = u ∧ k ≤ n ∧ Hid (¬ s.data.toList ∈ l.take k) ∧ Hid (Below w.heap.size w wr)) (fun _ iv _ => n - (intOf iv).toNat)
  case atStart => exact ⟨0, _, rfl, rfl, by omega, by simp [Hid], Below.refl _ _⟩
  case round =>
    obtain ⟨k, u, rfl, rfl, hk, HN, HB⟩ := hrel
    by_cases hlt : k < n
    · obtain ⟨b, o, a, rfl, hbB, hx, c0⟩ := (HV.out.1.below HB.out hB).text hlt
      have E := hid (detachFn_c a s bx wr ((HB.out.cell (p := ⟨bx, 0, none⟩) HC.out.2).trans HC.out.1))
      have HX := hid hx
      cases hz : decide (a.data.toList = s.data.toList) with
      | true =>
        rw [hz] at E
        have HZ := hid hz
        clear hx hz
        go_wp2_with (go_at_call 111; refine (E.out).mono ?_; rintro e w2 ⟨rfl, hb⟩)
        go_ret
        refine ⟨ret_int ?_, HB.out.trans (hb.mono HB.out.size)⟩
        have h := of_decide_eq_true HZ.out
        rw [idx_hit _ _ k (by rw [HX.out, h]) HN.out]
      | false =>
        rw [hz] at E
        have HZ := hid hz
        clear hx hz
        go_wp2_with (go_at_call 111; refine (E.out).mono ?_; rintro e w2 ⟨rfl, hb⟩)
        go_roundw
        case rel => exact ⟨k + 1, _, by go_num, rfl, by omega, not_take_succ _ _ _ _ HN.out HX.out (of_decide_eq_false HZ.out), HB.out.trans (hb.mono HB.out.size)⟩
        case measure => simp [intOf]; omega
    · have HE := hid (show ¬ s.data.toList ∈ l by
        have h := HN.out
        rwa [List.take_of_length_le (by have := HV.out.2; omega)] at h)
      go_wp2_with fail
      go_ret
      exact ⟨ret_int (by rw [idx_miss _ _ HE.out]), HB.out⟩
end Go.Proofs.Yteoblmhbjmefoaa

/-
  slices.DeleteFunc over texts of the call's own; detach; the model's without.
-/
namespace Go.Proofs.Yteoblmhbjmefoaa
open Go.RowKit Nm
set_option linter.unusedSimpArgs false
set_option linter.unusedVariables false

theorem notS_self (s : Name) : notS s s = false := by simp [notS]
theorem notS_ne {s x : Name} (h : ¬ x = s) : notS s x = true := by simp [notS, h]
theorem filt_none {s : Name} {l : List Name} (h : s ∉ l) : l.filter (notS s) = l := List.filter_eq_self.2 fun x hx => notS_ne fun e => h (e ▸ hx)
theorem take_snoc {α : Type} {l : List α} {j : Nat} {x : α} (h : l[j]? = some x) : l.take (j + 1) = l.take j ++ [x] := by rw [List.take_add_one, h]; rfl
theorem filt_keep {s x : Name} {l : List Name} {j : Nat} (h : l[j]? = some x) (hne : ¬ x = s) : (l.take (j + 1)).filter (notS s) = (l.take j).filter (notS s) ++ [x] := by
  rw [take_snoc h, List.filter_append, List.filter_cons, if_pos (notS_ne hne)]; rfl
theorem filt_drop {s : Name} {l : List Name} {j : Nat} (h : l[j]? = some s) : (l.take (j + 1)).filter (notS s) = (l.take j).filter (notS s) := by
  rw [take_snoc h, List.filter_append, List.filter_cons, notS_self]; simp
theorem take_idx (l : List Name) (x : Name) : x ∉ l.take (l.idxOf x) := by
  induction l with
  | nil => simp
  | cons a t ih =>
    rw [List.idxOf_cons]
    by_cases h : a = x
    · simp [h]
    · have hb : (a == x) = false := by simpa using h
      rw [hb, cond_false, List.take_succ_cons]
      intro hm
      rcases List.mem_cons.1 hm with e | e
      · exact h e.symm
      · exact ih e
theorem drop_next {α : Type} {a b : List α} {j : Nat} (h : a.drop j = b.drop j) : a.drop (j + 1) = b.drop (j + 1) := by
  rw [← List.drop_drop, ← List.drop_drop, h]
theorem at_drop {α : Type} {a b : List α} {j : Nat} (h : a.drop j = b.drop j) : a[j]? = b[j]? := by
  have := congrArg (fun l => l[0]?) h
  simpa using this

theorem zeroStr (w : World) : (zeroValue 9).run Try.prog w = .ok (.string ByteArray.empty) w := by kernel_rfl
set_option maxHeartbeats 8000000 in
set_option maxRecDepth 100000 in
theorem deleteTxt_c {W : World} {lo n bx : Nat} {l : List Name} {v : Value} (s : ByteArray) (hown : W.ownsRow lo 9 1 v n (l.map txt)) (hn : n ≤ 64) (hlo : lo ≤ W.heap.size) (hc : W.cell? ⟨bx, 0, none⟩ = some (.string s)) (hbx : v.ownBlock ≠ some bx) :
    Calls Try.prog 110 #[v, .func (.func 111) #[] #[.pointer (some ⟨bx, 0, none⟩)]] W
      (fun e w' => ∃ v', e = .returned v' ∧ w'.ownsRow lo 9 1 v' (l.filter (notS s.data.toList)).length ((l.filter (notS s.data.toList)).map txt) ∧ W.grownBy w' v.ownBlock ∧ v'.ownBlock = v.ownBlock) := by
  have hln : l.length = n := by have := hown.1; simpa using this
  have C := indexTxtFn_c v n W.heap.size bx l s W (Sl.of_own hown) (Nat.le_refl _) hc
  have hbxl : bx < W.heap.size := World.block_lt_of_cell? _ _ hc
  by_cases hin : s.data.toList ∈ l
  · obtain ⟨k0, hk0, hkl, hkx⟩ : ∃ k : Nat, idxL l s.data.toList = (k : Int) ∧ k < l.length ∧ l[k]? = some s.data.toList := by
      have h0 : idxL l s.data.toList = (l.idxOf s.data.toList : Int) := by unfold idxL; rw [if_pos hin]
      exact ⟨_, h0, idx_nat h0⟩
    have hk0' : k0 = l.idxOf s.data.toList := by
      have h0 : idxL l s.data.toList = (l.idxOf s.data.toList : Int) := by unfold idxL; rw [if_pos hin]
      omega
    have hnot : s.data.toList ∉ l.take k0 := by rw [hk0']; exact take_idx l _
    rw [hk0] at C
    obtain ⟨A, c, rfl, hnc, hcm⟩ := (Sl.of_own hown).form
    obtain ⟨g, rfl, hgl⟩ := own_some hown (by omega)
    have hgx : g ≠ bx := fun e => hbx (by rw [← e]; rfl)
    unfold maxLen at hcm
    have hk0n : k0 < n := by omega
    have s0 : IntKind.i64.wrap ((k0 : Int) + 1) = (k0 : Int) + 1 := by rw [IntKind.wrap_i64]; omega
    have s1 : ((k0 : Int) == -1) = false := by simp
    have HC := hid hc
    have HO := hid hown
    have HLn := hid hln
    have HX := hid (And.intro hkx hnot)
    have hzero := zeroStr
    replace C := hid C
    clear hc hown hln hkx hnot hin hk0 hk0' hbx hkl
    go_enter Try.func110, Try.ntmps110
    go_wp2_with fail
    refine (C.out).mono ?_
    rintro e w1 ⟨rfl, hb⟩
    have HO1 := hid (own_below HO.out hb)
    have HG1 := hid (grown_of hb (some g))
    clear hb
    go_wp2_with fail
    go_loopw [5, 6, 7] (fun iv jv av wr => ∃ (i j : Nat) (cur : List Name) (u : Value), iv = .int .i64 i ∧ jv = .int .i64 j ∧ av = u ∧ i < j ∧ j ≤ n ∧ Hid (cur.take i = (l.take j).filter (notS s.data.toList)) ∧ Hid (cur.drop j = l.drop j) ∧ Hid (cur.length = n) ∧ Hid (wr.ownsRow lo 9 1 (.slice (some ⟨g, 0, none⟩) n c) n (cur.map txt)) ∧ Hid (W.grownBy wr (some g))) (fun _ jv _ _ => n - (intOf jv).toNat)
    case atStart =>
      refine ⟨k0, k0 + 1, l, _, rfl, by go_num, rfl, by omega, by omega, ?_, rfl, HLn.out, HO1.out, HG1.out⟩
      show _ = _
      rw [filt_drop HX.out.1, filt_none HX.out.2]
    case round =>
      obtain ⟨i, j, cur, u, rfl, rfl, rfl, hij, hj, HT, HD, HLc, HOr, HGr⟩ := hrel
      by_cases hlt : j < n
      · obtain ⟨b, o, p, eA, _, hx, c0⟩ := (Sl.of_own HOr.out).text hlt
        have eA' : g = b ∧ o = 0 := by simp at eA; exact ⟨eA.1, eA.2.symm⟩
        obtain ⟨rfl, rfl⟩ := eA'
        simp only [Nat.zero_add] at c0
        have hlx : l[j]? = some p.data.toList := by rw [← at_drop HD.out]; exact hx
        have cx : wr.cell? ⟨bx, 0, none⟩ = some (.string s) := (World.cell?_of_block (HGr.out.block bx hbxl (fun e => hgx (Option.some.inj e).symm))).trans HC.out
        have E := hid (detachFn_c p s bx wr cx)
        have HP := hid (And.intro hlx hx)
        have s2 : (0 : Int) ≤ (j : Int) := by omega
        have s3 : (j : Int) < (n : Int) := by omega
        have s4 : ((j : Int)).toNat = j := by simp
        clear hx hlx eA cx
        cases hz : decide (p.data.toList = s.data.toList) with
        | true =>
          rw [hz] at E
          have HZ := hid (of_decide_eq_true hz)
          clear hz
          go_wp2_with (go_at_call 111; refine (E.out).mono ?_; rintro e w2 ⟨rfl, hb⟩)
          have HO2 := hid (own_below HOr.out hb)
          have HG2 := hid (grown2 HGr.out (grown_of hb (some g)))
          clear hb c0
          go_roundw
          case rel =>
            refine ⟨i, j + 1, cur, _, rfl, by go_num, rfl, by omega, by omega, ?_, drop_next HD.out, HLc.out, HO2.out, HG2.out⟩
            show _ = _
            rw [filt_drop (by rw [← HZ.out]; exact HP.out.1)]; exact HT.out
          case measure => simp [intOf]; omega
        | false =>
          rw [hz] at E
          have HZ := hid (of_decide_eq_false hz)
          have t2 : (0 : Int) ≤ (i : Int) := by omega
          have t3 : (i : Int) < (n : Int) := by omega
          have t4 : ((i : Int)).toNat = i := by simp
          clear hz
          obtain ⟨y, hy⟩ : ∃ y, cur[i]? = some y := ⟨_, List.getElem?_eq_getElem (by have := HLc.out; omega)⟩
          obtain ⟨py, hpy, _⟩ := txt_mk y
          have HY := hid (And.intro hy hpy)
          have HSt := hid (fun (w2 : World) (hb : Below wr.heap.size wr w2) => (show (w2.cell? ⟨g, i, none⟩ = some (.string py) ∧ w2.frozen? ⟨g, i, none⟩ = false) ∧ (w2.setCell ⟨g, i, none⟩ (.string p)).ownsRow lo 9 1 (.slice (some ⟨g, 0, none⟩) n c) n ((cur.map txt).set i (.string p)) ∧ W.grownBy (w2.setCell ⟨g, i, none⟩ (.string p)) (some g) from by
            have ho2 := own_below HOr.out hb
            have st := ho2.stored i (.string p)
            refine ⟨⟨?_, ho2.frozenAt i⟩, st.1, grown2 (grown2 HGr.out (grown_of hb (some g))) st.2⟩
            have h9 := ho2.cellAt i (by omega)
            rw [List.getElem?_map, HY.out.1] at h9
            rw [← HY.out.2]; exact h9))
          clear hy hpy
          go_wp2_with (go_at_call 111; refine (E.out).mono ?_; rintro e w2 ⟨rfl, hb⟩; have hst := HSt.out w2 hb; have hzc := hst.1.1; have hzf := hst.1.2; have HO3 := hid hst.2.1; have HG3 := hid hst.2.2; clear hst hb c0)
          go_roundw
          case rel =>
            refine ⟨i + 1, j + 1, cur.set i p.data.toList, _, by go_num, by go_num, rfl, by omega, by omega, ?_, ?_, by show (cur.set i _).length = n; rw [List.length_set]; exact HLc.out, ?_, HG3.out⟩
            · show _ = _
              rw [take_set HY.out.1, HT.out, filt_keep HP.out.1 HZ.out]
            · show _ = _
              rw [List.drop_set_of_lt (by omega)]; exact drop_next HD.out
            · show World.ownsRow _ _ _ _ _ _ _
              rw [List.map_set, txt_data]
              exact HO3.out
          case measure => simp [intOf]; omega
      · obtain rfl : j = n := by omega
        have hfin : cur.take i = l.filter (notS s.data.toList) := by
          have h := HT.out
          rwa [List.take_of_length_le (l := l) (by have := HLn.out; omega)] at h
        have hcut := own_cut HOr.out (k := i) (by omega)
        obtain ⟨w9, hcl, ho9, hg9⟩ := run_clear_own (P := Try.prog) (ty := 0) (c := c - i) Try.underlying46 (hzero wr) (size := 1) rfl (by decide) hcut (o := i) (q := j - i) (by omega) (by omega) (by omega)
        have hcl' : ∀ ty, (Builtin.clear_ #[46] ty #[.slice (some ⟨g, i, none⟩) (j - i) (c - i)]).run Try.prog wr = .ok (.tuple #[]) w9 := fun ty => hcl
        have hlen : (l.filter (notS s.data.toList)).length = i := by rw [← hfin, List.length_take]; have := HLc.out; omega
        have HO9 := hid (show w9.ownsRow lo 9 1 (.slice (some ⟨g, 0, none⟩) i c) (l.filter (notS s.data.toList)).length ((l.filter (notS s.data.toList)).map txt) by
          rw [hlen, ← hfin, List.map_take]; rw [Nat.mul_one] at ho9; exact ho9)
        have HG9 := hid (grown2 HGr.out hg9)
        have t2 : (0 : Int) ≤ (i : Int) := by omega
        have t3 : (i : Int) ≤ (j : Int) := by omega
        have t4 : ((i : Int)).toNat = i := by simp
        have t5 : (i : Int) ≤ (c : Int) := by omega
        have t6 : ¬ c = i := by omega
        have t7 : i ≤ j := by omega
        have t8 : i ≤ c := by omega
        clear hfin hcut hcl ho9 hg9 hlen
        go_wp2_with fail
        go_ret
        exact ⟨_, rfl, HO9.out, HG9.out, rfl⟩
  · rw [idx_miss _ _ hin] at C
    have HF := hid (filt_none hin)
    have HO := hid hown
    have HLn := hid hln
    replace C := hid C
    obtain ⟨A, c, rfl, _, _⟩ := (Sl.of_own hown).form
    clear hown hin hln hc
    go_enter Try.func110, Try.ntmps110
    go_wp2_with fail
    refine (C.out).mono ?_
    rintro e w1 ⟨rfl, hb⟩
    have HB := hid hb
    clear hb
    go_wp2_with fail
    go_ret
    refine ⟨_, rfl, ?_, grown_of HB.out _, rfl⟩
    rw [HF.out, HLn.out]
    exact own_below HO.out HB.out
end Go.Proofs.Yteoblmhbjmefoaa

/-
  A LOGGER DROPPED: DropLogger of the program and of the model. By gen_dl3.py.
-/
namespace Go.Proofs.Yteoblmhbjmefoaa
open Go.RowKit Nm
set_option linter.unusedSimpArgs false
set_option linter.unusedVariables false

theorem flat_takeD {α : Type} {f : α → List Value} {d : Nat} (hf : ∀ x, (f x).length = d) (l : List α) (k : Nat) : (l.flatMap f).take (k * d) = (l.take k).flatMap f := by
  induction l generalizing k with
  | nil => simp
  | cons a l ih =>
    cases k with
    | zero => simp
    | succ k =>
      rw [List.flatMap_cons, List.take_succ_cons, List.flatMap_cons, show (k + 1) * d = (f a).length + k * d by rw [hf, Nat.succ_mul]; omega, List.take_length_add_append, ih]
theorem flat_dropD {α : Type} {f : α → List Value} {d : Nat} (hf : ∀ x, (f x).length = d) (l : List α) (k : Nat) : (l.flatMap f).drop (k * d) = (l.drop k).flatMap f := by
  induction l generalizing k with
  | nil => simp
  | cons a l ih =>
    cases k with
    | zero => simp
    | succ k =>
      rw [List.flatMap_cons, List.drop_succ_cons, show (k + 1) * d = (f a).length + k * d by rw [hf, Nat.succ_mul]; omega, List.drop_length_add_append, ih]
theorem flat_erase {α : Type} {f : α → List Value} {d : Nat} (hf : ∀ x, (f x).length = d) (l : List α) (k : Nat) : (l.flatMap f).take (k * d) ++ (l.flatMap f).drop ((k + 1) * d) = (l.eraseIdx k).flatMap f := by
  rw [flat_takeD hf, flat_dropD hf, List.eraseIdx_eq_take_drop_succ, List.flatMap_append]
theorem sub_flatM {α β : Type} {f : α → List β} {l l' : List α} (h : l'.Sublist l) : (l'.flatMap f).Sublist (l.flatMap f) := by
  induction h with
  | slnil => exact List.Sublist.refl _
  | cons a _ ih => rw [List.flatMap_cons]; exact ih.trans (List.sublist_append_right _ _)
  | cons_cons a _ ih => rw [List.flatMap_cons, List.flatMap_cons]; exact (List.Sublist.refl _).append ih
theorem lsOf_erase (ls : List LgrV) (k : Nat) : lsOf (ls.eraseIdx k) = (lsOf ls).eraseIdx k := by
  unfold lsOf
  rw [List.eraseIdx_eq_take_drop_succ, List.eraseIdx_eq_take_drop_succ, List.map_append, List.map_take, List.map_drop]
theorem hsOf_erase (hs : List HndV) (k : Nat) : hsOf (hs.eraseIdx k) = (hsOf hs).eraseIdx k := by
  unfold hsOf
  rw [List.eraseIdx_eq_take_drop_succ, List.eraseIdx_eq_take_drop_succ, List.map_append, List.map_take, List.map_drop]
theorem treeL_slices {W : World} {lo n1 n2 : Nat} {v1 v2 : Value} {ls : List LgrV} {hs : List HndV} (hr : Rows W lo (treeRows n1 v1 ls n2 v2 hs)) : (∀ u ∈ ls.flatMap lcells, u.oneCell' = true) ∧ (∀ u ∈ hs.flatMap hcells, u.oneCell' = true) := by
  obtain ⟨hl, hh⟩ := hr.lsIn
  refine ⟨lgrs_one ls fun x hx => ?_, hnds_one hs fun x hx => ?_⟩
  · obtain ⟨a, b⟩ := hl.2 x hx
    obtain ⟨A, c, e, _⟩ := a.form
    obtain ⟨A', c', e', _⟩ := b.form
    exact ⟨⟨A, _, c, e⟩, ⟨A', _, c', e'⟩⟩
  · obtain ⟨A, c, e, _⟩ := (hh.2 x hx).form
    exact ⟨A, _, c, e⟩
/-- a tree without a logger -/
theorem tree_del {W W' : World} {lo n m k : Nat} {v1 v1' v2 : Value} {ls : List LgrV} {hs : List HndV} (hn : n = ls.length) (hk : k < ls.length) (hm : m + 1 = n) (hr : Rows W lo (treeRows n v1 ls hs.length v2 hs))
    (ho : W'.ownsRow lo 49 6 v1' m ((ls.flatMap lcells).take (k * 6) ++ (ls.flatMap lcells).drop ((k + 1) * 6))) (hg : W.grownBy W' v1.ownBlock) (hv : v1'.ownBlock = v1.ownBlock) :
    Rows W' lo (treeRows (ls.eraseIdx k).length v1' (ls.eraseIdx k) hs.length v2 hs) ∧ ∀ b, (∀ r ∈ treeRows n v1 ls hs.length v2 hs, r.v.ownBlock ≠ some b) → ∀ r ∈ treeRows (ls.eraseIdx k).length v1' (ls.eraseIdx k) hs.length v2 hs, r.v.ownBlock ≠ some b := by
  subst hn
  rw [flat_erase lcells_len] at ho
  have h0 : Rows W lo ([] ++ ⟨49, 6, ls.length, v1, ls.flatMap lcells⟩ :: (ls.flatMap lrows ++ two 83 3 hs.length v2 hcells hrows hs)) := by
    rw [treeRows_eq] at hr
    simpa [two] using hr
  have h1 := Rows.app h0 hg ho (.inl hv)
  have hlen : (ls.eraseIdx k).length = m := by rw [List.length_eraseIdx, if_pos hk]; omega
  have ht : treeRows (ls.eraseIdx k).length v1' (ls.eraseIdx k) hs.length v2 hs = ⟨49, 6, m, v1', (ls.eraseIdx k).flatMap lcells⟩ :: ((ls.eraseIdx k).flatMap lrows ++ two 83 3 hs.length v2 hcells hrows hs) := by
    rw [treeRows_eq, two, hlen]; simp
  have hsub : ((ls.eraseIdx k).flatMap lrows).Sublist (ls.flatMap lrows) := sub_flatM (List.eraseIdx_sublist _ _)
  rw [ht]
  refine ⟨h1.sub (List.Sublist.cons_cons _ (hsub.append (List.Sublist.refl _))), fun b hb r hr' => ?_⟩
  rw [treeRows_eq] at hb
  rcases List.mem_cons.1 hr' with rfl | hr'
  · show v1'.ownBlock ≠ _
    rw [hv]
    exact hb ⟨49, 6, ls.length, v1, ls.flatMap lcells⟩ (by simp [two])
  · rcases List.mem_append.1 hr' with hr' | hr'
    · exact hb r (List.mem_append.2 (.inl (by simp only [two, List.mem_cons]; exact .inr (hsub.subset hr'))))
    · exact hb r (List.mem_append.2 (.inr hr'))

set_option maxHeartbeats 8000000 in
set_option maxRecDepth 100000 in
theorem dropClo_c {w : World} {L : List Lgr} {H : List Hnd} {q : Int} {k ba : Nat} (hba : w.cell? ⟨ba, 0, none⟩ = some (.int .i64 k)) (hk : k < L.length) (hok : treeOk L H q = true)
    (W : World) (lo bc : Nat) (v1 v2 : Value) (rs : List Row) (hp : CloPre w lo bc W v1 v2 rs L H q) :
    Calls Try.prog 52 #[.pointer (some ⟨bc, 0, none⟩), .pointer (some ⟨ba, 0, none⟩)] W (CloPost lo bc W (some (L.eraseIdx k, H, q))) := by
  obtain ⟨hb, hlo, hbc, hkb, hs, hr, hap, hd⟩ := hp
  obtain ⟨_, _, _, h8, _, _⟩ := tree_names hok
  have HD := hid (sub_fit hd (List.eraseIdx_sublist L k) (List.Sublist.refl H))
  have hbaw : ba < w.heap.size := World.block_lt_of_cell? w _ hba
  obtain ⟨u1, u2, ls, hs', e, h1, h2, h3⟩ := hs
  have e' : v1 = u1 ∧ v2 = u2 := by simpa using e
  obtain ⟨rfl, rfl⟩ := e'
  subst h3
  have hll : ls.length = L.length := by rw [← h1]; simp [lsOf]
  have hkl : k < ls.length := by omega
  obtain ⟨m, hm⟩ : ∃ m, m + 1 = ls.length := ⟨ls.length - 1, by omega⟩
  obtain ⟨hl, hh⟩ := hr.lsIn
  obtain ⟨A, c, rfl, hnc, hcm⟩ := hl.1.form
  obtain ⟨A4, c4, rfl, _, _⟩ := hh.1.form
  have hr0 := hr
  rw [treeRows_eq] at hr0
  have hown : W.ownsRow lo 49 6 (.slice A ls.length c) ls.length (ls.flatMap lcells) := hr.1 ⟨49, 6, ls.length, .slice A ls.length c, ls.flatMap lcells⟩ (by rw [treeRows_eq]; simp [two])
  obtain ⟨g, rfl, hglt⟩ := own_some hown (by omega)
  have hgl : lo ≤ g := (hown.lt g rfl).1
  have hgb : g ≠ bc := fun e => hap ⟨49, 6, ls.length, .slice (some ⟨g, 0, none⟩) ls.length c, ls.flatMap lcells⟩ (by rw [treeRows_eq]; simp [two]) (by rw [← e]; rfl)
  have hga : g ≠ ba := by omega
  have hbca : bc ≠ ba := by omega
  have HONE := hid (treeL_slices hr).1
  rw [← hm] at hown
  have CD := hid (deleteLgr_c (k := k) hown.drew (by omega) HONE.out (by omega))
  have HR := hid hr
  have HAP := hid hap
  have HKB := hid hkb
  have HL := hid (And.intro h1 h2)
  have HM := hid (And.intro hm hkl)
  have HLO := hid (And.intro hlo hbc)
  have HLw := hid (show lo ≤ W.heap.size by have := hkb.1; omega)
  have oa : W.cell? ⟨ba, 0, none⟩ = some (.int .i64 k) := (hb.cell (p := ⟨ba, 0, none⟩) hbaw).trans hba
  have od : W.drew.cell? ⟨bc, 0, none⟩ = some (.slice (some ⟨g, 0, none⟩) (m + 1) c) := by rw [hm]; exact (hkb.2 0 _ rfl).1
  have hm8 : m ≤ 64 := by omega
  have s0 : IntKind.i64.wrap ((k : Int) + 1) = (k : Int) + 1 := by rw [IntKind.wrap_i64]; omega
  clear hl hh hr0 hr hap hkb hd h1 h2 e hb hba hok hll hkl hm h8 hown hlo hbc
  go_enter Try.func52, Try.ntmps52
  go_wp2_with fail
  refine wp_region_held_drew (S := (fun w' : World => w'.cell? ⟨ba, 0, none⟩ = some (.int .i64 k))) (by kernel_rfl) oa (fun hS => ?_)
  refine wpAnyH_take (i := 0) (oi := ?oi117) (v := ?v117) ?hi117 (by kernel_rfl) ?hf117 ?hr117 ?hQ117 (Or.inl ⟨?hw117, ?hy117⟩) (by assumption) ?rest117
  case hi117 => simp only [List.getElem?_toArray, List.getElem?_cons_succ, List.getElem?_cons_zero]; rfl
  case hf117 => kernel_rfl
  case hr117 => kernel_rfl
  case hw117 => rfl
  case hy117 => (intro w hSw; (try dsimp only at hSw); go_simp; all_goals (first | done | with_reducible rfl))
  case hQ117 => exact fun _ _ _ h => h
  simp only [Act.put, List.setIfInBounds_toArray, List.set_cons_zero, List.set_cons_succ]
  refine wpAnyH_take (i := 1) (oi := ?oi118) (v := ?v118) ?hi118 (by kernel_rfl) ?hf118 ?hr118 ?hQ118 (Or.inl ⟨?hw118, ?hy118⟩) (by assumption) ?rest118
  case hi118 => simp only [List.getElem?_toArray, List.getElem?_cons_succ, List.getElem?_cons_zero]; rfl
  case hf118 => kernel_rfl
  case hr118 => kernel_rfl
  case hw118 => rfl
  case hy118 => (intro w hSw; (try dsimp only at hSw); go_simp; all_goals (first | done | with_reducible rfl))
  case hQ118 => exact fun _ _ _ h => h
  simp only [Act.put, List.setIfInBounds_toArray, List.set_cons_zero, List.set_cons_succ]
  refine wpAnyH_take (i := 2) (oi := ?oi119) (v := ?v119) ?hi119 (by kernel_rfl) ?hf119 ?hr119 ?hQ119 (Or.inl ⟨?hw119, ?hy119⟩) (by assumption) ?rest119
  case hi119 => simp only [List.getElem?_toArray, List.getElem?_cons_succ, List.getElem?_cons_zero]; rfl
  case hf119 => kernel_rfl
  case hr119 => kernel_rfl
  case hw119 => rfl
  case hy119 => (intro w hSw; (try dsimp only at hSw); go_simp; all_goals (first | done | with_reducible rfl))
  case hQ119 => exact fun _ _ _ h => h
  simp only [Act.put, List.setIfInBounds_toArray, List.set_cons_zero, List.set_cons_succ]
  refine wpAnyH_take (i := 3) (oi := ?oi120) (v := ?v120) ?hi120 (by kernel_rfl) ?hf120 ?hr120 ?hQ120 (Or.inl ⟨?hw120, ?hy120⟩) (by assumption) ?rest120
  case hi120 => simp only [List.getElem?_toArray, List.getElem?_cons_succ, List.getElem?_cons_zero]; rfl
  case hf120 => kernel_rfl
  case hr120 => kernel_rfl
  case hw120 => rfl
  case hy120 => (intro w hSw; (try dsimp only at hSw); go_simp; all_goals (first | done | with_reducible rfl))
  case hQ120 => exact fun _ _ _ h => h
  simp only [Act.put, List.setIfInBounds_toArray, List.set_cons_zero, List.set_cons_succ]
  refine wpAnyH_take (i := 5) (oi := ?oi121) (v := ?v121) ?hi121 (by kernel_rfl) ?hf121 ?hr121 ?hQ121 (Or.inl ⟨?hw121, ?hy121⟩) (by assumption) ?rest121
  case hi121 => simp only [List.getElem?_toArray, List.getElem?_cons_succ, List.getElem?_cons_zero]; rfl
  case hf121 => kernel_rfl
  case hr121 => kernel_rfl
  case hw121 => rfl
  case hy121 => (intro w hSw; (try dsimp only at hSw); go_simp; all_goals (first | done | with_reducible rfl))
  case hQ121 => exact fun _ _ _ h => h
  simp only [Act.put, List.setIfInBounds_toArray, List.set_cons_zero, List.set_cons_succ]
  refine wpAnyH_take (i := 6) (oi := ?oi122) (v := ?v122) ?hi122 (by kernel_rfl) ?hf122 ?hr122 ?hQ122 (Or.inl ⟨?hw122, ?hy122⟩) (by assumption) ?rest122
  case hi122 => simp only [List.getElem?_toArray, List.getElem?_cons_succ, List.getElem?_cons_zero]; rfl
  case hf122 => kernel_rfl
  case hr122 => kernel_rfl
  case hw122 => rfl
  case hy122 => (intro w hSw; (try dsimp only at hSw); go_simp; all_goals (first | done | with_reducible rfl))
  case hQ122 => exact fun _ _ _ h => h
  simp only [Act.put, List.setIfInBounds_toArray, List.set_cons_zero, List.set_cons_succ]
  refine wpAnyH_take (i := 7) (oi := ?oi123) (v := ?v123) ?hi123 (by kernel_rfl) ?hf123 ?hr123 ?hQ123 (Or.inl ⟨?hw123, ?hy123⟩) (by assumption) ?rest123
  case hi123 => simp only [List.getElem?_toArray, List.getElem?_cons_succ, List.getElem?_cons_zero]; rfl
  case hf123 => kernel_rfl
  case hr123 => kernel_rfl
  case hw123 => rfl
  case hy123 => (intro w hSw; (try dsimp only at hSw); go_simp; all_goals (first | done | with_reducible rfl))
  case hQ123 => exact fun _ _ _ h => h
  simp only [Act.put, List.setIfInBounds_toArray, List.set_cons_zero, List.set_cons_succ]
  refine wpAnyH_ready (rs := [4]) (by kernel_rfl) (by simp) ?_
  refine AllReadyH.cons (o := ?oi124) ?hi124 (fun K hK => ?step124) AllReadyH.nil
  case hi124 => simp only [List.getElem?_toArray, List.getElem?_cons_succ, List.getElem?_cons_zero]; rfl
  rw [if_pos (by rfl)]
  go_simp
  refine hK.out _ _ hS (fun hS => ?_)
  refine wpAnyH_ready (rs := [8]) (by kernel_rfl) (by simp) ?_
  refine AllReadyH.cons (o := ?oi125) ?hi125 (fun K hK => ?step125) AllReadyH.nil
  case hi125 => simp only [List.getElem?_toArray, List.getElem?_cons_succ, List.getElem?_cons_zero]; rfl
  rw [if_pos (by rfl)]
  go_simp
  go_at_call 53
  refine (CD.out).mono ?_
  rintro e w1 ⟨rfl, ho1, hg1⟩
  have HG1 := hid (show W.grownBy w1 (some g) from grown2 (grown_dr W _) hg1)
  have HK1 := hid (HKB.out.kept HG1.out (show some bc ≠ some g from fun e => hgb (Option.some.inj e).symm))
  obtain ⟨hR1, hoff⟩ := tree_del rfl HM.out.2 HM.out.1 HR.out ho1 HG1.out rfl
  have HR1 := hid (hR1.off (j := 0) (u := .slice (some ⟨g, 0, none⟩) m c) (hoff bc HAP.out))
  have HB1 := hid (show Below lo W w1 from (Below.refl lo W).grown HG1.out HLw.out (fun z hz => by obtain rfl := Option.some.inj hz; exact hgl))
  have oa1 : w1.cell? ⟨ba, 0, none⟩ = some (.int .i64 k) := (World.cell?_of_block (HG1.out.block ba (World.block_lt_of_cell? _ _ oa) (fun e => hga (Option.some.inj e).symm))).trans oa
  refine hK.out _ _ oa1 (fun hS => ?_)
  refine wpAnyH_take (i := 9) (oi := ?oi126) (v := ?v126) ?hi126 (by kernel_rfl) ?hf126 ?hr126 ?hQ126 (Or.inl ⟨?hw126, ?hy126⟩) (by assumption) ?rest126
  case hi126 => simp only [List.getElem?_toArray, List.getElem?_cons_succ, List.getElem?_cons_zero]; rfl
  case hf126 => kernel_rfl
  case hr126 => kernel_rfl
  case hw126 => rfl
  case hy126 => (intro w hSw; (try dsimp only at hSw); go_simp; all_goals (first | done | with_reducible rfl))
  case hQ126 => exact fun _ _ _ h => h
  simp only [Act.put, List.setIfInBounds_toArray, List.set_cons_zero, List.set_cons_succ]
  refine wpAnyH_take (i := 10) (oi := ?oi127) (v := ?v127) ?hi127 (by kernel_rfl) ?hf127 ?hr127 ?hQ127 (Or.inl ⟨?hw127, ?hy127⟩) (by assumption) ?rest127
  case hi127 => simp only [List.getElem?_toArray, List.getElem?_cons_succ, List.getElem?_cons_zero]; rfl
  case hf127 => kernel_rfl
  case hr127 => kernel_rfl
  case hw127 => rfl
  case hy127 => (intro w hSw; (try dsimp only at hSw); go_simp; all_goals (first | done | with_reducible rfl))
  case hQ127 => exact fun _ _ _ h => h
  simp only [Act.put, List.setIfInBounds_toArray, List.set_cons_zero, List.set_cons_succ]
  have o9 := (HK1.out.2 0 _ rfl).1
  have o9f := (HK1.out.2 0 _ rfl).2
  refine wpAnyH_ready (rs := [11]) (by kernel_rfl) (by simp) ?_
  refine AllReadyH.cons (o := ?oi128) ?hi128 (fun K hK => ?step128) AllReadyH.nil
  case hi128 => simp only [List.getElem?_toArray, List.getElem?_cons_succ, List.getElem?_cons_zero]; rfl
  rw [if_pos (by rfl)]
  go_simp
  refine hK.out _ _ ((World.cell?_setCell_far _ _ _ _ hbca).trans oa1) (fun hS => ?_)
  refine wpAnyH_done (by kernel_rfl) ?_ _
  clear oa od oa1 o9 o9f hS ho1 hg1 hR1 hoff
  have hlob := HLO.out.2
  go_wp2_with fail
  go_ret
  refine ⟨HB1.out.setCell hlob _, rfl, fun x hx => ?_⟩
  obtain rfl := Option.some.inj hx
  exact ⟨_, _, _, _, _, _, _, HK1.out.set 0 _, ⟨_, _, ls.eraseIdx k, hs', rfl, by rw [lsOf_erase, HL.out.1], HL.out.2, rfl⟩, HR1.out, HD.out⟩

set_option maxHeartbeats 4000000 in
set_option maxRecDepth 100000 in
theorem implDropLogger_c {w : World} {B : Nat} {v : Value} {L : List Lgr} {H : List Hnd} {q : Int} (s : ByteArray) (h : TreeIn w B v L H q) (hB : B ≤ w.heap.size) :
    Calls Try.prog 15 #[v, .string s] w (TreePostO w (dropX L H q s.data.toList)) := by
  have C := fun (W : World) (hW : Below w.heap.size w W) => implLoggerAtX_c s (h.below hW hB) (Nat.le_trans hB hW.size)
  have CH := hid (fun (W : World) (hW : Below w.heap.size w W) => h.below hW hB)
  obtain ⟨A1, n1, k1, A2, n2, k2, rfl⟩ := h.form
  have hmf : ∀ (fn : Fn) (first cap : Array Value) (w : World), (Instr.makeFunc fn first cap).run Try.prog w = .ok (.func fn first cap) w := fun _ _ _ _ => rfl
  clear h
  by_cases hneg : (if treeOk L H q then idxL (namesOf L) s.data.toList else -1) ≤ 0
  · have HE := hid (show dropX L H q s.data.toList = none by
      unfold dropX
      by_cases hz : treeOk L H q = true
      · rw [if_pos hz] at hneg; rw [if_pos hneg]
      · unfold changedO; rw [if_neg hz]; split <;> rfl)
    generalize (if treeOk L H q then idxL (namesOf L) s.data.toList else -1) = z at C hneg
    replace C := hid C
    clear CH
    go_enter Try.func15, Try.ntmps15
    go_wp2_with fail
    refine (C.out _ ?_).mono ?_
    case refine_1 => go_grown
    rintro e w1 ⟨rfl, hb1⟩
    have K1 := ((Blk.new _ _ _).to hb1)
    simp only [World.size_alloc] at K1
    have HK1 := hid K1
    have HB1 := hid (Below.trans (by go_grown) (hb1.mono (by simp; try omega)) : Below w.heap.size w w1)
    have HK2 := hid (HK1.out.alloc (.cells #[.int .i64 z] 3))
    have HB2 := hid (HB1.out.alloc HB1.out.size (.cells #[.int .i64 z] 3))
    obtain ⟨q0c, q0f⟩ := HK2.out.2 0 _ rfl
    obtain ⟨q1c, q1f⟩ := HK2.out.2 1 _ rfl
    obtain ⟨q2c, q2f⟩ := HK2.out.2 2 _ rfl
    clear hb1 K1
    go_wp2_with fail
    have RB := ((HK2.out.set 0 (.slice none 0 0)).set 1 (.slice none 0 0)).set 2 (.int .i64 0)
    have f0 := (RB.2 0 _ rfl).1
    have f1 := (RB.2 1 _ rfl).1
    have f2 := (RB.2 2 _ rfl).1
    refine bodyPost_ret (v := .tuple #[.agg #[.slice none 0 0, .slice none 0 0, .int .i64 0], .bool false]) (by simp [results, Try.results15, go_sem, f0, f1, f2]) rfl ?_
    refine postO_none HE.out rfl ?_
    iterate 3 refine Below.setCell ?_ (by simp; try omega) _
    exact HB2.out
  · obtain ⟨k, hzk⟩ : ∃ k : Nat, (if treeOk L H q then idxL (namesOf L) s.data.toList else -1) = (k : Int) := ⟨_, (Int.toNat_of_nonneg (by omega)).symm⟩
    have hzt : treeOk L H q = true := by
      by_cases hz : treeOk L H q = true
      · exact hz
      · rw [if_neg hz] at hneg; omega
    rw [hzk] at C hneg
    rw [if_pos hzt] at hzk
    have hkl : k < L.length := by have := (idx_nat hzk).1; simpa [namesOf] using this
    have HE := hid (show dropX L H q s.data.toList = changedO L H q (some (L.eraseIdx k, H, q)) by unfold dropX; rw [hzk, if_neg hneg]; rfl)
    have HZ := hid hzt
    replace C := hid C
    clear hzk hzt
    generalize hX : dropX L H q s.data.toList = X at HE ⊢
    clear hX
    go_enter Try.func15, Try.ntmps15
    go_wp2_with fail
    refine (C.out _ ?_).mono ?_
    case refine_1 => go_grown
    rintro e w1 ⟨rfl, hb1⟩
    have K0 := (((Blk.new _ _ _).alloc _).to hb1)
    have K1 := ((Blk.new _ _ _).to hb1)
    simp only [World.size_alloc] at K0 K1
    have HB1 := hid (Below.trans (by go_grown) (hb1.mono (by simp; try omega)) : Below w.heap.size w w1)
    have hw1 : w.heap.size + 2 ≤ w1.heap.size := by have := hb1.size; simp at this; omega
    have HW := hid (show Below w.heap.size w (w1.alloc (.cells #[.int .i64 k] 3)) from HB1.out.alloc HB1.out.size _)
    have HKA := hid (Blk.new w1 #[.int .i64 k] 3)
    have HK2 := hid (K1.alloc (.cells #[.int .i64 k] 3))
    have CQ := hid (implChanged1_c 52 (.pointer (some ⟨w1.heap.size, 0, none⟩)) (some (L.eraseIdx k, H, q)) (CH.out _ HW.out) (Nat.le_trans hB HW.out.size) (fun args w => enters rfl (by kernel_rfl) rfl args w)
      (fun W lo bc v1 v2 rs _ hp => dropClo_c (HKA.out.2 0 _ rfl).1 hkl HZ.out W lo bc v1 v2 rs hp))
    have K0' := K0.alloc (.cells #[.int .i64 k] 3)
    have d0 := (K0'.2 0 _ rfl).1
    have d1 := (K0'.2 1 _ rfl).1
    have d2 := (K0'.2 2 _ rfl).1
    clear hb1 K0 K0' K1
    go_wp2_with fail
    refine (CQ.out).mono ?_
    rintro e w2 ⟨v', rs, rfl, hs, hr, hb2⟩
    have HX' := hid (show changedO L H q (some (L.eraseIdx k, H, q)) = X from HE.out.symm)
    rw [HX'.out] at hs
    obtain ⟨u1, u2, ls, hs', rfl, hL, hH, rfl⟩ := hs
    have KR1 := hid (HK2.out.to hb2)
    have HB2 := hid (HW.out.trans (hb2.mono HW.out.size))
    have HR1 := hid (hr.base (show w.heap.size + 2 ≤ _ by simp; omega))
    have HS1 := hid (show TreeS (treeRows ls.length u1 ls hs'.length u2 hs') (.agg #[u1, u2, .int .i64 (resQ X)]) (resL X) (resH X) (resQ X) from ⟨u1, u2, ls, hs', rfl, hL, hH, rfl⟩)
    obtain ⟨hl, hh⟩ := hr.lsIn
    obtain ⟨A3, c3, rfl, _, _⟩ := hl.1.form
    obtain ⟨A4, c4, rfl, _, _⟩ := hh.1.form
    obtain ⟨q0c, q0f⟩ := KR1.out.2 0 _ rfl
    obtain ⟨q1c, q1f⟩ := KR1.out.2 1 _ rfl
    obtain ⟨q2c, q2f⟩ := KR1.out.2 2 _ rfl
    generalize hq0 : resQ X = q0 at *
    generalize hi0 : (changedO L H q (some (L.eraseIdx k, H, q))).isSome = i0 at *
    have HI := hid (show X.isSome = i0 by rw [← HX'.out]; exact hi0)
    have HQ0 := hid hq0
    clear hq0 hi0 hb2 hr hl hh hL hH
    go_wp2_with fail
    have RB := ((KR1.out.set 0 (.slice A3 ls.length c3)).set 1 (.slice A4 hs'.length c4)).set 2 (.int .i64 q0)
    have f0 := (RB.2 0 _ rfl).1
    have f1 := (RB.2 1 _ rfl).1
    have f2 := (RB.2 2 _ rfl).1
    refine bodyPost_ret (v := .tuple #[.agg #[.slice A3 ls.length c3, .slice A4 hs'.length c4, .int .i64 q0], .bool i0]) (by simp [results, Try.results15, go_sem, f0, f1, f2]) rfl ?_
    refine ⟨_, _, by rw [HI.out], (by rw [HQ0.out]; exact HS1.out), ?_, ?_⟩
    · refine Rows.base ?_ (show w.heap.size ≤ w.heap.size + 2 by omega)
      iterate 3 refine Rows.low ?_ (by omega)
      exact HR1.out
    · iterate 3 refine Below.setCell ?_ (by simp; try omega) _
      exact HB2.out

set_option maxHeartbeats 8000000 in
set_option maxRecDepth 100000 in
theorem specDropLogger_c {w : World} {B : Nat} {v : Value} {L : List Lgr} {H : List Hnd} {q : Int} (s : ByteArray) (h : TreeIn w B v L H q) (hB : B ≤ w.heap.size) :
    Calls Try.prog 13 #[v, .string s] w (TreePostO w (dropX L H q s.data.toList)) := by
  have C := hid (fun (W : World) (hW : Below w.heap.size w W) => specTreeX_c (h.below hW hB) (Nat.le_trans hB hW.size))
  obtain ⟨A1, n1, k1, A2, n2, k2, rfl⟩ := h.form
  obtain ⟨ls, hl, hL⟩ := h.loggers
  have AT := fun (W : World) (hW : Below w.heap.size w W) => loggerAt_c (.slice A1 n1 k1) n1 B ls s W (hl.below hW hB)
  have hN : lnames ls = namesOf L := by rw [← hL, namesOf_ls]
  rw [hN] at AT
  clear hN hl hL
  cases hz : treeOk L H q with
  | false =>
    have HE := hid (show dropX L H q s.data.toList = none by unfold dropX changedO; rw [hz]; split <;> rfl)
    generalize idxL (namesOf L) s.data.toList = z at AT
    replace AT := hid AT
    rw [hz] at C
    clear h hz
    go_enter Try.func13, Try.ntmps13
    go_wp2_with (go_at_call 46; refine (AT.out _ (by go_grown)).mono ?_; rintro e w2 ⟨rfl, hw2⟩; have hw2 := hw2.symm; subst hw2)
    refine (C.out _ ?_).mono ?_
    case refine_1 => go_grown
    rintro e w1 ⟨rfl, hb1⟩
    have K1 := ((Blk.new _ _ _).to hb1)
    simp only [World.size_alloc] at K1
    have HK1 := hid K1
    have HB1 := hid (Below.trans (by go_grown) (hb1.mono (by simp; try omega)) : Below w.heap.size w w1)
    obtain ⟨q0c, q0f⟩ := HK1.out.2 0 _ rfl
    obtain ⟨q1c, q1f⟩ := HK1.out.2 1 _ rfl
    obtain ⟨q2c, q2f⟩ := HK1.out.2 2 _ rfl
    clear hb1 K1
    go_wp2_with fail
    have RB := ((HK1.out.set 0 (.slice none 0 0)).set 1 (.slice none 0 0)).set 2 (.int .i64 0)
    have f0 := (RB.2 0 _ rfl).1
    have f1 := (RB.2 1 _ rfl).1
    have f2 := (RB.2 2 _ rfl).1
    refine bodyPost_ret (v := .tuple #[.agg #[.slice none 0 0, .slice none 0 0, .int .i64 0], .bool false]) (by simp [results, Try.results13, go_sem, f0, f1, f2]) rfl ?_
    refine postO_none HE.out rfl ?_
    iterate 3 refine Below.setCell ?_ (by simp) _
    exact HB1.out
  | true =>
   by_cases hneg : idxL (namesOf L) s.data.toList ≤ 0
   · have HE := hid (show dropX L H q s.data.toList = none by unfold dropX; rw [if_pos hneg])
     generalize idxL (namesOf L) s.data.toList = z at AT hneg
     have hneg' : z < 1 := by omega
     replace AT := hid AT
     rw [hz] at C
     clear h hz hneg
     go_enter Try.func13, Try.ntmps13
     go_wp2_with (go_at_call 46; refine (AT.out _ (by go_grown)).mono ?_; rintro e w2 ⟨rfl, hw2⟩; have hw2 := hw2.symm; subst hw2)
     refine (C.out _ ?_).mono ?_
     case refine_1 => go_grown
     rintro e w1 ⟨rfl, hb1⟩
     have K1 := ((Blk.new _ _ _).to hb1)
     simp only [World.size_alloc] at K1
     have HK1 := hid K1
     have HB1 := hid (Below.trans (by go_grown) (hb1.mono (by simp; try omega)) : Below w.heap.size w w1)
     obtain ⟨q0c, q0f⟩ := HK1.out.2 0 _ rfl
     obtain ⟨q1c, q1f⟩ := HK1.out.2 1 _ rfl
     obtain ⟨q2c, q2f⟩ := HK1.out.2 2 _ rfl
     clear hb1 K1
     go_wp2_with fail
     have RB := ((HK1.out.set 0 (.slice none 0 0)).set 1 (.slice none 0 0)).set 2 (.int .i64 0)
     have f0 := (RB.2 0 _ rfl).1
     have f1 := (RB.2 1 _ rfl).1
     have f2 := (RB.2 2 _ rfl).1
     refine bodyPost_ret (v := .tuple #[.agg #[.slice none 0 0, .slice none 0 0, .int .i64 0], .bool false]) (by simp [results, Try.results13, go_sem, f0, f1, f2]) rfl ?_
     refine postO_none HE.out rfl ?_
     iterate 3 refine Below.setCell ?_ (by simp) _
     exact HB1.out
   · obtain ⟨k, hzk⟩ : ∃ k : Nat, idxL (namesOf L) s.data.toList = (k : Int) := ⟨_, (Int.toNat_of_nonneg (by omega)).symm⟩
     have hkl : k < L.length := by have := (idx_nat hzk).1; simpa [namesOf] using this
     have hk0 : 0 < k := by omega
     have HN := hid (drop_some hz hzk hk0)
     rw [hzk] at AT
     replace AT := hid AT
     have HD := hid (fit_ok hz)
     have HZ := hid hz
     have CC := hid (fun (W : World) (hW : Below w.heap.size w W) => specCopy_c (h.below hW hB) hz (Nat.le_trans hB hW.size))
     obtain ⟨_, _, _, h8, _, _⟩ := tree_names hz
     rw [hz] at C
     clear h hz hneg hzk
     go_enter Try.func13, Try.ntmps13
     go_wp2_with (go_at_call 46; refine (AT.out _ (by go_grown)).mono ?_; rintro e w2 ⟨rfl, hw2⟩; have hw2 := hw2.symm; subst hw2)
     refine (C.out _ ?_).mono ?_
     case refine_1 => go_grown
     rintro e w1 ⟨rfl, hb1⟩
     have K0 := (((Blk.new _ _ _).alloc _).to hb1)
     have K1 := ((Blk.new _ _ _).to hb1)
     simp only [World.size_alloc] at K0 K1
     have HK0 := hid K0
     have HK1 := hid K1
     have HB1 := hid (Below.trans (by go_grown) (hb1.mono (by simp; try omega)) : Below w.heap.size w w1)
     have hsz1 : w.heap.size + 2 ≤ w1.heap.size := by have := hb1.size; simp at this; omega
     have d0 := (HK0.out.2 0 _ rfl).1
     have d1 := (HK0.out.2 1 _ rfl).1
     have d2 := (HK0.out.2 2 _ rfl).1
     have hk1 : ¬ (k : Int) < 1 := by omega
     clear hb1 K0 K1
     go_wp2_with fail
     refine (CC.out _ HB1.out).mono ?_
     rintro e w2 ⟨v', rs, rfl, hs, hr, hb2⟩
     obtain ⟨u1, u2, ls, hs', rfl, h1, h2, rfl⟩ := hs
     have hll : ls.length = L.length := by rw [← h1]; simp [lsOf]
     have hkl2 : k < ls.length := by omega
     obtain ⟨m, hm⟩ : ∃ m, m + 1 = ls.length := ⟨ls.length - 1, by omega⟩
     obtain ⟨hl, hh⟩ := hr.lsIn
     obtain ⟨A, c, rfl, hnc, hcm⟩ := hl.1.form
     obtain ⟨A4, c4, rfl, _, _⟩ := hh.1.form
     have hown : w2.ownsRow w1.heap.size 49 6 (.slice A ls.length c) ls.length (ls.flatMap lcells) := hr.1 ⟨49, 6, ls.length, .slice A ls.length c, ls.flatMap lcells⟩ (by rw [treeRows_eq]; simp [two])
     obtain ⟨g, rfl, hglt⟩ := own_some hown (by omega)
     have hgl : w1.heap.size ≤ g := (hown.lt g rfl).1
     have hsz12 : w1.heap.size ≤ w2.heap.size := hb2.size
     have hww1 : w.heap.size ≤ w1.heap.size := HB1.out.size
     have hgo : g ≠ w2.heap.size := by omega
     -- the world in which the copy lies in its box
     obtain ⟨i0, hi, _, hz1, _⟩ := info_parts Try.infoLogger
     have hone := (treeL_slices hr).1
     obtain ⟨A0, hA⟩ : ∃ A0 : Addr, (if c = k + 1 then (some ⟨g, 0, none⟩ : Option Addr) else some ⟨g, (k + 1) * 6, none⟩) = some A0 := by split <;> exact ⟨_, rfl⟩
     have HBA := hid (show Below w2.heap.size w2 (w2.alloc (.cells #[.slice (some ⟨g, 0, none⟩) ls.length c, .slice A4 hs'.length c4, .int .i64 q] 30)) from (Below.refl _ _).alloc (Nat.le_refl _) _)
     have HRA := hid (hr.below HBA.out.drew)
     have hownA := own_below hown HBA.out.drew
     rw [← hm] at hownA
     obtain ⟨w3, hrun, ho3, hg3⟩ := run_delete (P := Try.prog) Try.underlying27 hi hz1 hownA (by omega) (by omega) hone hA
     have HK2 := hid ((HK1.out.to hb2).alloc (.cells #[.slice (some ⟨g, 0, none⟩) ls.length c, .slice A4 hs'.length c4, .int .i64 q] 30))
     have KO := Blk.new w2 #[.slice (some ⟨g, 0, none⟩) ls.length c, .slice A4 hs'.length c4, .int .i64 q] 30
     rw [← hm] at KO HBA HK2 hnc
     have HKO3 := hid ((KO.dr 1).kept hg3 (show some w2.heap.size ≠ some g from fun e => hgo (Option.some.inj e).symm))
     have HK3 := hid ((HK2.out.dr 1).kept hg3 (show some (w.heap.size + 1) ≠ some g from fun e => by have := Option.some.inj e; omega))
     obtain ⟨hR3, hoff⟩ := tree_del rfl hkl2 hm HRA.out ho3 (by rw [← hm]; exact hg3) rfl
     have HR3 := hid (hR3.off (j := 0) (u := .slice (some ⟨g, 0, none⟩) m c) (hoff w2.heap.size (rows_below hr)))
     have HB3 := hid (show Below w1.heap.size w1 w3 from ((show Below w1.heap.size w1 w2 from hb2).trans (HBA.out.drew.mono hb2.size)).grown hg3 (Nat.le_trans hsz12 HBA.out.size) (fun z hz => by obtain rfl := Option.some.inj hz; exact hgl))
     have HRun := hid hrun
     have HL := hid (And.intro (show lsOf (ls.eraseIdx k) = L.eraseIdx k by rw [lsOf_erase, h1]) h2)
     have od : (w2.alloc (.cells #[.slice (some ⟨g, 0, none⟩) (m + 1) c, .slice A4 hs'.length c4, .int .i64 q] 30)).drew.cell? ⟨w2.heap.size, 0, none⟩ = some (.slice (some ⟨g, 0, none⟩) (m + 1) c) := (KO.2 0 _ rfl).1
     have s0 : IntKind.i64.wrap ((k : Int) + 1) = (k : Int) + 1 := by rw [IntKind.wrap_i64]; omega
     have s1 : (0 : Int) ≤ (k : Int) := by omega
     have s2 : ((k : Int)).toNat = k := by simp
     have s3 : ((k : Int) + 1).toNat = k + 1 := by omega
     have s4 : (k : Int) + 1 ≤ ((m + 1 : Nat) : Int) := by omega
     have s5 : (0 : Int) ≤ (k : Int) + 1 := by omega
     have s6 : (k : Int) ≤ (c : Int) := by omega
     have s8 : k + 1 ≤ m + 1 := by omega
     have s9 : k ≤ c := by omega
     have s10 : k ≤ m := by omega
     unfold maxLen at hcm
     rw [← hm]
     clear hb2 hr hl hh hown hownA hone hrun ho3 hg3 KO hR3 hoff h1 h2 hll hkl2 hm d0 d1 d2 h8
     go_wp2_with fail
     refine wp_region_let 11 (fun w' : World => True) (fun w' : World => w'.cell? ⟨w2.heap.size, 0, none⟩ = some (.slice (some ⟨g, 0, none⟩) (m + 1) c)) (by kernel_rfl) trivial od (fun hS => ?_)
     refine wpAnyL_take (i := 0) (oi := ?oi129) (v := ?v129) ?hi129 (by kernel_rfl) ?hf129 ?hr129 (by decide) ?hQ129 (Or.inl ⟨?hw129, ?hy129⟩) (⟨hS.1, fun h => hS.2 (by first | rfl | exact h)⟩) ?rest129
     case hi129 => simp only [List.getElem?_toArray, List.getElem?_cons_succ, List.getElem?_cons_zero]; rfl
     case hf129 => kernel_rfl
     case hr129 => kernel_rfl
     case hw129 => rfl
     case hy129 => (intro w hSw; (try dsimp only at hSw); go_simp; all_goals (first | done | with_reducible rfl))
     case hQ129 => exact fun _ _ _ h => h
     simp only [Act.put, List.setIfInBounds_toArray, List.set_cons_zero, List.set_cons_succ]
     refine wpAnyL_take (i := 2) (oi := ?oi130) (v := ?v130) ?hi130 (by kernel_rfl) ?hf130 ?hr130 (by decide) ?hQ130 (Or.inl ⟨?hw130, ?hy130⟩) (⟨hS.1, fun h => hS.2 (by first | rfl | exact h)⟩) ?rest130
     case hi130 => simp only [List.getElem?_toArray, List.getElem?_cons_succ, List.getElem?_cons_zero]; rfl
     case hf130 => kernel_rfl
     case hr130 => kernel_rfl
     case hw130 => rfl
     case hy130 => (intro w hSw; (try dsimp only at hSw); go_simp; all_goals (first | done | with_reducible rfl))
     case hQ130 => exact fun _ _ _ h => h
     simp only [Act.put, List.setIfInBounds_toArray, List.set_cons_zero, List.set_cons_succ]
     refine wpAnyL_take (i := 4) (oi := ?oi131) (v := ?v131) ?hi131 (by kernel_rfl) ?hf131 ?hr131 (by decide) ?hQ131 (Or.inl ⟨?hw131, ?hy131⟩) (⟨hS.1, fun h => hS.2 (by first | rfl | exact h)⟩) ?rest131
     case hi131 => simp only [List.getElem?_toArray, List.getElem?_cons_succ, List.getElem?_cons_zero]; rfl
     case hf131 => kernel_rfl
     case hr131 => kernel_rfl
     case hw131 => rfl
     case hy131 => (intro w hSw; (try dsimp only at hSw); go_simp; all_goals (first | done | with_reducible rfl))
     case hQ131 => exact fun _ _ _ h => h
     simp only [Act.put, List.setIfInBounds_toArray, List.set_cons_zero, List.set_cons_succ]
     refine wpAnyL_take (i := 6) (oi := ?oi132) (v := ?v132) ?hi132 (by kernel_rfl) ?hf132 ?hr132 (by decide) ?hQ132 (Or.inl ⟨?hw132, ?hy132⟩) (⟨hS.1, fun h => hS.2 (by first | rfl | exact h)⟩) ?rest132
     case hi132 => simp only [List.getElem?_toArray, List.getElem?_cons_succ, List.getElem?_cons_zero]; rfl
     case hf132 => kernel_rfl
     case hr132 => kernel_rfl
     case hw132 => rfl
     case hy132 => (intro w hSw; (try dsimp only at hSw); go_simp; all_goals (first | done | with_reducible rfl))
     case hQ132 => exact fun _ _ _ h => h
     simp only [Act.put, List.setIfInBounds_toArray, List.set_cons_zero, List.set_cons_succ]
     refine wpAnyL_take (i := 7) (oi := ?oi133) (v := ?v133) ?hi133 (by kernel_rfl) ?hf133 ?hr133 (by decide) ?hQ133 (Or.inl ⟨?hw133, ?hy133⟩) (⟨hS.1, fun h => hS.2 (by first | rfl | exact h)⟩) ?rest133
     case hi133 => simp only [List.getElem?_toArray, List.getElem?_cons_succ, List.getElem?_cons_zero]; rfl
     case hf133 => kernel_rfl
     case hr133 => kernel_rfl
     case hw133 => rfl
     case hy133 => (intro w hSw; (try dsimp only at hSw); go_simp; all_goals (first | done | with_reducible rfl))
     case hQ133 => exact fun _ _ _ h => h
     simp only [Act.put, List.setIfInBounds_toArray, List.set_cons_zero, List.set_cons_succ]
     refine wpAnyL_take1 (i := 1) (oi := ?oi134) (om := ?om134) (v := ?v134) ?hi134 (by kernel_rfl) ?hf134 ?hr134 (by decide) ?hm134 ?hd134 (by rfl) ?hQ134 (Or.inl ⟨?hw134, ?hy134⟩) (⟨hS.1, fun h => hS.2 (by first | rfl | exact h)⟩) ?rest134
     case hi134 => simp only [List.getElem?_toArray, List.getElem?_cons_succ, List.getElem?_cons_zero]; rfl
     case hm134 => simp only [List.getElem?_toArray, List.getElem?_cons_succ, List.getElem?_cons_zero]; rfl
     case hd134 => kernel_rfl
     case hf134 => kernel_rfl
     case hr134 => kernel_rfl
     case hw134 => rfl
     case hy134 => (intro w hSw; (try dsimp only at hSw); go_simp; all_goals (first | done | with_reducible rfl))
     case hQ134 => exact fun _ _ _ h => h
     simp only [Act.put, List.setIfInBounds_toArray, List.set_cons_zero, List.set_cons_succ]
     refine wpAnyL_take1 (i := 5) (oi := ?oi135) (om := ?om135) (v := ?v135) ?hi135 (by kernel_rfl) ?hf135 ?hr135 (by decide) ?hm135 ?hd135 (by rfl) ?hQ135 (Or.inl ⟨?hw135, ?hy135⟩) (⟨hS.1, fun h => hS.2 (by first | rfl | exact h)⟩) ?rest135
     case hi135 => simp only [List.getElem?_toArray, List.getElem?_cons_succ, List.getElem?_cons_zero]; rfl
     case hm135 => simp only [List.getElem?_toArray, List.getElem?_cons_succ, List.getElem?_cons_zero]; rfl
     case hd135 => kernel_rfl
     case hf135 => kernel_rfl
     case hr135 => kernel_rfl
     case hw135 => rfl
     case hy135 => (intro w hSw; (try dsimp only at hSw); go_simp; all_goals (first | done | with_reducible rfl))
     case hQ135 => exact fun _ _ _ h => h
     simp only [Act.put, List.setIfInBounds_toArray, List.set_cons_zero, List.set_cons_succ]
     refine wpAnyL_take (i := 3) (oi := ?oi136) (v := ?v136) ?hi136 (by kernel_rfl) ?hf136 ?hr136 (by decide) ?hQ136 (Or.inl ⟨?hw136, ?hy136⟩) (⟨hS.1, fun h => hS.2 (by first | rfl | exact h)⟩) ?rest136
     case hi136 => simp only [List.getElem?_toArray, List.getElem?_cons_succ, List.getElem?_cons_zero]; rfl
     case hf136 => kernel_rfl
     case hr136 => kernel_rfl
     case hw136 => rfl
     case hy136 => (intro w hSw; (try dsimp only at hSw); go_simp; all_goals (first | done | with_reducible rfl))
     case hQ136 => exact fun _ _ _ h => h
     simp only [Act.put, List.setIfInBounds_toArray, List.set_cons_zero, List.set_cons_succ]
     refine wpAnyL_take (i := 8) (oi := ?oi137) (v := ?v137) ?hi137 (by kernel_rfl) ?hf137 ?hr137 (by decide) ?hQ137 (Or.inl ⟨?hw137, ?hy137⟩) (⟨hS.1, fun h => hS.2 (by first | rfl | exact h)⟩) ?rest137
     case hi137 => simp only [List.getElem?_toArray, List.getElem?_cons_succ, List.getElem?_cons_zero]; rfl
     case hf137 => kernel_rfl
     case hr137 => kernel_rfl
     case hw137 => rfl
     case hy137 => (intro w hSw; (try dsimp only at hSw); go_simp; all_goals (first | done | with_reducible rfl))
     case hQ137 => exact fun _ _ _ h => h
     simp only [Act.put, List.setIfInBounds_toArray, List.set_cons_zero, List.set_cons_succ]
     refine wpAnyL_ready (rs := [9]) (by kernel_rfl) (by simp) ?_
     refine AllReadyL.cons (o := ?oi138) ?hi138 (fun K hK => ?step138) AllReadyL.nil
     case hi138 => simp only [List.getElem?_toArray, List.getElem?_cons_succ, List.getElem?_cons_zero]; rfl
     rw [if_pos (by rfl)]
     refine wp_app rfl (by rfl) (by rfl) HRun.out ?_
     refine hK.out _ _ ⟨trivial, fun _ => (HKO3.out.2 0 _ rfl).1⟩ (fun hS => ?_)
     simp only [Act.put, List.setIfInBounds_toArray, List.set_cons_zero, List.set_cons_succ]
     refine wpAnyL_take (i := 10) (oi := ?oi139) (v := ?v139) ?hi139 (by kernel_rfl) ?hf139 ?hr139 (by decide) ?hQ139 (Or.inl ⟨?hw139, ?hy139⟩) (⟨hS.1, fun h => hS.2 (by first | rfl | exact h)⟩) ?rest139
     case hi139 => simp only [List.getElem?_toArray, List.getElem?_cons_succ, List.getElem?_cons_zero]; rfl
     case hf139 => kernel_rfl
     case hr139 => kernel_rfl
     case hw139 => rfl
     case hy139 => (intro w hSw; (try dsimp only at hSw); go_simp; all_goals (first | done | with_reducible rfl))
     case hQ139 => exact fun _ _ _ h => h
     simp only [Act.put, List.setIfInBounds_toArray, List.set_cons_zero, List.set_cons_succ]
     have o9 := (HKO3.out.2 0 _ rfl).1
     have o9f := (HKO3.out.2 0 _ rfl).2
     refine wpAnyL_ready (rs := [11]) (by kernel_rfl) (by simp) ?_
     refine AllReadyL.cons (o := ?oi140) ?hi140 (fun K hK => ?step140) AllReadyL.nil
     case hi140 => simp only [List.getElem?_toArray, List.getElem?_cons_succ, List.getElem?_cons_zero]; rfl
     rw [if_pos (by rfl)]
     go_simp
     refine hK.out _ _ ⟨trivial, fun h => absurd h (by decide)⟩ (fun hS => ?_)
     refine wpAnyL_done (by kernel_rfl) ?_ _
     clear o9 o9f od hS
     have HKO4 := hid (HKO3.out.set 0 (.slice (some ⟨g, 0, none⟩) m c))
     have HK4 := hid (HK3.out.apart ⟨w2.heap.size, 0, none⟩ (.slice (some ⟨g, 0, none⟩) m c) (show w2.heap.size ≠ w.heap.size + 1 by omega))
     have HB4 := hid (HB1.out.trans ((HB3.out.setCell (p := ⟨w2.heap.size, 0, none⟩) hsz12 (.slice (some ⟨g, 0, none⟩) m c)).mono hww1))
     generalize w3.setCell ⟨w2.heap.size, 0, none⟩ (.slice (some ⟨g, 0, none⟩) m c) = w4 at *
     have b0 := (HKO4.out.2 0 _ rfl).1
     have b1 := (HKO4.out.2 1 _ rfl).1
     have b2 := (HKO4.out.2 2 _ rfl).1
     obtain ⟨q0c, q0f⟩ := HK4.out.2 0 _ rfl
     obtain ⟨q1c, q1f⟩ := HK4.out.2 1 _ rfl
     obtain ⟨q2c, q2f⟩ := HK4.out.2 2 _ rfl
     go_wp2_with fail
     have RB := ((HK4.out.set 0 (.slice (some ⟨g, 0, none⟩) m c)).set 1 (.slice A4 hs'.length c4)).set 2 (.int .i64 q)
     have f0 := (RB.2 0 _ rfl).1
     have f1 := (RB.2 1 _ rfl).1
     have f2 := (RB.2 2 _ rfl).1
     refine bodyPost_ret (v := .tuple #[.agg #[.slice (some ⟨g, 0, none⟩) m c, .slice A4 hs'.length c4, .int .i64 q], .bool true]) (by simp [results, Try.results13, go_sem, f0, f1, f2]) rfl ?_
     rw [HN.out]
     refine ⟨_, _, rfl, ⟨_, _, ls.eraseIdx k, hs', rfl, HL.out.1, HL.out.2, rfl⟩, ?_, ?_⟩
     · refine Rows.base ?_ hww1
       iterate 3 refine Rows.low ?_ (by omega)
       exact HR3.out
     · iterate 3 refine Below.setCell ?_ (by simp) _
       exact HB4.out
end Go.Proofs.Yteoblmhbjmefoaa

/-
  detach: a handler taken away from a logger of a tree of the call's own.
-/
namespace Go.Proofs.Yteoblmhbjmefoaa
open Go.RowKit Nm
set_option linter.unusedSimpArgs false
set_option linter.unusedVariables false

theorem two_apart {w : World} {lo n c g k : Nat} {ls : List LgrV} {post : List Row} {x : LgrV} (h : Rows w lo ([] ++ two 49 6 n (.slice (some ⟨g, 0, none⟩) n c) lcells lrows ls ++ post)) (hx : ls[k]? = some x) : some g ≠ x.hv.ownBlock := by
  have h2 := h.2
  rw [List.nil_append, two, List.cons_append] at h2
  have := (List.pairwise_cons.1 h2).1 ⟨9, 1, x.hn, x.hv, x.l.hs.map txt⟩ (List.mem_append.2 (.inl (List.mem_flatMap.2 ⟨x, List.mem_of_getElem? hx, by simp [lrows]⟩)))
  rcases this.1 with h0 | h0
  · cases h0
  · exact h0

set_option maxHeartbeats 8000000 in
set_option maxRecDepth 100000 in
theorem detach_c {W : World} {lo n c g k : Nat} {ls : List LgrV} {post : List Row} {x : LgrV} (s : ByteArray) (hR : Rows W lo ([] ++ two 49 6 n (.slice (some ⟨g, 0, none⟩) n c) lcells lrows ls ++ post)) (hx : ls[k]? = some x) (hn : x.l.hs.length ≤ 64) (hlo : lo ≤ W.heap.size) :
    Calls Try.prog 65 #[.pointer (some ⟨g, k * 6, none⟩), .string s] W (fun e w' => e = .returned (.tuple #[]) ∧ ∃ v', v'.ownBlock = x.hv.ownBlock ∧
      Rows w' lo ([] ++ two 49 6 n (.slice (some ⟨g, 0, none⟩) n c) lcells lrows (ls.set k ⟨woL s.data.toList x.l, v', (x.l.hs.filter (notS s.data.toList)).length, x.fv, x.fn⟩) ++ post) ∧ Below lo W w' ∧ ∀ b cs, b ≠ g → some b ≠ x.hv.ownBlock → Blk W b cs → Blk w' b cs) := by
  have hgx := two_apart hR hx
  have own6 : W.ownsRow lo 9 1 x.hv x.hn (x.l.hs.map txt) := hR.sub_ hx (r := ⟨9, 1, x.hn, x.hv, x.l.hs.map txt⟩) (by simp [lrows])
  have o2 := hR.cell_at (j := 2) lcells_len hx rfl
  have hgl : lo ≤ g := (hR.top.lt g rfl).1
  have hgw : g < W.heap.size := (hR.top.lt g rfl).2
  have hba : Below W.heap.size W (W.alloc (.cells #[.string s] 9)) := (Below.refl _ _).alloc (Nat.le_refl _) _
  have hxn : x.hn ≤ 64 := by have := own6.1; simp at this; omega
  have hne : x.hv.ownBlock ≠ some W.heap.size := fun e => by have := (own6.lt _ e).2; omega
  have CD := hid (deleteTxt_c (bx := W.heap.size) s (own_below own6 hba) hxn (Nat.le_trans hlo hba.size) (by simp) hne)
  obtain ⟨A6, c6, e6, _, _⟩ := (Sl.of_own own6).form
  have HX := hid hx
  have HG := hid (And.intro hgx hne)
  have HRa := hid (hR.below hba)
  have HBa := hid hba
  have HO2 := hid o2
  have HE6 := hid e6
  have m0 : W.cell? ⟨g, k * 6 + 2, none⟩ = some (.slice A6 x.hn c6) := by rw [← e6]; exact o2.1
  have hmf : ∀ (fn : Fn) (first cap : Array Value) (w : World), (Instr.makeFunc fn first cap).run Try.prog w = .ok (.func fn first cap) w := fun _ _ _ _ => rfl
  rw [e6] at CD
  clear hx hgx own6 o2 hba hne e6 hR
  go_enter Try.func65, Try.ntmps65
  go_wp2_with fail
  refine (CD.out).mono ?_
  rintro e w1 ⟨v', rfl, ho1, hg1, hv1⟩
  obtain ⟨A7, c7, rfl, _, _⟩ := (Sl.of_own ho1).form
  have hgb : some g ≠ (Value.slice A6 x.hn c6).ownBlock := by rw [← HE6.out]; exact HG.out.1
  have m1 : w1.cell? ⟨g, k * 6 + 2, none⟩ = some (.slice A6 x.hn c6) := (World.cell?_of_block (hg1.block g (Nat.lt_of_lt_of_le hgw HBa.out.size) hgb)).trans ((HBa.out.cell (p := ⟨g, k * 6 + 2, none⟩) hgw).trans m0)
  have f1 : w1.frozen? ⟨g, k * 6 + 2, none⟩ = false := (World.frozen?_of_block (hg1.block g (Nat.lt_of_lt_of_le hgw HBa.out.size) hgb)).trans ((HBa.out.frozen (p := ⟨g, k * 6 + 2, none⟩) hgw).trans HO2.out.2)
  have HR1 := hid (HRa.out.rowcell (w' := w1) (j := 0) (q := 2) (e := 2) (x := x) (y := ⟨woL s.data.toList x.l, .slice A7 (x.l.hs.filter (notS s.data.toList)).length c7, (x.l.hs.filter (notS s.data.toList)).length, x.fv, x.fn⟩)
    (r := ⟨9, 1, x.hn, x.hv, x.l.hs.map txt⟩) (r' := ⟨9, 1, (x.l.hs.filter (notS s.data.toList)).length, .slice A7 (x.l.hs.filter (notS s.data.toList)).length c7, (x.l.hs.filter (notS s.data.toList)).map txt⟩) (u := .slice A7 (x.l.hs.filter (notS s.data.toList)).length c7)
    lcells_len lrows_len HX.out (by omega) rfl (by show World.grownBy _ _ x.hv.ownBlock; rw [HE6.out]; exact hg1) ho1 (fun z hz => .inl (by show x.hv.ownBlock = some z; rw [HE6.out, ← hv1]; exact hz)) (by omega) rfl rfl)
  have HB1 := hid (show Below lo W w1 from (HBa.out.mono hlo).grown hg1 (Nat.le_trans hlo HBa.out.size) (fun z hz => by
    have h9 := HRa.out.sub_ HX.out (r := ⟨9, 1, x.hn, x.hv, x.l.hs.map txt⟩) (by simp [lrows])
    exact (h9.lt z (by show x.hv.ownBlock = some z; rw [HE6.out]; exact hz)).1))
  have HK1 := hid (fun (b : Nat) (cs : List Value) (h1 : b ≠ g) (h2 : some b ≠ x.hv.ownBlock) (hk : Blk W b cs) => (((hk.to HBa.out).kept hg1 (show some b ≠ _ by rw [← HE6.out]; exact h2)).apart ⟨g, k * 6 + 2, none⟩ (.slice A7 (x.l.hs.filter (notS s.data.toList)).length c7) (show g ≠ b from fun e => h1 e.symm)))
  have HV := hid hv1
  clear ho1 hg1 hv1 hgb m0
  go_wp2_with fail
  go_end0
  refine ⟨rfl, _, ?_, HR1.out, HB1.out.setCell hgl _, HK1.out⟩
  rw [HE6.out]; exact HV.out
end Go.Proofs.Yteoblmhbjmefoaa

/-
  A HANDLER NAMED ANEW: the program's change.
-/
namespace Go.Proofs.Yteoblmhbjmefoaa
open Go.RowKit Nm
set_option linter.unusedSimpArgs false
set_option linter.unusedVariables false

theorem nm_set {α : Type} {X : List α} {k : Nat} {l : α} (h : X[k]? = some l) : X.set k l = X := by
  refine List.ext_getElem? fun i => ?_
  by_cases hi : i = k
  · subst hi; rw [List.getElem?_set_self (List.getElem?_eq_some_iff.1 h).1, h]
  · rw [List.getElem?_set_ne (by omega)]
theorem idx_natN {ns : List Name} {x : Name} (h : ¬ idxL ns x < 0) : ∃ k : Nat, idxL ns x = (k : Int) ∧ k < ns.length ∧ ns[k]? = some x := by
  obtain ⟨k, hk⟩ : ∃ k : Nat, idxL ns x = (k : Int) := ⟨_, (Int.toNat_of_nonneg (by omega)).symm⟩
  exact ⟨k, hk, idx_nat hk⟩
theorem hset_of {hs : List HndV} {H : List Hnd} (h : hsOf hs = H) {k : Nat} {y : HndV} (hy : hs[k]? = some y) (t : Name) : hsOf (hs.set k { y with h := { y.h with nm := t } }) = setNm H k t := by
  subst h
  unfold hsOf setNm
  rw [List.map_set, List.getElem?_map, hy]; rfl
theorem renL_none {s t : Name} {l : Lgr} (h : s ∉ l.hs) : renL s t l = l := by unfold renL; rw [ren_none h]

set_option maxHeartbeats 8000000 in
set_option maxRecDepth 100000 in
theorem nameClo_c {w : World} {L : List Lgr} {H : List Hnd} {q : Int} {bf bt : Nat} (f t : ByteArray) (hfz : f.size ≤ maxTxt) (htz : t.size ≤ maxTxt) (hbf : w.cell? ⟨bf, 0, none⟩ = some (.string f)) (hbt : w.cell? ⟨bt, 0, none⟩ = some (.string t)) (hok : treeOk L H q = true)
    (W : World) (lo bc : Nat) (v1 v2 : Value) (rs : List Row) (hp : CloPre w lo bc W v1 v2 rs L H q) :
    Calls Try.prog 85 #[.pointer (some ⟨bc, 0, none⟩), .pointer (some ⟨bf, 0, none⟩), .pointer (some ⟨bt, 0, none⟩)] W (CloPost lo bc W (if idxL (hnm H) f.data.toList < 0 then none else some (renT L f.data.toList t.data.toList, setNm H (idxL (hnm H) f.data.toList).toNat t.data.toList, q))) := by
  obtain ⟨hb, hlo, hbc, hkb, hs, hr, hap, hd⟩ := hp
  obtain ⟨_, _, _, h8, h1l, _⟩ := tree_names hok
  have h6 := tree_hlen hok
  have HND := hid (fun (l : Lgr) (hl : l ∈ L) => tree_nodup hok hl)
  have HTX := hid (fun (l : Lgr) (hl : l ∈ L) => (hd.1.2 l hl).2.1.2)
  have HD := hid (rename_fit (s := f.data.toList) (idxL (hnm H) f.data.toList).toNat hd (by rw [← Lib.size_eq]; exact htz : t.data.toList.length ≤ maxTxt))
  have hbfw : bf < w.heap.size := World.block_lt_of_cell? w _ hbf
  have hbtw : bt < w.heap.size := World.block_lt_of_cell? w _ hbt
  have CHA := hid (implHandlerAt_c f (hs.at_ (hr.below (Below.refl W.heap.size W).drew) hd) (Nat.le_refl _))
  obtain ⟨u1, u2, ls, hs', e, h1, h2, h3⟩ := hs
  have e' : v1 = u1 ∧ v2 = u2 := by simpa using e
  obtain ⟨rfl, rfl⟩ := e'
  subst h3
  have hll : ls.length = L.length := by rw [← h1]; simp [lsOf]
  have hlh : hs'.length = H.length := by rw [← h2]; simp [hsOf]
  obtain ⟨hl, hh⟩ := hr.lsIn
  obtain ⟨A, c, rfl, hnc, hcm⟩ := hl.1.form
  obtain ⟨A4, c4, rfl, hnc4, hcm4⟩ := hh.1.form
  clear hl hh
  rw [treeRows_eq] at hr hap
  have hr0 : Rows W lo ([] ++ two 49 6 ls.length (.slice A ls.length c) lcells lrows ls ++ two 83 3 hs'.length (.slice A4 hs'.length c4) hcells hrows hs') := by simpa using hr
  obtain ⟨g, rfl, hglt⟩ := own_some hr0.top (by omega)
  have hgl : lo ≤ g := (hr0.top.lt g rfl).1
  have hgb : g ≠ bc := fun e => hap ⟨49, 6, ls.length, .slice (some ⟨g, 0, none⟩) ls.length c, ls.flatMap lcells⟩ (by simp [two]) (by rw [← e]; rfl)
  have HNB := hid (show ∀ x ∈ ls, x.hv.ownBlock ≠ some bc from fun x hx => hap ⟨9, 1, x.hn, x.hv, x.l.hs.map txt⟩ (by
    rw [List.mem_append]; left
    simp only [two, List.mem_cons, List.mem_flatMap]
    exact .inr ⟨x, hx, by simp [lrows]⟩))
  have HHB := hid (show (Value.slice A4 hs'.length c4).ownBlock ≠ some bc from hap ⟨83, 3, hs'.length, .slice A4 hs'.length c4, hs'.flatMap hcells⟩ (by
    rw [List.mem_append]; right
    simp [two]))
  have hgf : g ≠ bf := by omega
  have hgt : g ≠ bt := by omega
  generalize hN : ls.length = n at *
  have hn8 : n ≤ 8 := by omega
  unfold maxLen at hcm hcm4
  have HR := hid hr0
  have HKB := hid hkb
  have HB := hid hb
  have HBF := hid hbf
  have HBT := hid hbt
  have HH := hid h2
  have HL := hid h1
  have HNe := hid (And.intro hgb (And.intro hgf hgt))
  have HLn := hid hll
  have HLh := hid hlh
  have HLe := hid hN
  have d0 := (HKB.out.2 0 _ rfl).1
  have d1 := (HKB.out.2 1 _ rfl).1
  have d2 := (HKB.out.2 2 _ rfl).1
  have cf := (HB.out.cell (p := ⟨bf, 0, none⟩) hbfw).trans hbf
  clear hap hr hr0 hkb hd h1 h2 e hbf hbt hok hb hgb hgf hgt hll hlh hN h8 h1l
  generalize hO : (if idxL (hnm H) f.data.toList < 0 then none else some (renT L f.data.toList t.data.toList, setNm H (idxL (hnm H) f.data.toList).toNat t.data.toList, q)) = O
  have HO := hid hO
  clear hO
  have HIX := hid (fun (h : ¬ idxL (hnm H) f.data.toList < 0) => idx_natN h)
  go_enter Try.func85, Try.ntmps85
  go_wp2_with fail
  refine wp_region_held_drew (S := (fun w' : World => (w'.cell? ⟨bc, 0, none⟩ = some (.slice (some ⟨g, 0, none⟩) n c) ∧ w'.cell? ⟨bc, 1, none⟩ = some (.slice A4 hs'.length c4) ∧ w'.cell? ⟨bc, 2, none⟩ = some (.int .i64 q)) ∧ w'.cell? ⟨bf, 0, none⟩ = some (.string f))) (by kernel_rfl) ⟨⟨d0, d1, d2⟩, cf⟩ (fun hS => ?_)
  refine wpAnyH_take (i := 0) (oi := ?oi141) (v := ?v141) ?hi141 (by kernel_rfl) ?hf141 ?hr141 ?hQ141 (Or.inl ⟨?hw141, ?hy141⟩) (by assumption) ?rest141
  case hi141 => simp only [List.getElem?_toArray, List.getElem?_cons_succ, List.getElem?_cons_zero]; rfl
  case hf141 => kernel_rfl
  case hr141 => kernel_rfl
  case hw141 => rfl
  case hy141 => (intro w hSw; (try dsimp only at hSw); go_simp; all_goals (first | done | with_reducible rfl))
  case hQ141 => exact fun _ _ _ h => h
  simp only [Act.put, List.setIfInBounds_toArray, List.set_cons_zero, List.set_cons_succ]
  refine wpAnyH_take (i := 1) (oi := ?oi142) (v := ?v142) ?hi142 (by kernel_rfl) ?hf142 ?hr142 ?hQ142 (Or.inl ⟨?hw142, ?hy142⟩) (by assumption) ?rest142
  case hi142 => simp only [List.getElem?_toArray, List.getElem?_cons_succ, List.getElem?_cons_zero]; rfl
  case hf142 => kernel_rfl
  case hr142 => kernel_rfl
  case hw142 => rfl
  case hy142 => (intro w hSw; (try dsimp only at hSw); go_simp; all_goals (first | done | with_reducible rfl))
  case hQ142 => exact fun _ _ _ h => h
  simp only [Act.put, List.setIfInBounds_toArray, List.set_cons_zero, List.set_cons_succ]
  refine wpAnyH_take (i := 2) (oi := ?oi143) (v := ?v143) ?hi143 (by kernel_rfl) ?hf143 ?hr143 ?hQ143 (Or.inl ⟨?hw143, ?hy143⟩) (by assumption) ?rest143
  case hi143 => simp only [List.getElem?_toArray, List.getElem?_cons_succ, List.getElem?_cons_zero]; rfl
  case hf143 => kernel_rfl
  case hr143 => kernel_rfl
  case hw143 => rfl
  case hy143 => (intro w hSw; (try dsimp only at hSw); go_simp; all_goals (first | done | with_reducible rfl))
  case hQ143 => exact fun _ _ _ h => h
  simp only [Act.put, List.setIfInBounds_toArray, List.set_cons_zero, List.set_cons_succ]
  refine wpAnyH_take (i := 3) (oi := ?oi144) (v := ?v144) ?hi144 (by kernel_rfl) ?hf144 ?hr144 ?hQ144 (Or.inl ⟨?hw144, ?hy144⟩) (by assumption) ?rest144
  case hi144 => simp only [List.getElem?_toArray, List.getElem?_cons_succ, List.getElem?_cons_zero]; rfl
  case hf144 => kernel_rfl
  case hr144 => kernel_rfl
  case hw144 => rfl
  case hy144 => (intro w hSw; (try dsimp only at hSw); go_simp; all_goals (first | done | with_reducible rfl))
  case hQ144 => exact fun _ _ _ h => h
  simp only [Act.put, List.setIfInBounds_toArray, List.set_cons_zero, List.set_cons_succ]
  refine wpAnyH_ready (rs := [4]) (by kernel_rfl) (by simp) ?_
  refine AllReadyH.cons (o := ?oi145) ?hi145 (fun K hK => ?step145) AllReadyH.nil
  case hi145 => simp only [List.getElem?_toArray, List.getElem?_cons_succ, List.getElem?_cons_zero]; rfl
  rw [if_pos (by rfl)]
  go_simp
  go_at_call 63
  refine (CHA.out).mono ?_
  rintro e w1 ⟨rfl, hb1⟩
  have HW1 := hid (show Below W.heap.size W w1 from ((Below.refl W.heap.size W).drew).trans hb1)
  have K1 := HKB.out.to HW1.out
  have HK1 := hid K1
  have HR1 := hid (HR.out.below HW1.out)
  have HL1 := hid (HW1.out.mono (show lo ≤ W.heap.size by have := HKB.out.1; omega))
  refine hK.out _ _ ⟨⟨(K1.2 0 _ rfl).1, (K1.2 1 _ rfl).1, (K1.2 2 _ rfl).1⟩, (HW1.out.cell (p := ⟨bf, 0, none⟩) (World.block_lt_of_cell? _ _ cf)).trans cf⟩ (fun hS => ?_)
  refine wpAnyH_take (i := 5) (oi := ?oi146) (v := ?v146) ?hi146 (by kernel_rfl) ?hf146 ?hr146 ?hQ146 (Or.inl ⟨?hw146, ?hy146⟩) (by assumption) ?rest146
  case hi146 => simp only [List.getElem?_toArray, List.getElem?_cons_succ, List.getElem?_cons_zero]; rfl
  case hf146 => kernel_rfl
  case hr146 => kernel_rfl
  case hw146 => rfl
  case hy146 => (intro w hSw; (try dsimp only at hSw); go_simp; all_goals (first | done | with_reducible rfl))
  case hQ146 => exact fun _ _ _ h => h
  simp only [Act.put, List.setIfInBounds_toArray, List.set_cons_zero, List.set_cons_succ]
  refine wpAnyH_done (by kernel_rfl) ?_ _
  clear hb1 K1 d0 d1 d2 hS
  by_cases hneg : idxL (hnm H) f.data.toList < 0
  · have HO1 := hid (show O = none by rw [← HO.out, if_pos hneg])
    generalize idxL (hnm H) f.data.toList = ix at *
    go_wp2_with fail
    go_ret
    exact ⟨HL1.out, by rw [HO1.out]; rfl, fun x hx => by rw [HO1.out] at hx; cases hx⟩
  obtain ⟨kk, hkk, hkl, hkx⟩ := HIX.out (by omega)
  have hO1 : O = some (renT L f.data.toList t.data.toList, setNm H kk t.data.toList, q) := by rw [← HO.out, if_neg hneg, hkk]; rfl
  rw [hkk] at HD
  rw [hkk]
  have hkH : kk < hs'.length := by have := HLh.out; unfold hnm at hkl; rw [List.length_map] at hkl; omega
  obtain ⟨y, hy⟩ : ∃ y, hs'[kk]? = some y := ⟨_, List.getElem?_eq_getElem hkH⟩
  have HO2 := hid hO1
  have HYS := hid (hset_of HH.out hy t.data.toList)
  -- the handler's row
  have hrh : Rows w1 lo (two 49 6 n (.slice (some ⟨g, 0, none⟩) n c) lcells lrows ls ++ two 83 3 hs'.length (.slice A4 hs'.length c4) hcells hrows hs' ++ []) := by simpa using HR1.out
  obtain ⟨g4, rfl, _⟩ := own_some hrh.top (by omega)
  have hg4 : lo ≤ g4 := (hrh.top.lt g4 rfl).1
  have hg4b : g4 ≠ bc := fun e => HHB.out (by rw [← e]; rfl)
  have hg4f : g4 ≠ bf := by omega
  have hg4t : g4 ≠ bt := by omega
  have ho := hrh.cell_at (j := 0) hcells_len hy (u := txt y.h.nm) rfl
  have oc : w1.drew.cell? ⟨g4, kk * 3, none⟩ = some (txt y.h.nm) := ho.1
  have of : w1.drew.frozen? ⟨g4, kk * 3, none⟩ = false := ho.2
  have hrs0 := hrh.cellset (j := 0) (e := 1) (x := y) (y := { y with h := { y.h with nm := t.data.toList } }) (u := .string t) hcells_len hrows_len hy (by omega) (by show [txt _, _, _] = _; rw [txt_data]; rfl) rfl
  have hrs := hrs0.below ((Below.refl _ _).drew)
  have HR2 := hid (show Rows (w1.setCell ⟨g4, kk * 3, none⟩ (.string t)).drew lo ([] ++ two 49 6 n (.slice (some ⟨g, 0, none⟩) n c) lcells lrows ls ++ two 83 3 hs'.length (.slice (some ⟨g4, 0, none⟩) hs'.length c4) hcells hrows (hs'.set kk { y with h := { y.h with nm := t.data.toList } })) by simpa using hrs)
  have HK2 := hid (show Blk (w1.setCell ⟨g4, kk * 3, none⟩ (.string t)).drew bc _ from (HK1.out.apart ⟨g4, kk * 3, none⟩ (.string t) hg4b).dr 1)
  have HL2 := hid ((HL1.out.setCell (p := ⟨g4, kk * 3, none⟩) hg4 (.string t)).drew)
  have d1 := (HK1.out.2 1 _ rfl).1
  have ct : w1.cell? ⟨bt, 0, none⟩ = some (.string t) := (HW1.out.cell (p := ⟨bt, 0, none⟩) (show bt < W.heap.size by have := HB.out.size; omega)).trans ((HB.out.cell (p := ⟨bt, 0, none⟩) hbtw).trans HBT.out)
  have s0 : (0 : Int) ≤ (kk : Int) := by omega
  have s1 : (kk : Int) < (hs'.length : Int) := by omega
  have s2 : ((kk : Int)).toNat = kk := by simp
  have hhl : (hs'.set kk { y with h := { y.h with nm := t.data.toList } }).length = hs'.length := List.length_set ..
  generalize hs'.set kk { y with h := { y.h with nm := t.data.toList } } = hs2 at *
  have HLs := hid hhl
  clear hneg hkk hkl hkx hO1 hrh ho hrs hrs0 cf hhl
  go_wp2_with fail
  refine wp_region_held_drew (S := (fun w' : World => w'.cell? ⟨bc, 1, none⟩ = some (.slice (some ⟨g4, 0, none⟩) hs'.length c4) ∧ w'.cell? ⟨bt, 0, none⟩ = some (.string t))) (by kernel_rfl) ⟨d1, ct⟩ (fun hS => ?_)
  refine wpAnyH_take (i := 0) (oi := ?oi147) (v := ?v147) ?hi147 (by kernel_rfl) ?hf147 ?hr147 ?hQ147 (Or.inl ⟨?hw147, ?hy147⟩) (by assumption) ?rest147
  case hi147 => simp only [List.getElem?_toArray, List.getElem?_cons_succ, List.getElem?_cons_zero]; rfl
  case hf147 => kernel_rfl
  case hr147 => kernel_rfl
  case hw147 => rfl
  case hy147 => (intro w hSw; (try dsimp only at hSw); go_simp; all_goals (first | done | with_reducible rfl))
  case hQ147 => exact fun _ _ _ h => h
  simp only [Act.put, List.setIfInBounds_toArray, List.set_cons_zero, List.set_cons_succ]
  refine wpAnyH_take (i := 1) (oi := ?oi148) (v := ?v148) ?hi148 (by kernel_rfl) ?hf148 ?hr148 ?hQ148 (Or.inl ⟨?hw148, ?hy148⟩) (by assumption) ?rest148
  case hi148 => simp only [List.getElem?_toArray, List.getElem?_cons_succ, List.getElem?_cons_zero]; rfl
  case hf148 => kernel_rfl
  case hr148 => kernel_rfl
  case hw148 => rfl
  case hy148 => (intro w hSw; (try dsimp only at hSw); go_simp; all_goals (first | done | with_reducible rfl))
  case hQ148 => exact fun _ _ _ h => h
  simp only [Act.put, List.setIfInBounds_toArray, List.set_cons_zero, List.set_cons_succ]
  refine wpAnyH_take (i := 2) (oi := ?oi149) (v := ?v149) ?hi149 (by kernel_rfl) ?hf149 ?hr149 ?hQ149 (Or.inl ⟨?hw149, ?hy149⟩) (by assumption) ?rest149
  case hi149 => simp only [List.getElem?_toArray, List.getElem?_cons_succ, List.getElem?_cons_zero]; rfl
  case hf149 => kernel_rfl
  case hr149 => kernel_rfl
  case hw149 => rfl
  case hy149 => (intro w hSw; (try dsimp only at hSw); go_simp; all_goals (first | done | with_reducible rfl))
  case hQ149 => exact fun _ _ _ h => h
  simp only [Act.put, List.setIfInBounds_toArray, List.set_cons_zero, List.set_cons_succ]
  refine wpAnyH_take (i := 3) (oi := ?oi150) (v := ?v150) ?hi150 (by kernel_rfl) ?hf150 ?hr150 ?hQ150 (Or.inl ⟨?hw150, ?hy150⟩) (by assumption) ?rest150
  case hi150 => simp only [List.getElem?_toArray, List.getElem?_cons_succ, List.getElem?_cons_zero]; rfl
  case hf150 => kernel_rfl
  case hr150 => kernel_rfl
  case hw150 => rfl
  case hy150 => (intro w hSw; (try dsimp only at hSw); go_simp; all_goals (first | done | with_reducible rfl))
  case hQ150 => exact fun _ _ _ h => h
  simp only [Act.put, List.setIfInBounds_toArray, List.set_cons_zero, List.set_cons_succ]
  refine wpAnyH_take (i := 4) (oi := ?oi151) (v := ?v151) ?hi151 (by kernel_rfl) ?hf151 ?hr151 ?hQ151 (Or.inl ⟨?hw151, ?hy151⟩) (by assumption) ?rest151
  case hi151 => simp only [List.getElem?_toArray, List.getElem?_cons_succ, List.getElem?_cons_zero]; rfl
  case hf151 => kernel_rfl
  case hr151 => kernel_rfl
  case hw151 => rfl
  case hy151 => (intro w hSw; (try dsimp only at hSw); go_simp; all_goals (first | done | with_reducible rfl))
  case hQ151 => exact fun _ _ _ h => h
  simp only [Act.put, List.setIfInBounds_toArray, List.set_cons_zero, List.set_cons_succ]
  refine wpAnyH_take (i := 5) (oi := ?oi152) (v := ?v152) ?hi152 (by kernel_rfl) ?hf152 ?hr152 ?hQ152 (Or.inl ⟨?hw152, ?hy152⟩) (by assumption) ?rest152
  case hi152 => simp only [List.getElem?_toArray, List.getElem?_cons_succ, List.getElem?_cons_zero]; rfl
  case hf152 => kernel_rfl
  case hr152 => kernel_rfl
  case hw152 => rfl
  case hy152 => (intro w hSw; (try dsimp only at hSw); go_simp; all_goals (first | done | with_reducible rfl))
  case hQ152 => exact fun _ _ _ h => h
  simp only [Act.put, List.setIfInBounds_toArray, List.set_cons_zero, List.set_cons_succ]
  refine wpAnyH_take (i := 6) (oi := ?oi153) (v := ?v153) ?hi153 (by kernel_rfl) ?hf153 ?hr153 ?hQ153 (Or.inl ⟨?hw153, ?hy153⟩) (by assumption) ?rest153
  case hi153 => simp only [List.getElem?_toArray, List.getElem?_cons_succ, List.getElem?_cons_zero]; rfl
  case hf153 => kernel_rfl
  case hr153 => kernel_rfl
  case hw153 => rfl
  case hy153 => (intro w hSw; (try dsimp only at hSw); go_simp; all_goals (first | done | with_reducible rfl))
  case hQ153 => exact fun _ _ _ h => h
  simp only [Act.put, List.setIfInBounds_toArray, List.set_cons_zero, List.set_cons_succ]
  refine wpAnyH_take (i := 7) (oi := ?oi154) (v := ?v154) ?hi154 (by kernel_rfl) ?hf154 ?hr154 ?hQ154 (Or.inl ⟨?hw154, ?hy154⟩) (by assumption) ?rest154
  case hi154 => simp only [List.getElem?_toArray, List.getElem?_cons_succ, List.getElem?_cons_zero]; rfl
  case hf154 => kernel_rfl
  case hr154 => kernel_rfl
  case hw154 => rfl
  case hy154 => (intro w hSw; (try dsimp only at hSw); go_simp; all_goals (first | done | with_reducible rfl))
  case hQ154 => exact fun _ _ _ h => h
  simp only [Act.put, List.setIfInBounds_toArray, List.set_cons_zero, List.set_cons_succ]
  refine wpAnyH_ready (rs := [8]) (by kernel_rfl) (by simp) ?_
  refine AllReadyH.cons (o := ?oi155) ?hi155 (fun K hK => ?step155) AllReadyH.nil
  case hi155 => simp only [List.getElem?_toArray, List.getElem?_cons_succ, List.getElem?_cons_zero]; rfl
  rw [if_pos (by rfl)]
  go_simp
  refine hK.out _ _ ⟨(World.cell?_setCell_far _ _ _ _ hg4b).trans hS.1, (World.cell?_setCell_far _ _ _ _ hg4t).trans hS.2⟩ (fun _ => ?_)
  refine wpAnyH_done (by kernel_rfl) ?_ _
  clear oc of d1 ct hS
  generalize hw2 : (w1.setCell ⟨g4, kk * 3, none⟩ (.string t)).drew = w2 at *
  clear hw2
  have d0 := (HK2.out.2 0 _ rfl).1
  go_wp2_with fail
  clear d0
  have HHs := hid (And.intro HYS.out HLs.out)
  go_loopw [7, 8, 29] (fun lv kv iv wr => ∃ (k : Nat) (cur : List LgrV) (u7 u8 : Value), iv = .int .i64 k ∧ lv = u7 ∧ kv = u8 ∧ k ≤ n ∧ Hid (lsOf cur = renT (L.take k) f.data.toList t.data.toList ++ L.drop k) ∧
    Hid (Rows wr lo ([] ++ two 49 6 n (.slice (some ⟨g, 0, none⟩) n c) lcells lrows cur ++ two 83 3 hs'.length (.slice (some ⟨g4, 0, none⟩) hs'.length c4) hcells hrows hs2)) ∧ Hid (Blk wr bc [.slice (some ⟨g, 0, none⟩) n c, .slice (some ⟨g4, 0, none⟩) hs'.length c4, .int .i64 q]) ∧ Hid (∀ x ∈ cur, x.hv.ownBlock ≠ some bc) ∧ Hid (Below lo W wr)) (fun _ _ iv _ => n - (intOf iv).toNat)
  case atStart => exact ⟨0, ls, _, _, rfl, rfl, rfl, by omega, by simpa [renT, Hid] using HL.out, HR2.out, HK2.out, HNB.out, HL2.out⟩
  case round =>
    obtain ⟨k, cur, u7, u8, rfl, rfl, rfl, hk, HC, HRx, HKx, HNx, HBx⟩ := hrel
    by_cases hlt : k < n
    · have hkL : k < L.length := by have := HLn.out; omega
      obtain ⟨l, hl⟩ : ∃ l, L[k]? = some l := ⟨_, List.getElem?_eq_getElem hkL⟩
      have hcl : (lsOf cur)[k]? = some l := by rw [HC.out, ren_at _ _ hkL]; exact hl
      obtain ⟨x, hx, hxl⟩ : ∃ x, cur[k]? = some x ∧ x.l = l := by
        unfold lsOf at hcl
        rw [List.getElem?_map] at hcl
        cases hx : cur[k]? with
        | none => rw [hx] at hcl; cases hcl
        | some x => rw [hx] at hcl; exact ⟨x, rfl, Option.some.inj hcl⟩
      obtain ⟨xl, xhv, xhn, xfv, xfn⟩ := x
      simp only at hxl
      subst hxl
      have own6 := HRx.out.sub_ hx (r := ⟨9, 1, xhn, xhv, xl.hs.map txt⟩) (by simp [lrows])
      have own7 := HRx.out.sub_ hx (r := ⟨134, 3, xfn, xfv, fsCells xl.fs⟩) (by simp [lrows])
      replace own6 : wr.ownsRow lo 9 1 xhv xhn (xl.hs.map txt) := own6
      replace own7 : wr.ownsRow lo 134 3 xfv xfn (fsCells xl.fs) := own7
      have hnb := HNx.out _ (List.mem_of_getElem? hx)
      simp only at hnb
      obtain ⟨A6, k6, e6, hnc6, hcm6⟩ := (Sl.of_own own6).form
      obtain ⟨A7, k7, e7, _, _⟩ := (Sl.of_own own7).form
      subst e6
      subst e7
      unfold maxLen at hcm6
      have o0 : wr.cell? ⟨g, k * 6, none⟩ = some (txt xl.nm) := (HRx.out.cell_at (j := 0) lcells_len hx rfl).1
      have o1 : wr.cell? ⟨g, k * 6 + 1, none⟩ = some (.int .i64 xl.lv) := (HRx.out.cell_at (j := 1) lcells_len hx rfl).1
      have o2 : wr.cell? ⟨g, k * 6 + 2, none⟩ = some (.slice A6 xhn k6) := (HRx.out.cell_at (j := 2) lcells_len hx rfl).1
      have o3 : wr.cell? ⟨g, k * 6 + 3, none⟩ = some (.slice A7 xfn k7) := (HRx.out.cell_at (j := 3) lcells_len hx rfl).1
      have o4 : wr.cell? ⟨g, k * 6 + 4, none⟩ = some (.bool xl.stop) := (HRx.out.cell_at (j := 4) lcells_len hx rfl).1
      have o5 : wr.cell? ⟨g, k * 6 + 5, none⟩ = some (.bool xl.off) := (HRx.out.cell_at (j := 5) lcells_len hx rfl).1
      obtain ⟨p, hp, hp2⟩ := txt_mk xl.nm
      rw [hp] at o0
      obtain ⟨wb, hwb⟩ : ∃ wb, wb = wr.alloc (.cells #[.string p, .int .i64 xl.lv, .slice A6 xhn k6, .slice A7 xfn k7, .bool xl.stop, .bool xl.off] 49) := ⟨_, rfl⟩
      have hba : Below wr.heap.size wr wb := by rw [hwb]; exact (Below.refl _ _).alloc (Nat.le_refl _) _
      have KX := hid (show Blk wb wr.heap.size [.string p, .int .i64 xl.lv, .slice A6 xhn k6, .slice A7 xfn k7, .bool xl.stop, .bool xl.off] by rw [hwb]; exact Blk.new wr _ _)
      have HRb := hid (HRx.out.below hba)
      have HKb := hid (HKx.out.to hba)
      have hlw : lo ≤ wr.heap.size := by have := HKx.out.1; omega
      have HBb := hid (HBx.out.trans (hba.mono hlw))
      have own6b := own_below own6 hba
      have hgx : ∀ z, (Value.slice A6 xhn k6).ownBlock = some z → z ≠ wr.heap.size := fun z hz => by have := (own6.lt z hz).2; omega
      have hmem : xl ∈ L := List.mem_of_getElem? hl
      have CIX := hid (indexTxt_c (.slice A6 xhn k6) xhn wb.heap.size xl.hs f wb ⟨Sl.of_own own6b, HTX.out xl hmem⟩)
      have cf : wb.cell? ⟨bf, 0, none⟩ = some (.string f) := (HBb.out.cell (p := ⟨bf, 0, none⟩) (show bf < lo by omega)).trans ((HB.out.cell (p := ⟨bf, 0, none⟩) hbfw).trans HBF.out)
      have ct : wb.cell? ⟨bt, 0, none⟩ = some (.string t) := (HBb.out.cell (p := ⟨bt, 0, none⟩) (show bt < lo by omega)).trans ((HB.out.cell (p := ⟨bt, 0, none⟩) hbtw).trans HBT.out)
      have x2 := (KX.out.2 2 _ rfl).1
      have HOW := hid own6b
      have cfe : (wr.alloc (.cells #[.string p, .int .i64 xl.lv, .slice A6 xhn k6, .slice A7 xfn k7, .bool xl.stop, .bool xl.off] 49)).cell? ⟨bf, 0, none⟩ = some (.string f) := by rw [← hwb]; exact cf
      have x2e : (wr.alloc (.cells #[.string p, .int .i64 xl.lv, .slice A6 xhn k6, .slice A7 xfn k7, .bool xl.stop, .bool xl.off] 49)).cell? ⟨wr.heap.size, 2, none⟩ = some (.slice A6 xhn k6) := by rw [← hwb]; exact x2
      have HX := hid hx
      have HLk := hid hl
      have hnd := (HND.out xl hmem).1
      have hlen6 : xl.hs.length = xhn := by have := own6.1; simpa using this
      have hm6 := (HND.out xl hmem).2
      have HND1 := hid (And.intro hnd hlen6)
      have hxn6 : xhn ≤ 6 := by omega
      clear hx hl hcl own6 own7 own6b hmem hp hp2 hnd hlen6 hm6
      by_cases hin : f.data.toList ∈ xl.hs
      · obtain ⟨jj, hjj, hjl, hjx⟩ := idx_natN (ns := xl.hs) (x := f.data.toList) (by unfold idxL; rw [if_pos hin]; omega)
        rw [hjj] at CIX
        have hjn : jj < xhn := by have := HND1.out.2; omega
        obtain ⟨g6, rfl, _⟩ := own_some HOW.out (by omega)
        have hg6 : lo ≤ g6 := (HOW.out.lt g6 rfl).1
        have hg6b : g6 ≠ bc := fun e => hnb (by rw [← e]; rfl)
        have hg6x : g6 ≠ wr.heap.size := hgx g6 rfl
        have hset := hid (ren_set (t := t.data.toList) HND1.out.1 hjx)
        have st := HOW.out.stored jj (.string t)
        have HRs := hid (HRb.out.rowset (j := 0) (e := 2) (x := ⟨xl, .slice (some ⟨g6, 0, none⟩) xhn k6, xhn, .slice A7 xfn k7, xfn⟩) (y := ⟨renL f.data.toList t.data.toList xl, .slice (some ⟨g6, 0, none⟩) xhn k6, xhn, .slice A7 xfn k7, xfn⟩)
          (r := ⟨9, 1, xhn, .slice (some ⟨g6, 0, none⟩) xhn k6, xl.hs.map txt⟩) (ys := (xl.hs.map txt).set jj (.string t)) lcells_len lrows_len HX.out (by omega) rfl st.2 st.1 rfl
          (by
            show [(⟨_, _, _, _, (xl.hs.map (renS f.data.toList t.data.toList)).map txt⟩ : Row), _] = _
            rw [← hset.out, List.map_set, txt_data]; rfl))
        have HKs := hid (HKb.out.apart ⟨g6, jj, none⟩ (.string t) hg6b)
        have HBs := hid (HBb.out.setCell (p := ⟨g6, jj, none⟩) hg6 (.string t))
        have oc := (HOW.out.cellAt jj (by simp; have := HND1.out.2; omega))
        have of := HOW.out.frozenAt jj
        obtain ⟨z, hz⟩ : ∃ z, wb.cell? ⟨g6, jj, none⟩ = some z := own_cell HOW.out (by omega)
        have s0 : (0 : Int) ≤ (k : Int) := by omega
        have s1 : (k : Int) < (n : Int) := by omega
        have s2 : ((k : Int)).toNat = k := by simp
        have t0 : (0 : Int) ≤ (jj : Int) := by omega
        have t1 : (jj : Int) < (xhn : Int) := by omega
        have t2 : ((jj : Int)).toNat = jj := by simp
        clear hjj hjl hjx st hin oc
        go_wp2_with fail
        rw [← hwb]
        refine (CIX.out).mono ?_
        rintro e w9 ⟨rfl, rfl⟩
        clear o0 o1 o2 o3 o4 o5 hwb cfe x2e
        go_wp2_with fail
        go_roundw
        case rel =>
          refine ⟨k + 1, cur.set k ⟨renL f.data.toList t.data.toList xl, .slice (some ⟨g6, 0, none⟩) xhn k6, xhn, .slice A7 xfn k7, xfn⟩, _, _, by go_num, rfl, rfl, by omega, ?_, HRs.out, HKs.out, ?_, HBs.out⟩
          · show lsOf (cur.set k _) = _
            rw [ren_step _ _ HLk.out, ← HC.out]
            unfold lsOf
            rw [List.map_set]
          · intro x hx
            rcases List.mem_or_eq_of_mem_set hx with hx | rfl
            · exact HNx.out x hx
            · exact hnb
        case measure => simp [intOf]; omega
      · have hix : idxL xl.hs f.data.toList = -1 := idx_miss _ _ hin
        rw [hix] at CIX
        have HRL := hid (renL_none (t := t.data.toList) hin)
        have s0 : (0 : Int) ≤ (k : Int) := by omega
        have s1 : (k : Int) < (n : Int) := by omega
        have s2 : ((k : Int)).toNat = k := by simp
        clear hix hin
        go_wp2_with fail
        rw [← hwb]
        refine (CIX.out).mono ?_
        rintro e w9 ⟨rfl, rfl⟩
        clear o0 o1 o2 o3 o4 o5 hwb cfe x2e
        go_wp2_with fail
        go_roundw
        case rel =>
          refine ⟨k + 1, cur, _, _, by go_num, rfl, rfl, by omega, ?_, HRb.out, HKb.out, HNx.out, HBb.out⟩
          show lsOf cur = _
          rw [ren_step _ _ HLk.out, HRL.out, nm_set ((ren_at _ _ hkL).trans HLk.out)]
          exact HC.out
        case measure => simp [intOf]; omega
    · obtain rfl : k = n := by omega
      have hkL := HLn.out
      have e0 : L.take k = L := List.take_of_length_le (by omega)
      have e1 : L.drop k = [] := List.drop_eq_nil_of_le (by omega)
      rw [e0, e1, List.append_nil] at HC
      clear e0 e1
      go_wp2_with fail
      go_ret
      refine ⟨HBx.out, by rw [HO2.out]; rfl, fun x hx => ?_⟩
      rw [HO2.out] at hx
      obtain rfl := Option.some.inj hx
      have hcl : cur.length = k := by have h := congrArg List.length HC.out; simp [lsOf, renT] at h; omega
      refine ⟨_, _, _, _, _, _, treeRows cur.length _ cur hs2.length _ hs2, HKx.out, ⟨_, _, cur, hs2, rfl, HC.out, HHs.out.1, rfl⟩, ?_, HD.out⟩
      rw [treeRows_eq, hcl, HHs.out.2]
      simpa using HRx.out
end Go.Proofs.Yteoblmhbjmefoaa

/-
  A HANDLER DROPPED: the program's change.
-/
namespace Go.Proofs.Yteoblmhbjmefoaa
open Go.RowKit Nm
set_option linter.unusedSimpArgs false
set_option linter.unusedVariables false

theorem rows_delH {W W' : World} {lo n m k : Nat} {v v' : Value} {hs : List HndV} {pre : List Row} (hm : m + 1 = n) (hr : Rows W lo (pre ++ two 83 3 n v hcells hrows hs))
    (ho : W'.ownsRow lo 83 3 v' m ((hs.flatMap hcells).take (k * 3) ++ (hs.flatMap hcells).drop ((k + 1) * 3))) (hg : W.grownBy W' v.ownBlock) (hv : v'.ownBlock = v.ownBlock) : Rows W' lo (pre ++ two 83 3 m v' hcells hrows (hs.eraseIdx k)) := by
  rw [flat_erase hcells_len] at ho
  have h1 := Rows.app (T' := 83) (d' := 3) hr hg ho (.inl hv)
  refine h1.sub ((List.Sublist.refl _).append ?_)
  exact List.Sublist.cons_cons _ (sub_flatM (List.eraseIdx_sublist _ _))
theorem off_rows {ls : List LgrV} {hs : List HndV} {n m bc g : Nat} {c : Nat} {v2 : Value} (h0 : g ≠ bc) (h1 : ∀ x ∈ ls, x.hv.ownBlock ≠ some bc ∧ x.fv.ownBlock ≠ some bc) (h2 : v2.ownBlock ≠ some bc) (h3 : ∀ x ∈ hs, x.fv.ownBlock ≠ some bc) :
    ∀ r ∈ [] ++ two 49 6 n (.slice (some ⟨g, 0, none⟩) n c) lcells lrows ls ++ two 83 3 m v2 hcells hrows hs, r.v.ownBlock ≠ some bc := by
  intro r hr
  simp only [two, hrows, lrows, List.mem_append, List.mem_cons, List.mem_flatMap, List.not_mem_nil, or_false, false_or] at hr
  rcases hr with (rfl | ⟨y, hy, rfl | rfl⟩) | rfl | ⟨y, hy, rfl⟩
  · exact fun e => h0 (Option.some.inj e)
  · exact (h1 y hy).1
  · exact (h1 y hy).2
  · exact h2
  · exact h3 y hy

theorem lsOf_atD {cur : List LgrV} {L : List Lgr} {f : Lgr → Lgr} {k : Nat} {l : Lgr} (hc : lsOf cur = (L.take k).map f ++ L.drop k) (hk : L[k]? = some l) : ∃ x, cur[k]? = some x ∧ x.l = l := by
  have hl := mapk_at f (List.getElem?_eq_some_iff.1 hk).1
  rw [← hc, hk] at hl
  unfold lsOf at hl
  rw [List.getElem?_map] at hl
  cases hx : cur[k]? with
  | none => rw [hx] at hl; cases hl
  | some x => rw [hx] at hl; exact ⟨x, rfl, Option.some.inj hl⟩
set_option maxHeartbeats 8000000 in
set_option maxRecDepth 100000 in
theorem dropHClo_c {w : World} {L : List Lgr} {H : List Hnd} {q : Int} {bf : Nat} (f : ByteArray) (hbf : w.cell? ⟨bf, 0, none⟩ = some (.string f)) (hok : treeOk L H q = true)
    (W : World) (lo bc : Nat) (v1 v2 : Value) (rs : List Row) (hp : CloPre w lo bc W v1 v2 rs L H q) :
    Calls Try.prog 62 #[.pointer (some ⟨bc, 0, none⟩), .pointer (some ⟨bf, 0, none⟩)] W (CloPost lo bc W (if idxL (hnm H) f.data.toList < 0 then none else some (L.map (woL f.data.toList), H.eraseIdx (idxL (hnm H) f.data.toList).toNat, q))) := by
  obtain ⟨hb, hlo, hbc, hkb, hs, hr, hap, hd⟩ := hp
  obtain ⟨_, _, _, h8, h1l, _⟩ := tree_names hok
  have h6 := tree_hlen hok
  have HND := hid (fun (l : Lgr) (hl : l ∈ L) => (tree_nodup hok hl).2)
  have HD := hid (dropH_fit f.data.toList (idxL (hnm H) f.data.toList).toNat hd)
  have hbfw : bf < w.heap.size := World.block_lt_of_cell? w _ hbf
  have CHA := hid (implHandlerAt_c f (hs.at_ (hr.below (Below.refl W.heap.size W).drew) hd) (Nat.le_refl _))
  obtain ⟨u1, u2, ls, hs', e, h1, h2, h3⟩ := hs
  have e' : v1 = u1 ∧ v2 = u2 := by simpa using e
  obtain ⟨rfl, rfl⟩ := e'
  subst h3
  have HONE := hid (treeL_slices hr).2
  have hll : ls.length = L.length := by rw [← h1]; simp [lsOf]
  have hlh : hs'.length = H.length := by rw [← h2]; simp [hsOf]
  obtain ⟨hl, hh⟩ := hr.lsIn
  obtain ⟨A, c, rfl, hnc, hcm⟩ := hl.1.form
  obtain ⟨A4, c4, rfl, hnc4, hcm4⟩ := hh.1.form
  clear hl hh
  rw [treeRows_eq] at hr hap
  have hr0 : Rows W lo ([] ++ two 49 6 ls.length (.slice A ls.length c) lcells lrows ls ++ two 83 3 hs'.length (.slice A4 hs'.length c4) hcells hrows hs') := by simpa using hr
  obtain ⟨g, rfl, hglt⟩ := own_some hr0.top (by omega)
  have hgl : lo ≤ g := (hr0.top.lt g rfl).1
  have hgb : g ≠ bc := fun e => hap ⟨49, 6, ls.length, .slice (some ⟨g, 0, none⟩) ls.length c, ls.flatMap lcells⟩ (by simp [two]) (by rw [← e]; rfl)
  have HNL := hid (show ∀ x ∈ ls, x.hv.ownBlock ≠ some bc ∧ x.fv.ownBlock ≠ some bc from fun x hx => ⟨hap ⟨9, 1, x.hn, x.hv, x.l.hs.map txt⟩ (by
    rw [List.mem_append]; left
    simp only [two, List.mem_cons, List.mem_flatMap]
    exact .inr ⟨x, hx, by simp [lrows]⟩), hap ⟨134, 3, x.fn, x.fv, fsCells x.l.fs⟩ (by
    rw [List.mem_append]; left
    simp only [two, List.mem_cons, List.mem_flatMap]
    exact .inr ⟨x, hx, by simp [lrows]⟩)⟩)
  have HNH := hid (show ∀ x ∈ hs', x.fv.ownBlock ≠ some bc from fun x hx => hap ⟨134, 3, x.fn, x.fv, fsCells x.h.fs⟩ (by
    rw [List.mem_append]; right
    simp only [two, List.mem_cons, List.mem_flatMap]
    exact .inr ⟨x, hx, by simp [hrows]⟩))
  have HHB := hid (show (Value.slice A4 hs'.length c4).ownBlock ≠ some bc from hap ⟨83, 3, hs'.length, .slice A4 hs'.length c4, hs'.flatMap hcells⟩ (by
    rw [List.mem_append]; right
    simp [two]))
  have hgf : g ≠ bf := by omega
  generalize hN : ls.length = n at *
  have hn8 : n ≤ 8 := by omega
  unfold maxLen at hcm hcm4
  have HR := hid hr0
  have HKB := hid hkb
  have HB := hid hb
  have HBF := hid hbf
  have HH := hid h2
  have HL := hid h1
  have HLn := hid hll
  have HLh := hid hlh
  have HLO := hid (And.intro hlo hbc)
  have d0 := (HKB.out.2 0 _ rfl).1
  have d1 := (HKB.out.2 1 _ rfl).1
  have d2 := (HKB.out.2 2 _ rfl).1
  have cf := (HB.out.cell (p := ⟨bf, 0, none⟩) hbfw).trans hbf
  have hh6 : hs'.length ≤ 6 := by omega
  clear hap hr hr0 hkb hd h1 h2 e hbf hok hb hll hlh hN h8 h1l hlo hbc h6
  generalize hO : (if idxL (hnm H) f.data.toList < 0 then none else some (L.map (woL f.data.toList), H.eraseIdx (idxL (hnm H) f.data.toList).toNat, q)) = O
  have HO := hid hO
  clear hO
  have HIX := hid (fun (h : ¬ idxL (hnm H) f.data.toList < 0) => idx_natN h)
  go_enter Try.func62, Try.ntmps62
  go_wp2_with fail
  refine wp_region_held_drew (S := (fun w' : World => (w'.cell? ⟨bc, 0, none⟩ = some (.slice (some ⟨g, 0, none⟩) n c) ∧ w'.cell? ⟨bc, 1, none⟩ = some (.slice A4 hs'.length c4) ∧ w'.cell? ⟨bc, 2, none⟩ = some (.int .i64 q)) ∧ w'.cell? ⟨bf, 0, none⟩ = some (.string f))) (by kernel_rfl) ⟨⟨d0, d1, d2⟩, cf⟩ (fun hS => ?_)
  refine wpAnyH_take (i := 0) (oi := ?oi156) (v := ?v156) ?hi156 (by kernel_rfl) ?hf156 ?hr156 ?hQ156 (Or.inl ⟨?hw156, ?hy156⟩) (by assumption) ?rest156
  case hi156 => simp only [List.getElem?_toArray, List.getElem?_cons_succ, List.getElem?_cons_zero]; rfl
  case hf156 => kernel_rfl
  case hr156 => kernel_rfl
  case hw156 => rfl
  case hy156 => (intro w hSw; (try dsimp only at hSw); go_simp; all_goals (first | done | with_reducible rfl))
  case hQ156 => exact fun _ _ _ h => h
  simp only [Act.put, List.setIfInBounds_toArray, List.set_cons_zero, List.set_cons_succ]
  refine wpAnyH_take (i := 1) (oi := ?oi157) (v := ?v157) ?hi157 (by kernel_rfl) ?hf157 ?hr157 ?hQ157 (Or.inl ⟨?hw157, ?hy157⟩) (by assumption) ?rest157
  case hi157 => simp only [List.getElem?_toArray, List.getElem?_cons_succ, List.getElem?_cons_zero]; rfl
  case hf157 => kernel_rfl
  case hr157 => kernel_rfl
  case hw157 => rfl
  case hy157 => (intro w hSw; (try dsimp only at hSw); go_simp; all_goals (first | done | with_reducible rfl))
  case hQ157 => exact fun _ _ _ h => h
  simp only [Act.put, List.setIfInBounds_toArray, List.set_cons_zero, List.set_cons_succ]
  refine wpAnyH_take (i := 2) (oi := ?oi158) (v := ?v158) ?hi158 (by kernel_rfl) ?hf158 ?hr158 ?hQ158 (Or.inl ⟨?hw158, ?hy158⟩) (by assumption) ?rest158
  case hi158 => simp only [List.getElem?_toArray, List.getElem?_cons_succ, List.getElem?_cons_zero]; rfl
  case hf158 => kernel_rfl
  case hr158 => kernel_rfl
  case hw158 => rfl
  case hy158 => (intro w hSw; (try dsimp only at hSw); go_simp; all_goals (first | done | with_reducible rfl))
  case hQ158 => exact fun _ _ _ h => h
  simp only [Act.put, List.setIfInBounds_toArray, List.set_cons_zero, List.set_cons_succ]
  refine wpAnyH_take (i := 3) (oi := ?oi159) (v := ?v159) ?hi159 (by kernel_rfl) ?hf159 ?hr159 ?hQ159 (Or.inl ⟨?hw159, ?hy159⟩) (by assumption) ?rest159
  case hi159 => simp only [List.getElem?_toArray, List.getElem?_cons_succ, List.getElem?_cons_zero]; rfl
  case hf159 => kernel_rfl
  case hr159 => kernel_rfl
  case hw159 => rfl
  case hy159 => (intro w hSw; (try dsimp only at hSw); go_simp; all_goals (first | done | with_reducible rfl))
  case hQ159 => exact fun _ _ _ h => h
  simp only [Act.put, List.setIfInBounds_toArray, List.set_cons_zero, List.set_cons_succ]
  refine wpAnyH_ready (rs := [4]) (by kernel_rfl) (by simp) ?_
  refine AllReadyH.cons (o := ?oi160) ?hi160 (fun K hK => ?step160) AllReadyH.nil
  case hi160 => simp only [List.getElem?_toArray, List.getElem?_cons_succ, List.getElem?_cons_zero]; rfl
  rw [if_pos (by rfl)]
  go_simp
  go_at_call 63
  refine (CHA.out).mono ?_
  rintro e w1 ⟨rfl, hb1⟩
  have HW1 := hid (show Below W.heap.size W w1 from ((Below.refl W.heap.size W).drew).trans hb1)
  have K1 := HKB.out.to HW1.out
  have HK1 := hid K1
  have HR1 := hid (HR.out.below HW1.out)
  have hlw0 : lo ≤ W.heap.size := by have := HKB.out.1; have := HLO.out.2; omega
  have HL1 := hid (HW1.out.mono hlw0)
  refine hK.out _ _ ⟨⟨(K1.2 0 _ rfl).1, (K1.2 1 _ rfl).1, (K1.2 2 _ rfl).1⟩, (HW1.out.cell (p := ⟨bf, 0, none⟩) (World.block_lt_of_cell? _ _ cf)).trans cf⟩ (fun hS => ?_)
  refine wpAnyH_take (i := 5) (oi := ?oi161) (v := ?v161) ?hi161 (by kernel_rfl) ?hf161 ?hr161 ?hQ161 (Or.inl ⟨?hw161, ?hy161⟩) (by assumption) ?rest161
  case hi161 => simp only [List.getElem?_toArray, List.getElem?_cons_succ, List.getElem?_cons_zero]; rfl
  case hf161 => kernel_rfl
  case hr161 => kernel_rfl
  case hw161 => rfl
  case hy161 => (intro w hSw; (try dsimp only at hSw); go_simp; all_goals (first | done | with_reducible rfl))
  case hQ161 => exact fun _ _ _ h => h
  simp only [Act.put, List.setIfInBounds_toArray, List.set_cons_zero, List.set_cons_succ]
  refine wpAnyH_done (by kernel_rfl) ?_ _
  clear hb1 K1 d0 d1 d2 hS
  by_cases hneg : idxL (hnm H) f.data.toList < 0
  · have HO1 := hid (show O = none by rw [← HO.out, if_pos hneg])
    generalize idxL (hnm H) f.data.toList = ix at *
    go_wp2_with fail
    go_ret
    exact ⟨HL1.out, by rw [HO1.out]; rfl, fun x hx => by rw [HO1.out] at hx; cases hx⟩
  obtain ⟨kk, hkk, hkl, hkx⟩ := HIX.out (by omega)
  have hO1 : O = some (L.map (woL f.data.toList), H.eraseIdx kk, q) := by rw [← HO.out, if_neg hneg, hkk]; rfl
  rw [hkk] at HD
  rw [hkk]
  have hkH : kk < hs'.length := by have := HLh.out; unfold hnm at hkl; rw [List.length_map] at hkl; omega
  have HO2 := hid hO1
  obtain ⟨m, hm⟩ : ∃ m, m + 1 = hs'.length := ⟨hs'.length - 1, by omega⟩
  -- the handler's row
  have hrh : Rows w1 lo (two 49 6 n (.slice (some ⟨g, 0, none⟩) n c) lcells lrows ls ++ two 83 3 hs'.length (.slice A4 hs'.length c4) hcells hrows hs' ++ []) := by simpa using HR1.out
  have hown := hrh.top
  obtain ⟨g4, rfl, _⟩ := own_some hown (by omega)
  have hg4 : lo ≤ g4 := (hown.lt g4 rfl).1
  have hg4b : g4 ≠ bc := fun e => HHB.out (by rw [← e]; rfl)
  have hg4f : g4 ≠ bf := by have := HLO.out.1; omega
  rw [← hm] at hown
  have CD := hid (deleteHnd_c (k := kk) hown (by omega) HONE.out (by omega))
  have HM := hid (And.intro hm hkH)
  have e0 := (HK1.out.2 1 _ rfl).1
  have s0 : IntKind.i64.wrap ((kk : Int) + 1) = (kk : Int) + 1 := by rw [IntKind.wrap_i64]; omega
  have hlw1 : lo ≤ w1.heap.size := Nat.le_trans hlw0 HW1.out.size
  rw [← hm] at e0
  clear hneg hkk hkl hkx hO1 hrh hown hm cf
  go_wp2_with fail
  refine (CD.out).mono ?_
  rintro e w2 ⟨rfl, ho2, hg2⟩
  have HK2 := hid (HK1.out.kept hg2 (show some bc ≠ some g4 from fun e => hg4b (Option.some.inj e).symm))
  have hR2 := rows_delH HM.out.1 HR1.out ho2 hg2 rfl
  have HNE := hid (show ∀ x ∈ hs'.eraseIdx kk, x.fv.ownBlock ≠ some bc from fun x hx => HNH.out x ((List.eraseIdx_sublist _ _).subset hx))
  have HR2 := hid (hR2.off (j := 1) (u := .slice (some ⟨g4, 0, none⟩) m c4) (off_rows hgb HNL.out (fun e => hg4b (Option.some.inj e)) HNE.out))
  have HB2 := hid (show Below lo W w2 from HL1.out.grown hg2 hlw1 (fun z hz => by obtain rfl := Option.some.inj hz; exact hg4))
  have x1 := (HK2.out.2 1 _ rfl).1
  have x1f := (HK2.out.2 1 _ rfl).2
  have HKs := hid (HK2.out.set 1 (.slice (some ⟨g4, 0, none⟩) m c4))
  have HBs := hid (HB2.out.setCell (p := ⟨bc, 1, none⟩) HLO.out.2 (.slice (some ⟨g4, 0, none⟩) m c4))
  have x0 := (HKs.out.2 0 _ rfl).1
  clear ho2 hg2 hR2 e0
  have HHs := hid (show hsOf (hs'.eraseIdx kk) = H.eraseIdx kk by rw [hsOf_erase, HH.out])
  have HHl := hid (show (hs'.eraseIdx kk).length = m by rw [List.length_eraseIdx, if_pos HM.out.2]; have := HM.out.1; omega)
  generalize hs'.eraseIdx kk = hs2 at *
  go_wp2_with fail
  clear x0 x1 x1f
  go_loopw [5, 29] (fun av iv wr => ∃ (k : Nat) (cul : List LgrV) (u : Value), iv = .int .i64 k ∧ av = u ∧ k ≤ n ∧ Hid (lsOf cul = (L.take k).map (woL f.data.toList) ++ L.drop k) ∧
    Hid (Rows wr lo ([] ++ two 49 6 n (.slice (some ⟨g, 0, none⟩) n c) lcells lrows cul ++ two 83 3 m (.slice (some ⟨g4, 0, none⟩) m c4) hcells hrows hs2)) ∧ Hid (Blk wr bc [.slice (some ⟨g, 0, none⟩) n c, .slice (some ⟨g4, 0, none⟩) m c4, .int .i64 q]) ∧ Hid (∀ x ∈ cul, x.hv.ownBlock ≠ some bc ∧ x.fv.ownBlock ≠ some bc) ∧ Hid (Below lo W wr)) (fun _ iv _ => n - (intOf iv).toNat)
  case atStart => exact ⟨0, ls, _, rfl, rfl, by omega, by simpa [Hid] using HL.out, HR2.out, HKs.out, HNL.out, HBs.out⟩
  case round =>
    obtain ⟨k, cul, u, rfl, rfl, hk, HC, HRx, HKx, HNx, HBx⟩ := hrel
    have hlw : lo ≤ wr.heap.size := by have := HKx.out.1; have := HLO.out.2; omega
    by_cases hlt : k < n
    · have hkL : k < L.length := by have := HLn.out; omega
      obtain ⟨l0, hl0⟩ : ∃ l, L[k]? = some l := ⟨_, List.getElem?_eq_getElem hkL⟩
      obtain ⟨x, hx, hxl⟩ := lsOf_atD HC.out hl0
      subst hxl
      have HX := hid (And.intro hx hl0)
      have CDT := hid (detach_c f (HRx.out.below ((Below.refl _ _).drew)) hx (by have := HND.out x.l (List.mem_of_getElem? hl0); omega) hlw)
      have c0 := (HKx.out.2 0 _ rfl).1
      have cf : wr.cell? ⟨bf, 0, none⟩ = some (.string f) := (HBx.out.cell (p := ⟨bf, 0, none⟩) (show bf < lo by have := HLO.out.1; omega)).trans ((HB.out.cell (p := ⟨bf, 0, none⟩) hbfw).trans HBF.out)
      have s0 : (0 : Int) ≤ (k : Int) := by omega
      have s1 : (k : Int) < (n : Int) := by omega
      have s2 : ((k : Int)).toNat = k := by simp
      clear hx hl0
      go_wp2_with fail
      refine wp_region_held_drew (S := (fun w' : World => w'.cell? ⟨bc, 0, none⟩ = some (.slice (some ⟨g, 0, none⟩) n c) ∧ w'.cell? ⟨bf, 0, none⟩ = some (.string f))) (by kernel_rfl) ⟨c0, cf⟩ (fun hS => ?_)
      refine wpAnyH_take (i := 0) (oi := ?oi162) (v := ?v162) ?hi162 (by kernel_rfl) ?hf162 ?hr162 ?hQ162 (Or.inl ⟨?hw162, ?hy162⟩) (by assumption) ?rest162
      case hi162 => simp only [List.getElem?_toArray, List.getElem?_cons_succ, List.getElem?_cons_zero]; rfl
      case hf162 => kernel_rfl
      case hr162 => kernel_rfl
      case hw162 => rfl
      case hy162 => (intro w hSw; (try dsimp only at hSw); go_simp; all_goals (first | done | with_reducible rfl))
      case hQ162 => exact fun _ _ _ h => h
      simp only [Act.put, List.setIfInBounds_toArray, List.set_cons_zero, List.set_cons_succ]
      refine wpAnyH_take (i := 1) (oi := ?oi163) (v := ?v163) ?hi163 (by kernel_rfl) ?hf163 ?hr163 ?hQ163 (Or.inl ⟨?hw163, ?hy163⟩) (by assumption) ?rest163
      case hi163 => simp only [List.getElem?_toArray, List.getElem?_cons_succ, List.getElem?_cons_zero]; rfl
      case hf163 => kernel_rfl
      case hr163 => kernel_rfl
      case hw163 => rfl
      case hy163 => (intro w hSw; (try dsimp only at hSw); go_simp; all_goals (first | done | with_reducible rfl))
      case hQ163 => exact fun _ _ _ h => h
      simp only [Act.put, List.setIfInBounds_toArray, List.set_cons_zero, List.set_cons_succ]
      refine wpAnyH_take (i := 2) (oi := ?oi164) (v := ?v164) ?hi164 (by kernel_rfl) ?hf164 ?hr164 ?hQ164 (Or.inl ⟨?hw164, ?hy164⟩) (by assumption) ?rest164
      case hi164 => simp only [List.getElem?_toArray, List.getElem?_cons_succ, List.getElem?_cons_zero]; rfl
      case hf164 => kernel_rfl
      case hr164 => kernel_rfl
      case hw164 => rfl
      case hy164 => (intro w hSw; (try dsimp only at hSw); go_simp; all_goals (first | done | with_reducible rfl))
      case hQ164 => exact fun _ _ _ h => h
      simp only [Act.put, List.setIfInBounds_toArray, List.set_cons_zero, List.set_cons_succ]
      refine wpAnyH_take (i := 3) (oi := ?oi165) (v := ?v165) ?hi165 (by kernel_rfl) ?hf165 ?hr165 ?hQ165 (Or.inl ⟨?hw165, ?hy165⟩) (by assumption) ?rest165
      case hi165 => simp only [List.getElem?_toArray, List.getElem?_cons_succ, List.getElem?_cons_zero]; rfl
      case hf165 => kernel_rfl
      case hr165 => kernel_rfl
      case hw165 => rfl
      case hy165 => (intro w hSw; (try dsimp only at hSw); go_simp; all_goals (first | done | with_reducible rfl))
      case hQ165 => exact fun _ _ _ h => h
      simp only [Act.put, List.setIfInBounds_toArray, List.set_cons_zero, List.set_cons_succ]
      refine wpAnyH_take (i := 4) (oi := ?oi166) (v := ?v166) ?hi166 (by kernel_rfl) ?hf166 ?hr166 ?hQ166 (Or.inl ⟨?hw166, ?hy166⟩) (by assumption) ?rest166
      case hi166 => simp only [List.getElem?_toArray, List.getElem?_cons_succ, List.getElem?_cons_zero]; rfl
      case hf166 => kernel_rfl
      case hr166 => kernel_rfl
      case hw166 => rfl
      case hy166 => (intro w hSw; (try dsimp only at hSw); go_simp; all_goals (first | done | with_reducible rfl))
      case hQ166 => exact fun _ _ _ h => h
      simp only [Act.put, List.setIfInBounds_toArray, List.set_cons_zero, List.set_cons_succ]
      refine wpAnyH_take (i := 5) (oi := ?oi167) (v := ?v167) ?hi167 (by kernel_rfl) ?hf167 ?hr167 ?hQ167 (Or.inl ⟨?hw167, ?hy167⟩) (by assumption) ?rest167
      case hi167 => simp only [List.getElem?_toArray, List.getElem?_cons_succ, List.getElem?_cons_zero]; rfl
      case hf167 => kernel_rfl
      case hr167 => kernel_rfl
      case hw167 => rfl
      case hy167 => (intro w hSw; (try dsimp only at hSw); go_simp; all_goals (first | done | with_reducible rfl))
      case hQ167 => exact fun _ _ _ h => h
      simp only [Act.put, List.setIfInBounds_toArray, List.set_cons_zero, List.set_cons_succ]
      refine wpAnyH_take (i := 6) (oi := ?oi168) (v := ?v168) ?hi168 (by kernel_rfl) ?hf168 ?hr168 ?hQ168 (Or.inl ⟨?hw168, ?hy168⟩) (by assumption) ?rest168
      case hi168 => simp only [List.getElem?_toArray, List.getElem?_cons_succ, List.getElem?_cons_zero]; rfl
      case hf168 => kernel_rfl
      case hr168 => kernel_rfl
      case hw168 => rfl
      case hy168 => (intro w hSw; (try dsimp only at hSw); go_simp; all_goals (first | done | with_reducible rfl))
      case hQ168 => exact fun _ _ _ h => h
      simp only [Act.put, List.setIfInBounds_toArray, List.set_cons_zero, List.set_cons_succ]
      refine wpAnyH_ready (rs := [7]) (by kernel_rfl) (by simp) ?_
      refine AllReadyH.cons (o := ?oi169) ?hi169 (fun K hK => ?step169) AllReadyH.nil
      case hi169 => simp only [List.getElem?_toArray, List.getElem?_cons_succ, List.getElem?_cons_zero]; rfl
      rw [if_pos (by rfl)]
      go_simp
      go_at_call 65
      refine (CDT.out).mono ?_
      rintro e w3 ⟨rfl, v', hv', hR3, hB3, hK3⟩
      have HR3 := hid hR3
      have HK3 := hid (hK3 bc _ (fun e => hgb e.symm) (fun e => (HNx.out x (List.mem_of_getElem? HX.out.1)).1 e.symm) (HKx.out.dr 1))
      have HB3 := hid (HBx.out.drew.trans hB3)
      have HV := hid hv'
      refine hK.out _ _ ⟨(HK3.out.2 0 _ rfl).1, (hB3.cell (p := ⟨bf, 0, none⟩) (show bf < lo by have := HLO.out.1; omega)).trans cf⟩ (fun hS => ?_)
      refine wpAnyH_done (by kernel_rfl) ?_ _
      clear hv' hR3 hB3 hK3 hS c0 cf
      go_wp2_with fail
      go_roundw
      case rel =>
        refine ⟨k + 1, _, _, by go_num, rfl, by omega, ?_, HR3.out, HK3.out, ?_, HB3.out⟩
        · show lsOf (cul.set k _) = _
          rw [mapk_step _ HX.out.2, ← HC.out]
          unfold lsOf
          rw [List.map_set]
        · intro y hy
          rcases List.mem_or_eq_of_mem_set hy with hy | rfl
          · exact HNx.out y hy
          · exact ⟨by show v'.ownBlock ≠ _; rw [HV.out]; exact (HNx.out x (List.mem_of_getElem? HX.out.1)).1, (HNx.out x (List.mem_of_getElem? HX.out.1)).2⟩
      case measure => simp [intOf]; omega
    · obtain rfl : k = n := by omega
      have HCC := hid (show lsOf cul = L.map (woL f.data.toList) by
        have hkL := HLn.out
        have h := HC.out
        rw [List.take_of_length_le (by omega), List.drop_eq_nil_of_le (by omega), List.append_nil] at h
        exact h)
      have hcll : cul.length = k := by have h := congrArg List.length HCC.out; have := HLn.out; simp [lsOf] at h; omega
      have HCLL := hid hcll
      clear hcll HC
      go_wp2_with fail
      go_ret
      refine ⟨HBx.out, by rw [HO2.out]; rfl, fun x hx => ?_⟩
      rw [HO2.out] at hx
      obtain rfl := Option.some.inj hx
      refine ⟨_, _, _, _, _, _, treeRows cul.length _ cul hs2.length _ hs2, HKx.out, ⟨_, _, cul, hs2, rfl, HCC.out, HHs.out, rfl⟩, ?_, HD.out⟩
      rw [treeRows_eq, HCLL.out, HHl.out]
      simpa using HRx.out
end Go.Proofs.Yteoblmhbjmefoaa

/-
  A HANDLER DROPPED: DropHandler of the program and of the model; without. By gen_dl8.py.
-/
namespace Go.Proofs.Yteoblmhbjmefoaa
open Go.RowKit Nm
set_option linter.unusedSimpArgs false
set_option linter.unusedVariables false

set_option maxHeartbeats 4000000 in
set_option maxRecDepth 100000 in
theorem without_c (v : Value) (n B : Nat) (l : List Name) (s : ByteArray) (w : World) (hv : Sl w B 1 n v (l.map txt)) (hB : B ≤ w.heap.size) (hn : n ≤ 64) :
    Calls Try.prog 61 #[v, .string s] w (fun e w' => ∃ v', e = .returned v' ∧ w'.ownsRow w.heap.size 9 1 v' (l.filter (notS s.data.toList)).length ((l.filter (notS s.data.toList)).map txt) ∧ Below w.heap.size w w') := by
  have hln : l.length = n := by have := hv.1; simpa using this
  obtain ⟨A, c, rfl, hnc, hcm⟩ := hv.form
  unfold maxLen at hcm
  have HV := hid (And.intro hv hln)
  clear hv hln
  go_enter Try.func61, Try.ntmps61
  go_wp2_with fail
  go_loopw [5, 6] (fun sv iv wr => ∃ (k : Nat), iv = .int .i64 k ∧ k ≤ n ∧ wr.ownsRow w.heap.size 9 1 sv ((l.take k).filter (notS s.data.toList)).length (((l.take k).filter (notS s.data.toList)).map txt) ∧ Hid (Below w.heap.size w wr)) (fun _ iv _ => n - (intOf iv).toNat)
  case atStart => exact ⟨0, rfl, by omega, World.ownsRow_lit w #[] 0 (Nat.le_refl _) (by unfold maxLen; omega) rfl, (Below.refl _ _).alloc (Nat.le_refl _) _⟩
  case round =>
    obtain ⟨k, rfl, hk, hown, HBx⟩ := hrel
    have hfl : ((l.take k).filter (notS s.data.toList)).length ≤ 64 := by
      have h1 := List.length_filter_le (notS s.data.toList) (l.take k)
      rw [List.length_take] at h1; omega
    obtain ⟨Ax, cx, rfl, _, _⟩ := (Sl.of_own hown).form
    have HO := hid hown
    clear hown
    by_cases hlt : k < n
    · obtain ⟨b, o, p, rfl, hbB, hx, c0⟩ := (HV.out.1.below HBx.out hB).text hlt
      have HX := hid hx
      clear hx
      by_cases he : p.data.toList = s.data.toList
      · have HF := hid (show (l.take (k + 1)).filter (notS s.data.toList) = (l.take k).filter (notS s.data.toList) from filt_drop (by rw [← he]; exact HX.out))
        have e1 := eq_true_of he
        clear he
        go_wp2_with fail
        go_roundw
        case rel => exact ⟨k + 1, by go_num, by omega, by rw [HF.out]; exact HO.out, HBx.out⟩
        case measure => simp [intOf]; omega
      · have HF := hid (show (l.take (k + 1)).filter (notS s.data.toList) = (l.take k).filter (notS s.data.toList) ++ [p.data.toList] from filt_keep HX.out he)
        have e1 := eq_false_of he
        clear he
        go_wp2_with (at_builtin; (refine appText _ rfl (.tmp 20) (.tmp 25) rfl w.heap.size _ ((l.take k).filter (notS s.data.toList)) (by rfl) HO.out p _ _ _ (by rfl) (by simp) (by omega) HBx.out.size ?_))
        intro v' w4 ho4 hb4
        have HO4 := hid ho4
        have HB4 := hid (HBx.out.trans hb4)
        clear ho4 hb4
        go_wp2_with fail
        go_roundw
        case rel => exact ⟨k + 1, by go_num, by omega, by rw [HF.out]; simpa using HO4.out, HB4.out⟩
        case measure => simp [intOf]; omega
    · have HF := hid (show l.take k = l from List.take_of_length_le (by have := HV.out.2; omega))
      go_wp2_with fail
      go_ret
      refine ⟨_, rfl, ?_, HBx.out⟩
      rw [show l.filter (notS s.data.toList) = (l.take k).filter (notS s.data.toList) by rw [HF.out]]
      exact HO.out

set_option maxHeartbeats 4000000 in
set_option maxRecDepth 100000 in
theorem implDropHandler_c {w : World} {B : Nat} {v : Value} {L : List Lgr} {H : List Hnd} {q : Int} (s : ByteArray) (h : TreeIn w B v L H q) (hB : B ≤ w.heap.size) :
    Calls Try.prog 20 #[v, .string s] w (TreePostO w (dropHX L H q s.data.toList)) := by
  obtain ⟨A1, n1, k1, A2, n2, k2, rfl⟩ := h.form
  have HW := hid (show Below w.heap.size w (((w.alloc (.cells #[.slice A1 n1 k1, .slice A2 n2 k2, .int .i64 q] 30)).alloc (.cells #[.string s] 9)).alloc (.cells #[.slice none 0 0, .slice none 0 0, .int .i64 0] 30)) from (((Below.refl _ _).alloc (Nat.le_refl _) _).alloc (by simp) _).alloc (by simp; omega) _)
  have KT := hid (((Blk.new w #[.slice A1 n1 k1, .slice A2 n2 k2, .int .i64 q] 30).alloc (.cells #[.string s] 9)).alloc (.cells #[.slice none 0 0, .slice none 0 0, .int .i64 0] 30))
  have KQ := hid ((Blk.new (w.alloc (.cells #[.slice A1 n1 k1, .slice A2 n2 k2, .int .i64 q] 30)) #[.string s] 9).alloc (.cells #[.slice none 0 0, .slice none 0 0, .int .i64 0] 30))
  have KR := hid (Blk.new ((w.alloc (.cells #[.slice A1 n1 k1, .slice A2 n2 k2, .int .i64 q] 30)).alloc (.cells #[.string s] 9)) #[.slice none 0 0, .slice none 0 0, .int .i64 0] 30)
  simp only [World.size_alloc] at KQ KR
  have h' := h.below HW.out hB
  have hB' := Nat.le_trans hB HW.out.size
  have CQ := hid (implChanged1_c 62 (.pointer (some ⟨w.heap.size + 1, 0, none⟩)) (if idxL (hnm H) s.data.toList < 0 then none else some (L.map (woL s.data.toList), H.eraseIdx (idxL (hnm H) s.data.toList).toNat, q)) h' hB' (fun args w => enters rfl (by kernel_rfl) rfl args w)
      (fun W lo bc v1 v2 rs hok hp => dropHClo_c s (KQ.out.2 0 _ rfl).1 hok W lo bc v1 v2 rs hp))
  have hmf : ∀ (fn : Fn) (first cap : Array Value) (w : World), (Instr.makeFunc fn first cap).run Try.prog w = .ok (.func fn first cap) w := fun _ _ _ _ => rfl
  clear h h' hB'
  have HE := hid (show dropHX L H q s.data.toList = changedO L H q (if idxL (hnm H) s.data.toList < 0 then none else some (L.map (woL s.data.toList), H.eraseIdx (idxL (hnm H) s.data.toList).toNat, q)) from rfl)
  generalize dropHX L H q s.data.toList = X at HE ⊢
  generalize (if idxL (hnm H) s.data.toList < 0 then none else some (L.map (woL s.data.toList), H.eraseIdx (idxL (hnm H) s.data.toList).toNat, q)) = O at HE CQ
  have d0 := (KT.out.2 0 _ rfl).1
  have d1 := (KT.out.2 1 _ rfl).1
  have d2 := (KT.out.2 2 _ rfl).1
  go_enter Try.func20, Try.ntmps20
  go_wp2_with fail
  refine (CQ.out).mono ?_
  rintro e w1 ⟨v', rs, rfl, hs, hr, hb1⟩
  have HX' := hid (show changedO L H q O = X from HE.out.symm)
  rw [HX'.out] at hs
  obtain ⟨u1, u2, ls, hs', rfl, hL, hH, rfl⟩ := hs
  have KR1 := hid (KR.out.to hb1)
  have HB1 := hid (HW.out.trans (hb1.mono HW.out.size))
  have HR1 := hid (hr.base (show w.heap.size + 3 ≤ _ by simp))
  have HS1 := hid (show TreeS (treeRows ls.length u1 ls hs'.length u2 hs') (.agg #[u1, u2, .int .i64 (resQ X)]) (resL X) (resH X) (resQ X) from ⟨u1, u2, ls, hs', rfl, hL, hH, rfl⟩)
  obtain ⟨hl, hh⟩ := hr.lsIn
  obtain ⟨A3, c3, rfl, _, _⟩ := hl.1.form
  obtain ⟨A4, c4, rfl, _, _⟩ := hh.1.form
  obtain ⟨q0c, q0f⟩ := KR1.out.2 0 _ rfl
  obtain ⟨q1c, q1f⟩ := KR1.out.2 1 _ rfl
  obtain ⟨q2c, q2f⟩ := KR1.out.2 2 _ rfl
  generalize hq0 : resQ X = q0 at *
  generalize hi0 : (changedO L H q O).isSome = i0 at *
  have HI := hid (show X.isSome = i0 by rw [← HX'.out]; exact hi0)
  have HQ0 := hid hq0
  clear hq0 hi0 hb1 hr hl hh hL hH d0 d1 d2
  go_wp2_with fail
  have RB := ((KR1.out.set 0 (.slice A3 ls.length c3)).set 1 (.slice A4 hs'.length c4)).set 2 (.int .i64 q0)
  have f0 := (RB.2 0 _ rfl).1
  have f1 := (RB.2 1 _ rfl).1
  have f2 := (RB.2 2 _ rfl).1
  refine bodyPost_ret (v := .tuple #[.agg #[.slice A3 ls.length c3, .slice A4 hs'.length c4, .int .i64 q0], .bool i0]) (by simp [results, Try.results20, go_sem, f0, f1, f2]) rfl ?_
  refine ⟨_, _, by rw [HI.out], (by rw [HQ0.out]; exact HS1.out), ?_, ?_⟩
  · refine Rows.base ?_ (show w.heap.size ≤ w.heap.size + 3 by omega)
    iterate 3 refine Rows.low ?_ (by omega)
    exact HR1.out
  · iterate 3 refine Below.setCell ?_ (by simp; try omega) _
    exact HB1.out

set_option maxHeartbeats 8000000 in
set_option maxRecDepth 100000 in
theorem specDropHandler_c {w : World} {B : Nat} {v : Value} {L : List Lgr} {H : List Hnd} {q : Int} (s : ByteArray) (h : TreeIn w B v L H q) (hB : B ≤ w.heap.size) :
    Calls Try.prog 19 #[v, .string s] w (TreePostO w (dropHX L H q s.data.toList)) := by
  have h0 := h
  have C := hid (fun (W : World) (hW : Below w.heap.size w W) => specTreeX_c (h0.below hW hB) (Nat.le_trans hB hW.size))
  have CC := hid (fun (hz : treeOk L H q = true) (W : World) (hW : Below w.heap.size w W) => specCopy_c (h0.below hW hB) hz (Nat.le_trans hB hW.size))
  obtain ⟨ls0, hs0, ⟨A1, n1, k1, A2, n2, k2, rfl, _, hh0, _⟩, _, hH0⟩ := h
  have AT := fun (W : World) (hW : Below w.heap.size w W) => handlerAt_c (.slice A2 n2 k2) n2 B hs0 s W (hh0.below hW hB)
  have hN : hnames hs0 = hnm H := by rw [hnames_hnm, hH0]
  rw [hN] at AT
  clear hN hh0 hH0 h0
  cases hz : treeOk L H q with
  | false =>
    have HN := hid (show dropHX L H q s.data.toList = none by unfold dropHX changedO; rw [hz]; rfl)
    generalize idxL (hnm H) s.data.toList = z at AT
    replace AT := hid AT
    rw [hz] at C
    clear hz CC
    go_enter Try.func19, Try.ntmps19
    go_wp2_with (go_at_call 60; refine (AT.out _ (by go_grown)).mono ?_; rintro e w2 ⟨rfl, hw2⟩; have hw2 := hw2.symm; subst hw2)
    refine (C.out _ ?_).mono ?_
    case refine_1 => go_grown
    rintro e w1 ⟨rfl, hb1⟩
    have K1 := ((Blk.new _ _ _).to hb1)
    simp only [World.size_alloc] at K1
    have HK1 := hid K1
    have HB1 := hid (Below.trans (by go_grown) (hb1.mono (by simp; try omega)) : Below w.heap.size w w1)
    clear hb1 K1
    obtain ⟨q0c, q0f⟩ := HK1.out.2 0 _ rfl
    obtain ⟨q1c, q1f⟩ := HK1.out.2 1 _ rfl
    obtain ⟨q2c, q2f⟩ := HK1.out.2 2 _ rfl
    go_wp2_with fail
    have RB := ((HK1.out.set 0 (.slice none 0 0)).set 1 (.slice none 0 0)).set 2 (.int .i64 0)
    have f0 := (RB.2 0 _ rfl).1
    have f1 := (RB.2 1 _ rfl).1
    have f2 := (RB.2 2 _ rfl).1
    refine bodyPost_ret (v := .tuple #[.agg #[.slice none 0 0, .slice none 0 0, .int .i64 0], .bool false]) (by simp [results, Try.results19, go_sem, f0, f1, f2]) rfl ?_
    refine postO_none HN.out rfl ?_
    iterate 3 refine Below.setCell ?_ (by simp) _
    exact HB1.out
  | true =>
   by_cases hneg : idxL (hnm H) s.data.toList < 0
   · have HN := hid (show dropHX L H q s.data.toList = none by unfold dropHX changedO; rw [hz, if_pos hneg]; rfl)
     generalize idxL (hnm H) s.data.toList = z at AT hneg
     replace AT := hid AT
     rw [hz] at C
     clear hz CC
     go_enter Try.func19, Try.ntmps19
     go_wp2_with (go_at_call 60; refine (AT.out _ (by go_grown)).mono ?_; rintro e w2 ⟨rfl, hw2⟩; have hw2 := hw2.symm; subst hw2)
     refine (C.out _ ?_).mono ?_
     case refine_1 => go_grown
     rintro e w1 ⟨rfl, hb1⟩
     have K1 := ((Blk.new _ _ _).to hb1)
     simp only [World.size_alloc] at K1
     have HK1 := hid K1
     have HB1 := hid (Below.trans (by go_grown) (hb1.mono (by simp; try omega)) : Below w.heap.size w w1)
     clear hb1 K1
     obtain ⟨q0c, q0f⟩ := HK1.out.2 0 _ rfl
     obtain ⟨q1c, q1f⟩ := HK1.out.2 1 _ rfl
     obtain ⟨q2c, q2f⟩ := HK1.out.2 2 _ rfl
     go_wp2_with fail
     have RB := ((HK1.out.set 0 (.slice none 0 0)).set 1 (.slice none 0 0)).set 2 (.int .i64 0)
     have f0 := (RB.2 0 _ rfl).1
     have f1 := (RB.2 1 _ rfl).1
     have f2 := (RB.2 2 _ rfl).1
     refine bodyPost_ret (v := .tuple #[.agg #[.slice none 0 0, .slice none 0 0, .int .i64 0], .bool false]) (by simp [results, Try.results19, go_sem, f0, f1, f2]) rfl ?_
     refine postO_none HN.out rfl ?_
     iterate 3 refine Below.setCell ?_ (by simp) _
     exact HB1.out
   · obtain ⟨k, hzk, hkl, hkx⟩ := idx_natN hneg
     have hkL : k < H.length := by unfold hnm at hkl; rw [List.length_map] at hkl; exact hkl
     obtain ⟨_, _, _, h8, h1l, _⟩ := tree_names hz
     have h6 := tree_hlen hz
     have HN := hid (dropH_some hz hzk)
     rw [hzk] at AT
     replace AT := hid AT
     have HND := hid (fun (l : Lgr) (hl : l ∈ L) => (tree_nodup hz hl).2)
     replace CC := hid (CC.out hz)
     rw [hz] at C
     clear hz hneg hzk hkl hkx
     go_enter Try.func19, Try.ntmps19
     go_wp2_with (go_at_call 60; refine (AT.out _ (by go_grown)).mono ?_; rintro e w2 ⟨rfl, hw2⟩; have hw2 := hw2.symm; subst hw2)
     refine (C.out _ ?_).mono ?_
     case refine_1 => go_grown
     rintro e w1 ⟨rfl, hb1⟩
     have K0 := (((Blk.new _ _ _).alloc _).to hb1)
     have K1 := ((Blk.new _ _ _).to hb1)
     simp only [World.size_alloc] at K0 K1
     have HK0 := hid K0
     have HK1 := hid K1
     have HB1 := hid (Below.trans (by go_grown) (hb1.mono (by simp; try omega)) : Below w.heap.size w w1)
     have hsz1 : w.heap.size + 2 ≤ w1.heap.size := by have := hb1.size; simp at this; omega
     have d0 := (HK0.out.2 0 _ rfl).1
     have d1 := (HK0.out.2 1 _ rfl).1
     have d2 := (HK0.out.2 2 _ rfl).1
     clear hb1 K0 K1
     go_wp2_with fail
     refine (CC.out _ HB1.out).mono ?_
     rintro e w2 ⟨v', rs, rfl, hs, hr, hb2⟩
     obtain ⟨u1, u2, ls, hs', rfl, h1, h2, rfl⟩ := hs
     have hll : ls.length = L.length := by rw [← h1]; simp [lsOf]
     have hlh : hs'.length = H.length := by rw [← h2]; simp [hsOf]
     have hkh : k < hs'.length := by omega
     obtain ⟨m, hm⟩ : ∃ m, m + 1 = hs'.length := ⟨hs'.length - 1, by omega⟩
     obtain ⟨hl, hh⟩ := hr.lsIn
     obtain ⟨A3, c3, rfl, hnc3, hcm3⟩ := hl.1.form
     obtain ⟨A4, c, rfl, hnc, hcm⟩ := hh.1.form
     have hone := (treeL_slices hr).2
     have hrN := rows_below hr
     rw [treeRows_eq] at hr hrN
     have hr0 : Rows w2 w1.heap.size ([] ++ two 49 6 ls.length (.slice A3 ls.length c3) lcells lrows ls ++ two 83 3 hs'.length (.slice A4 hs'.length c) hcells hrows hs') := by simpa using hr
     obtain ⟨g, rfl, hglt⟩ := own_some hr0.top (by omega)
     have hgl : w1.heap.size ≤ g := (hr0.top.lt g rfl).1
     have hown : w2.ownsRow w1.heap.size 83 3 (.slice A4 hs'.length c) hs'.length (hs'.flatMap hcells) := hr0.1 ⟨83, 3, hs'.length, .slice A4 hs'.length c, hs'.flatMap hcells⟩ (by simp [two])
     obtain ⟨g4, rfl, hg4lt⟩ := own_some hown (by omega)
     have hg4 : w1.heap.size ≤ g4 := (hown.lt g4 rfl).1
     have hsz12 : w1.heap.size ≤ w2.heap.size := hb2.size
     have hww1 : w.heap.size ≤ w1.heap.size := HB1.out.size
     have hgo : g4 ≠ w2.heap.size := by omega
     have hgo1 : g ≠ w2.heap.size := by omega
     have HNL := hid (show ∀ x ∈ ls, ∀ z, x.hv.ownBlock = some z → z < w2.heap.size from fun x hx z hz => (hr0.1 ⟨9, 1, x.hn, x.hv, x.l.hs.map txt⟩ (by
       simp only [two, List.nil_append, List.mem_append, List.mem_cons, List.mem_flatMap]; exact .inl (.inr ⟨x, hx, by simp [lrows]⟩))).lt z hz |>.2)
     -- the world in which the copy lies in its box
     obtain ⟨i0, hi, _, hz1, _⟩ := info_parts Try.infoHandler
     obtain ⟨A0, hA⟩ : ∃ A0 : Addr, (if c = k + 1 then (some ⟨g4, 0, none⟩ : Option Addr) else some ⟨g4, (k + 1) * 3, none⟩) = some A0 := by split <;> exact ⟨_, rfl⟩
     have HBA := hid (show Below w2.heap.size w2 (w2.alloc (.cells #[.slice (some ⟨g, 0, none⟩) ls.length c3, .slice (some ⟨g4, 0, none⟩) hs'.length c, .int .i64 q] 30)) from (Below.refl _ _).alloc (Nat.le_refl _) _)
     have hRA := hr0.below HBA.out.drew
     have hownA := own_below hown HBA.out.drew
     have KO := Blk.new w2 #[.slice (some ⟨g, 0, none⟩) ls.length c3, .slice (some ⟨g4, 0, none⟩) hs'.length c, .int .i64 q] 30
     have HK2 := hid ((HK1.out.to hb2).alloc (.cells #[.slice (some ⟨g, 0, none⟩) ls.length c3, .slice (some ⟨g4, 0, none⟩) hs'.length c, .int .i64 q] 30))
     rw [← hm] at hownA KO HBA HK2 hnc hRA
     obtain ⟨w3, hrun, ho3, hg3⟩ := run_delete (P := Try.prog) Try.underlying28 hi hz1 hownA (by omega) (by omega) hone hA
     have HKO3 := hid ((KO.dr 1).kept hg3 (show some w2.heap.size ≠ some g4 from fun e => hgo (Option.some.inj e).symm))
     have HK3 := hid ((HK2.out.dr 1).kept hg3 (show some (w.heap.size + 1) ≠ some g4 from fun e => by have := Option.some.inj e; omega))
     have hR3 := rows_delH rfl hRA ho3 hg3 rfl
     have HR3 := hid (hR3.off (j := 1) (u := .slice (some ⟨g4, 0, none⟩) m c) (off_rows hgo1 (fun x hx => ⟨fun e => hrN ⟨9, 1, x.hn, x.hv, x.l.hs.map txt⟩ (by
       rw [List.mem_append]; left
       simp only [two, List.mem_cons, List.mem_flatMap]
       exact .inr ⟨x, hx, by simp [lrows]⟩) e, fun e => hrN ⟨134, 3, x.fn, x.fv, fsCells x.l.fs⟩ (by
       rw [List.mem_append]; left
       simp only [two, List.mem_cons, List.mem_flatMap]
       exact .inr ⟨x, hx, by simp [lrows]⟩) e⟩) (fun e => hgo (Option.some.inj e)) (fun x hx => fun e => hrN ⟨134, 3, x.fn, x.fv, fsCells x.h.fs⟩ (by
       rw [List.mem_append]; right
       simp only [two, List.mem_cons, List.mem_flatMap]
       exact .inr ⟨x, (List.eraseIdx_sublist _ _).subset hx, by simp [hrows]⟩) e)))
     have HB3 := hid (show Below w1.heap.size w1 w3 from ((show Below w1.heap.size w1 w2 from hb2).trans (HBA.out.drew.mono hb2.size)).grown hg3 (Nat.le_trans hsz12 HBA.out.size) (fun z hz => by obtain rfl := Option.some.inj hz; exact hg4))
     have HRun := hid hrun
     have HHs := hid (show hsOf (hs'.eraseIdx k) = H.eraseIdx k by rw [hsOf_erase, h2])
     have HHl := hid (show (hs'.eraseIdx k).length = m by rw [List.length_eraseIdx, if_pos hkh]; omega)
     have od : (w2.alloc (.cells #[.slice (some ⟨g, 0, none⟩) ls.length c3, .slice (some ⟨g4, 0, none⟩) (m + 1) c, .int .i64 q] 30)).drew.cell? ⟨w2.heap.size, 1, none⟩ = some (.slice (some ⟨g4, 0, none⟩) (m + 1) c) := (KO.2 1 _ rfl).1
     have s0 : IntKind.i64.wrap ((k : Int) + 1) = (k : Int) + 1 := by rw [IntKind.wrap_i64]; omega
     have s1 : (0 : Int) ≤ (k : Int) := by omega
     have s2 : ((k : Int)).toNat = k := by simp
     have s3 : ((k : Int) + 1).toNat = k + 1 := by omega
     have s4 : (k : Int) + 1 ≤ ((m + 1 : Nat) : Int) := by omega
     have s5 : (0 : Int) ≤ (k : Int) + 1 := by omega
     have s6 : (k : Int) ≤ (c : Int) := by omega
     have s8 : k + 1 ≤ m + 1 := by omega
     have s9 : k ≤ c := by omega
     have s10 : k ≤ m := by omega
     unfold maxLen at hcm hcm3
     have HL := hid h1
     have HLn := hid hll
     have hn8 : ls.length ≤ 8 := by omega
     rw [← hm]
     clear hb2 hr hr0 hrN hl hh hown hownA hone hrun ho3 hg3 KO hR3 hRA h1 h2 hll hkh hm d0 d1 d2 h8 h1l h6 hlh hkL
     go_wp2_with fail
     refine wp_region_let 11 (fun w' : World => True) (fun w' : World => w'.cell? ⟨w2.heap.size, 1, none⟩ = some (.slice (some ⟨g4, 0, none⟩) (m + 1) c)) (by kernel_rfl) trivial od (fun hS => ?_)
     refine wpAnyL_take (i := 0) (oi := ?oi170) (v := ?v170) ?hi170 (by kernel_rfl) ?hf170 ?hr170 (by decide) ?hQ170 (Or.inl ⟨?hw170, ?hy170⟩) (⟨hS.1, fun h => hS.2 (by first | rfl | exact h)⟩) ?rest170
     case hi170 => simp only [List.getElem?_toArray, List.getElem?_cons_succ, List.getElem?_cons_zero]; rfl
     case hf170 => kernel_rfl
     case hr170 => kernel_rfl
     case hw170 => rfl
     case hy170 => (intro w hSw; (try dsimp only at hSw); go_simp; all_goals (first | done | with_reducible rfl))
     case hQ170 => exact fun _ _ _ h => h
     simp only [Act.put, List.setIfInBounds_toArray, List.set_cons_zero, List.set_cons_succ]
     refine wpAnyL_take (i := 2) (oi := ?oi171) (v := ?v171) ?hi171 (by kernel_rfl) ?hf171 ?hr171 (by decide) ?hQ171 (Or.inl ⟨?hw171, ?hy171⟩) (⟨hS.1, fun h => hS.2 (by first | rfl | exact h)⟩) ?rest171
     case hi171 => simp only [List.getElem?_toArray, List.getElem?_cons_succ, List.getElem?_cons_zero]; rfl
     case hf171 => kernel_rfl
     case hr171 => kernel_rfl
     case hw171 => rfl
     case hy171 => (intro w hSw; (try dsimp only at hSw); go_simp; all_goals (first | done | with_reducible rfl))
     case hQ171 => exact fun _ _ _ h => h
     simp only [Act.put, List.setIfInBounds_toArray, List.set_cons_zero, List.set_cons_succ]
     refine wpAnyL_take (i := 4) (oi := ?oi172) (v := ?v172) ?hi172 (by kernel_rfl) ?hf172 ?hr172 (by decide) ?hQ172 (Or.inl ⟨?hw172, ?hy172⟩) (⟨hS.1, fun h => hS.2 (by first | rfl | exact h)⟩) ?rest172
     case hi172 => simp only [List.getElem?_toArray, List.getElem?_cons_succ, List.getElem?_cons_zero]; rfl
     case hf172 => kernel_rfl
     case hr172 => kernel_rfl
     case hw172 => rfl
     case hy172 => (intro w hSw; (try dsimp only at hSw); go_simp; all_goals (first | done | with_reducible rfl))
     case hQ172 => exact fun _ _ _ h => h
     simp only [Act.put, List.setIfInBounds_toArray, List.set_cons_zero, List.set_cons_succ]
     refine wpAnyL_take (i := 6) (oi := ?oi173) (v := ?v173) ?hi173 (by kernel_rfl) ?hf173 ?hr173 (by decide) ?hQ173 (Or.inl ⟨?hw173, ?hy173⟩) (⟨hS.1, fun h => hS.2 (by first | rfl | exact h)⟩) ?rest173
     case hi173 => simp only [List.getElem?_toArray, List.getElem?_cons_succ, List.getElem?_cons_zero]; rfl
     case hf173 => kernel_rfl
     case hr173 => kernel_rfl
     case hw173 => rfl
     case hy173 => (intro w hSw; (try dsimp only at hSw); go_simp; all_goals (first | done | with_reducible rfl))
     case hQ173 => exact fun _ _ _ h => h
     simp only [Act.put, List.setIfInBounds_toArray, List.set_cons_zero, List.set_cons_succ]
     refine wpAnyL_take (i := 7) (oi := ?oi174) (v := ?v174) ?hi174 (by kernel_rfl) ?hf174 ?hr174 (by decide) ?hQ174 (Or.inl ⟨?hw174, ?hy174⟩) (⟨hS.1, fun h => hS.2 (by first | rfl | exact h)⟩) ?rest174
     case hi174 => simp only [List.getElem?_toArray, List.getElem?_cons_succ, List.getElem?_cons_zero]; rfl
     case hf174 => kernel_rfl
     case hr174 => kernel_rfl
     case hw174 => rfl
     case hy174 => (intro w hSw; (try dsimp only at hSw); go_simp; all_goals (first | done | with_reducible rfl))
     case hQ174 => exact fun _ _ _ h => h
     simp only [Act.put, List.setIfInBounds_toArray, List.set_cons_zero, List.set_cons_succ]
     refine wpAnyL_take1 (i := 1) (oi := ?oi175) (om := ?om175) (v := ?v175) ?hi175 (by kernel_rfl) ?hf175 ?hr175 (by decide) ?hm175 ?hd175 (by rfl) ?hQ175 (Or.inl ⟨?hw175, ?hy175⟩) (⟨hS.1, fun h => hS.2 (by first | rfl | exact h)⟩) ?rest175
     case hi175 => simp only [List.getElem?_toArray, List.getElem?_cons_succ, List.getElem?_cons_zero]; rfl
     case hm175 => simp only [List.getElem?_toArray, List.getElem?_cons_succ, List.getElem?_cons_zero]; rfl
     case hd175 => kernel_rfl
     case hf175 => kernel_rfl
     case hr175 => kernel_rfl
     case hw175 => rfl
     case hy175 => (intro w hSw; (try dsimp only at hSw); go_simp; all_goals (first | done | with_reducible rfl))
     case hQ175 => exact fun _ _ _ h => h
     simp only [Act.put, List.setIfInBounds_toArray, List.set_cons_zero, List.set_cons_succ]
     refine wpAnyL_take1 (i := 5) (oi := ?oi176) (om := ?om176) (v := ?v176) ?hi176 (by kernel_rfl) ?hf176 ?hr176 (by decide) ?hm176 ?hd176 (by rfl) ?hQ176 (Or.inl ⟨?hw176, ?hy176⟩) (⟨hS.1, fun h => hS.2 (by first | rfl | exact h)⟩) ?rest176
     case hi176 => simp only [List.getElem?_toArray, List.getElem?_cons_succ, List.getElem?_cons_zero]; rfl
     case hm176 => simp only [List.getElem?_toArray, List.getElem?_cons_succ, List.getElem?_cons_zero]; rfl
     case hd176 => kernel_rfl
     case hf176 => kernel_rfl
     case hr176 => kernel_rfl
     case hw176 => rfl
     case hy176 => (intro w hSw; (try dsimp only at hSw); go_simp; all_goals (first | done | with_reducible rfl))
     case hQ176 => exact fun _ _ _ h => h
     simp only [Act.put, List.setIfInBounds_toArray, List.set_cons_zero, List.set_cons_succ]
     refine wpAnyL_take (i := 3) (oi := ?oi177) (v := ?v177) ?hi177 (by kernel_rfl) ?hf177 ?hr177 (by decide) ?hQ177 (Or.inl ⟨?hw177, ?hy177⟩) (⟨hS.1, fun h => hS.2 (by first | rfl | exact h)⟩) ?rest177
     case hi177 => simp only [List.getElem?_toArray, List.getElem?_cons_succ, List.getElem?_cons_zero]; rfl
     case hf177 => kernel_rfl
     case hr177 => kernel_rfl
     case hw177 => rfl
     case hy177 => (intro w hSw; (try dsimp only at hSw); go_simp; all_goals (first | done | with_reducible rfl))
     case hQ177 => exact fun _ _ _ h => h
     simp only [Act.put, List.setIfInBounds_toArray, List.set_cons_zero, List.set_cons_succ]
     refine wpAnyL_take (i := 8) (oi := ?oi178) (v := ?v178) ?hi178 (by kernel_rfl) ?hf178 ?hr178 (by decide) ?hQ178 (Or.inl ⟨?hw178, ?hy178⟩) (⟨hS.1, fun h => hS.2 (by first | rfl | exact h)⟩) ?rest178
     case hi178 => simp only [List.getElem?_toArray, List.getElem?_cons_succ, List.getElem?_cons_zero]; rfl
     case hf178 => kernel_rfl
     case hr178 => kernel_rfl
     case hw178 => rfl
     case hy178 => (intro w hSw; (try dsimp only at hSw); go_simp; all_goals (first | done | with_reducible rfl))
     case hQ178 => exact fun _ _ _ h => h
     simp only [Act.put, List.setIfInBounds_toArray, List.set_cons_zero, List.set_cons_succ]
     refine wpAnyL_ready (rs := [9]) (by kernel_rfl) (by simp) ?_
     refine AllReadyL.cons (o := ?oi179) ?hi179 (fun K hK => ?step179) AllReadyL.nil
     case hi179 => simp only [List.getElem?_toArray, List.getElem?_cons_succ, List.getElem?_cons_zero]; rfl
     rw [if_pos (by rfl)]
     refine wp_app rfl (by rfl) (by rfl) HRun.out ?_
     refine hK.out _ _ ⟨trivial, fun _ => (HKO3.out.2 1 _ rfl).1⟩ (fun hS => ?_)
     simp only [Act.put, List.setIfInBounds_toArray, List.set_cons_zero, List.set_cons_succ]
     refine wpAnyL_take (i := 10) (oi := ?oi180) (v := ?v180) ?hi180 (by kernel_rfl) ?hf180 ?hr180 (by decide) ?hQ180 (Or.inl ⟨?hw180, ?hy180⟩) (⟨hS.1, fun h => hS.2 (by first | rfl | exact h)⟩) ?rest180
     case hi180 => simp only [List.getElem?_toArray, List.getElem?_cons_succ, List.getElem?_cons_zero]; rfl
     case hf180 => kernel_rfl
     case hr180 => kernel_rfl
     case hw180 => rfl
     case hy180 => (intro w hSw; (try dsimp only at hSw); go_simp; all_goals (first | done | with_reducible rfl))
     case hQ180 => exact fun _ _ _ h => h
     simp only [Act.put, List.setIfInBounds_toArray, List.set_cons_zero, List.set_cons_succ]
     have o9 := (HKO3.out.2 1 _ rfl).1
     have o9f := (HKO3.out.2 1 _ rfl).2
     refine wpAnyL_ready (rs := [11]) (by kernel_rfl) (by simp) ?_
     refine AllReadyL.cons (o := ?oi181) ?hi181 (fun K hK => ?step181) AllReadyL.nil
     case hi181 => simp only [List.getElem?_toArray, List.getElem?_cons_succ, List.getElem?_cons_zero]; rfl
     rw [if_pos (by rfl)]
     go_simp
     refine hK.out _ _ ⟨trivial, fun h => absurd h (by decide)⟩ (fun hS => ?_)
     refine wpAnyL_done (by kernel_rfl) ?_ _
     clear o9 o9f od hS s0 s1 s2 s3 s4 s5 s6 s8 s9 s10
     have HKO4 := hid (HKO3.out.set 1 (.slice (some ⟨g4, 0, none⟩) m c))
     have HK4 := hid (HK3.out.apart ⟨w2.heap.size, 1, none⟩ (.slice (some ⟨g4, 0, none⟩) m c) (show w2.heap.size ≠ w.heap.size + 1 by omega))
     have HB4 := hid (HB3.out.setCell (p := ⟨w2.heap.size, 1, none⟩) hsz12 (.slice (some ⟨g4, 0, none⟩) m c))
     generalize w3.setCell ⟨w2.heap.size, 1, none⟩ (.slice (some ⟨g4, 0, none⟩) m c) = w4 at *
     have hbo1 : w1.heap.size ≤ w2.heap.size := hsz12
     generalize hs'.eraseIdx k = hs2 at *
     generalize hN : ls.length = n at *
     generalize w2.heap.size = bo at *
     clear hN
     go_wp2_with fail
     go_loopw [8] (fun iv wr => ∃ (k : Nat) (cul : List LgrV), iv = .int .i64 k ∧ k ≤ n ∧ Hid (lsOf cul = (L.take k).map (woL s.data.toList) ++ L.drop k) ∧
       Hid (Rows wr w1.heap.size ([] ++ two 49 6 n (.slice (some ⟨g, 0, none⟩) n c3) lcells lrows cul ++ two 83 3 m (.slice (some ⟨g4, 0, none⟩) m c) hcells hrows hs2)) ∧ Hid (Blk wr bo [.slice (some ⟨g, 0, none⟩) n c3, .slice (some ⟨g4, 0, none⟩) m c, .int .i64 q]) ∧ Hid (Blk wr (w.heap.size + 1) [.slice none 0 0, .slice none 0 0, .int .i64 0]) ∧ Hid (Below w1.heap.size w1 wr)) (fun iv _ => n - (intOf iv).toNat)
     case atStart => exact ⟨0, ls, rfl, by omega, by simpa [Hid] using HL.out, HR3.out, HKO4.out, HK4.out, HB4.out⟩
     case round =>
      obtain ⟨i, cul, rfl, hi', HC, HRx, HKx, HKz, HBx⟩ := hrel
      have c0 := (HKx.out.2 0 _ rfl).1
      by_cases hlt : i < n
      · have hkL : i < L.length := by have := HLn.out; omega
        obtain ⟨l0, hl0⟩ : ∃ l, L[i]? = some l := ⟨_, List.getElem?_eq_getElem hkL⟩
        obtain ⟨x, hx, hxl⟩ := lsOf_atD HC.out hl0
        subst hxl
        have HX := hid (And.intro hx hl0)
        have hRd := HRx.out.below ((Below.refl _ _).drew)
        have own6 : wr.drew.ownsRow w1.heap.size 9 1 x.hv x.hn (x.l.hs.map txt) := hRd.sub_ hx (r := ⟨9, 1, x.hn, x.hv, x.l.hs.map txt⟩) (by simp [lrows])
        have o2 := hRd.cell_at (j := 2) lcells_len hx rfl
        have hxn : x.hn ≤ 6 := by have := own6.1; simp at this; have := HND.out x.l (List.mem_of_getElem? hl0); omega
        have CW := hid (without_c x.hv x.hn wr.drew.heap.size x.l.hs s wr.drew (Sl.of_own own6) (Nat.le_refl _) (by omega))
        obtain ⟨A6, c6, e6, _, _⟩ := (Sl.of_own own6).form
        have m0 : wr.drew.cell? ⟨g, i * 6 + 2, none⟩ = some (.slice A6 x.hn c6) := by rw [← e6]; exact o2.1
        rw [e6] at CW
        have HRd := hid hRd
        have HM := hid (And.intro e6 o2.2)
        have hgw : g < wr.drew.heap.size := World.block_lt_of_cell? _ _ m0
        have t0 : (0 : Int) ≤ (i : Int) := by omega
        have t1 : (i : Int) < (n : Int) := by omega
        have t2 : ((i : Int)).toNat = i := by simp
        clear hx hl0 hRd own6 o2 e6
        go_wp2_with fail
        refine wp_region_held_drew (S := (fun w' : World => w'.cell? ⟨bo, 0, none⟩ = some (.slice (some ⟨g, 0, none⟩) n c3))) (by kernel_rfl) c0 (fun hS => ?_)
        refine wpAnyH_take (i := 0) (oi := ?oi182) (v := ?v182) ?hi182 (by kernel_rfl) ?hf182 ?hr182 ?hQ182 (Or.inl ⟨?hw182, ?hy182⟩) (by assumption) ?rest182
        case hi182 => simp only [List.getElem?_toArray, List.getElem?_cons_succ, List.getElem?_cons_zero]; rfl
        case hf182 => kernel_rfl
        case hr182 => kernel_rfl
        case hw182 => rfl
        case hy182 => (intro w hSw; (try dsimp only at hSw); go_simp; all_goals (first | done | with_reducible rfl))
        case hQ182 => exact fun _ _ _ h => h
        simp only [Act.put, List.setIfInBounds_toArray, List.set_cons_zero, List.set_cons_succ]
        refine wpAnyH_take (i := 1) (oi := ?oi183) (v := ?v183) ?hi183 (by kernel_rfl) ?hf183 ?hr183 ?hQ183 (Or.inl ⟨?hw183, ?hy183⟩) (by assumption) ?rest183
        case hi183 => simp only [List.getElem?_toArray, List.getElem?_cons_succ, List.getElem?_cons_zero]; rfl
        case hf183 => kernel_rfl
        case hr183 => kernel_rfl
        case hw183 => rfl
        case hy183 => (intro w hSw; (try dsimp only at hSw); go_simp; all_goals (first | done | with_reducible rfl))
        case hQ183 => exact fun _ _ _ h => h
        simp only [Act.put, List.setIfInBounds_toArray, List.set_cons_zero, List.set_cons_succ]
        refine wpAnyH_take (i := 2) (oi := ?oi184) (v := ?v184) ?hi184 (by kernel_rfl) ?hf184 ?hr184 ?hQ184 (Or.inl ⟨?hw184, ?hy184⟩) (by assumption) ?rest184
        case hi184 => simp only [List.getElem?_toArray, List.getElem?_cons_succ, List.getElem?_cons_zero]; rfl
        case hf184 => kernel_rfl
        case hr184 => kernel_rfl
        case hw184 => rfl
        case hy184 => (intro w hSw; (try dsimp only at hSw); go_simp; all_goals (first | done | with_reducible rfl))
        case hQ184 => exact fun _ _ _ h => h
        simp only [Act.put, List.setIfInBounds_toArray, List.set_cons_zero, List.set_cons_succ]
        refine wpAnyH_take (i := 3) (oi := ?oi185) (v := ?v185) ?hi185 (by kernel_rfl) ?hf185 ?hr185 ?hQ185 (Or.inl ⟨?hw185, ?hy185⟩) (by assumption) ?rest185
        case hi185 => simp only [List.getElem?_toArray, List.getElem?_cons_succ, List.getElem?_cons_zero]; rfl
        case hf185 => kernel_rfl
        case hr185 => kernel_rfl
        case hw185 => rfl
        case hy185 => (intro w hSw; (try dsimp only at hSw); go_simp; all_goals (first | done | with_reducible rfl))
        case hQ185 => exact fun _ _ _ h => h
        simp only [Act.put, List.setIfInBounds_toArray, List.set_cons_zero, List.set_cons_succ]
        refine wpAnyH_take (i := 4) (oi := ?oi186) (v := ?v186) ?hi186 (by kernel_rfl) ?hf186 ?hr186 ?hQ186 (Or.inl ⟨?hw186, ?hy186⟩) (by assumption) ?rest186
        case hi186 => simp only [List.getElem?_toArray, List.getElem?_cons_succ, List.getElem?_cons_zero]; rfl
        case hf186 => kernel_rfl
        case hr186 => kernel_rfl
        case hw186 => rfl
        case hy186 => (intro w hSw; (try dsimp only at hSw); go_simp; all_goals (first | done | with_reducible rfl))
        case hQ186 => exact fun _ _ _ h => h
        simp only [Act.put, List.setIfInBounds_toArray, List.set_cons_zero, List.set_cons_succ]
        refine wpAnyH_take (i := 5) (oi := ?oi187) (v := ?v187) ?hi187 (by kernel_rfl) ?hf187 ?hr187 ?hQ187 (Or.inl ⟨?hw187, ?hy187⟩) (by assumption) ?rest187
        case hi187 => simp only [List.getElem?_toArray, List.getElem?_cons_succ, List.getElem?_cons_zero]; rfl
        case hf187 => kernel_rfl
        case hr187 => kernel_rfl
        case hw187 => rfl
        case hy187 => (intro w hSw; (try dsimp only at hSw); go_simp; all_goals (first | done | with_reducible rfl))
        case hQ187 => exact fun _ _ _ h => h
        simp only [Act.put, List.setIfInBounds_toArray, List.set_cons_zero, List.set_cons_succ]
        refine wpAnyH_take (i := 6) (oi := ?oi188) (v := ?v188) ?hi188 (by kernel_rfl) ?hf188 ?hr188 ?hQ188 (Or.inl ⟨?hw188, ?hy188⟩) (by assumption) ?rest188
        case hi188 => simp only [List.getElem?_toArray, List.getElem?_cons_succ, List.getElem?_cons_zero]; rfl
        case hf188 => kernel_rfl
        case hr188 => kernel_rfl
        case hw188 => rfl
        case hy188 => (intro w hSw; (try dsimp only at hSw); go_simp; all_goals (first | done | with_reducible rfl))
        case hQ188 => exact fun _ _ _ h => h
        simp only [Act.put, List.setIfInBounds_toArray, List.set_cons_zero, List.set_cons_succ]
        refine wpAnyH_take (i := 7) (oi := ?oi189) (v := ?v189) ?hi189 (by kernel_rfl) ?hf189 ?hr189 ?hQ189 (Or.inl ⟨?hw189, ?hy189⟩) (by assumption) ?rest189
        case hi189 => simp only [List.getElem?_toArray, List.getElem?_cons_succ, List.getElem?_cons_zero]; rfl
        case hf189 => kernel_rfl
        case hr189 => kernel_rfl
        case hw189 => rfl
        case hy189 => (intro w hSw; (try dsimp only at hSw); go_simp; all_goals (first | done | with_reducible rfl))
        case hQ189 => exact fun _ _ _ h => h
        simp only [Act.put, List.setIfInBounds_toArray, List.set_cons_zero, List.set_cons_succ]
        refine wpAnyH_take (i := 9) (oi := ?oi190) (v := ?v190) ?hi190 (by kernel_rfl) ?hf190 ?hr190 ?hQ190 (Or.inl ⟨?hw190, ?hy190⟩) (by assumption) ?rest190
        case hi190 => simp only [List.getElem?_toArray, List.getElem?_cons_succ, List.getElem?_cons_zero]; rfl
        case hf190 => kernel_rfl
        case hr190 => kernel_rfl
        case hw190 => rfl
        case hy190 => (intro w hSw; (try dsimp only at hSw); go_simp; all_goals (first | done | with_reducible rfl))
        case hQ190 => exact fun _ _ _ h => h
        simp only [Act.put, List.setIfInBounds_toArray, List.set_cons_zero, List.set_cons_succ]
        refine wpAnyH_ready (rs := [8]) (by kernel_rfl) (by simp) ?_
        refine AllReadyH.cons (o := ?oi191) ?hi191 (fun K hK => ?step191) AllReadyH.nil
        case hi191 => simp only [List.getElem?_toArray, List.getElem?_cons_succ, List.getElem?_cons_zero]; rfl
        rw [if_pos (by rfl)]
        go_simp
        refine hK.out _ _ hS (fun hS => ?_)
        refine wpAnyH_ready (rs := [10]) (by kernel_rfl) (by simp) ?_
        refine AllReadyH.cons (o := ?oi192) ?hi192 (fun K hK => ?step192) AllReadyH.nil
        case hi192 => simp only [List.getElem?_toArray, List.getElem?_cons_succ, List.getElem?_cons_zero]; rfl
        rw [if_pos (by rfl)]
        go_simp
        go_at_call 61
        refine (CW.out).mono ?_
        rintro e w5 ⟨v5, rfl, ho5, hb5⟩
        obtain ⟨A7, c7, rfl, _, _⟩ := (Sl.of_own ho5).form
        have m1 : w5.cell? ⟨g, i * 6 + 2, none⟩ = some (.slice A6 x.hn c6) := (hb5.cell (p := ⟨g, i * 6 + 2, none⟩) hgw).trans m0
        have f1 : w5.frozen? ⟨g, i * 6 + 2, none⟩ = false := (hb5.frozen (p := ⟨g, i * 6 + 2, none⟩) hgw).trans HM.out.2
        have hszr : w1.heap.size ≤ wr.drew.heap.size := HBx.out.size
        have HR5 := hid (HRd.out.rowcell (w' := w5) (i := i) (j := 0) (q := 2) (e := 2) (x := x) (y := ⟨woL s.data.toList x.l, .slice A7 (x.l.hs.filter (notS s.data.toList)).length c7, (x.l.hs.filter (notS s.data.toList)).length, x.fv, x.fn⟩)
          (r := ⟨9, 1, x.hn, x.hv, x.l.hs.map txt⟩) (r' := ⟨9, 1, (x.l.hs.filter (notS s.data.toList)).length, .slice A7 (x.l.hs.filter (notS s.data.toList)).length c7, (x.l.hs.filter (notS s.data.toList)).map txt⟩) (u := .slice A7 (x.l.hs.filter (notS s.data.toList)).length c7)
          lcells_len lrows_len HX.out.1 (by omega) rfl (grown_of hb5 _) (own_base ho5 hszr) (fun z hz => .inr (ho5.lt z hz).1) (by omega) rfl rfl)
        have HK5 := hid (((HKx.out.dr 1).to hb5).apart ⟨g, i * 6 + 2, none⟩ (.slice A7 (x.l.hs.filter (notS s.data.toList)).length c7) hgo1)
        have HKz5 := hid (((HKz.out.dr 1).to hb5).apart ⟨g, i * 6 + 2, none⟩ (.slice A7 (x.l.hs.filter (notS s.data.toList)).length c7) (show g ≠ w.heap.size + 1 by omega))
        have HB5 := hid ((HBx.out.drew.trans (hb5.mono hszr)).setCell (p := ⟨g, i * 6 + 2, none⟩) hgl (.slice A7 (x.l.hs.filter (notS s.data.toList)).length c7))
        have cb := (((HKx.out.dr 1).to hb5).2 0 _ rfl).1
        refine hK.out _ _ cb (fun hS => ?_)
        refine wpAnyH_take (i := 11) (oi := ?oi193) (v := ?v193) ?hi193 (by kernel_rfl) ?hf193 ?hr193 ?hQ193 (Or.inl ⟨?hw193, ?hy193⟩) (by assumption) ?rest193
        case hi193 => simp only [List.getElem?_toArray, List.getElem?_cons_succ, List.getElem?_cons_zero]; rfl
        case hf193 => kernel_rfl
        case hr193 => kernel_rfl
        case hw193 => rfl
        case hy193 => (intro w hSw; (try dsimp only at hSw); go_simp; all_goals (first | done | with_reducible rfl))
        case hQ193 => exact fun _ _ _ h => h
        simp only [Act.put, List.setIfInBounds_toArray, List.set_cons_zero, List.set_cons_succ]
        refine wpAnyH_take (i := 12) (oi := ?oi194) (v := ?v194) ?hi194 (by kernel_rfl) ?hf194 ?hr194 ?hQ194 (Or.inl ⟨?hw194, ?hy194⟩) (by assumption) ?rest194
        case hi194 => simp only [List.getElem?_toArray, List.getElem?_cons_succ, List.getElem?_cons_zero]; rfl
        case hf194 => kernel_rfl
        case hr194 => kernel_rfl
        case hw194 => rfl
        case hy194 => (intro w hSw; (try dsimp only at hSw); go_simp; all_goals (first | done | with_reducible rfl))
        case hQ194 => exact fun _ _ _ h => h
        simp only [Act.put, List.setIfInBounds_toArray, List.set_cons_zero, List.set_cons_succ]
        refine wpAnyH_ready (rs := [13]) (by kernel_rfl) (by simp) ?_
        refine AllReadyH.cons (o := ?oi195) ?hi195 (fun K hK => ?step195) AllReadyH.nil
        case hi195 => simp only [List.getElem?_toArray, List.getElem?_cons_succ, List.getElem?_cons_zero]; rfl
        rw [if_pos (by rfl)]
        go_simp
        refine hK.out _ _ ((HK5.out.2 0 _ rfl).1) (fun hS => ?_)
        refine wpAnyH_done (by kernel_rfl) ?_ _
        clear hS c0 m0 m1 f1 cb ho5 hb5
        go_wp2_with fail
        go_roundw
        case rel =>
          refine ⟨i + 1, _, by go_num, by omega, ?_, HR5.out, HK5.out, HKz5.out, HB5.out⟩
          show lsOf (cul.set i _) = _
          rw [mapk_step _ HX.out.2, ← HC.out]
          unfold lsOf
          rw [List.map_set]
        case measure => simp [intOf]; omega
      · obtain rfl : i = n := by omega
        have HCC := hid (show lsOf cul = L.map (woL s.data.toList) by
          have hkL := HLn.out
          have h := HC.out
          rw [List.take_of_length_le (by omega), List.drop_eq_nil_of_le (by omega), List.append_nil] at h
          exact h)
        have hcll : cul.length = i := by have h := congrArg List.length HCC.out; have := HLn.out; simp [lsOf] at h; omega
        have HCLL := hid hcll
        have b1 := (HKx.out.2 1 _ rfl).1
        have b2 := (HKx.out.2 2 _ rfl).1
        clear hcll HC
        obtain ⟨q0c, q0f⟩ := HKz.out.2 0 _ rfl
        obtain ⟨q1c, q1f⟩ := HKz.out.2 1 _ rfl
        obtain ⟨q2c, q2f⟩ := HKz.out.2 2 _ rfl
        go_wp2_with fail
        have RB := ((HKz.out.set 0 (.slice (some ⟨g, 0, none⟩) i c3)).set 1 (.slice (some ⟨g4, 0, none⟩) m c)).set 2 (.int .i64 q)
        have f0 := (RB.2 0 _ rfl).1
        have f1 := (RB.2 1 _ rfl).1
        have f2 := (RB.2 2 _ rfl).1
        refine bodyPost_ret (v := .tuple #[.agg #[.slice (some ⟨g, 0, none⟩) i c3, .slice (some ⟨g4, 0, none⟩) m c, .int .i64 q], .bool true]) (by simp [results, Try.results19, go_sem, f0, f1, f2]) rfl ?_
        rw [HN.out]
        refine ⟨_, treeRows cul.length _ cul hs2.length _ hs2, rfl, ⟨_, _, cul, hs2, rfl, HCC.out, HHs.out, rfl⟩, ?_, ?_⟩
        · refine Rows.base ?_ hww1
          iterate 3 refine Rows.low ?_ (by omega)
          rw [treeRows_eq, HCLL.out, HHl.out]
          simpa using HRx.out
        · iterate 3 refine Below.setCell ?_ (by simp) _
          exact HB1.out.trans (HBx.out.mono hww1)
end Go.Proofs.Yteoblmhbjmefoaa
