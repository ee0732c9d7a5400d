/-
  NH1, PT1, DL1, DL2, DL3, DH2 laid together.
-/
import Derived.Test.YteoblmhbjmefoaaC9
import Derived.Test.YteoblmhbjmefoaaU2
import Derived.Test.YteoblmhbjmefoaaApp
import Derived.Test.YteoblmhbjmefoaaC10
import Derived.Test.YteoblmhbjmefoaaHeld
import Derived.Test.YteoblmhbjmefoaaE7
import Derived.Test.YteoblmhbjmefoaaE9
import Derived.Test.YteoblmhbjmefoaaE12
import Derived.Test.YteoblmhbjmefoaaE16
import Derived.Test.YteoblmhbjmefoaaC13
/-
  A HANDLER NAMED ANEW: plain; the program's handlerAt.
-/
namespace Go.Proofs.Yteoblmhbjmefoaa
open Go.RowKit Nm
set_option linter.unusedSimpArgs false
set_option linter.unusedVariables false

def renS (s t x : Name) : Name := if x = s then t else x
def renL (s t : Name) (l : Lgr) : Lgr := { l with hs := l.hs.map (renS s t) }
def renT (L : List Lgr) (s t : Name) : List Lgr := L.map (renL s t)
def setNm (H : List Hnd) (k : Nat) (t : Name) : List Hnd := match H[k]? with | some h => H.set k { h with nm := t } | none => H
def hnm (H : List Hnd) : List Name := H.map (·.nm)
def nameX (L : List Lgr) (H : List Hnd) (q : Int) (s t : Name) : Option TreeD :=
  changedO L H q (if idxL (hnm H) s < 0 then none else some (renT L s t, setNm H (idxL (hnm H) s).toNat t, q))
theorem ren_none {s t : Name} {l : List Name} (h : s ∉ l) : l.map (renS s t) = l := by
  refine (List.map_congr_left fun x hx => ?_).trans (List.map_id l)
  show renS s t x = x
  unfold renS
  rw [if_neg (fun e => h (by rw [← e]; exact hx))]
theorem ren_set {s t : Name} {l : List Name} (hn : l.Nodup) {k : Nat} (hk : l[k]? = some s) : l.set k t = l.map (renS s t) := by
  have hkl := (List.getElem?_eq_some_iff.1 hk).1
  have hke := (List.getElem?_eq_some_iff.1 hk).2
  refine List.ext_getElem (by simp) fun i h1 h2 => ?_
  have hi : i < l.length := by simpa using h1
  rw [List.getElem_map]
  by_cases e : i = k
  · subst e
    rw [List.getElem_set_self, hke]; unfold renS; rw [if_pos rfl]
  · rw [List.getElem_set_ne (by omega)]
    unfold renS
    rw [if_neg]
    intro e2
    exact e (nodup_at hn hi hkl (by simp [List.getD, hi, hkl, e2, hke]))
theorem ren_step {L : List Lgr} {k : Nat} {l : Lgr} (s t : Name) (h : L[k]? = some l) : renT (L.take (k + 1)) s t ++ L.drop (k + 1) = (renT (L.take k) s t ++ L.drop k).set k (renL s t l) := by
  have hk := (List.getElem?_eq_some_iff.1 h).1
  have e1 : renT (L.take (k + 1)) s t = renT (L.take k) s t ++ [renL s t l] := by unfold renT; rw [List.take_add_one, h, List.map_append]; rfl
  have e2 : L.drop k = l :: L.drop (k + 1) := by rw [List.drop_eq_getElem_cons hk]; congr 1; exact (List.getElem?_eq_some_iff.1 h).2
  have e3 : (renT (L.take k) s t).length = k := by unfold renT; rw [List.length_map, List.length_take]; omega
  rw [e1, e2, List.set_append_right _ _ (by omega), e3, Nat.sub_self, List.set_cons_zero, List.append_assoc]; rfl
theorem ren_at {L : List Lgr} {k : Nat} (s t : Name) (hk : k < L.length) : (renT (L.take k) s t ++ L.drop k)[k]? = L[k]? := by
  have e3 : (renT (L.take k) s t).length = k := by unfold renT; rw [List.length_map, List.length_take]; omega
  rw [List.getElem?_append_right (by omega), e3, Nat.sub_self, List.getElem?_drop]; rfl
theorem rename_fit {L : List Lgr} {H : List Hnd} {s t : Name} (k : Nat) (hd : dataFit L H) (ht : t.length ≤ maxTxt) : dataFit (renT L s t) (setNm H k t) := by
  refine ⟨⟨by unfold renT; rw [List.length_map]; exact hd.1.1, fun a ha => ?_⟩, ?_, ?_⟩
  · obtain ⟨l, hl, rfl⟩ := List.mem_map.1 ha
    have h1 := hd.1.2 l hl
    refine ⟨h1.1, ⟨by show (l.hs.map _).length ≤ _; rw [List.length_map]; exact h1.2.1.1, fun x hx => ?_⟩, h1.2.2⟩
    obtain ⟨y, hy, rfl⟩ := List.mem_map.1 hx
    unfold renS
    split
    · exact ht
    · exact h1.2.1.2 y hy
  · unfold setNm; split
    · rw [List.length_set]; exact hd.2.1
    · exact hd.2.1
  · intro h hh
    unfold setNm at hh
    split at hh
    · rename_i x hx
      rcases List.mem_or_eq_of_mem_set hh with hh | rfl
      · exact hd.2.2 h hh
      · exact ⟨ht, (hd.2.2 x (List.mem_of_getElem? hx)).2⟩
    · exact hd.2.2 h hh
theorem nodup_lenN {α : Type} [DecidableEq α] : ∀ (a b : List α), a.Nodup → (∀ x ∈ a, x ∈ b) → a.length ≤ b.length := by
  intro a
  induction a with
  | nil => intro b _ _; simp
  | cons x a ih =>
    intro b hn hs
    rw [List.nodup_cons] at hn
    have hx : x ∈ b := hs x (List.mem_cons_self ..)
    have h1 := ih (b.erase x) hn.2 (fun y hy => (List.mem_erase_of_ne (fun e => hn.1 (by rw [← e]; exact hy))).2 (hs y (List.mem_cons_of_mem _ hy)))
    rw [List.length_erase_of_mem hx] at h1
    have : 0 < b.length := List.length_pos_of_mem hx
    rw [List.length_cons]; omega
theorem tree_nodup {L : List Lgr} {H : List Hnd} {q : Int} (h : treeOk L H q = true) {l : Lgr} (hl : l ∈ L) : l.hs.Nodup ∧ l.hs.length ≤ 6 := by
  have h' := h
  unfold treeOk lgrsOk at h
  simp only [Bool.and_eq_true, decide_eq_true_eq, List.all_eq_true] at h
  have h1 := h.2.2.1 l hl
  unfold lgrOk at h1
  simp only [Bool.and_eq_true, decide_eq_true_eq, List.all_eq_true] at h1
  refine ⟨h1.2.2.2.2, ?_⟩
  have hH := tree_hlen h'
  have hsub : ∀ x ∈ l.hs, x ∈ H.map (·.nm) := fun x hx => by
    have h3 := h1.2.2.2.1 x hx
    unfold hasL at h3
    obtain ⟨y, hy, e⟩ := List.any_eq_true.1 h3
    exact List.mem_map.2 ⟨y, hy, of_decide_eq_true e⟩
  have h4 := nodup_lenN _ _ h1.2.2.2.2 hsub
  rw [List.length_map] at h4
  omega
theorem hnames_hnm (hs : List HndV) : hnames hs = hnm (hsOf hs) := by unfold hnames hnm hsOf; rw [List.map_map]; rfl

set_option maxHeartbeats 1000000 in
set_option maxRecDepth 100000 in
theorem handlerAtFn_c (a s : ByteArray) (lv : Int) (v1 : Value) (bx : Nat) (w : World) (hc : w.cell? ⟨bx, 0, none⟩ = some (.string s)) :
    Calls Try.prog 109 #[.agg #[.string a, .int .i64 lv, v1], .pointer (some ⟨bx, 0, none⟩)] w (BoolPost w (decide (a.data.toList = s.data.toList))) := by
  have hlt : bx < w.heap.size := World.block_lt_of_cell? w _ hc
  have e0 := beq_txt a s
  have e1 : (w.alloc (.cells #[.string a, .int .i64 lv, v1] 83)).cell? ⟨bx, 0, none⟩ = some (.string s) := (World.cell?_alloc_past _ _ _ hlt).trans hc
  go_enter Try.func109, Try.ntmps109
  go_wp2_with fail
  go_ret
  exact ⟨ret_bool (decide_eq_decide.2 Array.toList_inj.symm), by go_grown⟩

theorem hmem_of_at {l : List HndV} {k : Nat} {x : HndV} (hx : l[k]? = some x) : (hnames l)[k]? = some x.h.nm := by simp [hnames, hx]

set_option maxHeartbeats 4000000 in
set_option maxRecDepth 100000 in
theorem indexHnd_c (v : Value) (n B bx : Nat) (l : List HndV) (s : ByteArray) (w : World) (hv : Hs w B n v l) (hB : B ≤ w.heap.size) (hc : w.cell? ⟨bx, 0, none⟩ = some (.string s)) :
    Calls Try.prog 108 #[v, .func (.func 109) #[] #[.pointer (some ⟨bx, 0, none⟩)]] w
      (fun e w' => e = .returned (.int .i64 (idxL (hnames l) s.data.toList)) ∧ Below w.heap.size w w') := by
  have hlt0 : bx < w.heap.size := World.block_lt_of_cell? w _ hc
  have hln := hv.count
  obtain ⟨A, c, rfl, hnc, hcm⟩ := hv.1.form
  unfold maxLen at hcm
  have HV := hid (And.intro hv hln)
  have HC := hid (And.intro hc hlt0)
  clear hv hln hc hlt0
  go_enter Try.func108, Try.ntmps108
  go_wp2_with fail
  go_loopw [8] (fun iv wr => ∃ (k : Nat), iv = .int .i64 k ∧ k ≤ n ∧ Hid (¬ s.data.toList ∈ (hnames l).take k) ∧ Hid (Below w.heap.size w wr)) (fun iv _ => n - (intOf iv).toNat)
  case atStart => exact ⟨0, rfl, by omega, by simp [Hid], Below.refl _ _⟩
  case round =>
    obtain ⟨k, rfl, hk, HN, HB⟩ := hrel
    by_cases hlt : k < n
    · obtain ⟨b, o, x, a, rfl, hbB, hx, ha, _, _, c0, c1, c2⟩ := (HV.out.1.below HB.out hB).at_ hlt
      have E := hid (handlerAtFn_c a s x.h.lv x.fv bx wr ((HB.out.cell (p := ⟨bx, 0, none⟩) HC.out.2).trans HC.out.1))
      have HX := hid (hmem_of_at hx)
      have HA := hid ha
      cases hz : decide (a.data.toList = s.data.toList) with
      | true =>
        rw [hz] at E
        have HZ := hid hz
        clear hx ha hz
        go_wp2_with (go_at_call 109; refine (E.out).mono ?_; rintro e w2 ⟨rfl, hb⟩)
        go_ret
        refine ⟨ret_int ?_, HB.out.trans (hb.mono HB.out.size)⟩
        have h := of_decide_eq_true HZ.out
        rw [idx_hit _ _ k (by rw [HX.out, ← HA.out, h]) HN.out]
      | false =>
        rw [hz] at E
        have HZ := hid hz
        clear hx ha hz
        go_wp2_with (go_at_call 109; refine (E.out).mono ?_; rintro e w2 ⟨rfl, hb⟩)
        go_roundw
        case rel => exact ⟨k + 1, by go_num, by omega, not_take_succ _ _ _ _ HN.out HX.out (by rw [← HA.out]; exact of_decide_eq_false HZ.out), HB.out.trans (hb.mono HB.out.size)⟩
        case measure => simp [intOf]; omega
    · have HE := hid (show ¬ s.data.toList ∈ hnames l by
        have h := HN.out
        rwa [List.take_of_length_le (by unfold hnames; rw [List.length_map]; have := HV.out.2; omega)] at h)
      go_wp2_with fail
      go_ret
      exact ⟨ret_int (by rw [idx_miss _ _ HE.out]), HB.out⟩

set_option maxHeartbeats 1000000 in
set_option maxRecDepth 100000 in
theorem implHandlerAt_c {v : Value} {B : Nat} {L : List Lgr} {H : List Hnd} {q : Int} {w : World} (s : ByteArray) (h : TreeIn w B v L H q) (hB : B ≤ w.heap.size) :
    Calls Try.prog 63 #[v, .string s] w (fun e w' => e = .returned (.int .i64 (idxL (hnm H) s.data.toList)) ∧ Below w.heap.size w w') := by
  obtain ⟨ls, hs, ⟨A1, n1, k1, A2, n2, k2, rfl, _, hh, _⟩, _, hH⟩ := h
  have C2 := hid (fun (bx : Nat) (W : World) (hW : Below w.heap.size w W) (hc : W.cell? ⟨bx, 0, none⟩ = some (.string s)) => indexHnd_c _ n2 B bx hs s W (hh.below hW hB) (Nat.le_trans hB hW.size) hc)
  have hN : hnames hs = hnm H := by rw [hnames_hnm, hH]
  rw [hN] at C2
  have hmf : ∀ (fn : Fn) (first cap : Array Value) (w : World), (Instr.makeFunc fn first cap).run Try.prog w = .ok (.func fn first cap) w := fun _ _ _ _ => rfl
  have HY := hid (show ((w.alloc (.cells #[.slice A1 n1 k1, .slice A2 n2 k2, .int .i64 q] 30)).alloc (.cells #[.string s] 9)).cell? ⟨w.heap.size + 1, 0, none⟩ = some (.string s) by simp)
  have HB1 := hid (show Below w.heap.size w ((w.alloc (.cells #[.slice A1 n1 k1, .slice A2 n2 k2, .int .i64 q] 30)).alloc (.cells #[.string s] 9)) from ((Below.refl _ _).alloc (Nat.le_refl _) _).alloc (by simp) _)
  clear hh hH hN
  go_enter Try.func63, Try.ntmps63
  go_wp2_with fail
  refine (C2.out _ _ HB1.out HY.out).mono ?_
  rintro e w2 ⟨rfl, hb2⟩
  have HB2 := hid (HB1.out.trans (hb2.mono HB1.out.size))
  clear hb2
  go_wp2_with fail
  go_ret
  exact ⟨rfl, HB2.out⟩
end Go.Proofs.Yteoblmhbjmefoaa

/-
  A TREE PATCHED WITH LEVELS OF ANOTHER ONE: plain.
-/
namespace Go.Proofs.Yteoblmhbjmefoaa
open Go.RowKit Nm
set_option linter.unusedSimpArgs false
set_option linter.unusedVariables false

theorem mapk_step {α : Type} (f : α → α) {L : List α} {k : Nat} {l : α} (h : L[k]? = some l) : (L.take (k + 1)).map f ++ L.drop (k + 1) = ((L.take k).map f ++ L.drop k).set k (f l) := by
  have hk := (List.getElem?_eq_some_iff.1 h).1
  have e1 : (L.take (k + 1)).map f = (L.take k).map f ++ [f l] := by rw [List.take_add_one, h, List.map_append]; rfl
  have e2 : L.drop k = l :: L.drop (k + 1) := by rw [List.drop_eq_getElem_cons hk]; congr 1; exact (List.getElem?_eq_some_iff.1 h).2
  have e3 : ((L.take k).map f).length = k := by rw [List.length_map, List.length_take]; omega
  rw [e1, e2, List.set_append_right _ _ (by omega), e3, Nat.sub_self, List.set_cons_zero, List.append_assoc]; rfl
theorem mapk_at {α : Type} (f : α → α) {L : List α} {k : Nat} (hk : k < L.length) : ((L.take k).map f ++ L.drop k)[k]? = L[k]? := by
  have e3 : ((L.take k).map f).length = k := by rw [List.length_map, List.length_take]; omega
  rw [List.getElem?_append_right (by omega), e3, Nat.sub_self, List.getElem?_drop]; rfl
theorem mapk_same {α : Type} (f : α → α) {L : List α} {k : Nat} {l : α} (h : L[k]? = some l) (hf : f l = l) : (L.take (k + 1)).map f ++ L.drop (k + 1) = (L.take k).map f ++ L.drop k := by
  rw [mapk_step f h, hf]
  refine List.ext_getElem? fun i => ?_
  have e := mapk_at f (List.getElem?_eq_some_iff.1 h).1
  rw [h] at e
  rw [List.getElem?_set]
  split
  · rename_i hi
    subst hi
    rw [if_pos (List.getElem?_eq_some_iff.1 e).1, e]
  · rfl

def patH (Hb : List Hnd) (h : Hnd) : Hnd := if idxL (hnm Hb) h.nm < 0 then h else { h with lv := (Hb.map (·.lv)).getD (idxL (hnm Hb) h.nm).toNat 0 }
def patL (Lb : List Lgr) (l : Lgr) : Lgr := if idxL (namesOf Lb) l.nm < 0 then l else { l with lv := (Lb.map (·.lv)).getD (idxL (namesOf Lb) l.nm).toNat 0, stop := (Lb.map (·.stop)).getD (idxL (namesOf Lb) l.nm).toNat false }
def patX (L : List Lgr) (H : List Hnd) (q : Int) (Lb : List Lgr) (Hb : List Hnd) (qb : Int) : Option TreeD :=
  if treeOk Lb Hb qb then changedO L H q (some (L.map (patL Lb), H.map (patH Hb), qb)) else none
theorem patH_nm (Hb : List Hnd) (h : Hnd) : (patH Hb h).nm = h.nm := by unfold patH; split <;> rfl
theorem patH_fs (Hb : List Hnd) (h : Hnd) : (patH Hb h).fs = h.fs := by unfold patH; split <;> rfl
theorem patL_nm (Lb : List Lgr) (l : Lgr) : (patL Lb l).nm = l.nm := by unfold patL; split <;> rfl
theorem patL_hs (Lb : List Lgr) (l : Lgr) : (patL Lb l).hs = l.hs := by unfold patL; split <;> rfl
theorem patL_fs (Lb : List Lgr) (l : Lgr) : (patL Lb l).fs = l.fs := by unfold patL; split <;> rfl
theorem pat_fit {L : List Lgr} {H : List Hnd} (Lb : List Lgr) (Hb : List Hnd) (h : dataFit L H) : dataFit (L.map (patL Lb)) (H.map (patH Hb)) := by
  refine ⟨⟨by rw [List.length_map]; exact h.1.1, fun a ha => ?_⟩, by rw [List.length_map]; exact h.2.1, fun a ha => ?_⟩
  · obtain ⟨l, hl, rfl⟩ := List.mem_map.1 ha
    have := h.1.2 l hl
    unfold lgrFit at this ⊢
    rw [patL_nm, patL_hs, patL_fs]; exact this
  · obtain ⟨l, hl, rfl⟩ := List.mem_map.1 ha
    have := h.2.2 l hl
    unfold hndFit at this ⊢
    rw [patH_nm, patH_fs]; exact this
theorem treeOk_parts {L : List Lgr} {H : List Hnd} {q : Int} (h : treeOk L H q = true) : lvOk q = true ∧ (∀ x ∈ H, lvOk x.lv = true) ∧ (∀ l ∈ L, lvOk l.lv = true) := by
  unfold treeOk lgrsOk hndsOk at h
  simp only [Bool.and_eq_true, decide_eq_true_eq, List.all_eq_true] at h
  obtain ⟨h0, ⟨h1, h2, h3⟩, h4, _⟩ := h
  refine ⟨h0, fun x hx => ?_, fun l hl => ?_⟩
  · have := h1 x hx; unfold hndOk at this; simp only [Bool.and_eq_true] at this; exact this.2.2.1
  · have := h4 l hl; unfold lgrOk at this; simp only [Bool.and_eq_true] at this; exact this.2.1
theorem lv_getD {α : Type} {X : List α} {f : α → Int} (h : ∀ x ∈ X, lvOk (f x) = true) (k : Nat) : lvOk ((X.map f).getD k 0) = true := by
  rw [List.getD_eq_getElem?_getD]
  cases e : (X.map f)[k]? with
  | none => rfl
  | some y => obtain ⟨x, hx, rfl⟩ := List.mem_map.1 (List.mem_of_getElem? e); exact h x hx
theorem pat_ok {L : List Lgr} {H : List Hnd} {q : Int} {Lb : List Lgr} {Hb : List Hnd} {qb : Int} (h : treeOk L H q = true) (hb : treeOk Lb Hb qb = true) : treeOk (L.map (patL Lb)) (H.map (patH Hb)) qb = true := by
  obtain ⟨b0, b1, b2⟩ := treeOk_parts hb
  have eH : (H.map (patH Hb)).map (·.nm) = H.map (·.nm) := by rw [List.map_map]; exact List.map_congr_left fun x _ => patH_nm Hb x
  have eL : (L.map (patL Lb)).map (·.nm) = L.map (·.nm) := by rw [List.map_map]; exact List.map_congr_left fun x _ => patL_nm Lb x
  have eS : ∀ x, hasL (H.map (patH Hb)) x = hasL H x := fun x => by
    unfold hasL; rw [List.any_map]; congr 1; funext y; simp only [Function.comp, patH_nm]
  unfold treeOk lgrsOk hndsOk at h ⊢
  rw [eH, eL]
  simp only [Bool.and_eq_true, decide_eq_true_eq, List.all_eq_true, List.length_map] at h ⊢
  obtain ⟨h0, ⟨h1, h2, h3⟩, h4, h5⟩ := h
  refine ⟨b0, ⟨fun x hx => ?_, h2, h3⟩, fun l hl => ?_, h5⟩
  · obtain ⟨y, hy, rfl⟩ := List.mem_map.1 hx
    have := h1 y hy
    unfold hndOk at this ⊢
    simp only [Bool.and_eq_true] at this ⊢
    rw [patH_nm, patH_fs]
    refine ⟨this.1, this.2.1, ?_, this.2.2.2⟩
    unfold patH
    split
    · exact this.2.2.1
    · exact lv_getD b1 _
  · obtain ⟨y, hy, rfl⟩ := List.mem_map.1 hl
    have := h4 y hy
    unfold lgrOk at this ⊢
    simp only [Bool.and_eq_true] at this ⊢
    rw [patL_nm, patL_fs, patL_hs]
    have e : hasL (H.map (patH Hb)) = hasL H := funext eS
    rw [e]
    refine ⟨this.1, ?_, this.2.2⟩
    unfold patL
    split
    · exact this.2.1
    · exact lv_getD b2 _
theorem pat_res_fit (L : List Lgr) (H : List Hnd) (q : Int) (Lb : List Lgr) (Hb : List Hnd) (qb : Int) : dataFit (resL (patX L H q Lb Hb qb)) (resH (patX L H q Lb Hb qb)) := by
  unfold patX
  split
  · exact changed_fit _ _ _ _
  · exact ⟨⟨by simp [resL], by simp [resL]⟩, ⟨by simp [resH], by simp [resH]⟩⟩
end Go.Proofs.Yteoblmhbjmefoaa

/-
  LOGGERS AND HANDLERS DROPPED, ATTACHED, DETACHED: plain.
-/
namespace Go.Proofs.Yteoblmhbjmefoaa
open Go.RowKit Nm
set_option linter.unusedSimpArgs false
set_option linter.unusedVariables false

theorem none_fit : dataFit (resL none) (resH none) := ⟨⟨by simp [resL], by simp [resL]⟩, ⟨by simp [resH], by simp [resH]⟩⟩
theorem sub_fit {L L' : List Lgr} {H H' : List Hnd} (h : dataFit L H) (hl : L'.Sublist L) (hh : H'.Sublist H) : dataFit L' H' :=
  ⟨⟨Nat.le_trans hl.length_le h.1.1, fun a ha => h.1.2 a (hl.subset ha)⟩, Nat.le_trans hh.length_le h.2.1, fun a ha => h.2.2 a (hh.subset ha)⟩
def dropX (L : List Lgr) (H : List Hnd) (q : Int) (s : Name) : Option TreeD := if idxL (namesOf L) s ≤ 0 then none else changedO L H q (some (L.eraseIdx (idxL (namesOf L) s).toNat, H, q))
theorem drop_res_fit (L : List Lgr) (H : List Hnd) (q : Int) (s : Name) : dataFit (resL (dropX L H q s)) (resH (dropX L H q s)) := by
  unfold dropX
  split
  · exact none_fit
  · exact changed_fit _ _ _ _
/-- fewer loggers, the root still the first -/
theorem sub_ok {L L' : List Lgr} {H : List Hnd} {q : Int} (h : treeOk L H q = true) (hs : L'.Sublist L) (h0 : L'[0]? = L[0]?) : treeOk L' H q = true := by
  unfold treeOk lgrsOk at h ⊢
  simp only [Bool.and_eq_true, decide_eq_true_eq, List.all_eq_true] at h ⊢
  obtain ⟨a, b, c, d, e, f, g⟩ := h
  refine ⟨a, b, fun l hl => c l (hs.subset hl), (hs.map _).nodup d, ?_, Nat.le_trans hs.length_le f, ?_⟩
  · rw [List.getElem?_map] at g
    cases hx : L[0]? with
    | none => rw [hx] at g; cases g
    | some x => rw [hx] at h0; have := (List.getElem?_eq_some_iff.1 h0).1; omega
  · rw [List.getElem?_map, h0, ← List.getElem?_map]; exact g
theorem drop_ok {L : List Lgr} {H : List Hnd} {q : Int} {k : Nat} (h : treeOk L H q = true) (hk : 0 < k) : treeOk (L.eraseIdx k) H q = true :=
  sub_ok h (List.eraseIdx_sublist _ _) (by rw [List.getElem?_eraseIdx, if_pos hk])
theorem drop_some {L : List Lgr} {H : List Hnd} {q : Int} {s : Name} {k : Nat} (h : treeOk L H q = true) (hk : idxL (namesOf L) s = (k : Int)) (h0 : 0 < k) : dropX L H q s = some (L.eraseIdx k, H, q) := by
  unfold dropX changedO
  rw [hk, if_neg (by omega), h]
  simp only [Int.toNat_natCast, if_true, Option.bind_some]
  unfold ifOk
  rw [drop_ok h h0]; rfl

/-- the same names, each logger still right -/
theorem treeOk_of {L L' : List Lgr} {H : List Hnd} {q : Int} (h : treeOk L H q = true) (hn : L'.map (·.nm) = L.map (·.nm)) (ha : ∀ l ∈ L', lgrOk H l = true) : treeOk L' H q = true := by
  have hl : L'.length = L.length := by have := congrArg List.length hn; simpa using this
  unfold treeOk lgrsOk at h ⊢
  rw [hn, hl]
  simp only [Bool.and_eq_true, decide_eq_true_eq, List.all_eq_true] at h ⊢
  exact ⟨h.1, h.2.1, ha, h.2.2.2⟩
theorem treeOk_lgr {L : List Lgr} {H : List Hnd} {q : Int} (h : treeOk L H q = true) : ∀ l ∈ L, lgrOk H l = true := by
  unfold treeOk lgrsOk at h
  simp only [Bool.and_eq_true, decide_eq_true_eq, List.all_eq_true] at h
  exact h.2.2.1

def notS (s x : Name) : Bool := !decide (x = s)
def woL (s : Name) (l : Lgr) : Lgr := { l with hs := l.hs.filter (notS s) }
def dropHX (L : List Lgr) (H : List Hnd) (q : Int) (s : Name) : Option TreeD :=
  changedO L H q (if idxL (hnm H) s < 0 then none else some (L.map (woL s), H.eraseIdx (idxL (hnm H) s).toNat, q))
theorem wo_lgrFit {l : Lgr} (s : Name) (h : lgrFit l) : lgrFit (woL s l) := by
  unfold lgrFit at h ⊢
  exact ⟨h.1, ⟨Nat.le_trans (List.length_filter_le _ _) h.2.1.1, fun x hx => h.2.1.2 x ((List.mem_filter.1 hx).1)⟩, h.2.2⟩
theorem dropH_fit {L : List Lgr} {H : List Hnd} (s : Name) (k : Nat) (h : dataFit L H) : dataFit (L.map (woL s)) (H.eraseIdx k) := by
  refine ⟨⟨by rw [List.length_map]; exact h.1.1, fun a ha => ?_⟩, Nat.le_trans (List.eraseIdx_sublist _ _).length_le h.2.1, fun a ha => h.2.2 a ((List.eraseIdx_sublist _ _).subset ha)⟩
  obtain ⟨l, hl, rfl⟩ := List.mem_map.1 ha
  exact wo_lgrFit s (h.1.2 l hl)
theorem wo_lgrOk {H : List Hnd} {l : Lgr} (s : Name) (h : lgrOk H l = true) : lgrOk H (woL s l) = true := by
  unfold lgrOk at h ⊢
  simp only [Bool.and_eq_true, decide_eq_true_eq, List.all_eq_true] at h ⊢
  exact ⟨h.1, h.2.1, h.2.2.1, fun x hx => h.2.2.2.1 x ((List.mem_filter.1 hx).1), h.2.2.2.2.filter _⟩
theorem dropH_ok {L : List Lgr} {H : List Hnd} {q : Int} {s : Name} {k : Nat} (h : treeOk L H q = true) (hk : (hnm H)[k]? = some s) : treeOk (L.map (woL s)) (H.eraseIdx k) q = true := by
  have hn : (L.map (woL s)).map (·.nm) = L.map (·.nm) := by rw [List.map_map]; rfl
  have h' := h
  unfold treeOk lgrsOk hndsOk at h ⊢
  rw [hn, List.length_map]
  simp only [Bool.and_eq_true, decide_eq_true_eq, List.all_eq_true] at h ⊢
  obtain ⟨a, ⟨b1, b2, b3⟩, c, d⟩ := h
  have hsub := List.eraseIdx_sublist H k
  refine ⟨a, ⟨fun x hx => b1 x (hsub.subset hx), (hsub.map _).nodup b2, Nat.le_trans hsub.length_le b3⟩, fun l hl => ?_, d⟩
  obtain ⟨y, hy, rfl⟩ := List.mem_map.1 hl
  have := c y hy
  unfold lgrOk at this ⊢
  simp only [Bool.and_eq_true, decide_eq_true_eq, List.all_eq_true] at this ⊢
  refine ⟨this.1, this.2.1, this.2.2.1, fun x hx => ?_, this.2.2.2.2.filter _⟩
  obtain ⟨hx1, hx2⟩ := List.mem_filter.1 hx
  have hne : x ≠ s := by unfold notS at hx2; simpa using hx2
  have h3 := this.2.2.2.1 x hx1
  unfold hasL at h3 ⊢
  rw [List.any_eq_true] at h3 ⊢
  obtain ⟨g, hg, e⟩ := h3
  refine ⟨g, ?_, e⟩
  have e' := of_decide_eq_true e
  rw [List.mem_eraseIdx_iff_getElem?]
  obtain ⟨i, hi⟩ := List.getElem?_of_mem hg
  refine ⟨i, fun hik => ?_, hi⟩
  subst hik
  unfold hnm at hk
  rw [List.getElem?_map, hi] at hk
  exact hne (e'.symm.trans (Option.some.inj hk))
theorem dropH_res_fit (L : List Lgr) (H : List Hnd) (q : Int) (s : Name) : dataFit (resL (dropHX L H q s)) (resH (dropHX L H q s)) := changed_fit _ _ _ _
theorem dropH_some {L : List Lgr} {H : List Hnd} {q : Int} {s : Name} {k : Nat} (h : treeOk L H q = true) (hk : idxL (hnm H) s = (k : Int)) : dropHX L H q s = some (L.map (woL s), H.eraseIdx k, q) := by
  have e : ¬ ((k : Int) < 0) := by omega
  unfold dropHX changedO
  simp only [hk, h, if_neg e, Int.toNat_natCast, if_true, Option.bind_some]
  unfold ifOk
  rw [dropH_ok h (idx_nat hk).2]; rfl

theorem upd_mem {L : List Lgr} {k : Nat} {f : Lgr → Lgr} {a : Lgr} (ha : a ∈ updL L k f) : a ∈ L ∨ ∃ l, L[k]? = some l ∧ a = f l := by
  unfold updL at ha
  cases e : L[k]? with
  | none => rw [e] at ha; exact .inl ha
  | some l =>
    rw [e] at ha
    rcases List.mem_or_eq_of_mem_set ha with ha | rfl
    · exact .inl ha
    · exact .inr ⟨l, rfl, rfl⟩
theorem upd_map' {β : Type} (g : Lgr → β) (L : List Lgr) (k : Nat) (f : Lgr → Lgr) (h : ∀ l, g (f l) = g l) : (updL L k f).map g = L.map g := by
  unfold updL
  cases e : L[k]? with
  | none => rfl
  | some l =>
    show (L.set k (f l)).map g = L.map g
    rw [List.map_set, h]
    refine List.ext_getElem? fun i => ?_
    by_cases hi : i = k
    · subst hi
      rw [List.getElem?_set_self (by rw [List.length_map]; exact (List.getElem?_eq_some_iff.1 e).1), List.getElem?_map, e]; rfl
    · rw [List.getElem?_set_ne (by omega)]
theorem updl_fit {L : List Lgr} {H : List Hnd} {k : Nat} {f : Lgr → Lgr} (h : dataFit L H) (hf : ∀ l, L[k]? = some l → lgrFit l → lgrFit (f l)) : dataFit (updL L k f) H := by
  refine ⟨⟨?_, fun a ha => ?_⟩, h.2⟩
  · unfold updL; split
    · rw [List.length_set]; exact h.1.1
    · exact h.1.1
  · rcases upd_mem ha with ha | ⟨l, hl, rfl⟩
    · exact h.1.2 a ha
    · exact hf l hl (h.1.2 l (List.mem_of_getElem? hl))
theorem wo_ok {L : List Lgr} {H : List Hnd} {q : Int} (k : Nat) (s : Name) (h : treeOk L H q = true) : treeOk (updL L k (woL s)) H q = true := by
  refine treeOk_of h (upd_map' (·.nm) L k (woL s) (fun _ => rfl)) fun a ha => ?_
  rcases upd_mem ha with ha | ⟨l, hl, rfl⟩
  · exact treeOk_lgr h a ha
  · exact wo_lgrOk s (treeOk_lgr h l (List.mem_of_getElem? hl))

def addHL (s : Name) (l : Lgr) : Lgr := if s ∈ l.hs then l else { l with hs := l.hs ++ [s] }
theorem addHL_nm (s : Name) (l : Lgr) : (addHL s l).nm = l.nm := by unfold addHL; split <;> rfl
theorem addH_ok {L : List Lgr} {H : List Hnd} {q : Int} {k : Nat} {l : Lgr} (s : Name) (h : treeOk L H q = true) (hl : L[k]? = some l) : treeOk (updL L k (addHL s)) H q = decide (s ∈ hnm H) := by
  have hm := treeOk_lgr h l (List.mem_of_getElem? hl)
  have hiff : ∀ x, hasL H x = true ↔ x ∈ hnm H := fun x => by
    unfold hasL hnm
    rw [List.any_eq_true, List.mem_map]
    exact ⟨fun ⟨y, a, b⟩ => ⟨y, a, of_decide_eq_true b⟩, fun ⟨y, a, b⟩ => ⟨y, a, decide_eq_true b⟩⟩
  by_cases hs : s ∈ hnm H
  · rw [decide_eq_true hs]
    refine treeOk_of h (upd_map' (·.nm) L k (addHL s) (addHL_nm s)) fun a ha => ?_
    rcases upd_mem ha with ha | ⟨l', hl', rfl⟩
    · exact treeOk_lgr h a ha
    · rw [hl] at hl'
      obtain rfl := Option.some.inj hl'
      unfold addHL
      split
      · exact hm
      · rename_i hn
        unfold lgrOk at hm ⊢
        simp only [Bool.and_eq_true, decide_eq_true_eq, List.all_eq_true] at hm ⊢
        refine ⟨hm.1, hm.2.1, hm.2.2.1, fun x hx => ?_, ?_⟩
        · rcases List.mem_append.1 hx with hx | hx
          · exact hm.2.2.2.1 x hx
          · rw [List.mem_singleton] at hx; subst hx; exact (hiff _).2 hs
        · exact List.nodup_append.2 ⟨hm.2.2.2.2, List.nodup_cons.2 ⟨by simp, List.nodup_nil⟩, fun a ha b hb e => by
            rw [List.mem_singleton] at hb; rw [e, hb] at ha; exact hn ha⟩
  · rw [decide_eq_false hs]
    have hn : s ∉ l.hs := fun hx => by
      unfold lgrOk at hm
      simp only [Bool.and_eq_true, decide_eq_true_eq, List.all_eq_true] at hm
      exact hs ((hiff _).1 (hm.2.2.2.1 s hx))
    cases hc : treeOk (updL L k (addHL s)) H q with
    | false => rfl
    | true =>
      exfalso
      have h2 := treeOk_lgr hc (addHL s l) (by
        unfold updL; rw [hl]
        exact List.mem_of_getElem? (List.getElem?_set_self (List.getElem?_eq_some_iff.1 hl).1))
      unfold addHL at h2
      rw [if_neg hn] at h2
      unfold lgrOk at h2
      simp only [Bool.and_eq_true, decide_eq_true_eq, List.all_eq_true] at h2
      exact hs ((hiff _).1 (h2.2.2.2.1 s (by simp)))

def keepL (l : Lgr) : Bool := !(!decide (l.nm = []) && (decide (l.lv = 0) && (decide (l.hs.length = 0) && (decide (l.fs.length = 0) && (!l.stop && !l.off)))))
def dropPX (L : List Lgr) (H : List Hnd) (q : Int) : Option TreeD := changedO L H q (some (L.filter keepL, H, q))
theorem dropP_res_fit (L : List Lgr) (H : List Hnd) (q : Int) : dataFit (resL (dropPX L H q)) (resH (dropPX L H q)) := changed_fit _ _ _ _
theorem dropP_ok {L : List Lgr} {H : List Hnd} {q : Int} (h : treeOk L H q = true) : treeOk (L.filter keepL) H q = true := by
  obtain ⟨_, _, _, h8, h1, h0⟩ := tree_names h
  refine sub_ok h List.filter_sublist ?_
  cases L with
  | nil => rfl
  | cons a L =>
    have ha : a.nm = [] := by
      unfold treeOk lgrsOk at h
      simp only [Bool.and_eq_true, decide_eq_true_eq] at h
      have := h.2.2.2.2.2.2
      simpa using this
    have hk : keepL a = true := by unfold keepL; rw [ha]; simp
    rw [List.filter_cons, if_pos hk]; rfl
theorem dropP_some {L : List Lgr} {H : List Hnd} {q : Int} (h : treeOk L H q = true) : dropPX L H q = some (L.filter keepL, H, q) := by
  unfold dropPX changedO
  rw [h]
  simp only [if_true, Option.bind_some]
  unfold ifOk
  rw [dropP_ok h]; rfl
end Go.Proofs.Yteoblmhbjmefoaa

/-
  slices.Delete of a list of the call's own. By gen_dl2.py.
-/
namespace Go.Proofs.Yteoblmhbjmefoaa
open Go.RowKit Nm
set_option linter.unusedSimpArgs false
set_option linter.unusedVariables false

theorem own_cut {w : World} {lo size n cap g : Nat} {e : TypeId} {xs : List Value} (h : w.ownsRow lo e size (.slice (some ⟨g, 0, none⟩) n cap) n xs) {k : Nat} (hk : k ≤ n) : w.ownsRow lo e size (.slice (some ⟨g, 0, none⟩) k cap) k (xs.take (k * size)) := by
  have h1 := h.1
  have h3 : k * size ≤ n * size := Nat.mul_le_mul_right _ hk
  rcases h.2 with ⟨h', _⟩ | ⟨g', cap', cur, h', hb, hg, hnc, hcm, hcs, ht⟩
  · simp at h'
  · simp only [Value.slice.injEq, Option.some.injEq, Addr.mk.injEq, and_true, true_and] at h'
    obtain ⟨rfl, rfl⟩ := h'
    refine ⟨by rw [List.length_take, h1]; exact Nat.min_eq_left h3, .inr ⟨g, cap, cur, rfl, hb, hg, by omega, hcm, hcs, ?_⟩⟩
    rw [← ht, List.take_take, Nat.min_eq_left h3]
theorem run_delete {P : Program} {W : World} {lo size m cap g k : Nat} {e t : TypeId} {i : TypeInfo} {xs : List Value} (ht : P.underlying t = some (.slice e)) (hi : P.info? e = some i) (hsize : i.size = size)
    (h : W.ownsRow lo e size (.slice (some ⟨g, 0, none⟩) (m + 1) cap) (m + 1) xs) (hk : k ≤ m) (hc : m + 1 ≤ cap) (h1 : ∀ u ∈ xs, u.oneCell' = true) {A : Addr} (hA : (if cap = k + 1 then (some ⟨g, 0, none⟩ : Option Addr) else some ⟨g, (k + 1) * size, none⟩) = some A) :
    ∃ w', (Builtin.append_ #[t, t] t #[.slice (some ⟨g, 0, none⟩) k cap, .slice (some A) (m - k) (cap - (k + 1))]).run P W = .ok (.slice (some ⟨g, 0, none⟩) m cap) w' ∧
      w'.ownsRow lo e size (.slice (some ⟨g, 0, none⟩) m cap) m (xs.take (k * size) ++ xs.drop ((k + 1) * size)) ∧ W.grownBy w' (some g) := by
  have hl := h.1
  have e1 : k + (m - k) = m := by omega
  have e2 : (m + 1) * size - (k + 1) * size = (m - k) * size := by rw [← Nat.sub_mul]; congr 1; omega
  obtain ⟨w', a, b, c⟩ := run_append_fits (P := P) W lo t t e i size ht hi hsize g k cap (xs.take (k * size)) (own_cut h (by omega)) A (m - k) (cap - (k + 1)) (xs.drop ((k + 1) * size)) (by rw [List.length_drop, hl, e2]) (fun j u hu => by
    rw [List.getElem?_drop] at hu
    have hj := (List.getElem?_eq_some_iff.1 hu).1
    have hpos : (k + 1) * size + j < (m + 1) * size := by rw [hl] at hj; exact hj
    have hne : ¬ cap = k + 1 := fun e0 => by
      have : k = m := by omega
      subst this
      omega
    rw [if_neg hne] at hA
    obtain rfl := Option.some.inj hA
    rw [Addr.add_lit, h.cellAt _ hpos]
    exact hu) (fun u hu => h1 u (List.mem_of_mem_drop hu)) (by omega)
  rw [e1] at a b
  exact ⟨w', a, b, c⟩
theorem run_clear_own {P : Program} {W : World} {lo size n cap g o q c : Nat} {e t ty : TypeId} {z : Value} {xs : List Value} (ht : P.underlying t = some (.slice e)) (hz : (zeroValue e).run P W = .ok z W) (hzs : z.cells.size = size) (hz1 : ∀ u ∈ z.cells.toList, u.oneCell' = true)
    (h : W.ownsRow lo e size (.slice (some ⟨g, 0, none⟩) n cap) n xs) (hno : n * size ≤ o) (hoc : o + q * size ≤ cap * size) (hq : 0 < q) :
    ∃ W', (Builtin.clear_ #[t] ty #[.slice (some ⟨g, o, none⟩) q c]).run P W = .ok (.tuple #[]) W' ∧ W'.ownsRow lo e size (.slice (some ⟨g, 0, none⟩) n cap) n xs ∧ W.grownBy W' (some g) := by
  have h1 := h.1
  rcases h.2 with ⟨h', _⟩ | ⟨g', cap', cur, h', hb, hg, hnc, hcm, hcs, htk⟩
  · simp at h'
  · simp only [Value.slice.injEq, Option.some.injEq, Addr.mk.injEq, and_true, true_and] at h'
    obtain ⟨rfl, rfl⟩ := h'
    have hzl : (Builtin.zeroCells z.cells q).toList.length = q * size := by rw [Array.length_toList, size_zeroCells, hzs]
    have hfit : o + 0 + (Builtin.zeroCells z.cells q).toList.length ≤ cur.size := by rw [hzl, hcs]; omega
    have hst := run_storeCells_at P g o e (Builtin.zeroCells z.cells q).toList 0 cur W hg hfit (fun u hu => by
      unfold Builtin.zeroCells at hu
      rw [Array.toList_map] at hu
      obtain ⟨j, hj, rfl⟩ := List.mem_map.1 hu
      by_cases hs : z.cells.size = 0
      · rw [Array.toList_range, List.mem_range, hs] at hj; omega
      · have hlt : j % z.cells.size < z.cells.size := Nat.mod_lt _ (by omega)
        rw [getElem!_pos z.cells _ hlt]
        exact hz1 _ (Array.getElem_mem_toList hlt))
    obtain ⟨q', rfl⟩ : ∃ q', q = q' + 1 := ⟨q - 1, by omega⟩
    refine ⟨_, by simp [Builtin.clear_, run_underlying ht, hz, hst]; rfl, ?_, ?_⟩
    · refine ⟨h1, .inr ⟨g, cap, _, rfl, hb, setRow_heap W g cur _ e _ hg, hnc, hcm, ?_, ?_⟩⟩
      · simp only [List.size_toArray, List.length_append, List.length_take, List.length_drop, Array.length_toList] at hfit ⊢
        omega
      · simp only [Nat.add_zero, List.append_assoc]
        rw [List.take_append_of_le_length (by rw [List.length_take, Array.length_toList]; rw [hzl] at hfit; omega), List.take_take, Nat.min_eq_left hno, htk]
    · exact ⟨rfl, rfl, rfl, by simp [World.setRow], fun k _ hk => setRow_other W g k _ (fun e => hk (by simp [e]))⟩

theorem grown_dr (w : World) (row : Option Nat) : w.grownBy w.drew row := ⟨rfl, rfl, rfl, Nat.le_refl _, fun _ _ _ => rfl⟩
theorem grown2 {a b c : World} {row : Option Nat} (h1 : a.grownBy b row) (h2 : b.grownBy c row) : a.grownBy c row := ⟨h2.os.trans h1.os, h2.tape.trans h1.tape, h2.output.trans h1.output, Nat.le_trans h1.size h2.size, fun k hk hr => (h2.block k (Nat.lt_of_lt_of_le hk h1.size) hr).trans (h1.block k hk hr)⟩

theorem zeroLgr (w : World) : (zeroValue 49).run Try.prog w = .ok (.agg #[.string ByteArray.empty, .int .i64 0, .slice none 0 0, .slice none 0 0, .bool false, .bool false]) w := by kernel_rfl
set_option maxHeartbeats 4000000 in
set_option maxRecDepth 100000 in
theorem deleteLgr_c {W : World} {lo g m cap k : Nat} {xs : List Value} (hown : W.ownsRow lo 49 6 (.slice (some ⟨g, 0, none⟩) (m + 1) cap) (m + 1) xs) (hk : k ≤ m) (h1 : ∀ u ∈ xs, u.oneCell' = true) (hm : m ≤ 64) :
    Calls Try.prog 53 #[.slice (some ⟨g, 0, none⟩) (m + 1) cap, .int .i64 (k : Int), .int .i64 ((k : Int) + 1)] W (fun e w' => e = .returned (.slice (some ⟨g, 0, none⟩) m cap) ∧
      w'.ownsRow lo 49 6 (.slice (some ⟨g, 0, none⟩) m cap) m (xs.take (k * 6) ++ xs.drop ((k + 1) * 6)) ∧ W.grownBy w' (some g)) := by
  obtain ⟨i0, hi, _, hz1, _⟩ := info_parts Try.infoLogger
  obtain ⟨A0, c0, e0, hc, hcm⟩ := (Sl.of_own hown).form
  have e0' : cap = c0 := by have h9 := e0; simp at h9; exact h9.2
  subst e0'
  unfold maxLen at hcm
  obtain ⟨A, hA⟩ : ∃ A : Addr, (if cap = k + 1 then (some ⟨g, 0, none⟩ : Option Addr) else some ⟨g, (k + 1) * 6, none⟩) = some A := by split <;> exact ⟨_, rfl⟩
  obtain ⟨w1, hrun, ho1, hg1⟩ := run_delete (P := Try.prog) Try.underlying27 hi hz1 hown.drew hk (by omega) h1 hA
  obtain ⟨w2, hcl, ho2, hg2⟩ := run_clear_own (P := Try.prog) (ty := 0) (c := cap - m) Try.underlying27 (zeroLgr w1) (size := 6) rfl (by decide) ho1 (o := m * 6) (q := 1) (Nat.le_refl _) (by omega) (by omega)
  have hcl' : ∀ ty, (Builtin.clear_ #[27] ty #[.slice (some ⟨g, m * 6, none⟩) 1 (cap - m)]).run Try.prog w1 = .ok (.tuple #[]) w2 := fun ty => hcl
  have HRun := hid hrun
  have HO := hid (And.intro ho2 (grown2 (show W.grownBy W.drew (some g) from grown_dr W _) (grown2 hg1 hg2)))
  have s0 : (0 : Int) ≤ (k : Int) := by omega
  have s1 : (k : Int) ≤ (k : Int) + 1 := by omega
  have s2 : ((k : Int)).toNat = k := by simp
  have s3 : ((k : Int) + 1).toNat = k + 1 := by omega
  have s4 : (k : Int) + 1 ≤ ((m + 1 : Nat) : Int) := by omega
  have s5 : (0 : Int) ≤ (k : Int) + 1 := by omega
  have s6 : (k : Int) ≤ (cap : Int) := by omega
  have s7 : ((k : Int) == (k : Int) + 1) = false := by simp; omega
  have s8 : k + 1 ≤ m + 1 := by omega
  clear hcl hrun ho1 hg1 ho2 hg2 hown h1 e0
  go_enter Try.func53, Try.ntmps53
  go_wp2_with fail
  refine wp_region_held_drew (S := (fun _ : World => True)) (by kernel_rfl) trivial (fun hS => ?_)
  refine wpAnyH_take (i := 0) (oi := ?oi101) (v := ?v101) ?hi101 (by kernel_rfl) ?hf101 ?hr101 ?hQ101 (Or.inl ⟨?hw101, ?hy101⟩) (by assumption) ?rest101
  case hi101 => simp only [List.getElem?_toArray, List.getElem?_cons_succ, List.getElem?_cons_zero]; rfl
  case hf101 => kernel_rfl
  case hr101 => kernel_rfl
  case hw101 => rfl
  case hy101 => (intro w hSw; (try dsimp only at hSw); go_simp; all_goals (first | done | with_reducible rfl))
  case hQ101 => exact fun _ _ _ h => h
  simp only [Act.put, List.setIfInBounds_toArray, List.set_cons_zero, List.set_cons_succ]
  refine wpAnyH_take (i := 1) (oi := ?oi102) (v := ?v102) ?hi102 (by kernel_rfl) ?hf102 ?hr102 ?hQ102 (Or.inl ⟨?hw102, ?hy102⟩) (by assumption) ?rest102
  case hi102 => simp only [List.getElem?_toArray, List.getElem?_cons_succ, List.getElem?_cons_zero]; rfl
  case hf102 => kernel_rfl
  case hr102 => kernel_rfl
  case hw102 => rfl
  case hy102 => (intro w hSw; (try dsimp only at hSw); go_simp; all_goals (first | done | with_reducible rfl))
  case hQ102 => exact fun _ _ _ h => h
  simp only [Act.put, List.setIfInBounds_toArray, List.set_cons_zero, List.set_cons_succ]
  refine wpAnyH_take (i := 2) (oi := ?oi103) (v := ?v103) ?hi103 (by kernel_rfl) ?hf103 ?hr103 ?hQ103 (Or.inl ⟨?hw103, ?hy103⟩) (by assumption) ?rest103
  case hi103 => simp only [List.getElem?_toArray, List.getElem?_cons_succ, List.getElem?_cons_zero]; rfl
  case hf103 => kernel_rfl
  case hr103 => kernel_rfl
  case hw103 => rfl
  case hy103 => (intro w hSw; (try dsimp only at hSw); go_simp; all_goals (first | done | with_reducible rfl))
  case hQ103 => exact fun _ _ _ h => h
  simp only [Act.put, List.setIfInBounds_toArray, List.set_cons_zero, List.set_cons_succ]
  refine wpAnyH_take (i := 3) (oi := ?oi104) (v := ?v104) ?hi104 (by kernel_rfl) ?hf104 ?hr104 ?hQ104 (Or.inl ⟨?hw104, ?hy104⟩) (by assumption) ?rest104
  case hi104 => simp only [List.getElem?_toArray, List.getElem?_cons_succ, List.getElem?_cons_zero]; rfl
  case hf104 => kernel_rfl
  case hr104 => kernel_rfl
  case hw104 => rfl
  case hy104 => (intro w hSw; (try dsimp only at hSw); go_simp; all_goals (first | done | with_reducible rfl))
  case hQ104 => exact fun _ _ _ h => h
  simp only [Act.put, List.setIfInBounds_toArray, List.set_cons_zero, List.set_cons_succ]
  refine wpAnyH_take (i := 4) (oi := ?oi105) (v := ?v105) ?hi105 (by kernel_rfl) ?hf105 ?hr105 ?hQ105 (Or.inl ⟨?hw105, ?hy105⟩) (by assumption) ?rest105
  case hi105 => simp only [List.getElem?_toArray, List.getElem?_cons_succ, List.getElem?_cons_zero]; rfl
  case hf105 => kernel_rfl
  case hr105 => kernel_rfl
  case hw105 => rfl
  case hy105 => (intro w hSw; (try dsimp only at hSw); go_simp; all_goals (first | done | with_reducible rfl))
  case hQ105 => exact fun _ _ _ h => h
  simp only [Act.put, List.setIfInBounds_toArray, List.set_cons_zero, List.set_cons_succ]
  refine wpAnyH_take (i := 5) (oi := ?oi106) (v := ?v106) ?hi106 (by kernel_rfl) ?hf106 ?hr106 ?hQ106 (Or.inl ⟨?hw106, ?hy106⟩) (by assumption) ?rest106
  case hi106 => simp only [List.getElem?_toArray, List.getElem?_cons_succ, List.getElem?_cons_zero]; rfl
  case hf106 => kernel_rfl
  case hr106 => kernel_rfl
  case hw106 => rfl
  case hy106 => (intro w hSw; (try dsimp only at hSw); go_simp; all_goals (first | done | with_reducible rfl))
  case hQ106 => exact fun _ _ _ h => h
  simp only [Act.put, List.setIfInBounds_toArray, List.set_cons_zero, List.set_cons_succ]
  refine wpAnyH_ready (rs := [6]) (by kernel_rfl) (by simp) ?_
  refine AllReadyH.cons (o := ?oi107) ?hi107 (fun K hK => ?step107) AllReadyH.nil
  case hi107 => simp only [List.getElem?_toArray, List.getElem?_cons_succ, List.getElem?_cons_zero]; rfl
  rw [if_pos (by rfl)]
  refine wp_app rfl (by rfl) (by rfl) HRun.out ?_
  refine hK.out _ _ trivial (fun _ => ?_)
  simp only [Act.put, List.setIfInBounds_toArray, List.set_cons_zero, List.set_cons_succ]
  refine wpAnyH_take (i := 7) (oi := ?oi108) (v := ?v108) ?hi108 (by kernel_rfl) ?hf108 ?hr108 ?hQ108 (Or.inl ⟨?hw108, ?hy108⟩) (by assumption) ?rest108
  case hi108 => simp only [List.getElem?_toArray, List.getElem?_cons_succ, List.getElem?_cons_zero]; rfl
  case hf108 => kernel_rfl
  case hr108 => kernel_rfl
  case hw108 => rfl
  case hy108 => (intro w hSw; (try dsimp only at hSw); go_simp; all_goals (first | done | with_reducible rfl))
  case hQ108 => exact fun _ _ _ h => h
  simp only [Act.put, List.setIfInBounds_toArray, List.set_cons_zero, List.set_cons_succ]
  refine wpAnyH_done (by kernel_rfl) ?_ _
  go_wp2_with fail
  go_ret
  exact ⟨rfl, HO.out.1, HO.out.2⟩

theorem zeroHnd (w : World) : (zeroValue 83).run Try.prog w = .ok (.agg #[.string ByteArray.empty, .int .i64 0, .slice none 0 0]) w := by kernel_rfl
set_option maxHeartbeats 4000000 in
set_option maxRecDepth 100000 in
theorem deleteHnd_c {W : World} {lo g m cap k : Nat} {xs : List Value} (hown : W.ownsRow lo 83 3 (.slice (some ⟨g, 0, none⟩) (m + 1) cap) (m + 1) xs) (hk : k ≤ m) (h1 : ∀ u ∈ xs, u.oneCell' = true) (hm : m ≤ 64) :
    Calls Try.prog 64 #[.slice (some ⟨g, 0, none⟩) (m + 1) cap, .int .i64 (k : Int), .int .i64 ((k : Int) + 1)] W (fun e w' => e = .returned (.slice (some ⟨g, 0, none⟩) m cap) ∧
      w'.ownsRow lo 83 3 (.slice (some ⟨g, 0, none⟩) m cap) m (xs.take (k * 3) ++ xs.drop ((k + 1) * 3)) ∧ W.grownBy w' (some g)) := by
  obtain ⟨i0, hi, _, hz1, _⟩ := info_parts Try.infoHandler
  obtain ⟨A0, c0, e0, hc, hcm⟩ := (Sl.of_own hown).form
  have e0' : cap = c0 := by have h9 := e0; simp at h9; exact h9.2
  subst e0'
  unfold maxLen at hcm
  obtain ⟨A, hA⟩ : ∃ A : Addr, (if cap = k + 1 then (some ⟨g, 0, none⟩ : Option Addr) else some ⟨g, (k + 1) * 3, none⟩) = some A := by split <;> exact ⟨_, rfl⟩
  obtain ⟨w1, hrun, ho1, hg1⟩ := run_delete (P := Try.prog) Try.underlying28 hi hz1 hown.drew hk (by omega) h1 hA
  obtain ⟨w2, hcl, ho2, hg2⟩ := run_clear_own (P := Try.prog) (ty := 0) (c := cap - m) Try.underlying28 (zeroHnd w1) (size := 3) rfl (by decide) ho1 (o := m * 3) (q := 1) (Nat.le_refl _) (by omega) (by omega)
  have hcl' : ∀ ty, (Builtin.clear_ #[28] ty #[.slice (some ⟨g, m * 3, none⟩) 1 (cap - m)]).run Try.prog w1 = .ok (.tuple #[]) w2 := fun ty => hcl
  have HRun := hid hrun
  have HO := hid (And.intro ho2 (grown2 (show W.grownBy W.drew (some g) from grown_dr W _) (grown2 hg1 hg2)))
  have s0 : (0 : Int) ≤ (k : Int) := by omega
  have s1 : (k : Int) ≤ (k : Int) + 1 := by omega
  have s2 : ((k : Int)).toNat = k := by simp
  have s3 : ((k : Int) + 1).toNat = k + 1 := by omega
  have s4 : (k : Int) + 1 ≤ ((m + 1 : Nat) : Int) := by omega
  have s5 : (0 : Int) ≤ (k : Int) + 1 := by omega
  have s6 : (k : Int) ≤ (cap : Int) := by omega
  have s7 : ((k : Int) == (k : Int) + 1) = false := by simp; omega
  have s8 : k + 1 ≤ m + 1 := by omega
  clear hcl hrun ho1 hg1 ho2 hg2 hown h1 e0
  go_enter Try.func64, Try.ntmps64
  go_wp2_with fail
  refine wp_region_held_drew (S := (fun _ : World => True)) (by kernel_rfl) trivial (fun hS => ?_)
  refine wpAnyH_take (i := 0) (oi := ?oi109) (v := ?v109) ?hi109 (by kernel_rfl) ?hf109 ?hr109 ?hQ109 (Or.inl ⟨?hw109, ?hy109⟩) (by assumption) ?rest109
  case hi109 => simp only [List.getElem?_toArray, List.getElem?_cons_succ, List.getElem?_cons_zero]; rfl
  case hf109 => kernel_rfl
  case hr109 => kernel_rfl
  case hw109 => rfl
  case hy109 => (intro w hSw; (try dsimp only at hSw); go_simp; all_goals (first | done | with_reducible rfl))
  case hQ109 => exact fun _ _ _ h => h
  simp only [Act.put, List.setIfInBounds_toArray, List.set_cons_zero, List.set_cons_succ]
  refine wpAnyH_take (i := 1) (oi := ?oi110) (v := ?v110) ?hi110 (by kernel_rfl) ?hf110 ?hr110 ?hQ110 (Or.inl ⟨?hw110, ?hy110⟩) (by assumption) ?rest110
  case hi110 => simp only [List.getElem?_toArray, List.getElem?_cons_succ, List.getElem?_cons_zero]; rfl
  case hf110 => kernel_rfl
  case hr110 => kernel_rfl
  case hw110 => rfl
  case hy110 => (intro w hSw; (try dsimp only at hSw); go_simp; all_goals (first | done | with_reducible rfl))
  case hQ110 => exact fun _ _ _ h => h
  simp only [Act.put, List.setIfInBounds_toArray, List.set_cons_zero, List.set_cons_succ]
  refine wpAnyH_take (i := 2) (oi := ?oi111) (v := ?v111) ?hi111 (by kernel_rfl) ?hf111 ?hr111 ?hQ111 (Or.inl ⟨?hw111, ?hy111⟩) (by assumption) ?rest111
  case hi111 => simp only [List.getElem?_toArray, List.getElem?_cons_succ, List.getElem?_cons_zero]; rfl
  case hf111 => kernel_rfl
  case hr111 => kernel_rfl
  case hw111 => rfl
  case hy111 => (intro w hSw; (try dsimp only at hSw); go_simp; all_goals (first | done | with_reducible rfl))
  case hQ111 => exact fun _ _ _ h => h
  simp only [Act.put, List.setIfInBounds_toArray, List.set_cons_zero, List.set_cons_succ]
  refine wpAnyH_take (i := 3) (oi := ?oi112) (v := ?v112) ?hi112 (by kernel_rfl) ?hf112 ?hr112 ?hQ112 (Or.inl ⟨?hw112, ?hy112⟩) (by assumption) ?rest112
  case hi112 => simp only [List.getElem?_toArray, List.getElem?_cons_succ, List.getElem?_cons_zero]; rfl
  case hf112 => kernel_rfl
  case hr112 => kernel_rfl
  case hw112 => rfl
  case hy112 => (intro w hSw; (try dsimp only at hSw); go_simp; all_goals (first | done | with_reducible rfl))
  case hQ112 => exact fun _ _ _ h => h
  simp only [Act.put, List.setIfInBounds_toArray, List.set_cons_zero, List.set_cons_succ]
  refine wpAnyH_take (i := 4) (oi := ?oi113) (v := ?v113) ?hi113 (by kernel_rfl) ?hf113 ?hr113 ?hQ113 (Or.inl ⟨?hw113, ?hy113⟩) (by assumption) ?rest113
  case hi113 => simp only [List.getElem?_toArray, List.getElem?_cons_succ, List.getElem?_cons_zero]; rfl
  case hf113 => kernel_rfl
  case hr113 => kernel_rfl
  case hw113 => rfl
  case hy113 => (intro w hSw; (try dsimp only at hSw); go_simp; all_goals (first | done | with_reducible rfl))
  case hQ113 => exact fun _ _ _ h => h
  simp only [Act.put, List.setIfInBounds_toArray, List.set_cons_zero, List.set_cons_succ]
  refine wpAnyH_take (i := 5) (oi := ?oi114) (v := ?v114) ?hi114 (by kernel_rfl) ?hf114 ?hr114 ?hQ114 (Or.inl ⟨?hw114, ?hy114⟩) (by assumption) ?rest114
  case hi114 => simp only [List.getElem?_toArray, List.getElem?_cons_succ, List.getElem?_cons_zero]; rfl
  case hf114 => kernel_rfl
  case hr114 => kernel_rfl
  case hw114 => rfl
  case hy114 => (intro w hSw; (try dsimp only at hSw); go_simp; all_goals (first | done | with_reducible rfl))
  case hQ114 => exact fun _ _ _ h => h
  simp only [Act.put, List.setIfInBounds_toArray, List.set_cons_zero, List.set_cons_succ]
  refine wpAnyH_ready (rs := [6]) (by kernel_rfl) (by simp) ?_
  refine AllReadyH.cons (o := ?oi115) ?hi115 (fun K hK => ?step115) AllReadyH.nil
  case hi115 => simp only [List.getElem?_toArray, List.getElem?_cons_succ, List.getElem?_cons_zero]; rfl
  rw [if_pos (by rfl)]
  refine wp_app rfl (by rfl) (by rfl) HRun.out ?_
  refine hK.out _ _ trivial (fun _ => ?_)
  simp only [Act.put, List.setIfInBounds_toArray, List.set_cons_zero, List.set_cons_succ]
  refine wpAnyH_take (i := 7) (oi := ?oi116) (v := ?v116) ?hi116 (by kernel_rfl) ?hf116 ?hr116 ?hQ116 (Or.inl ⟨?hw116, ?hy116⟩) (by assumption) ?rest116
  case hi116 => simp only [List.getElem?_toArray, List.getElem?_cons_succ, List.getElem?_cons_zero]; rfl
  case hf116 => kernel_rfl
  case hr116 => kernel_rfl
  case hw116 => rfl
  case hy116 => (intro w hSw; (try dsimp only at hSw); go_simp; all_goals (first | done | with_reducible rfl))
  case hQ116 => exact fun _ _ _ h => h
  simp only [Act.put, List.setIfInBounds_toArray, List.set_cons_zero, List.set_cons_succ]
  refine wpAnyH_done (by kernel_rfl) ?_ _
  go_wp2_with fail
  go_ret
  exact ⟨rfl, HO.out.1, HO.out.2⟩
end Go.Proofs.Yteoblmhbjmefoaa

/-
  A LOGGER DROPPED: DropLogger of the program and of the model. By gen_dl3.py.
-/
namespace Go.Proofs.Yteoblmhbjmefoaa
open Go.RowKit Nm
set_option linter.unusedSimpArgs false
set_option linter.unusedVariables false

theorem flat_takeD {α : Type} {f : α → List Value} {d : Nat} (hf : ∀ x, (f x).length = d) (l : List α) (k : Nat) : (l.flatMap f).take (k * d) = (l.take k).flatMap f := by
  induction l generalizing k with
  | nil => simp
  | cons a l ih =>
    cases k with
    | zero => simp
    | succ k =>
      rw [List.flatMap_cons, List.take_succ_cons, List.flatMap_cons, show (k + 1) * d = (f a).length + k * d by rw [hf, Nat.succ_mul]; omega, List.take_length_add_append, ih]
theorem flat_dropD {α : Type} {f : α → List Value} {d : Nat} (hf : ∀ x, (f x).length = d) (l : List α) (k : Nat) : (l.flatMap f).drop (k * d) = (l.drop k).flatMap f := by
  induction l generalizing k with
  | nil => simp
  | cons a l ih =>
    cases k with
    | zero => simp
    | succ k =>
      rw [List.flatMap_cons, List.drop_succ_cons, show (k + 1) * d = (f a).length + k * d by rw [hf, Nat.succ_mul]; omega, List.drop_length_add_append, ih]
theorem flat_erase {α : Type} {f : α → List Value} {d : Nat} (hf : ∀ x, (f x).length = d) (l : List α) (k : Nat) : (l.flatMap f).take (k * d) ++ (l.flatMap f).drop ((k + 1) * d) = (l.eraseIdx k).flatMap f := by
  rw [flat_takeD hf, flat_dropD hf, List.eraseIdx_eq_take_drop_succ, List.flatMap_append]
theorem sub_flatM {α β : Type} {f : α → List β} {l l' : List α} (h : l'.Sublist l) : (l'.flatMap f).Sublist (l.flatMap f) := by
  induction h with
  | slnil => exact List.Sublist.refl _
  | cons a _ ih => rw [List.flatMap_cons]; exact ih.trans (List.sublist_append_right _ _)
  | cons_cons a _ ih => rw [List.flatMap_cons, List.flatMap_cons]; exact (List.Sublist.refl _).append ih
theorem lsOf_erase (ls : List LgrV) (k : Nat) : lsOf (ls.eraseIdx k) = (lsOf ls).eraseIdx k := by
  unfold lsOf
  rw [List.eraseIdx_eq_take_drop_succ, List.eraseIdx_eq_take_drop_succ, List.map_append, List.map_take, List.map_drop]
theorem hsOf_erase (hs : List HndV) (k : Nat) : hsOf (hs.eraseIdx k) = (hsOf hs).eraseIdx k := by
  unfold hsOf
  rw [List.eraseIdx_eq_take_drop_succ, List.eraseIdx_eq_take_drop_succ, List.map_append, List.map_take, List.map_drop]
theorem treeL_slices {W : World} {lo n1 n2 : Nat} {v1 v2 : Value} {ls : List LgrV} {hs : List HndV} (hr : Rows W lo (treeRows n1 v1 ls n2 v2 hs)) : (∀ u ∈ ls.flatMap lcells, u.oneCell' = true) ∧ (∀ u ∈ hs.flatMap hcells, u.oneCell' = true) := by
  obtain ⟨hl, hh⟩ := hr.lsIn
  refine ⟨lgrs_one ls fun x hx => ?_, hnds_one hs fun x hx => ?_⟩
  · obtain ⟨a, b⟩ := hl.2 x hx
    obtain ⟨A, c, e, _⟩ := a.form
    obtain ⟨A', c', e', _⟩ := b.form
    exact ⟨⟨A, _, c, e⟩, ⟨A', _, c', e'⟩⟩
  · obtain ⟨A, c, e, _⟩ := (hh.2 x hx).form
    exact ⟨A, _, c, e⟩
/-- a tree without a logger -/
theorem tree_del {W W' : World} {lo n m k : Nat} {v1 v1' v2 : Value} {ls : List LgrV} {hs : List HndV} (hn : n = ls.length) (hk : k < ls.length) (hm : m + 1 = n) (hr : Rows W lo (treeRows n v1 ls hs.length v2 hs))
    (ho : W'.ownsRow lo 49 6 v1' m ((ls.flatMap lcells).take (k * 6) ++ (ls.flatMap lcells).drop ((k + 1) * 6))) (hg : W.grownBy W' v1.ownBlock) (hv : v1'.ownBlock = v1.ownBlock) :
    Rows W' lo (treeRows (ls.eraseIdx k).length v1' (ls.eraseIdx k) hs.length v2 hs) ∧ ∀ b, (∀ r ∈ treeRows n v1 ls hs.length v2 hs, r.v.ownBlock ≠ some b) → ∀ r ∈ treeRows (ls.eraseIdx k).length v1' (ls.eraseIdx k) hs.length v2 hs, r.v.ownBlock ≠ some b := by
  subst hn
  rw [flat_erase lcells_len] at ho
  have h0 : Rows W lo ([] ++ ⟨49, 6, ls.length, v1, ls.flatMap lcells⟩ :: (ls.flatMap lrows ++ two 83 3 hs.length v2 hcells hrows hs)) := by
    rw [treeRows_eq] at hr
    simpa [two] using hr
  have h1 := Rows.app h0 hg ho (.inl hv)
  have hlen : (ls.eraseIdx k).length = m := by rw [List.length_eraseIdx, if_pos hk]; omega
  have ht : treeRows (ls.eraseIdx k).length v1' (ls.eraseIdx k) hs.length v2 hs = ⟨49, 6, m, v1', (ls.eraseIdx k).flatMap lcells⟩ :: ((ls.eraseIdx k).flatMap lrows ++ two 83 3 hs.length v2 hcells hrows hs) := by
    rw [treeRows_eq, two, hlen]; simp
  have hsub : ((ls.eraseIdx k).flatMap lrows).Sublist (ls.flatMap lrows) := sub_flatM (List.eraseIdx_sublist _ _)
  rw [ht]
  refine ⟨h1.sub (List.Sublist.cons_cons _ (hsub.append (List.Sublist.refl _))), fun b hb r hr' => ?_⟩
  rw [treeRows_eq] at hb
  rcases List.mem_cons.1 hr' with rfl | hr'
  · show v1'.ownBlock ≠ _
    rw [hv]
    exact hb ⟨49, 6, ls.length, v1, ls.flatMap lcells⟩ (by simp [two])
  · rcases List.mem_append.1 hr' with hr' | hr'
    · exact hb r (List.mem_append.2 (.inl (by simp only [two, List.mem_cons]; exact .inr (hsub.subset hr'))))
    · exact hb r (List.mem_append.2 (.inr hr'))

set_option maxHeartbeats 8000000 in
set_option maxRecDepth 100000 in
theorem dropClo_c {w : World} {L : List Lgr} {H : List Hnd} {q : Int} {k ba : Nat} (hba : w.cell? ⟨ba, 0, none⟩ = some (.int .i64 k)) (hk : k < L.length) (hok : treeOk L H q = true)
    (W : World) (lo bc : Nat) (v1 v2 : Value) (rs : List Row) (hp : CloPre w lo bc W v1 v2 rs L H q) :
    Calls Try.prog 52 #[.pointer (some ⟨bc, 0, none⟩), .pointer (some ⟨ba, 0, none⟩)] W (CloPost lo bc W (some (L.eraseIdx k, H, q))) := by
  obtain ⟨hb, hlo, hbc, hkb, hs, hr, hap, hd⟩ := hp
  obtain ⟨_, _, _, h8, _, _⟩ := tree_names hok
  have HD := hid (sub_fit hd (List.eraseIdx_sublist L k) (List.Sublist.refl H))
  have hbaw : ba < w.heap.size := World.block_lt_of_cell? w _ hba
  obtain ⟨u1, u2, ls, hs', e, h1, h2, h3⟩ := hs
  have e' : v1 = u1 ∧ v2 = u2 := by simpa using e
  obtain ⟨rfl, rfl⟩ := e'
  subst h3
  have hll : ls.length = L.length := by rw [← h1]; simp [lsOf]
  have hkl : k < ls.length := by omega
  obtain ⟨m, hm⟩ : ∃ m, m + 1 = ls.length := ⟨ls.length - 1, by omega⟩
  obtain ⟨hl, hh⟩ := hr.lsIn
  obtain ⟨A, c, rfl, hnc, hcm⟩ := hl.1.form
  obtain ⟨A4, c4, rfl, _, _⟩ := hh.1.form
  have hr0 := hr
  rw [treeRows_eq] at hr0
  have hown : W.ownsRow lo 49 6 (.slice A ls.length c) ls.length (ls.flatMap lcells) := hr.1 ⟨49, 6, ls.length, .slice A ls.length c, ls.flatMap lcells⟩ (by rw [treeRows_eq]; simp [two])
  obtain ⟨g, rfl, hglt⟩ := own_some hown (by omega)
  have hgl : lo ≤ g := (hown.lt g rfl).1
  have hgb : g ≠ bc := fun e => hap ⟨49, 6, ls.length, .slice (some ⟨g, 0, none⟩) ls.length c, ls.flatMap lcells⟩ (by rw [treeRows_eq]; simp [two]) (by rw [← e]; rfl)
  have hga : g ≠ ba := by omega
  have hbca : bc ≠ ba := by omega
  have HONE := hid (treeL_slices hr).1
  rw [← hm] at hown
  have CD := hid (deleteLgr_c (k := k) hown.drew (by omega) HONE.out (by omega))
  have HR := hid hr
  have HAP := hid hap
  have HKB := hid hkb
  have HL := hid (And.intro h1 h2)
  have HM := hid (And.intro hm hkl)
  have HLO := hid (And.intro hlo hbc)
  have HLw := hid (show lo ≤ W.heap.size by have := hkb.1; omega)
  have oa : W.cell? ⟨ba, 0, none⟩ = some (.int .i64 k) := (hb.cell (p := ⟨ba, 0, none⟩) hbaw).trans hba
  have od : W.drew.cell? ⟨bc, 0, none⟩ = some (.slice (some ⟨g, 0, none⟩) (m + 1) c) := by rw [hm]; exact (hkb.2 0 _ rfl).1
  have hm8 : m ≤ 64 := by omega
  have s0 : IntKind.i64.wrap ((k : Int) + 1) = (k : Int) + 1 := by rw [IntKind.wrap_i64]; omega
  clear hl hh hr0 hr hap hkb hd h1 h2 e hb hba hok hll hkl hm h8 hown hlo hbc
  go_enter Try.func52, Try.ntmps52
  go_wp2_with fail
  refine wp_region_held_drew (S := (fun w' : World => w'.cell? ⟨ba, 0, none⟩ = some (.int .i64 k))) (by kernel_rfl) oa (fun hS => ?_)
  refine wpAnyH_take (i := 0) (oi := ?oi117) (v := ?v117) ?hi117 (by kernel_rfl) ?hf117 ?hr117 ?hQ117 (Or.inl ⟨?hw117, ?hy117⟩) (by assumption) ?rest117
  case hi117 => simp only [List.getElem?_toArray, List.getElem?_cons_succ, List.getElem?_cons_zero]; rfl
  case hf117 => kernel_rfl
  case hr117 => kernel_rfl
  case hw117 => rfl
  case hy117 => (intro w hSw; (try dsimp only at hSw); go_simp; all_goals (first | done | with_reducible rfl))
  case hQ117 => exact fun _ _ _ h => h
  simp only [Act.put, List.setIfInBounds_toArray, List.set_cons_zero, List.set_cons_succ]
  refine wpAnyH_take (i := 1) (oi := ?oi118) (v := ?v118) ?hi118 (by kernel_rfl) ?hf118 ?hr118 ?hQ118 (Or.inl ⟨?hw118, ?hy118⟩) (by assumption) ?rest118
  case hi118 => simp only [List.getElem?_toArray, List.getElem?_cons_succ, List.getElem?_cons_zero]; rfl
  case hf118 => kernel_rfl
  case hr118 => kernel_rfl
  case hw118 => rfl
  case hy118 => (intro w hSw; (try dsimp only at hSw); go_simp; all_goals (first | done | with_reducible rfl))
  case hQ118 => exact fun _ _ _ h => h
  simp only [Act.put, List.setIfInBounds_toArray, List.set_cons_zero, List.set_cons_succ]
  refine wpAnyH_take (i := 2) (oi := ?oi119) (v := ?v119) ?hi119 (by kernel_rfl) ?hf119 ?hr119 ?hQ119 (Or.inl ⟨?hw119, ?hy119⟩) (by assumption) ?rest119
  case hi119 => simp only [List.getElem?_toArray, List.getElem?_cons_succ, List.getElem?_cons_zero]; rfl
  case hf119 => kernel_rfl
  case hr119 => kernel_rfl
  case hw119 => rfl
  case hy119 => (intro w hSw; (try dsimp only at hSw); go_simp; all_goals (first | done | with_reducible rfl))
  case hQ119 => exact fun _ _ _ h => h
  simp only [Act.put, List.setIfInBounds_toArray, List.set_cons_zero, List.set_cons_succ]
  refine wpAnyH_take (i := 3) (oi := ?oi120) (v := ?v120) ?hi120 (by kernel_rfl) ?hf120 ?hr120 ?hQ120 (Or.inl ⟨?hw120, ?hy120⟩) (by assumption) ?rest120
  case hi120 => simp only [List.getElem?_toArray, List.getElem?_cons_succ, List.getElem?_cons_zero]; rfl
  case hf120 => kernel_rfl
  case hr120 => kernel_rfl
  case hw120 => rfl
  case hy120 => (intro w hSw; (try dsimp only at hSw); go_simp; all_goals (first | done | with_reducible rfl))
  case hQ120 => exact fun _ _ _ h => h
  simp only [Act.put, List.setIfInBounds_toArray, List.set_cons_zero, List.set_cons_succ]
  refine wpAnyH_take (i := 5) (oi := ?oi121) (v := ?v121) ?hi121 (by kernel_rfl) ?hf121 ?hr121 ?hQ121 (Or.inl ⟨?hw121, ?hy121⟩) (by assumption) ?rest121
  case hi121 => simp only [List.getElem?_toArray, List.getElem?_cons_succ, List.getElem?_cons_zero]; rfl
  case hf121 => kernel_rfl
  case hr121 => kernel_rfl
  case hw121 => rfl
  case hy121 => (intro w hSw; (try dsimp only at hSw); go_simp; all_goals (first | done | with_reducible rfl))
  case hQ121 => exact fun _ _ _ h => h
  simp only [Act.put, List.setIfInBounds_toArray, List.set_cons_zero, List.set_cons_succ]
  refine wpAnyH_take (i := 6) (oi := ?oi122) (v := ?v122) ?hi122 (by kernel_rfl) ?hf122 ?hr122 ?hQ122 (Or.inl ⟨?hw122, ?hy122⟩) (by assumption) ?rest122
  case hi122 => simp only [List.getElem?_toArray, List.getElem?_cons_succ, List.getElem?_cons_zero]; rfl
  case hf122 => kernel_rfl
  case hr122 => kernel_rfl
  case hw122 => rfl
  case hy122 => (intro w hSw; (try dsimp only at hSw); go_simp; all_goals (first | done | with_reducible rfl))
  case hQ122 => exact fun _ _ _ h => h
  simp only [Act.put, List.setIfInBounds_toArray, List.set_cons_zero, List.set_cons_succ]
  refine wpAnyH_take (i := 7) (oi := ?oi123) (v := ?v123) ?hi123 (by kernel_rfl) ?hf123 ?hr123 ?hQ123 (Or.inl ⟨?hw123, ?hy123⟩) (by assumption) ?rest123
  case hi123 => simp only [List.getElem?_toArray, List.getElem?_cons_succ, List.getElem?_cons_zero]; rfl
  case hf123 => kernel_rfl
  case hr123 => kernel_rfl
  case hw123 => rfl
  case hy123 => (intro w hSw; (try dsimp only at hSw); go_simp; all_goals (first | done | with_reducible rfl))
  case hQ123 => exact fun _ _ _ h => h
  simp only [Act.put, List.setIfInBounds_toArray, List.set_cons_zero, List.set_cons_succ]
  refine wpAnyH_ready (rs := [4]) (by kernel_rfl) (by simp) ?_
  refine AllReadyH.cons (o := ?oi124) ?hi124 (fun K hK => ?step124) AllReadyH.nil
  case hi124 => simp only [List.getElem?_toArray, List.getElem?_cons_succ, List.getElem?_cons_zero]; rfl
  rw [if_pos (by rfl)]
  go_simp
  refine hK.out _ _ hS (fun hS => ?_)
  refine wpAnyH_ready (rs := [8]) (by kernel_rfl) (by simp) ?_
  refine AllReadyH.cons (o := ?oi125) ?hi125 (fun K hK => ?step125) AllReadyH.nil
  case hi125 => simp only [List.getElem?_toArray, List.getElem?_cons_succ, List.getElem?_cons_zero]; rfl
  rw [if_pos (by rfl)]
  go_simp
  go_at_call 53
  refine (CD.out).mono ?_
  rintro e w1 ⟨rfl, ho1, hg1⟩
  have HG1 := hid (show W.grownBy w1 (some g) from grown2 (grown_dr W _) hg1)
  have HK1 := hid (HKB.out.kept HG1.out (show some bc ≠ some g from fun e => hgb (Option.some.inj e).symm))
  obtain ⟨hR1, hoff⟩ := tree_del rfl HM.out.2 HM.out.1 HR.out ho1 HG1.out rfl
  have HR1 := hid (hR1.off (j := 0) (u := .slice (some ⟨g, 0, none⟩) m c) (hoff bc HAP.out))
  have HB1 := hid (show Below lo W w1 from (Below.refl lo W).grown HG1.out HLw.out (fun z hz => by obtain rfl := Option.some.inj hz; exact hgl))
  have oa1 : w1.cell? ⟨ba, 0, none⟩ = some (.int .i64 k) := (World.cell?_of_block (HG1.out.block ba (World.block_lt_of_cell? _ _ oa) (fun e => hga (Option.some.inj e).symm))).trans oa
  refine hK.out _ _ oa1 (fun hS => ?_)
  refine wpAnyH_take (i := 9) (oi := ?oi126) (v := ?v126) ?hi126 (by kernel_rfl) ?hf126 ?hr126 ?hQ126 (Or.inl ⟨?hw126, ?hy126⟩) (by assumption) ?rest126
  case hi126 => simp only [List.getElem?_toArray, List.getElem?_cons_succ, List.getElem?_cons_zero]; rfl
  case hf126 => kernel_rfl
  case hr126 => kernel_rfl
  case hw126 => rfl
  case hy126 => (intro w hSw; (try dsimp only at hSw); go_simp; all_goals (first | done | with_reducible rfl))
  case hQ126 => exact fun _ _ _ h => h
  simp only [Act.put, List.setIfInBounds_toArray, List.set_cons_zero, List.set_cons_succ]
  refine wpAnyH_take (i := 10) (oi := ?oi127) (v := ?v127) ?hi127 (by kernel_rfl) ?hf127 ?hr127 ?hQ127 (Or.inl ⟨?hw127, ?hy127⟩) (by assumption) ?rest127
  case hi127 => simp only [List.getElem?_toArray, List.getElem?_cons_succ, List.getElem?_cons_zero]; rfl
  case hf127 => kernel_rfl
  case hr127 => kernel_rfl
  case hw127 => rfl
  case hy127 => (intro w hSw; (try dsimp only at hSw); go_simp; all_goals (first | done | with_reducible rfl))
  case hQ127 => exact fun _ _ _ h => h
  simp only [Act.put, List.setIfInBounds_toArray, List.set_cons_zero, List.set_cons_succ]
  have o9 := (HK1.out.2 0 _ rfl).1
  have o9f := (HK1.out.2 0 _ rfl).2
  refine wpAnyH_ready (rs := [11]) (by kernel_rfl) (by simp) ?_
  refine AllReadyH.cons (o := ?oi128) ?hi128 (fun K hK => ?step128) AllReadyH.nil
  case hi128 => simp only [List.getElem?_toArray, List.getElem?_cons_succ, List.getElem?_cons_zero]; rfl
  rw [if_pos (by rfl)]
  go_simp
  refine hK.out _ _ ((World.cell?_setCell_far _ _ _ _ hbca).trans oa1) (fun hS => ?_)
  refine wpAnyH_done (by kernel_rfl) ?_ _
  clear oa od oa1 o9 o9f hS ho1 hg1 hR1 hoff
  have hlob := HLO.out.2
  go_wp2_with fail
  go_ret
  refine ⟨HB1.out.setCell hlob _, rfl, fun x hx => ?_⟩
  obtain rfl := Option.some.inj hx
  exact ⟨_, _, _, _, _, _, _, HK1.out.set 0 _, ⟨_, _, ls.eraseIdx k, hs', rfl, by rw [lsOf_erase, HL.out.1], HL.out.2, rfl⟩, HR1.out, HD.out⟩

set_option maxHeartbeats 4000000 in
set_option maxRecDepth 100000 in
theorem implDropLogger_c {w : World} {B : Nat} {v : Value} {L : List Lgr} {H : List Hnd} {q : Int} (s : ByteArray) (h : TreeIn w B v L H q) (hB : B ≤ w.heap.size) :
    Calls Try.prog 15 #[v, .string s] w (TreePostO w (dropX L H q s.data.toList)) := by
  have C := fun (W : World) (hW : Below w.heap.size w W) => implLoggerAtX_c s (h.below hW hB) (Nat.le_trans hB hW.size)
  have CH := hid (fun (W : World) (hW : Below w.heap.size w W) => h.below hW hB)
  obtain ⟨A1, n1, k1, A2, n2, k2, rfl⟩ := h.form
  have hmf : ∀ (fn : Fn) (first cap : Array Value) (w : World), (Instr.makeFunc fn first cap).run Try.prog w = .ok (.func fn first cap) w := fun _ _ _ _ => rfl
  clear h
  by_cases hneg : (if treeOk L H q then idxL (namesOf L) s.data.toList else -1) ≤ 0
  · have HE := hid (show dropX L H q s.data.toList = none by
      unfold dropX
      by_cases hz : treeOk L H q = true
      · rw [if_pos hz] at hneg; rw [if_pos hneg]
      · unfold changedO; rw [if_neg hz]; split <;> rfl)
    generalize (if treeOk L H q then idxL (namesOf L) s.data.toList else -1) = z at C hneg
    replace C := hid C
    clear CH
    go_enter Try.func15, Try.ntmps15
    go_wp2_with fail
    refine (C.out _ ?_).mono ?_
    case refine_1 => go_grown
    rintro e w1 ⟨rfl, hb1⟩
    have K1 := ((Blk.new _ _ _).to hb1)
    simp only [World.size_alloc] at K1
    have HK1 := hid K1
    have HB1 := hid (Below.trans (by go_grown) (hb1.mono (by simp; try omega)) : Below w.heap.size w w1)
    have HK2 := hid (HK1.out.alloc (.cells #[.int .i64 z] 3))
    have HB2 := hid (HB1.out.alloc HB1.out.size (.cells #[.int .i64 z] 3))
    obtain ⟨q0c, q0f⟩ := HK2.out.2 0 _ rfl
    obtain ⟨q1c, q1f⟩ := HK2.out.2 1 _ rfl
    obtain ⟨q2c, q2f⟩ := HK2.out.2 2 _ rfl
    clear hb1 K1
    go_wp2_with fail
    have RB := ((HK2.out.set 0 (.slice none 0 0)).set 1 (.slice none 0 0)).set 2 (.int .i64 0)
    have f0 := (RB.2 0 _ rfl).1
    have f1 := (RB.2 1 _ rfl).1
    have f2 := (RB.2 2 _ rfl).1
    refine bodyPost_ret (v := .tuple #[.agg #[.slice none 0 0, .slice none 0 0, .int .i64 0], .bool false]) (by simp [results, Try.results15, go_sem, f0, f1, f2]) rfl ?_
    refine postO_none HE.out rfl ?_
    iterate 3 refine Below.setCell ?_ (by simp; try omega) _
    exact HB2.out
  · obtain ⟨k, hzk⟩ : ∃ k : Nat, (if treeOk L H q then idxL (namesOf L) s.data.toList else -1) = (k : Int) := ⟨_, (Int.toNat_of_nonneg (by omega)).symm⟩
    have hzt : treeOk L H q = true := by
      by_cases hz : treeOk L H q = true
      · exact hz
      · rw [if_neg hz] at hneg; omega
    rw [hzk] at C hneg
    rw [if_pos hzt] at hzk
    have hkl : k < L.length := by have := (idx_nat hzk).1; simpa [namesOf] using this
    have HE := hid (show dropX L H q s.data.toList = changedO L H q (some (L.eraseIdx k, H, q)) by unfold dropX; rw [hzk, if_neg hneg]; rfl)
    have HZ := hid hzt
    replace C := hid C
    clear hzk hzt
    generalize hX : dropX L H q s.data.toList = X at HE ⊢
    clear hX
    go_enter Try.func15, Try.ntmps15
    go_wp2_with fail
    refine (C.out _ ?_).mono ?_
    case refine_1 => go_grown
    rintro e w1 ⟨rfl, hb1⟩
    have K0 := (((Blk.new _ _ _).alloc _).to hb1)
    have K1 := ((Blk.new _ _ _).to hb1)
    simp only [World.size_alloc] at K0 K1
    have HB1 := hid (Below.trans (by go_grown) (hb1.mono (by simp; try omega)) : Below w.heap.size w w1)
    have hw1 : w.heap.size + 2 ≤ w1.heap.size := by have := hb1.size; simp at this; omega
    have HW := hid (show Below w.heap.size w (w1.alloc (.cells #[.int .i64 k] 3)) from HB1.out.alloc HB1.out.size _)
    have HKA := hid (Blk.new w1 #[.int .i64 k] 3)
    have HK2 := hid (K1.alloc (.cells #[.int .i64 k] 3))
    have CQ := hid (implChanged1_c 52 (.pointer (some ⟨w1.heap.size, 0, none⟩)) (some (L.eraseIdx k, H, q)) (CH.out _ HW.out) (Nat.le_trans hB HW.out.size) (fun args w => enters rfl (by kernel_rfl) rfl args w)
      (fun W lo bc v1 v2 rs _ hp => dropClo_c (HKA.out.2 0 _ rfl).1 hkl HZ.out W lo bc v1 v2 rs hp))
    have K0' := K0.alloc (.cells #[.int .i64 k] 3)
    have d0 := (K0'.2 0 _ rfl).1
    have d1 := (K0'.2 1 _ rfl).1
    have d2 := (K0'.2 2 _ rfl).1
    clear hb1 K0 K0' K1
    go_wp2_with fail
    refine (CQ.out).mono ?_
    rintro e w2 ⟨v', rs, rfl, hs, hr, hb2⟩
    have HX' := hid (show changedO L H q (some (L.eraseIdx k, H, q)) = X from HE.out.symm)
    rw [HX'.out] at hs
    obtain ⟨u1, u2, ls, hs', rfl, hL, hH, rfl⟩ := hs
    have KR1 := hid (HK2.out.to hb2)
    have HB2 := hid (HW.out.trans (hb2.mono HW.out.size))
    have HR1 := hid (hr.base (show w.heap.size + 2 ≤ _ by simp; omega))
    have HS1 := hid (show TreeS (treeRows ls.length u1 ls hs'.length u2 hs') (.agg #[u1, u2, .int .i64 (resQ X)]) (resL X) (resH X) (resQ X) from ⟨u1, u2, ls, hs', rfl, hL, hH, rfl⟩)
    obtain ⟨hl, hh⟩ := hr.lsIn
    obtain ⟨A3, c3, rfl, _, _⟩ := hl.1.form
    obtain ⟨A4, c4, rfl, _, _⟩ := hh.1.form
    obtain ⟨q0c, q0f⟩ := KR1.out.2 0 _ rfl
    obtain ⟨q1c, q1f⟩ := KR1.out.2 1 _ rfl
    obtain ⟨q2c, q2f⟩ := KR1.out.2 2 _ rfl
    generalize hq0 : resQ X = q0 at *
    generalize hi0 : (changedO L H q (some (L.eraseIdx k, H, q))).isSome = i0 at *
    have HI := hid (show X.isSome = i0 by rw [← HX'.out]; exact hi0)
    have HQ0 := hid hq0
    clear hq0 hi0 hb2 hr hl hh hL hH
    go_wp2_with fail
    have RB := ((KR1.out.set 0 (.slice A3 ls.length c3)).set 1 (.slice A4 hs'.length c4)).set 2 (.int .i64 q0)
    have f0 := (RB.2 0 _ rfl).1
    have f1 := (RB.2 1 _ rfl).1
    have f2 := (RB.2 2 _ rfl).1
    refine bodyPost_ret (v := .tuple #[.agg #[.slice A3 ls.length c3, .slice A4 hs'.length c4, .int .i64 q0], .bool i0]) (by simp [results, Try.results15, go_sem, f0, f1, f2]) rfl ?_
    refine ⟨_, _, by rw [HI.out], (by rw [HQ0.out]; exact HS1.out), ?_, ?_⟩
    · refine Rows.base ?_ (show w.heap.size ≤ w.heap.size + 2 by omega)
      iterate 3 refine Rows.low ?_ (by omega)
      exact HR1.out
    · iterate 3 refine Below.setCell ?_ (by simp; try omega) _
      exact HB2.out

set_option maxHeartbeats 8000000 in
set_option maxRecDepth 100000 in
theorem specDropLogger_c {w : World} {B : Nat} {v : Value} {L : List Lgr} {H : List Hnd} {q : Int} (s : ByteArray) (h : TreeIn w B v L H q) (hB : B ≤ w.heap.size) :
    Calls Try.prog 13 #[v, .string s] w (TreePostO w (dropX L H q s.data.toList)) := by
  have C := hid (fun (W : World) (hW : Below w.heap.size w W) => specTreeX_c (h.below hW hB) (Nat.le_trans hB hW.size))
  obtain ⟨A1, n1, k1, A2, n2, k2, rfl⟩ := h.form
  obtain ⟨ls, hl, hL⟩ := h.loggers
  have AT := fun (W : World) (hW : Below w.heap.size w W) => loggerAt_c (.slice A1 n1 k1) n1 B ls s W (hl.below hW hB)
  have hN : lnames ls = namesOf L := by rw [← hL, namesOf_ls]
  rw [hN] at AT
  clear hN hl hL
  cases hz : treeOk L H q with
  | false =>
    have HE := hid (show dropX L H q s.data.toList = none by unfold dropX changedO; rw [hz]; split <;> rfl)
    generalize idxL (namesOf L) s.data.toList = z at AT
    replace AT := hid AT
    rw [hz] at C
    clear h hz
    go_enter Try.func13, Try.ntmps13
    go_wp2_with (go_at_call 46; refine (AT.out _ (by go_grown)).mono ?_; rintro e w2 ⟨rfl, hw2⟩; have hw2 := hw2.symm; subst hw2)
    refine (C.out _ ?_).mono ?_
    case refine_1 => go_grown
    rintro e w1 ⟨rfl, hb1⟩
    have K1 := ((Blk.new _ _ _).to hb1)
    simp only [World.size_alloc] at K1
    have HK1 := hid K1
    have HB1 := hid (Below.trans (by go_grown) (hb1.mono (by simp; try omega)) : Below w.heap.size w w1)
    obtain ⟨q0c, q0f⟩ := HK1.out.2 0 _ rfl
    obtain ⟨q1c, q1f⟩ := HK1.out.2 1 _ rfl
    obtain ⟨q2c, q2f⟩ := HK1.out.2 2 _ rfl
    clear hb1 K1
    go_wp2_with fail
    have RB := ((HK1.out.set 0 (.slice none 0 0)).set 1 (.slice none 0 0)).set 2 (.int .i64 0)
    have f0 := (RB.2 0 _ rfl).1
    have f1 := (RB.2 1 _ rfl).1
    have f2 := (RB.2 2 _ rfl).1
    refine bodyPost_ret (v := .tuple #[.agg #[.slice none 0 0, .slice none 0 0, .int .i64 0], .bool false]) (by simp [results, Try.results13, go_sem, f0, f1, f2]) rfl ?_
    refine postO_none HE.out rfl ?_
    iterate 3 refine Below.setCell ?_ (by simp) _
    exact HB1.out
  | true =>
   by_cases hneg : idxL (namesOf L) s.data.toList ≤ 0
   · have HE := hid (show dropX L H q s.data.toList = none by unfold dropX; rw [if_pos hneg])
     generalize idxL (namesOf L) s.data.toList = z at AT hneg
     have hneg' : z < 1 := by omega
     replace AT := hid AT
     rw [hz] at C
     clear h hz hneg
     go_enter Try.func13, Try.ntmps13
     go_wp2_with (go_at_call 46; refine (AT.out _ (by go_grown)).mono ?_; rintro e w2 ⟨rfl, hw2⟩; have hw2 := hw2.symm; subst hw2)
     refine (C.out _ ?_).mono ?_
     case refine_1 => go_grown
     rintro e w1 ⟨rfl, hb1⟩
     have K1 := ((Blk.new _ _ _).to hb1)
     simp only [World.size_alloc] at K1
     have HK1 := hid K1
     have HB1 := hid (Below.trans (by go_grown) (hb1.mono (by simp; try omega)) : Below w.heap.size w w1)
     obtain ⟨q0c, q0f⟩ := HK1.out.2 0 _ rfl
     obtain ⟨q1c, q1f⟩ := HK1.out.2 1 _ rfl
     obtain ⟨q2c, q2f⟩ := HK1.out.2 2 _ rfl
     clear hb1 K1
     go_wp2_with fail
     have RB := ((HK1.out.set 0 (.slice none 0 0)).set 1 (.slice none 0 0)).set 2 (.int .i64 0)
     have f0 := (RB.2 0 _ rfl).1
     have f1 := (RB.2 1 _ rfl).1
     have f2 := (RB.2 2 _ rfl).1
     refine bodyPost_ret (v := .tuple #[.agg #[.slice none 0 0, .slice none 0 0, .int .i64 0], .bool false]) (by simp [results, Try.results13, go_sem, f0, f1, f2]) rfl ?_
     refine postO_none HE.out rfl ?_
     iterate 3 refine Below.setCell ?_ (by simp) _
     exact HB1.out
   · obtain ⟨k, hzk⟩ : ∃ k : Nat, idxL (namesOf L) s.data.toList = (k : Int) := ⟨_, (Int.toNat_of_nonneg (by omega)).symm⟩
     have hkl : k < L.length := by have := (idx_nat hzk).1; simpa [namesOf] using this
     have hk0 : 0 < k := by omega
     have HN := hid (drop_some hz hzk hk0)
     rw [hzk] at AT
     replace AT := hid AT
     have HD := hid (fit_ok hz)
     have HZ := hid hz
     have CC := hid (fun (W : World) (hW : Below w.heap.size w W) => specCopy_c (h.below hW hB) hz (Nat.le_trans hB hW.size))
     obtain ⟨_, _, _, h8, _, _⟩ := tree_names hz
     rw [hz] at C
     clear h hz hneg hzk
     go_enter Try.func13, Try.ntmps13
     go_wp2_with (go_at_call 46; refine (AT.out _ (by go_grown)).mono ?_; rintro e w2 ⟨rfl, hw2⟩; have hw2 := hw2.symm; subst hw2)
     refine (C.out _ ?_).mono ?_
     case refine_1 => go_grown
     rintro e w1 ⟨rfl, hb1⟩
     have K0 := (((Blk.new _ _ _).alloc _).to hb1)
     have K1 := ((Blk.new _ _ _).to hb1)
     simp only [World.size_alloc] at K0 K1
     have HK0 := hid K0
     have HK1 := hid K1
     have HB1 := hid (Below.trans (by go_grown) (hb1.mono (by simp; try omega)) : Below w.heap.size w w1)
     have hsz1 : w.heap.size + 2 ≤ w1.heap.size := by have := hb1.size; simp at this; omega
     have d0 := (HK0.out.2 0 _ rfl).1
     have d1 := (HK0.out.2 1 _ rfl).1
     have d2 := (HK0.out.2 2 _ rfl).1
     have hk1 : ¬ (k : Int) < 1 := by omega
     clear hb1 K0 K1
     go_wp2_with fail
     refine (CC.out _ HB1.out).mono ?_
     rintro e w2 ⟨v', rs, rfl, hs, hr, hb2⟩
     obtain ⟨u1, u2, ls, hs', rfl, h1, h2, rfl⟩ := hs
     have hll : ls.length = L.length := by rw [← h1]; simp [lsOf]
     have hkl2 : k < ls.length := by omega
     obtain ⟨m, hm⟩ : ∃ m, m + 1 = ls.length := ⟨ls.length - 1, by omega⟩
     obtain ⟨hl, hh⟩ := hr.lsIn
     obtain ⟨A, c, rfl, hnc, hcm⟩ := hl.1.form
     obtain ⟨A4, c4, rfl, _, _⟩ := hh.1.form
     have hown : w2.ownsRow w1.heap.size 49 6 (.slice A ls.length c) ls.length (ls.flatMap lcells) := hr.1 ⟨49, 6, ls.length, .slice A ls.length c, ls.flatMap lcells⟩ (by rw [treeRows_eq]; simp [two])
     obtain ⟨g, rfl, hglt⟩ := own_some hown (by omega)
     have hgl : w1.heap.size ≤ g := (hown.lt g rfl).1
     have hsz12 : w1.heap.size ≤ w2.heap.size := hb2.size
     have hww1 : w.heap.size ≤ w1.heap.size := HB1.out.size
     have hgo : g ≠ w2.heap.size := by omega
     -- the world in which the copy lies in its box
     obtain ⟨i0, hi, _, hz1, _⟩ := info_parts Try.infoLogger
     have hone := (treeL_slices hr).1
     obtain ⟨A0, hA⟩ : ∃ A0 : Addr, (if c = k + 1 then (some ⟨g, 0, none⟩ : Option Addr) else some ⟨g, (k + 1) * 6, none⟩) = some A0 := by split <;> exact ⟨_, rfl⟩
     have HBA := hid (show Below w2.heap.size w2 (w2.alloc (.cells #[.slice (some ⟨g, 0, none⟩) ls.length c, .slice A4 hs'.length c4, .int .i64 q] 30)) from (Below.refl _ _).alloc (Nat.le_refl _) _)
     have HRA := hid (hr.below HBA.out.drew)
     have hownA := own_below hown HBA.out.drew
     rw [← hm] at hownA
     obtain ⟨w3, hrun, ho3, hg3⟩ := run_delete (P := Try.prog) Try.underlying27 hi hz1 hownA (by omega) (by omega) hone hA
     have HK2 := hid ((HK1.out.to hb2).alloc (.cells #[.slice (some ⟨g, 0, none⟩) ls.length c, .slice A4 hs'.length c4, .int .i64 q] 30))
     have KO := Blk.new w2 #[.slice (some ⟨g, 0, none⟩) ls.length c, .slice A4 hs'.length c4, .int .i64 q] 30
     rw [← hm] at KO HBA HK2 hnc
     have HKO3 := hid ((KO.dr 1).kept hg3 (show some w2.heap.size ≠ some g from fun e => hgo (Option.some.inj e).symm))
     have HK3 := hid ((HK2.out.dr 1).kept hg3 (show some (w.heap.size + 1) ≠ some g from fun e => by have := Option.some.inj e; omega))
     obtain ⟨hR3, hoff⟩ := tree_del rfl hkl2 hm HRA.out ho3 (by rw [← hm]; exact hg3) rfl
     have HR3 := hid (hR3.off (j := 0) (u := .slice (some ⟨g, 0, none⟩) m c) (hoff w2.heap.size (rows_below hr)))
     have HB3 := hid (show Below w1.heap.size w1 w3 from ((show Below w1.heap.size w1 w2 from hb2).trans (HBA.out.drew.mono hb2.size)).grown hg3 (Nat.le_trans hsz12 HBA.out.size) (fun z hz => by obtain rfl := Option.some.inj hz; exact hgl))
     have HRun := hid hrun
     have HL := hid (And.intro (show lsOf (ls.eraseIdx k) = L.eraseIdx k by rw [lsOf_erase, h1]) h2)
     have od : (w2.alloc (.cells #[.slice (some ⟨g, 0, none⟩) (m + 1) c, .slice A4 hs'.length c4, .int .i64 q] 30)).drew.cell? ⟨w2.heap.size, 0, none⟩ = some (.slice (some ⟨g, 0, none⟩) (m + 1) c) := (KO.2 0 _ rfl).1
     have s0 : IntKind.i64.wrap ((k : Int) + 1) = (k : Int) + 1 := by rw [IntKind.wrap_i64]; omega
     have s1 : (0 : Int) ≤ (k : Int) := by omega
     have s2 : ((k : Int)).toNat = k := by simp
     have s3 : ((k : Int) + 1).toNat = k + 1 := by omega
     have s4 : (k : Int) + 1 ≤ ((m + 1 : Nat) : Int) := by omega
     have s5 : (0 : Int) ≤ (k : Int) + 1 := by omega
     have s6 : (k : Int) ≤ (c : Int) := by omega
     have s8 : k + 1 ≤ m + 1 := by omega
     have s9 : k ≤ c := by omega
     have s10 : k ≤ m := by omega
     unfold maxLen at hcm
     rw [← hm]
     clear hb2 hr hl hh hown hownA hone hrun ho3 hg3 KO hR3 hoff h1 h2 hll hkl2 hm d0 d1 d2 h8
     go_wp2_with fail
     refine wp_region_let 11 (fun w' : World => True) (fun w' : World => w'.cell? ⟨w2.heap.size, 0, none⟩ = some (.slice (some ⟨g, 0, none⟩) (m + 1) c)) (by kernel_rfl) trivial od (fun hS => ?_)
     refine wpAnyL_take (i := 0) (oi := ?oi129) (v := ?v129) ?hi129 (by kernel_rfl) ?hf129 ?hr129 (by decide) ?hQ129 (Or.inl ⟨?hw129, ?hy129⟩) (⟨hS.1, fun h => hS.2 (by first | rfl | exact h)⟩) ?rest129
     case hi129 => simp only [List.getElem?_toArray, List.getElem?_cons_succ, List.getElem?_cons_zero]; rfl
     case hf129 => kernel_rfl
     case hr129 => kernel_rfl
     case hw129 => rfl
     case hy129 => (intro w hSw; (try dsimp only at hSw); go_simp; all_goals (first | done | with_reducible rfl))
     case hQ129 => exact fun _ _ _ h => h
     simp only [Act.put, List.setIfInBounds_toArray, List.set_cons_zero, List.set_cons_succ]
     refine wpAnyL_take (i := 2) (oi := ?oi130) (v := ?v130) ?hi130 (by kernel_rfl) ?hf130 ?hr130 (by decide) ?hQ130 (Or.inl ⟨?hw130, ?hy130⟩) (⟨hS.1, fun h => hS.2 (by first | rfl | exact h)⟩) ?rest130
     case hi130 => simp only [List.getElem?_toArray, List.getElem?_cons_succ, List.getElem?_cons_zero]; rfl
     case hf130 => kernel_rfl
     case hr130 => kernel_rfl
     case hw130 => rfl
     case hy130 => (intro w hSw; (try dsimp only at hSw); go_simp; all_goals (first | done | with_reducible rfl))
     case hQ130 => exact fun _ _ _ h => h
     simp only [Act.put, List.setIfInBounds_toArray, List.set_cons_zero, List.set_cons_succ]
     refine wpAnyL_take (i := 4) (oi := ?oi131) (v := ?v131) ?hi131 (by kernel_rfl) ?hf131 ?hr131 (by decide) ?hQ131 (Or.inl ⟨?hw131, ?hy131⟩) (⟨hS.1, fun h => hS.2 (by first | rfl | exact h)⟩) ?rest131
     case hi131 => simp only [List.getElem?_toArray, List.getElem?_cons_succ, List.getElem?_cons_zero]; rfl
     case hf131 => kernel_rfl
     case hr131 => kernel_rfl
     case hw131 => rfl
     case hy131 => (intro w hSw; (try dsimp only at hSw); go_simp; all_goals (first | done | with_reducible rfl))
     case hQ131 => exact fun _ _ _ h => h
     simp only [Act.put, List.setIfInBounds_toArray, List.set_cons_zero, List.set_cons_succ]
     refine wpAnyL_take (i := 6) (oi := ?oi132) (v := ?v132) ?hi132 (by kernel_rfl) ?hf132 ?hr132 (by decide) ?hQ132 (Or.inl ⟨?hw132, ?hy132⟩) (⟨hS.1, fun h => hS.2 (by first | rfl | exact h)⟩) ?rest132
     case hi132 => simp only [List.getElem?_toArray, List.getElem?_cons_succ, List.getElem?_cons_zero]; rfl
     case hf132 => kernel_rfl
     case hr132 => kernel_rfl
     case hw132 => rfl
     case hy132 => (intro w hSw; (try dsimp only at hSw); go_simp; all_goals (first | done | with_reducible rfl))
     case hQ132 => exact fun _ _ _ h => h
     simp only [Act.put, List.setIfInBounds_toArray, List.set_cons_zero, List.set_cons_succ]
     refine wpAnyL_take (i := 7) (oi := ?oi133) (v := ?v133) ?hi133 (by kernel_rfl) ?hf133 ?hr133 (by decide) ?hQ133 (Or.inl ⟨?hw133, ?hy133⟩) (⟨hS.1, fun h => hS.2 (by first | rfl | exact h)⟩) ?rest133
     case hi133 => simp only [List.getElem?_toArray, List.getElem?_cons_succ, List.getElem?_cons_zero]; rfl
     case hf133 => kernel_rfl
     case hr133 => kernel_rfl
     case hw133 => rfl
     case hy133 => (intro w hSw; (try dsimp only at hSw); go_simp; all_goals (first | done | with_reducible rfl))
     case hQ133 => exact fun _ _ _ h => h
     simp only [Act.put, List.setIfInBounds_toArray, List.set_cons_zero, List.set_cons_succ]
     refine wpAnyL_take1 (i := 1) (oi := ?oi134) (om := ?om134) (v := ?v134) ?hi134 (by kernel_rfl) ?hf134 ?hr134 (by decide) ?hm134 ?hd134 (by rfl) ?hQ134 (Or.inl ⟨?hw134, ?hy134⟩) (⟨hS.1, fun h => hS.2 (by first | rfl | exact h)⟩) ?rest134
     case hi134 => simp only [List.getElem?_toArray, List.getElem?_cons_succ, List.getElem?_cons_zero]; rfl
     case hm134 => simp only [List.getElem?_toArray, List.getElem?_cons_succ, List.getElem?_cons_zero]; rfl
     case hd134 => kernel_rfl
     case hf134 => kernel_rfl
     case hr134 => kernel_rfl
     case hw134 => rfl
     case hy134 => (intro w hSw; (try dsimp only at hSw); go_simp; all_goals (first | done | with_reducible rfl))
     case hQ134 => exact fun _ _ _ h => h
     simp only [Act.put, List.setIfInBounds_toArray, List.set_cons_zero, List.set_cons_succ]
     refine wpAnyL_take1 (i := 5) (oi := ?oi135) (om := ?om135) (v := ?v135) ?hi135 (by kernel_rfl) ?hf135 ?hr135 (by decide) ?hm135 ?hd135 (by rfl) ?hQ135 (Or.inl ⟨?hw135, ?hy135⟩) (⟨hS.1, fun h => hS.2 (by first | rfl | exact h)⟩) ?rest135
     case hi135 => simp only [List.getElem?_toArray, List.getElem?_cons_succ, List.getElem?_cons_zero]; rfl
     case hm135 => simp only [List.getElem?_toArray, List.getElem?_cons_succ, List.getElem?_cons_zero]; rfl
     case hd135 => kernel_rfl
     case hf135 => kernel_rfl
     case hr135 => kernel_rfl
     case hw135 => rfl
     case hy135 => (intro w hSw; (try dsimp only at hSw); go_simp; all_goals (first | done | with_reducible rfl))
     case hQ135 => exact fun _ _ _ h => h
     simp only [Act.put, List.setIfInBounds_toArray, List.set_cons_zero, List.set_cons_succ]
     refine wpAnyL_take (i := 3) (oi := ?oi136) (v := ?v136) ?hi136 (by kernel_rfl) ?hf136 ?hr136 (by decide) ?hQ136 (Or.inl ⟨?hw136, ?hy136⟩) (⟨hS.1, fun h => hS.2 (by first | rfl | exact h)⟩) ?rest136
     case hi136 => simp only [List.getElem?_toArray, List.getElem?_cons_succ, List.getElem?_cons_zero]; rfl
     case hf136 => kernel_rfl
     case hr136 => kernel_rfl
     case hw136 => rfl
     case hy136 => (intro w hSw; (try dsimp only at hSw); go_simp; all_goals (first | done | with_reducible rfl))
     case hQ136 => exact fun _ _ _ h => h
     simp only [Act.put, List.setIfInBounds_toArray, List.set_cons_zero, List.set_cons_succ]
     refine wpAnyL_take (i := 8) (oi := ?oi137) (v := ?v137) ?hi137 (by kernel_rfl) ?hf137 ?hr137 (by decide) ?hQ137 (Or.inl ⟨?hw137, ?hy137⟩) (⟨hS.1, fun h => hS.2 (by first | rfl | exact h)⟩) ?rest137
     case hi137 => simp only [List.getElem?_toArray, List.getElem?_cons_succ, List.getElem?_cons_zero]; rfl
     case hf137 => kernel_rfl
     case hr137 => kernel_rfl
     case hw137 => rfl
     case hy137 => (intro w hSw; (try dsimp only at hSw); go_simp; all_goals (first | done | with_reducible rfl))
     case hQ137 => exact fun _ _ _ h => h
     simp only [Act.put, List.setIfInBounds_toArray, List.set_cons_zero, List.set_cons_succ]
     refine wpAnyL_ready (rs := [9]) (by kernel_rfl) (by simp) ?_
     refine AllReadyL.cons (o := ?oi138) ?hi138 (fun K hK => ?step138) AllReadyL.nil
     case hi138 => simp only [List.getElem?_toArray, List.getElem?_cons_succ, List.getElem?_cons_zero]; rfl
     rw [if_pos (by rfl)]
     refine wp_app rfl (by rfl) (by rfl) HRun.out ?_
     refine hK.out _ _ ⟨trivial, fun _ => (HKO3.out.2 0 _ rfl).1⟩ (fun hS => ?_)
     simp only [Act.put, List.setIfInBounds_toArray, List.set_cons_zero, List.set_cons_succ]
     refine wpAnyL_take (i := 10) (oi := ?oi139) (v := ?v139) ?hi139 (by kernel_rfl) ?hf139 ?hr139 (by decide) ?hQ139 (Or.inl ⟨?hw139, ?hy139⟩) (⟨hS.1, fun h => hS.2 (by first | rfl | exact h)⟩) ?rest139
     case hi139 => simp only [List.getElem?_toArray, List.getElem?_cons_succ, List.getElem?_cons_zero]; rfl
     case hf139 => kernel_rfl
     case hr139 => kernel_rfl
     case hw139 => rfl
     case hy139 => (intro w hSw; (try dsimp only at hSw); go_simp; all_goals (first | done | with_reducible rfl))
     case hQ139 => exact fun _ _ _ h => h
     simp only [Act.put, List.setIfInBounds_toArray, List.set_cons_zero, List.set_cons_succ]
     have o9 := (HKO3.out.2 0 _ rfl).1
     have o9f := (HKO3.out.2 0 _ rfl).2
     refine wpAnyL_ready (rs := [11]) (by kernel_rfl) (by simp) ?_
     refine AllReadyL.cons (o := ?oi140) ?hi140 (fun K hK => ?step140) AllReadyL.nil
     case hi140 => simp only [List.getElem?_toArray, List.getElem?_cons_succ, List.getElem?_cons_zero]; rfl
     rw [if_pos (by rfl)]
     go_simp
     refine hK.out _ _ ⟨trivial, fun h => absurd h (by decide)⟩ (fun hS => ?_)
     refine wpAnyL_done (by kernel_rfl) ?_ _
     clear o9 o9f od hS
     have HKO4 := hid (HKO3.out.set 0 (.slice (some ⟨g, 0, none⟩) m c))
     have HK4 := hid (HK3.out.apart ⟨w2.heap.size, 0, none⟩ (.slice (some ⟨g, 0, none⟩) m c) (show w2.heap.size ≠ w.heap.size + 1 by omega))
     have HB4 := hid (HB1.out.trans ((HB3.out.setCell (p := ⟨w2.heap.size, 0, none⟩) hsz12 (.slice (some ⟨g, 0, none⟩) m c)).mono hww1))
     generalize w3.setCell ⟨w2.heap.size, 0, none⟩ (.slice (some ⟨g, 0, none⟩) m c) = w4 at *
     have b0 := (HKO4.out.2 0 _ rfl).1
     have b1 := (HKO4.out.2 1 _ rfl).1
     have b2 := (HKO4.out.2 2 _ rfl).1
     obtain ⟨q0c, q0f⟩ := HK4.out.2 0 _ rfl
     obtain ⟨q1c, q1f⟩ := HK4.out.2 1 _ rfl
     obtain ⟨q2c, q2f⟩ := HK4.out.2 2 _ rfl
     go_wp2_with fail
     have RB := ((HK4.out.set 0 (.slice (some ⟨g, 0, none⟩) m c)).set 1 (.slice A4 hs'.length c4)).set 2 (.int .i64 q)
     have f0 := (RB.2 0 _ rfl).1
     have f1 := (RB.2 1 _ rfl).1
     have f2 := (RB.2 2 _ rfl).1
     refine bodyPost_ret (v := .tuple #[.agg #[.slice (some ⟨g, 0, none⟩) m c, .slice A4 hs'.length c4, .int .i64 q], .bool true]) (by simp [results, Try.results13, go_sem, f0, f1, f2]) rfl ?_
     rw [HN.out]
     refine ⟨_, _, rfl, ⟨_, _, ls.eraseIdx k, hs', rfl, HL.out.1, HL.out.2, rfl⟩, ?_, ?_⟩
     · refine Rows.base ?_ hww1
       iterate 3 refine Rows.low ?_ (by omega)
       exact HR3.out
     · iterate 3 refine Below.setCell ?_ (by simp) _
       exact HB4.out
end Go.Proofs.Yteoblmhbjmefoaa

/-
  A LOGGER DROPPED, plain: the parents. By gen_droplg.py.
-/
namespace Go.Proofs.Yteoblmhbjmefoaa
open Go.RowKit Nm
set_option linter.unusedSimpArgs false
set_option linter.unusedVariables false

theorem drop_cases (L : List Lgr) (H : List Hnd) (q : Int) (s : Name) : dropX L H q s = none ∨ ∃ (k : Nat) (l : Lgr), treeOk L H q = true ∧ 0 < k ∧ L[k]? = some l ∧ l.nm = s ∧ dropX L H q s = some (L.eraseIdx k, H, q) := by
  by_cases hz : treeOk L H q = true
  · by_cases hn : idxL (namesOf L) s ≤ 0
    · left; unfold dropX; rw [if_pos hn]
    · right
      obtain ⟨k, hk⟩ : ∃ k : Nat, idxL (namesOf L) s = (k : Int) := ⟨_, (Int.toNat_of_nonneg (by omega)).symm⟩
      obtain ⟨_, hx⟩ := idx_nat hk
      unfold namesOf at hx
      rw [List.getElem?_map] at hx
      cases hl : L[k]? with
      | none => rw [hl] at hx; cases hx
      | some l => rw [hl] at hx; exact ⟨k, l, hz, by omega, hl, Option.some.inj hx, drop_some hz hk (by omega)⟩
  · left; unfold dropX changedO; rw [if_neg hz]; split <;> rfl
theorem near_name {ns : List Name} (h0 : ns[0]? = some []) (hn : ns.Nodup) {y z : Name} (hz : z ∈ ns) (hb : belowL y z = true) (hm : ∀ z' ∈ ns, belowL y z' = true → z'.length ≤ z.length) : ns.getD (nearN ns y) [] = z := by
  obtain ⟨i, hi, e⟩ := List.getElem_of_mem hz
  have g : ns.getD i [] = z := by simp [List.getD, hi, e]
  rw [near_unique h0 hn y i hi (by rw [g]; exact hb) (fun j hj hbj => by rw [g]; exact hm _ (getD_mem hj) hbj), g]
theorem near_drop {ns ns' : List Name} (h0 : ns[0]? = some []) (hok : ∀ z ∈ ns, nameOk z = true) (h0' : ns'[0]? = some []) (hn' : ns'.Nodup) {s : Name} (hs : s ∈ ns) (hse : s ≠ []) (hmem : ∀ z, z ∈ ns' ↔ z ∈ ns ∧ z ≠ s) (y : Name) :
    ns'.getD (nearN ns' y) [] = if ns.getD (nearN ns y) [] = s then upName ns s else ns.getD (nearN ns y) [] := by
  obtain ⟨b1, b2⟩ := best_spec h0 y ns.length (Nat.le_refl _)
  have hz : ns.getD (nearN ns y) [] ∈ ns := getD_mem (near_lt h0 y)
  have hmax : ∀ z' ∈ ns, belowL y z' = true → z'.length ≤ (ns.getD (nearN ns y) []).length := fun z' hz' hb => by
    obtain ⟨j, hj, e⟩ := List.getElem_of_mem hz'
    have g : ns.getD j [] = z' := by simp [List.getD, hj, e]
    have h := b2 j hj (by rw [g]; exact hb)
    rw [g] at h; exact h
  have b1' : belowL y (ns.getD (nearN ns y) []) = true := b1
  by_cases e : ns.getD (nearN ns y) [] = s
  · rw [if_pos e]
    rw [e] at b1' hmax
    have hu := up_mem h0 s
    have hbu := below_up h0 hok hs hse
    have hpl := up_parts h0 hok hs hse
    have hne : upName ns s ≠ s := fun e2 => by rw [e2] at hpl; omega
    refine near_name h0' hn' ((hmem _).2 ⟨hu, hne⟩) (belowL_trans b1' hbu) (fun z' hz' hb => ?_)
    obtain ⟨hz1, hz2⟩ := (hmem _).1 hz'
    have h1 := below_chain b1' hb (hmax _ hz1 hb)
    rw [up_below h0 (hok _ hs) hz1 (fun e2 => hz2 e2.symm)] at h1
    exact below_len h1
  · rw [if_neg e]
    refine near_name h0' hn' ((hmem _).2 ⟨hz, e⟩) b1' (fun z' hz' hb => ?_)
    exact hmax _ ((hmem _).1 hz').1 hb
theorem erase_names {L : List Lgr} {H : List Hnd} {q : Int} {k : Nat} {l : Lgr} (h : treeOk L H q = true) (hl : L[k]? = some l) (z : Name) : z ∈ nsOf (L.eraseIdx k) ↔ z ∈ nsOf L ∧ z ≠ l.nm := by
  obtain ⟨h0, hnd, _, hlen, _, _⟩ := tree_ns h
  unfold nsOf
  rw [List.mem_map, List.mem_map]
  have hk := (List.getElem?_eq_some_iff.1 hl).1
  constructor
  · rintro ⟨y, hy, rfl⟩
    rw [List.mem_eraseIdx_iff_getElem?] at hy
    obtain ⟨i, hi, e⟩ := hy
    refine ⟨⟨y, List.mem_of_getElem? e, rfl⟩, fun e2 => hi ?_⟩
    have hil := (List.getElem?_eq_some_iff.1 e).1
    have g1 : (nsOf L).getD i [] = y.nm := by unfold nsOf; simp [List.getD, e]
    have g2 : (nsOf L).getD k [] = l.nm := by unfold nsOf; simp [List.getD, hl]
    exact nodup_at hnd (by omega) (by omega) (by rw [g1, g2, e2])
  · rintro ⟨⟨y, hy, rfl⟩, hne⟩
    obtain ⟨i, hi⟩ := List.getElem?_of_mem hy
    refine ⟨y, List.mem_eraseIdx_iff_getElem?.2 ⟨i, fun e => ?_, hi⟩, rfl⟩
    subst e
    rw [hl] at hi
    obtain rfl := Option.some.inj hi
    exact hne rfl
theorem parent_up {L : List Lgr} {H : List Hnd} {q : Int} {x : Name} (h : treeOk L H q = true) (hx : x ∈ nsOf L) (hne : x ≠ []) : parentB L H q x = true ∧ parentT L H q x = upName (nsOf L) x := by
  obtain ⟨h0, hnd, _⟩ := tree_ns h
  have hp : parentB L H q x = true := by unfold parentB; rw [h]; simp [hne, hx]
  obtain ⟨k, hk, e⟩ := List.getElem_of_mem hx
  have hq : (nsOf L)[k]? = some x := by rw [List.getElem?_eq_getElem hk, e]
  have g : (nsOf L).getD k [] = x := by simp [List.getD, hq]
  refine ⟨hp, ?_⟩
  unfold parentT upName
  rw [hp, if_pos rfl, near_hit h0 hnd _ k hq]
  unfold upN
  rw [g]
theorem drop_parent {L : List Lgr} {H : List Hnd} {q : Int} {k : Nat} {l : Lgr} (h : treeOk L H q = true) (hk : 0 < k) (hl : L[k]? = some l) {x : Name} (hx : x ∈ nsOf (L.eraseIdx k)) (hne : x ≠ []) :
    parentB (L.eraseIdx k) H q x = true ∧ parentT (L.eraseIdx k) H q x = if parentT L H q x = l.nm then parentT L H q l.nm else parentT L H q x := by
  have h' := drop_ok h hk
  obtain ⟨h0, hnd, hok, hlen, _, _⟩ := tree_ns h
  obtain ⟨h0', hnd', _⟩ := tree_ns h'
  have hm := erase_names h hl
  have hln : l.nm ∈ nsOf L := List.mem_map.2 ⟨l, List.mem_of_getElem? hl, rfl⟩
  have hle : l.nm ≠ [] := fun e => by
    have g : (nsOf L).getD k [] = l.nm := by unfold nsOf; simp [List.getD, hl]
    have hz : (nsOf L).getD 0 [] = [] := by simp [List.getD, h0]
    have hkl := (List.getElem?_eq_some_iff.1 hl).1
    have := nodup_at hnd (i := k) (j := 0) (by omega) (by omega) (by rw [g, hz, e])
    omega
  obtain ⟨p1, p2⟩ := parent_up h' hx hne
  refine ⟨p1, ?_⟩
  rw [p2, (parent_up h ((hm x).1 hx).1 hne).2, (parent_up h hln hle).2]
  exact near_drop h0 hok h0' hnd' hln hle hm (aboveL x)
theorem drop_gone {L : List Lgr} {H : List Hnd} {q : Int} {k : Nat} {l : Lgr} (h : treeOk L H q = true) (hl : L[k]? = some l) : idxL (namesOf (L.eraseIdx k)) l.nm = -1 := by
  refine idx_miss _ _ fun hm => ?_
  exact ((erase_names h hl l.nm).1 hm).2 rfl
end Go.Proofs.Yteoblmhbjmefoaa
