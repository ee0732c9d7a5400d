/-
  A HANDLER NAMED ANEW: plain; the program's handlerAt.
-/
import Derived.Test.YtioegkcekbkblaaGreatCM
import Derived.Test.YtioegkcekbkblaaGreatUM
namespace Go.Proofs.YtioegkcekbkblaaGreat
open Go.RowKit Nm
set_option linter.unusedSimpArgs false
set_option linter.unusedVariables false

def renS (s t x : Name) : Name := if x = s then t else x
def renL (s t : Name) (l : Lgr) : Lgr := { l with hs := l.hs.map (renS s t) }
def renT (L : List Lgr) (s t : Name) : List Lgr := L.map (renL s t)
def setNm (H : List Hnd) (k : Nat) (t : Name) : List Hnd := match H[k]? with | some h => H.set k { h with nm := t } | none => H
def hnm (H : List Hnd) : List Name := H.map (·.nm)
def nameX (L : List Lgr) (H : List Hnd) (q : Int) (s t : Name) : Option TreeD :=
  changedO L H q (if idxL (hnm H) s < 0 then none else some (renT L s t, setNm H (idxL (hnm H) s).toNat t, q))
theorem ren_none {s t : Name} {l : List Name} (h : s ∉ l) : l.map (renS s t) = l := by
  refine (List.map_congr_left fun x hx => ?_).trans (List.map_id l)
  show renS s t x = x
  unfold renS
  rw [if_neg (fun e => h (by rw [← e]; exact hx))]
theorem ren_set {s t : Name} {l : List Name} (hn : l.Nodup) {k : Nat} (hk : l[k]? = some s) : l.set k t = l.map (renS s t) := by
  have hkl := (List.getElem?_eq_some_iff.1 hk).1
  have hke := (List.getElem?_eq_some_iff.1 hk).2
  refine List.ext_getElem (by simp) fun i h1 h2 => ?_
  have hi : i < l.length := by simpa using h1
  rw [List.getElem_map]
  by_cases e : i = k
  · subst e
    rw [List.getElem_set_self, hke]; unfold renS; rw [if_pos rfl]
  · rw [List.getElem_set_ne (by omega)]
    unfold renS
    rw [if_neg]
    intro e2
    exact e (nodup_at hn hi hkl (by simp [List.getD, hi, hkl, e2, hke]))
theorem ren_step {L : List Lgr} {k : Nat} {l : Lgr} (s t : Name) (h : L[k]? = some l) : renT (L.take (k + 1)) s t ++ L.drop (k + 1) = (renT (L.take k) s t ++ L.drop k).set k (renL s t l) := by
  have hk := (List.getElem?_eq_some_iff.1 h).1
  have e1 : renT (L.take (k + 1)) s t = renT (L.take k) s t ++ [renL s t l] := by unfold renT; rw [List.take_add_one, h, List.map_append]; rfl
  have e2 : L.drop k = l :: L.drop (k + 1) := by rw [List.drop_eq_getElem_cons hk]; congr 1; exact (List.getElem?_eq_some_iff.1 h).2
  have e3 : (renT (L.take k) s t).length = k := by unfold renT; rw [List.length_map, List.length_take]; omega
  rw [e1, e2, List.set_append_right _ _ (by omega), e3, Nat.sub_self, List.set_cons_zero, List.append_assoc]; rfl
theorem ren_at {L : List Lgr} {k : Nat} (s t : Name) (hk : k < L.length) : (renT (L.take k) s t ++ L.drop k)[k]? = L[k]? := by
  have e3 : (renT (L.take k) s t).length = k := by unfold renT; rw [List.length_map, List.length_take]; omega
  rw [List.getElem?_append_right (by omega), e3, Nat.sub_self, List.getElem?_drop]; rfl
theorem rename_fit {L : List Lgr} {H : List Hnd} {s t : Name} (k : Nat) (hd : dataFit L H) (ht : t.length ≤ maxTxt) : dataFit (renT L s t) (setNm H k t) := by
  refine ⟨⟨by unfold renT; rw [List.length_map]; exact hd.1.1, fun a ha => ?_⟩, ?_, ?_⟩
  · obtain ⟨l, hl, rfl⟩ := List.mem_map.1 ha
    have h1 := hd.1.2 l hl
    refine ⟨h1.1, ⟨by show (l.hs.map _).length ≤ _; rw [List.length_map]; exact h1.2.1.1, fun x hx => ?_⟩, h1.2.2⟩
    obtain ⟨y, hy, rfl⟩ := List.mem_map.1 hx
    unfold renS
    split
    · exact ht
    · exact h1.2.1.2 y hy
  · unfold setNm; split
    · rw [List.length_set]; exact hd.2.1
    · exact hd.2.1
  · intro h hh
    unfold setNm at hh
    split at hh
    · rename_i x hx
      rcases List.mem_or_eq_of_mem_set hh with hh | rfl
      · exact hd.2.2 h hh
      · exact ⟨ht, (hd.2.2 x (List.mem_of_getElem? hx)).2⟩
    · exact hd.2.2 h hh
theorem nodup_lenN {α : Type} [DecidableEq α] : ∀ (a b : List α), a.Nodup → (∀ x ∈ a, x ∈ b) → a.length ≤ b.length := by
  intro a
  induction a with
  | nil => intro b _ _; simp
  | cons x a ih =>
    intro b hn hs
    rw [List.nodup_cons] at hn
    have hx : x ∈ b := hs x (List.mem_cons_self ..)
    have h1 := ih (b.erase x) hn.2 (fun y hy => (List.mem_erase_of_ne (fun e => hn.1 (by rw [← e]; exact hy))).2 (hs y (List.mem_cons_of_mem _ hy)))
    rw [List.length_erase_of_mem hx] at h1
    have : 0 < b.length := List.length_pos_of_mem hx
    rw [List.length_cons]; omega
theorem tree_nodup {L : List Lgr} {H : List Hnd} {q : Int} (h : treeOk L H q = true) {l : Lgr} (hl : l ∈ L) : l.hs.Nodup ∧ l.hs.length ≤ 6 := by
  have h' := h
  unfold treeOk lgrsOk at h
  simp only [Bool.and_eq_true, decide_eq_true_eq, List.all_eq_true] at h
  have h1 := h.2.2.1 l hl
  unfold lgrOk at h1
  simp only [Bool.and_eq_true, decide_eq_true_eq, List.all_eq_true] at h1
  refine ⟨h1.2.2.2.2, ?_⟩
  have hH := tree_hlen h'
  have hsub : ∀ x ∈ l.hs, x ∈ H.map (·.nm) := fun x hx => by
    have h3 := h1.2.2.2.1 x hx
    unfold hasL at h3
    obtain ⟨y, hy, e⟩ := List.any_eq_true.1 h3
    exact List.mem_map.2 ⟨y, hy, of_decide_eq_true e⟩
  have h4 := nodup_lenN _ _ h1.2.2.2.2 hsub
  rw [List.length_map] at h4
  omega
theorem hnames_hnm (hs : List HndV) : hnames hs = hnm (hsOf hs) := by unfold hnames hnm hsOf; rw [List.map_map]; rfl

set_option maxHeartbeats 1000000 in
set_option maxRecDepth 100000 in
theorem handlerAtFn_c (a s : ByteArray) (lv : Int) (v1 : Value) (bx : Nat) (w : World) (hc : w.cell? ⟨bx, 0, none⟩ = some (.string s)) :
    Calls Tryz.prog 117 #[.agg #[.string a, .int .i64 lv, v1], .pointer (some ⟨bx, 0, none⟩)] w (BoolPost w (decide (a.data.toList = s.data.toList))) := by
  have hlt : bx < w.heap.size := World.block_lt_of_cell? w _ hc
  have e0 := beq_txt a s
  have e1 : (w.alloc (.cells #[.string a, .int .i64 lv, v1] 47)).cell? ⟨bx, 0, none⟩ = some (.string s) := (World.cell?_alloc_past _ _ _ hlt).trans hc
  go_enter Tryz.func117, Tryz.ntmps117
  go_wp2_with fail
  go_ret
  exact ⟨ret_bool (decide_eq_decide.2 Array.toList_inj.symm), by go_grown⟩

theorem hmem_of_at {l : List HndV} {k : Nat} {x : HndV} (hx : l[k]? = some x) : (hnames l)[k]? = some x.h.nm := by simp [hnames, hx]

set_option maxHeartbeats 4000000 in
set_option maxRecDepth 100000 in
theorem indexHnd_c (v : Value) (n B bx : Nat) (l : List HndV) (s : ByteArray) (w : World) (hv : Hs w B n v l) (hB : B ≤ w.heap.size) (hc : w.cell? ⟨bx, 0, none⟩ = some (.string s)) :
    Calls Tryz.prog 116 #[v, .func (.func 117) #[] #[.pointer (some ⟨bx, 0, none⟩)]] w
      (fun e w' => e = .returned (.int .i64 (idxL (hnames l) s.data.toList)) ∧ Below w.heap.size w w') := by
  have hlt0 : bx < w.heap.size := World.block_lt_of_cell? w _ hc
  have hln := hv.count
  obtain ⟨A, c, rfl, hnc, hcm⟩ := hv.1.form
  unfold maxLen at hcm
  have HV := hid (And.intro hv hln)
  have HC := hid (And.intro hc hlt0)
  clear hv hln hc hlt0
  go_enter Tryz.func116, Tryz.ntmps116
  go_wp2_with fail
  go_loopw [8] (fun iv wr => ∃ (k : Nat), iv = .int .i64 k ∧ k ≤ n ∧ Hid (¬ s.data.toList ∈ (hnames l).take k) ∧ Hid (Below w.heap.size w wr)) (fun iv _ => n - (intOf iv).toNat)
  case atStart => exact ⟨0, rfl, by omega, by simp [Hid], Below.refl _ _⟩
  case round =>
    obtain ⟨k, rfl, hk, HN, HB⟩ := hrel
    by_cases hlt : k < n
    · obtain ⟨b, o, x, a, rfl, hbB, hx, ha, _, _, c0, c1, c2⟩ := (HV.out.1.below HB.out hB).at_ hlt
      have E := hid (handlerAtFn_c a s x.h.lv x.fv bx wr ((HB.out.cell (p := ⟨bx, 0, none⟩) HC.out.2).trans HC.out.1))
      have HX := hid (hmem_of_at hx)
      have HA := hid ha
      cases hz : decide (a.data.toList = s.data.toList) with
      | true =>
        rw [hz] at E
        have HZ := hid hz
        clear hx ha hz
        go_wp2_with (go_at_call 117; refine (E.out).mono ?_; rintro e w2 ⟨rfl, hb⟩)
        go_ret
        refine ⟨ret_int ?_, HB.out.trans (hb.mono HB.out.size)⟩
        have h := of_decide_eq_true HZ.out
        rw [idx_hit _ _ k (by rw [HX.out, ← HA.out, h]) HN.out]
      | false =>
        rw [hz] at E
        have HZ := hid hz
        clear hx ha hz
        go_wp2_with (go_at_call 117; refine (E.out).mono ?_; rintro e w2 ⟨rfl, hb⟩)
        go_roundw
        case rel => exact ⟨k + 1, by go_num, by omega, not_take_succ _ _ _ _ HN.out HX.out (by rw [← HA.out]; exact of_decide_eq_false HZ.out), HB.out.trans (hb.mono HB.out.size)⟩
        case measure => simp [intOf]; omega
    · have HE := hid (show ¬ s.data.toList ∈ hnames l by
        have h := HN.out
        rwa [List.take_of_length_le (by unfold hnames; rw [List.length_map]; have := HV.out.2; omega)] at h)
      go_wp2_with fail
      go_ret
      exact ⟨ret_int (by rw [idx_miss _ _ HE.out]), HB.out⟩

set_option maxHeartbeats 1000000 in
set_option maxRecDepth 100000 in
theorem implHandlerAt_c {v : Value} {B : Nat} {L : List Lgr} {H : List Hnd} {q : Int} {w : World} (s : ByteArray) (h : TreeIn w B v L H q) (hB : B ≤ w.heap.size) :
    Calls Tryz.prog 71 #[v, .string s] w (fun e w' => e = .returned (.int .i64 (idxL (hnm H) s.data.toList)) ∧ Below w.heap.size w w') := by
  obtain ⟨ls, hs, ⟨A1, n1, k1, A2, n2, k2, rfl, _, hh, _⟩, _, hH⟩ := h
  have C2 := hid (fun (bx : Nat) (W : World) (hW : Below w.heap.size w W) (hc : W.cell? ⟨bx, 0, none⟩ = some (.string s)) => indexHnd_c _ n2 B bx hs s W (hh.below hW hB) (Nat.le_trans hB hW.size) hc)
  have hN : hnames hs = hnm H := by rw [hnames_hnm, hH]
  rw [hN] at C2
  have hmf : ∀ (fn : Fn) (first cap : Array Value) (w : World), (Instr.makeFunc fn first cap).run Tryz.prog w = .ok (.func fn first cap) w := fun _ _ _ _ => rfl
  have HY := hid (show ((w.alloc (.cells #[.slice A1 n1 k1, .slice A2 n2 k2, .int .i64 q] 26)).alloc (.cells #[.string s] 9)).cell? ⟨w.heap.size + 1, 0, none⟩ = some (.string s) by simp)
  have HB1 := hid (show Below w.heap.size w ((w.alloc (.cells #[.slice A1 n1 k1, .slice A2 n2 k2, .int .i64 q] 26)).alloc (.cells #[.string s] 9)) from ((Below.refl _ _).alloc (Nat.le_refl _) _).alloc (by simp) _)
  clear hh hH hN
  go_enter Tryz.func71, Tryz.ntmps71
  go_wp2_with fail
  refine (C2.out _ _ HB1.out HY.out).mono ?_
  rintro e w2 ⟨rfl, hb2⟩
  have HB2 := hid (HB1.out.trans (hb2.mono HB1.out.size))
  clear hb2
  go_wp2_with fail
  go_ret
  exact ⟨rfl, HB2.out⟩
end Go.Proofs.YtioegkcekbkblaaGreat
