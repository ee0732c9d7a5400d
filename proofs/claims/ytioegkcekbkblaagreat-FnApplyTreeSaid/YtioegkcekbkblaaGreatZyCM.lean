/-
  C1, C2, C3, C5, C6, C4, C7, C8, C9, C10, C11, C12 laid together.
-/
import Derived.Test.YtioegkcekbkblaaGreatZyMarks
import Derived.Test.YtioegkcekbkblaaGreatZyApp
/-
  TREES copied: the program's freshList, copyTree.
-/
namespace Go.Proofs.YtioegkcekbkblaaGreat
open Go.RowKit Nm
set_option linter.unusedSimpArgs false
set_option linter.unusedVariables false

theorem txts_one (l : List (List UInt8)) : ∀ u ∈ l.map txt, u.oneCell' = true := by
  intro u hu; obtain ⟨x, _, rfl⟩ := List.mem_map.1 hu; rfl
theorem flts_one (l : List Flt) : ∀ u ∈ fsCells l, u.oneCell' = true := by
  intro u hu
  obtain ⟨x, _, hx⟩ := List.mem_flatMap.1 hu
  simp only [fcells, List.mem_cons, List.not_mem_nil, or_false] at hx
  rcases hx with rfl | rfl | rfl <;> rfl
def sliceV (v : Value) : Prop := ∃ A n c, v = .slice A n c
theorem lgrs_one (l : List LgrV) (h : ∀ x ∈ l, sliceV x.hv ∧ sliceV x.fv) : ∀ u ∈ l.flatMap lcells, u.oneCell' = true := by
  intro u hu
  obtain ⟨x, hxm, hx⟩ := List.mem_flatMap.1 hu
  obtain ⟨⟨A, n, c, e1⟩, ⟨A', n', c', e2⟩⟩ := h x hxm
  simp only [lcells, List.mem_cons, List.not_mem_nil, or_false] at hx
  rcases hx with rfl | rfl | rfl | rfl | rfl | rfl <;> first | rfl | (rw [e1]; rfl) | (rw [e2]; rfl)
theorem hnds_one (l : List HndV) (h : ∀ x ∈ l, sliceV x.fv) : ∀ u ∈ l.flatMap hcells, u.oneCell' = true := by
  intro u hu
  obtain ⟨x, hxm, hx⟩ := List.mem_flatMap.1 hu
  obtain ⟨A', n', c', e2⟩ := h x hxm
  simp only [hcells, List.mem_cons, List.not_mem_nil, or_false] at hx
  rcases hx with rfl | rfl | rfl <;> first | rfl | (rw [e2]; rfl)

set_option maxHeartbeats 1000000 in
set_option maxRecDepth 100000 in
theorem freshText_c (v : Value) (n B : Nat) (l : List (List UInt8)) (w : World) (hv : Sl w B 1 n v (l.map txt)) (hn : n ≤ 1048576) :
    Calls Tryz.prog 135 #[v] w (RowPost w 9 1 n (l.map txt)) := by
  obtain ⟨A, c, rfl, hnc, hcm⟩ := hv.form
  obtain ⟨i0, hi, hz0, hz1, hz2⟩ := info_parts Tryz.infoStr
  have HV := hid hv
  clear hv
  go_enter Tryz.func135, Tryz.ntmps135
  go_wp2_with (at_builtin; refine wpList_appSl _ rfl _ _ 62 rfl w.heap.size 9 i0 _ 1 16 Tryz.underlying62 hi hz0 hz1 hz2 rfl (by decide) (.slice none 0 0) 0 [] (by rfl) (World.ownsRow_nil _ _ _ _) B n _ _ (by rfl) HV.out (txts_one l) (by unfold maxLen; omega) (by omega) (Nat.le_refl _) ?_)
  intro v' w' ho hb
  have HO := hid (show w'.ownsRow w.heap.size 9 1 v' n (l.map txt) by simpa using ho)
  have HB := hid hb
  clear ho hb
  go_wp2_with fail
  go_ret
  exact ⟨v', rfl, HO.out, HB.out⟩
set_option maxHeartbeats 1000000 in
set_option maxRecDepth 100000 in
theorem freshFlt_c (v : Value) (n B : Nat) (l : List Flt) (w : World) (hv : Sl w B 3 n v (fsCells l)) (hn : n ≤ 1048576) :
    Calls Tryz.prog 63 #[v] w (RowPost w 99 3 n (fsCells l)) := by
  obtain ⟨A, c, rfl, hnc, hcm⟩ := hv.form
  obtain ⟨i0, hi, hz0, hz1, hz2⟩ := info_parts Tryz.infoFlt
  have HV := hid hv
  clear hv
  go_enter Tryz.func63, Tryz.ntmps63
  go_wp2_with (at_builtin; refine wpList_appSl _ rfl _ _ 45 rfl w.heap.size 99 i0 _ 3 32 Tryz.underlying45 hi hz0 hz1 hz2 rfl (by decide) (.slice none 0 0) 0 [] (by rfl) (World.ownsRow_nil _ _ _ _) B n _ _ (by rfl) HV.out (flts_one l) (by unfold maxLen; omega) (by omega) (Nat.le_refl _) ?_)
  intro v' w' ho hb
  have HO := hid (show w'.ownsRow w.heap.size 99 3 v' n (fsCells l) by simpa using ho)
  have HB := hid hb
  clear ho hb
  go_wp2_with fail
  go_ret
  exact ⟨v', rfl, HO.out, HB.out⟩
set_option maxHeartbeats 1000000 in
set_option maxRecDepth 100000 in
theorem freshLgr_c (v : Value) (n B : Nat) (l : List LgrV) (w : World) (hv : Sl w B 6 n v (l.flatMap lcells)) (hs : ∀ x ∈ l, sliceV x.hv ∧ sliceV x.fv) (hn : n ≤ 1048576) :
    Calls Tryz.prog 134 #[v] w (RowPost w 72 6 n (l.flatMap lcells)) := by
  obtain ⟨A, c, rfl, hnc, hcm⟩ := hv.form
  obtain ⟨i0, hi, hz0, hz1, hz2⟩ := info_parts Tryz.infoLogger
  have HV := hid hv
  have HS := hid (lgrs_one l hs)
  clear hv hs
  go_enter Tryz.func134, Tryz.ntmps134
  go_wp2_with (at_builtin; refine wpList_appSl _ rfl _ _ 23 rfl w.heap.size 72 i0 _ 6 80 Tryz.underlying23 hi hz0 hz1 hz2 rfl (by decide) (.slice none 0 0) 0 [] (by rfl) (World.ownsRow_nil _ _ _ _) B n _ _ (by rfl) HV.out HS.out (by unfold maxLen; omega) (by omega) (Nat.le_refl _) ?_)
  intro v' w' ho hb
  have HO := hid (show w'.ownsRow w.heap.size 72 6 v' n (l.flatMap lcells) by simpa using ho)
  have HB := hid hb
  clear ho hb
  go_wp2_with fail
  go_ret
  exact ⟨v', rfl, HO.out, HB.out⟩
set_option maxHeartbeats 1000000 in
set_option maxRecDepth 100000 in
theorem freshHnd_c (v : Value) (n B : Nat) (l : List HndV) (w : World) (hv : Sl w B 3 n v (l.flatMap hcells)) (hs : ∀ x ∈ l, sliceV x.fv) (hn : n ≤ 1048576) :
    Calls Tryz.prog 136 #[v] w (RowPost w 47 3 n (l.flatMap hcells)) := by
  obtain ⟨A, c, rfl, hnc, hcm⟩ := hv.form
  obtain ⟨i0, hi, hz0, hz1, hz2⟩ := info_parts Tryz.infoHandler
  have HV := hid hv
  have HS := hid (hnds_one l hs)
  clear hv hs
  go_enter Tryz.func136, Tryz.ntmps136
  go_wp2_with (at_builtin; refine wpList_appSl _ rfl _ _ 24 rfl w.heap.size 47 i0 _ 3 48 Tryz.underlying24 hi hz0 hz1 hz2 rfl (by decide) (.slice none 0 0) 0 [] (by rfl) (World.ownsRow_nil _ _ _ _) B n _ _ (by rfl) HV.out HS.out (by unfold maxLen; omega) (by omega) (Nat.le_refl _) ?_)
  intro v' w' ho hb
  have HO := hid (show w'.ownsRow w.heap.size 47 3 v' n (l.flatMap hcells) by simpa using ho)
  have HB := hid hb
  clear ho hb
  go_wp2_with fail
  go_ret
  exact ⟨v', rfl, HO.out, HB.out⟩
theorem Ls.slices {w : World} {B n : Nat} {v : Value} {l : List LgrV} (h : Ls w B n v l) : ∀ x ∈ l, sliceV x.hv ∧ sliceV x.fv := fun x hx => by
  obtain ⟨_, h2, h3⟩ := h.2 x hx
  obtain ⟨A, c, e, _, _⟩ := h2.1.form
  obtain ⟨A', c', e', _, _⟩ := h3.1.form
  exact ⟨⟨A, _, c, e⟩, ⟨A', _, c', e'⟩⟩
theorem Hs.slices {w : World} {B n : Nat} {v : Value} {l : List HndV} (h : Hs w B n v l) : ∀ x ∈ l, sliceV x.fv := fun x hx => by
  obtain ⟨_, h3⟩ := h.2 x hx
  obtain ⟨A', c', e', _, _⟩ := h3.1.form
  exact ⟨A', _, c', e'⟩
end Go.Proofs.YtioegkcekbkblaaGreat

/-
  TREES copied: the program's copyTree.
-/
namespace Go.Proofs.YtioegkcekbkblaaGreat
open Go.RowKit Nm
set_option linter.unusedSimpArgs false
set_option linter.unusedVariables false

theorem take_set {α : Type} {l : List α} {k : Nat} {x : α} (h : l[k]? = some x) (y : α) : (l.set k y).take (k + 1) = l.take k ++ [y] := by
  rw [List.take_add_one, set_at h, List.take_set_of_le (Nat.le_refl _)]; rfl
theorem lsOf_set {l : List LgrV} {k : Nat} {x y : LgrV} (h : l[k]? = some x) (e : y.l = x.l) : lsOf (l.set k y) = lsOf l := by
  unfold lsOf
  rw [List.map_set, e]
  refine List.ext_getElem? fun j => ?_
  by_cases hj : j = k
  · subst hj
    rw [List.getElem?_set_self (by rw [List.length_map]; exact (List.getElem?_eq_some_iff.1 h).1), List.getElem?_map, h]; rfl
  · rw [List.getElem?_set_ne (by omega)]
theorem hsOf_set {l : List HndV} {k : Nat} {x y : HndV} (h : l[k]? = some x) (e : y.h = x.h) : hsOf (l.set k y) = hsOf l := by
  unfold hsOf
  rw [List.map_set, e]
  refine List.ext_getElem? fun j => ?_
  by_cases hj : j = k
  · subst hj
    rw [List.getElem?_set_self (by rw [List.length_map]; exact (List.getElem?_eq_some_iff.1 h).1), List.getElem?_map, h]; rfl
  · rw [List.getElem?_set_ne (by omega)]
theorem perm_two (a b : Row) (l m : List Row) : ([a] ++ [b] ++ l ++ m).Perm (l ++ (m ++ [b, a])) := by
  have h1 : ([a] ++ [b] ++ l ++ m).Perm ((l ++ m) ++ [b, a]) := by
    rw [List.append_assoc]
    exact List.perm_append_comm.trans ((List.Perm.swap b a []).append_left _)
  simp only [List.append_assoc] at h1 ⊢
  exact h1
theorem flat_nil {α : Type} (l : List α) : l.flatMap (fun _ => ([] : List Row)) = [] := by
  induction l with
  | nil => rfl
  | cons a l ih => rw [List.flatMap_cons, ih]; rfl
theorem perm_one (a : Row) (p l m : List Row) : ([a] ++ p ++ l ++ m).Perm (p ++ l ++ (m ++ [a])) := by
  have h1 : ([a] ++ (p ++ l ++ m)).Perm ((p ++ l ++ m) ++ [a]) := List.perm_append_comm
  simp only [List.append_assoc] at h1 ⊢
  exact h1
theorem tree_small {L : List Lgr} {H : List Hnd} {q : Int} (h : treeOk L H q = true) : (∀ l ∈ L, l.fs.length ≤ 3) ∧ (∀ x ∈ H, x.fs.length ≤ 3) ∧ H.length ≤ 6 := by
  unfold treeOk lgrsOk hndsOk at h
  simp only [Bool.and_eq_true, decide_eq_true_eq, List.all_eq_true] at h
  obtain ⟨_, ⟨h1, h2, h3⟩, h4, _⟩ := h
  refine ⟨fun l hl => ?_, fun x hx => ?_, h3⟩
  · have := h4 l hl
    unfold lgrOk filtersOk at this
    simp only [Bool.and_eq_true, decide_eq_true_eq] at this
    exact this.2.2.1.2
  · have := h1 x hx
    unfold hndOk filtersOk at this
    simp only [Bool.and_eq_true, decide_eq_true_eq] at this
    exact this.2.2.2.2

set_option maxHeartbeats 16000000 in
set_option maxRecDepth 100000 in
theorem implCopy_c {w : World} {B : Nat} {v : Value} {L : List Lgr} {H : List Hnd} {q : Int} (h : TreeIn w B v L H q) (hok : treeOk L H q = true) (hB : B ≤ w.heap.size) :
    Calls Tryz.prog 106 #[v] w (TreePost w L H q) := by
  obtain ⟨ls, hs, ⟨A1, n1, k1, A2, n2, k2, rfl, hl, hh, _, _, hhn⟩, rfl, rfl⟩ := h
  obtain ⟨_, _, _, h8, _, _⟩ := tree_names hok
  obtain ⟨hf1, hf2, h6⟩ := tree_small hok
  have hn1 : n1 ≤ 8 := by have := hl.count; simp [lsOf] at h8; omega
  have hn2 : n2 ≤ 6 := by have := hh.count; simp [hsOf] at h6; omega
  have HF1 := hid (show ∀ x ∈ ls, x.fn ≤ 3 from fun x hx => by have := hf1 x.l (List.mem_map.2 ⟨x, hx, rfl⟩); have := (hl.2 x hx).2.2.len; omega)
  have HF2 := hid (show ∀ x ∈ hs, x.fn ≤ 3 from fun x hx => by have := hf2 x.h (List.mem_map.2 ⟨x, hx, rfl⟩); have := (hh.2 x hx).2.len; omega)
  have C1 := hid (fun (W : World) (hW : Below w.heap.size w W) => freshLgr_c (.slice A1 n1 k1) n1 B ls W (hl.1.below hW hB) hl.slices (by omega))
  have C2 := hid (fun (W : World) (hW : Below w.heap.size w W) => freshHnd_c (.slice A2 n2 k2) n2 B hs W (hh.1.below hW hB) hh.slices (by omega))
  have HV := hid (And.intro hl (And.intro hh hhn))
  clear hl hh hhn hok h8 hf1 hf2 h6
  go_enter Tryz.func106, Tryz.ntmps106
  go_wp2_with fail
  refine (C1.out _ ?_).mono ?_
  case refine_1 => go_grown
  rintro e w1 ⟨v1', rfl, ho1, hb1⟩
  obtain ⟨A3, c3, rfl, h3c, h3m⟩ := (Sl.of_own ho1).form
  unfold maxLen at h3m
  have K0 := ((Blk.new _ _ _).alloc _).to hb1
  have K1 := (Blk.new _ _ _).to hb1
  simp only [World.size_alloc] at K0 K1
  have HK := hid (And.intro K0 K1)
  have HB1 := hid (Below.trans (by go_grown) (hb1.mono (by simp; try omega)) : Below w.heap.size w w1)
  have HR1 := hid (show Rows w1 (w.heap.size + 2) (two 72 6 n1 (.slice A3 n1 c3) lcells (fun _ => []) ls ++ (ls.take 0).flatMap lrows) from by
    have : Rows w1 (w.heap.size + 2) [⟨72, 6, n1, .slice A3 n1 c3, ls.flatMap lcells⟩] := Rows.one (show Row.own _ _ _ from by have := own_base ho1 (base' := w.heap.size + 2) (by simp); exact this)
    simpa [two, flat_nil] using this)
  have hsz1 : w.heap.size + 2 ≤ w1.heap.size := by have := hb1.size; simp at this; omega
  have e0 := (HK.out.1.2 0 _ rfl).1
  have f0 := (HK.out.1.2 0 _ rfl).2
  clear K0 K1 hb1 ho1
  go_wp2_with fail
  have HKs := hid (And.intro (HK.out.1.set 0 (.slice A3 n1 c3)) (HK.out.2.apart ⟨w.heap.size, 0, none⟩ (.slice A3 n1 c3) (by simp)))
  have HBs := hid (HB1.out.setCell (p := ⟨w.heap.size, 0, none⟩) (Nat.le_refl _) (.slice A3 n1 c3))
  have HRs := hid (HR1.out.low (b := w.heap.size) (j := 0) (u := .slice A3 n1 c3) (by omega))
  clear e0 f0
  go_loopw [14] (fun cv wr => ∃ (k : Nat) (cur : List LgrV), cv = .int .i64 k ∧ k ≤ n1 ∧ Hid (lsOf cur = lsOf ls ∧ cur.length = n1 ∧ (∀ j, k ≤ j → cur[j]? = ls[j]?)) ∧ Hid (Rows wr (w.heap.size + 2) (two 72 6 n1 (.slice A3 n1 c3) lcells (fun _ => []) cur ++ (cur.take k).flatMap lrows)) ∧
    Hid (Blk wr w.heap.size [.slice A3 n1 c3, .slice A2 n2 k2, .int .i64 q] ∧ Blk wr (w.heap.size + 1) [.slice none 0 0, .slice none 0 0, .int .i64 0]) ∧ Hid (Below w.heap.size w wr ∧ w.heap.size + 2 ≤ wr.heap.size)) (fun cv _ => n1 - (intOf cv).toNat)
  case atStart => exact ⟨0, ls, rfl, by omega, ⟨rfl, HV.out.1.count, fun _ _ => rfl⟩, HRs.out, ⟨HKs.out.1, HKs.out.2⟩, ⟨HBs.out, by simpa using hsz1⟩⟩
  case round =>
    obtain ⟨k, cur, rfl, hk, HC, HR, HKx, HBx⟩ := hrel
    by_cases hlt : k < n1
    · obtain ⟨x, hx⟩ : ∃ x, ls[k]? = some x := ⟨_, List.getElem?_eq_getElem (by rw [HV.out.1.count]; exact hlt)⟩
      have hcx : cur[k]? = some x := (HC.out.2.2 k (Nat.le_refl _)).trans hx
      obtain ⟨_, ht, hfs⟩ := HV.out.1.2 x (List.mem_of_getElem? hx)
      have hxn := HV.out.2.2 x (List.mem_of_getElem? hx)
      have hxf := HF1.out x (List.mem_of_getElem? hx)
      obtain ⟨A5, k5, e5, _, _⟩ := ht.1.form
      obtain ⟨A6, k6, e6, _, _⟩ := hfs.1.form
      obtain ⟨xl, xhv, hn', xfv, fn'⟩ := x
      simp only at e5 e6 ht hfs hxn hxf
      subst e5 e6
      have CT := hid (fun (W : World) (hW : Below w.heap.size w W) => freshText_c (.slice A5 hn' k5) hn' B xl.hs W (ht.1.below hW hB) hxn)
      have CF := hid (fun (W : World) (hW : Below w.heap.size w W) => freshFlt_c (.slice A6 fn' k6) fn' B xl.fs W (hfs.1.below hW hB) (by omega))
      have HCX := hid hcx
      have HX := hid hx
      have d0 := (HKx.out.1.2 0 _ rfl).1
      have HR0 := hid (show Rows wr (w.heap.size + 2) ([] ++ two 72 6 n1 (.slice A3 n1 c3) lcells (fun _ => []) cur ++ (cur.take k).flatMap lrows) from HR.out)
      obtain ⟨g, rfl, hglt⟩ := own_some HR0.out.top (by omega)
      have c2 := (HR0.out.cell_at (j := 2) lcells_len hcx rfl).1
      have hgl : w.heap.size + 2 ≤ g := (HR0.out.top.lt g rfl).1
      have hszr := HBx.out.2
      have hk6 : k * 6 + 6 ≤ n1 * 6 := by omega
      clear hx hcx ht hfs
      go_wp2_with fail
      refine (CT.out _ HBx.out.1).mono ?_
      rintro e w3 ⟨v3, rfl, ho3, hb3⟩
      obtain ⟨A7, k7, rfl, _, _⟩ := (Sl.of_own ho3).form
      have HRa := hid (show Rows w3 (w.heap.size + 2) ([⟨9, 1, hn', .slice A7 hn' k7, xl.hs.map txt⟩] ++ two 72 6 n1 (.slice (some ⟨g, 0, none⟩) n1 c3) lcells (fun _ => []) cur ++ (cur.take k).flatMap lrows) from by
        rw [List.append_assoc]; exact HR.out.newer hb3 (Rows.one (r := ⟨9, 1, hn', .slice A7 hn' k7, xl.hs.map txt⟩) ho3) hszr)
      have HRb := hid (HRa.out.cellset (j := 2) (e := 0) (x := ⟨xl, .slice A5 hn' k5, hn', .slice A6 fn' k6, fn'⟩) (y := ⟨xl, .slice A7 hn' k7, hn', .slice A6 fn' k6, fn'⟩) (u := .slice A7 hn' k7) lcells_len (fun _ => rfl) HCX.out (by omega) rfl rfl)
      have m2 := HRa.out.cell_at (j := 2) lcells_len HCX.out rfl
      have m2a := m2.1
      have m2b := m2.2
      have m3 := (HRa.out.cell_at (j := 3) lcells_len HCX.out rfl).1
      have HB3 := hid (HBx.out.1.trans (hb3.mono HBx.out.1.size))
      have HK3 := hid (And.intro (HKx.out.1.to hb3) (HKx.out.2.to hb3))
      have hsz3 : w.heap.size + 2 ≤ w3.heap.size := Nat.le_trans hszr hb3.size
      have hg3 : g < w3.heap.size := Nat.lt_of_lt_of_le hglt hb3.size
      clear hb3 ho3 d0 c2 m2
      go_wp2_with fail
      refine (CF.out _ (HB3.out.setCell (p := ⟨g, k * 6 + 2, none⟩) (by show w.heap.size ≤ g; omega) _)).mono ?_
      rintro e w4 ⟨v4, rfl, ho4, hb4⟩
      obtain ⟨A8, k8, rfl, _, _⟩ := (Sl.of_own ho4).form
      have HRc := hid (show Rows w4 (w.heap.size + 2) ([⟨99, 3, fn', .slice A8 fn' k8, fsCells xl.fs⟩] ++ [⟨9, 1, hn', .slice A7 hn' k7, xl.hs.map txt⟩] ++ two 72 6 n1 (.slice (some ⟨g, 0, none⟩) n1 c3) lcells (fun _ => []) (cur.set k ⟨xl, .slice A7 hn' k7, hn', .slice A6 fn' k6, fn'⟩) ++ (cur.take k).flatMap lrows) from by
        have := HRb.out.newer hb4 (Rows.one (r := ⟨99, 3, fn', .slice A8 fn' k8, fsCells xl.fs⟩) ho4) (by simpa using hsz3)
        simp only [List.append_assoc] at this ⊢
        exact this)
      have HRd := hid (HRc.out.cellset (j := 3) (e := 0) (x := ⟨xl, .slice A7 hn' k7, hn', .slice A6 fn' k6, fn'⟩) (y := ⟨xl, .slice A7 hn' k7, hn', .slice A8 fn' k8, fn'⟩) (u := .slice A8 fn' k8) lcells_len (fun _ => rfl) (set_at HCX.out _) (by omega) rfl rfl)
      have m3 := HRc.out.cell_at (j := 3) lcells_len (set_at HCX.out _) rfl
      have m3a := m3.1
      have m3b := m3.2
      have HB4 := hid ((HB3.out.setCell (p := ⟨g, k * 6 + 2, none⟩) (by show w.heap.size ≤ g; omega) (.slice A7 hn' k7)).trans (hb4.mono (by simpa using HB3.out.size)))
      have HK4 := hid (And.intro ((HK3.out.1.apart ⟨g, k * 6 + 2, none⟩ (.slice A7 hn' k7) (by show g ≠ _; omega)).to hb4) ((HK3.out.2.apart ⟨g, k * 6 + 2, none⟩ (.slice A7 hn' k7) (by show g ≠ _; omega)).to hb4))
      have hsz4 : w.heap.size + 2 ≤ w4.heap.size := Nat.le_trans hsz3 (by simpa using hb4.size)
      clear hb4 ho4 m2a m2b m3
      go_wp2_with fail
      go_roundw
      case rel =>
        refine ⟨k + 1, cur.set k ⟨xl, .slice A7 hn' k7, hn', .slice A8 fn' k8, fn'⟩, by go_num, by omega, ⟨?_, ?_, ?_⟩, ?_, ⟨HK4.out.1.apart _ _ (by show g ≠ _; omega), HK4.out.2.apart _ _ (by show g ≠ _; omega)⟩, ⟨HB4.out.setCell (by show w.heap.size ≤ g; omega) _, by simpa using hsz4⟩⟩
        · rw [lsOf_set (y := ⟨xl, .slice A7 hn' k7, hn', .slice A8 fn' k8, fn'⟩) HCX.out rfl]; exact HC.out.1
        · rw [List.length_set]; exact HC.out.2.1
        · intro j hj
          rw [List.getElem?_set_ne (by omega)]; exact HC.out.2.2 j (by omega)
        · have h7 := HRd.out
          rw [List.set_set] at h7
          have h8 := h7.perm (perm_two _ _ _ _)
          rw [take_set HCX.out, List.flatMap_append]
          exact h8
      case measure => simp [intOf]; omega
    · obtain rfl : k = n1 := by omega
      have d1 := (HKx.out.1.2 1 _ rfl).1
      have hszr := HBx.out.2
      have HRl := hid (show Rows wr (w.heap.size + 2) (two 72 6 k (.slice A3 k c3) lcells lrows cur) from by
        have := HR.out
        rw [List.take_of_length_le (by rw [HC.out.2.1]; exact Nat.le_refl _)] at this
        simpa [two, flat_nil] using this)
      have HL := hid HC.out.1
      have HCl := hid HC.out.2.1
      go_wp2_with fail
      refine (C2.out _ HBx.out.1).mono ?_
      rintro e w2 ⟨v2', rfl, ho2, hb2⟩
      obtain ⟨A4, c4, rfl, h4c, h4m⟩ := (Sl.of_own ho2).form
      unfold maxLen at h4m
      have HRm := hid (show Rows w2 (w.heap.size + 2) (two 72 6 k (.slice A3 k c3) lcells lrows cur ++ two 47 3 n2 (.slice A4 n2 c4) hcells (fun _ => []) hs ++ (hs.take 0).flatMap hrows) from by
        have := HRl.out.more hb2 (Rows.one (r := ⟨47, 3, n2, .slice A4 n2 c4, hs.flatMap hcells⟩) ho2) hszr
        have e : two 47 3 n2 (.slice A4 n2 c4) hcells (fun _ => []) hs = [⟨47, 3, n2, .slice A4 n2 c4, hs.flatMap hcells⟩] := by rw [two, flat_nil]
        rw [e, List.take_zero, List.flatMap_nil, List.append_nil]; exact this)
      have HK2 := hid (And.intro (HKx.out.1.to hb2) (HKx.out.2.to hb2))
      have HB2 := hid (HBx.out.1.trans (hb2.mono HBx.out.1.size))
      have hsz2 : w.heap.size + 2 ≤ w2.heap.size := Nat.le_trans hszr hb2.size
      have e1 := (HK2.out.1.2 1 _ rfl).1
      have f1 := (HK2.out.1.2 1 _ rfl).2
      clear d1 hb2 ho2
      go_wp2_with fail
      have HKs2 := hid (And.intro (HK2.out.1.set 1 (.slice A4 n2 c4)) (HK2.out.2.apart ⟨w.heap.size, 1, none⟩ (.slice A4 n2 c4) (by simp)))
      have HBs2 := hid (HB2.out.setCell (p := ⟨w.heap.size, 1, none⟩) (Nat.le_refl _) (.slice A4 n2 c4))
      have HRs2 := hid (HRm.out.low (b := w.heap.size) (j := 1) (u := .slice A4 n2 c4) (by omega))
      clear e1 f1
      go_loopw [45] (fun cv wx => ∃ (j : Nat) (cuh : List HndV), cv = .int .i64 j ∧ j ≤ n2 ∧ Hid (hsOf cuh = hsOf hs ∧ cuh.length = n2 ∧ (∀ i, j ≤ i → cuh[i]? = hs[i]?)) ∧ Hid (Rows wx (w.heap.size + 2) (two 72 6 k (.slice A3 k c3) lcells lrows cur ++ two 47 3 n2 (.slice A4 n2 c4) hcells (fun _ => []) cuh ++ (cuh.take j).flatMap hrows)) ∧
        Hid (Blk wx w.heap.size [.slice A3 k c3, .slice A4 n2 c4, .int .i64 q] ∧ Blk wx (w.heap.size + 1) [.slice none 0 0, .slice none 0 0, .int .i64 0]) ∧ Hid (Below w.heap.size w wx ∧ w.heap.size + 2 ≤ wx.heap.size)) (fun cv _ => n2 - (intOf cv).toNat)
      case atStart => exact ⟨0, hs, rfl, by omega, ⟨rfl, HV.out.2.1.count, fun _ _ => rfl⟩, HRs2.out, ⟨HKs2.out.1, HKs2.out.2⟩, ⟨HBs2.out, by simpa using hsz2⟩⟩
      case round =>
        obtain ⟨j, cuh, rfl, hj, HCh, HRh, HKh, HBh⟩ := hrel
        by_cases hlt2 : j < n2
        · obtain ⟨x, hx⟩ : ∃ x, hs[j]? = some x := ⟨_, List.getElem?_eq_getElem (by rw [HV.out.2.1.count]; exact hlt2)⟩
          have hcx : cuh[j]? = some x := (HCh.out.2.2 j (Nat.le_refl _)).trans hx
          obtain ⟨_, hfs⟩ := HV.out.2.1.2 x (List.mem_of_getElem? hx)
          have hxf := HF2.out x (List.mem_of_getElem? hx)
          obtain ⟨A6, k6, e6, _, _⟩ := hfs.1.form
          obtain ⟨xl, xfv, fn'⟩ := x
          simp only at e6 hfs hxf
          subst e6
          have CF := hid (fun (W : World) (hW : Below w.heap.size w W) => freshFlt_c (.slice A6 fn' k6) fn' B xl.fs W (hfs.1.below hW hB) (by omega))
          have HCX := hid hcx
          have d0 := (HKh.out.1.2 1 _ rfl).1
          obtain ⟨g, rfl, hglt⟩ := own_some HRh.out.top (by omega)
          have hgl : w.heap.size + 2 ≤ g := (HRh.out.top.lt g rfl).1
          have c2 := (HRh.out.cell_at (j := 2) hcells_len hcx rfl).1
          have hszx := HBh.out.2
          have hj3 : j * 3 + 3 ≤ n2 * 3 := by omega
          clear hx hcx hfs
          go_wp2_with fail
          refine (CF.out _ HBh.out.1).mono ?_
          rintro e w4 ⟨v4, rfl, ho4, hb4⟩
          obtain ⟨A8, k8, rfl, _, _⟩ := (Sl.of_own ho4).form
          have HRc := hid (show Rows w4 (w.heap.size + 2) (([⟨99, 3, fn', .slice A8 fn' k8, fsCells xl.fs⟩] ++ two 72 6 k (.slice A3 k c3) lcells lrows cur) ++ two 47 3 n2 (.slice (some ⟨g, 0, none⟩) n2 c4) hcells (fun _ => []) cuh ++ (cuh.take j).flatMap hrows) from by
            have := HRh.out.newer hb4 (Rows.one (r := ⟨99, 3, fn', .slice A8 fn' k8, fsCells xl.fs⟩) ho4) hszx
            simp only [List.append_assoc] at this ⊢
            exact this)
          have HRd := hid (HRc.out.cellset (j := 2) (e := 0) (x := ⟨xl, .slice A6 fn' k6, fn'⟩) (y := ⟨xl, .slice A8 fn' k8, fn'⟩) (u := .slice A8 fn' k8) hcells_len (fun _ => rfl) HCX.out (by omega) rfl rfl)
          have m3 := HRc.out.cell_at (j := 2) hcells_len HCX.out rfl
          have m3a := m3.1
          have m3b := m3.2
          have HB4 := hid (HBh.out.1.trans (hb4.mono HBh.out.1.size))
          have HK4 := hid (And.intro (HKh.out.1.to hb4) (HKh.out.2.to hb4))
          have hsz4 : w.heap.size + 2 ≤ w4.heap.size := Nat.le_trans hszx hb4.size
          clear hb4 ho4 c2 m3 d0
          go_wp2_with fail
          go_roundw
          case rel =>
            refine ⟨j + 1, cuh.set j ⟨xl, .slice A8 fn' k8, fn'⟩, by go_num, by omega, ⟨?_, ?_, ?_⟩, ?_, ⟨HK4.out.1.apart _ _ (by show g ≠ _; omega), HK4.out.2.apart _ _ (by show g ≠ _; omega)⟩, ⟨HB4.out.setCell (by show w.heap.size ≤ g; omega) _, by simpa using hsz4⟩⟩
            · rw [hsOf_set (y := ⟨xl, .slice A8 fn' k8, fn'⟩) HCX.out rfl]; exact HCh.out.1
            · rw [List.length_set]; exact HCh.out.2.1
            · intro i hi
              rw [List.getElem?_set_ne (by omega)]; exact HCh.out.2.2 i (by omega)
            · have h8 := HRd.out.perm (perm_one _ _ _ _)
              rw [take_set HCX.out, List.flatMap_append]
              exact h8
          case measure => simp [intOf]; omega
        · obtain rfl : j = n2 := by omega
          have e0 := (HKh.out.1.2 0 _ rfl).1
          have e1 := (HKh.out.1.2 1 _ rfl).1
          have e2 := (HKh.out.1.2 2 _ rfl).1
          obtain ⟨q0c, q0f⟩ := HKh.out.2.2 0 _ rfl
          obtain ⟨q1c, q1f⟩ := HKh.out.2.2 1 _ rfl
          obtain ⟨q2c, q2f⟩ := HKh.out.2.2 2 _ rfl
          go_wp2_with fail
          have RB := ((HKh.out.2.set 0 (.slice A3 k c3)).set 1 (.slice A4 j c4)).set 2 (.int .i64 q)
          have f0 := (RB.2 0 _ rfl).1
          have f1 := (RB.2 1 _ rfl).1
          have f2 := (RB.2 2 _ rfl).1
          refine bodyPost_ret (v := .agg #[.slice A3 k c3, .slice A4 j c4, .int .i64 q]) (by simp [results, Tryz.results106, go_sem, f0, f1, f2]) rfl ?_
          refine ⟨_, _, rfl, ⟨_, _, cur, cuh, rfl, HL.out, HCh.out.1, rfl⟩, ?_, ?_⟩
          · refine Rows.base ?_ (show w.heap.size ≤ w.heap.size + 2 by omega)
            iterate 3 refine Rows.low ?_ (by omega)
            have h9 := HRh.out
            rw [List.take_of_length_le (by rw [HCh.out.2.1]; exact Nat.le_refl _)] at h9
            rw [treeRows_eq, HCl.out, HCh.out.2.1]
            simp only [two, flat_nil, List.append_assoc, List.cons_append, List.nil_append] at h9 ⊢
            exact h9
          · iterate 3 refine Below.setCell ?_ (by simp) _
            exact HBh.out.1
end Go.Proofs.YtioegkcekbkblaaGreat

/-
  TREES changed: what comes back; the program's SetQuiet.
-/
namespace Go.Proofs.YtioegkcekbkblaaGreat
open Go.RowKit Nm
set_option linter.unusedSimpArgs false
set_option linter.unusedVariables false

abbrev TreeD := List Lgr × List Hnd × Int
def resL (o : Option TreeD) : List Lgr := match o with | some x => x.1 | none => []
def resH (o : Option TreeD) : List Hnd := match o with | some x => x.2.1 | none => []
def resQ (o : Option TreeD) : Int := match o with | some x => x.2.2 | none => 0
/-- a tree comes back, or nothing: its rows are of the call's own -/
def TreePostO (w : World) (o : Option TreeD) (e : Ending) (w' : World) : Prop :=
  ∃ v rs, e = .returned (.tuple #[v, .bool o.isSome]) ∧ TreeS rs v (resL o) (resH o) (resQ o) ∧ Rows w' w.heap.size rs ∧ Below w.heap.size w w'
def ifOk (L : List Lgr) (H : List Hnd) (q : Int) : Option TreeD := if treeOk L H q then some (L, H, q) else none
theorem Rows.none2 (w : World) (lo : Nat) : Rows w lo (treeRows 0 (.slice none 0 0) [] 0 (.slice none 0 0) []) := by
  refine ⟨fun r hr => ?_, ?_⟩
  · simp only [treeRows, lsRow, hsRow, List.flatMap_nil, List.cons_append, List.nil_append, List.mem_cons, List.not_mem_nil, or_false] at hr
    rcases hr with rfl | rfl <;> exact World.ownsRow_nil _ _ _ _
  · simp only [treeRows, lsRow, hsRow, List.flatMap_nil, List.cons_append, List.nil_append]
    exact List.pairwise_cons.2 ⟨fun b hb => ⟨.inl rfl, by rw [List.mem_singleton] at hb; subst hb; exact .inl rfl⟩, List.pairwise_singleton _ _⟩
theorem postO_none {w w' : World} {e : Ending} {o : Option TreeD} (ho : o = none) (he : e = .returned (.tuple #[.agg #[.slice none 0 0, .slice none 0 0, .int .i64 0], .bool false])) (hb : Below w.heap.size w w') : TreePostO w o e w' := by
  subst ho
  exact ⟨_, _, he, ⟨_, _, [], [], rfl, rfl, rfl, rfl⟩, Rows.none2 _ _, hb⟩
theorem name_fit {x : List UInt8} (h : nameOk x = true) : x.length ≤ maxTxt := by have := name_size x h; unfold maxTxt; omega
theorem word_fit {x : List UInt8} (h : wordOk x = true) : x.length ≤ maxTxt := by
  unfold wordOk at h
  simp only [Bool.and_eq_true, decide_eq_true_eq] at h
  unfold maxTxt
  omega
theorem flt_fit {f : Flt} (h : fltOk f = true) : f.nm.length ≤ maxTxt := by
  unfold fltOk at h
  split at h
  · simp only [Bool.and_eq_true] at h; exact name_fit h.2.1
  · split at h
    · simp only [Bool.and_eq_true] at h; exact word_fit h.1
    · split at h
      · simp only [Bool.and_eq_true, decide_eq_true_eq] at h; rw [h.1]; simp
      · cases h
theorem nodup_sub_len {α : Type} [DecidableEq α] {a b : List α} (h : a.Nodup) (hs : a ⊆ b) : a.length ≤ b.length := by
  induction a generalizing b with
  | nil => simp
  | cons x a ih =>
    obtain ⟨h1, h2⟩ := List.nodup_cons.1 h
    have hx : x ∈ b := hs (by simp)
    have := ih (b := b.erase x) h2 (fun y hy => (List.mem_erase_of_ne (fun e => h1 (by rw [← e]; exact hy))).2 (hs (by simp [hy])))
    rw [List.length_erase_of_mem hx] at this
    have hl := List.length_pos_of_mem hx
    rw [List.length_cons]; omega
/-- a valid tree fits -/
theorem fit_ok {L : List Lgr} {H : List Hnd} {q : Int} (h : treeOk L H q = true) : dataFit L H := by
  obtain ⟨_, _, _, h8, _, _⟩ := tree_names h
  obtain ⟨_, _, h6⟩ := tree_small h
  unfold treeOk lgrsOk hndsOk at h
  simp only [Bool.and_eq_true, decide_eq_true_eq, List.all_eq_true] at h
  obtain ⟨_, ⟨h1, hn1, h3⟩, h4, _⟩ := h
  refine ⟨⟨by unfold maxTxt; omega, fun l hl => ?_⟩, ⟨by unfold maxTxt; omega, fun x hx => ?_⟩⟩
  · have := h4 l hl
    unfold lgrOk filtersOk at this
    simp only [Bool.and_eq_true, decide_eq_true_eq, List.all_eq_true] at this
    obtain ⟨a, _, ⟨c1, c2⟩, d1, d2⟩ := this
    refine ⟨name_fit a, ⟨?_, fun t ht => ?_⟩, ⟨by unfold maxTxt; omega, fun f hf => flt_fit (c1 f hf)⟩⟩
    · have hsub : l.hs ⊆ H.map (·.nm) := fun t ht => by
        have := d1 t ht
        unfold hasL at this
        rw [List.any_eq_true] at this
        obtain ⟨x, hx, e⟩ := this
        exact List.mem_map.2 ⟨x, hx, of_decide_eq_true e⟩
      have := nodup_sub_len d2 hsub
      rw [List.length_map] at this
      unfold maxTxt; omega
    · have := d1 t ht
      unfold hasL at this
      rw [List.any_eq_true] at this
      obtain ⟨x, hx, e⟩ := this
      have e2 := of_decide_eq_true e
      have := h1 x hx
      unfold hndOk at this
      simp only [Bool.and_eq_true] at this
      rw [← e2]; exact word_fit this.1
  · have := h1 x hx
    unfold hndOk filtersOk at this
    simp only [Bool.and_eq_true, decide_eq_true_eq, List.all_eq_true] at this
    obtain ⟨a, _, _, c1, c2⟩ := this
    exact ⟨word_fit a, ⟨by unfold maxTxt; omega, fun f hf => flt_fit (c1 f hf)⟩⟩

/-- what a change does to the copy in box bc: 'o' the data then, nothing if it fails -/
def CloPost (lo bc : Nat) (W : World) (o : Option TreeD) (e : Ending) (W' : World) : Prop :=
  Below lo W W' ∧ e = .returned (.bool o.isSome) ∧ ∀ x, o = some x → ∃ A1 n1 k1 A2 n2 k2 rs', Blk W' bc [.slice A1 n1 k1, .slice A2 n2 k2, .int .i64 x.2.2] ∧ TreeS rs' (.agg #[.slice A1 n1 k1, .slice A2 n2 k2, .int .i64 x.2.2]) x.1 x.2.1 x.2.2 ∧ Rows W' lo rs' ∧ dataFit x.1 x.2.1
/-- what a change is called with -/
def CloPre (w : World) (lo bc : Nat) (W : World) (v1 v2 : Value) (rs : List Row) (L : List Lgr) (H : List Hnd) (q : Int) : Prop :=
  Below w.heap.size w W ∧ w.heap.size ≤ lo ∧ lo ≤ bc ∧ Blk W bc [v1, v2, .int .i64 q] ∧ TreeS rs (.agg #[v1, v2, .int .i64 q]) L H q ∧ Rows W lo rs ∧ (∀ r ∈ rs, r.v.ownBlock ≠ some bc) ∧ dataFit L H
def changedO (L : List Lgr) (H : List Hnd) (q : Int) (o : Option TreeD) : Option TreeD := if treeOk L H q then o.bind (fun x => ifOk x.1 x.2.1 x.2.2) else none
theorem rows_below {w : World} {lo : Nat} {rs : List Row} (h : Rows w lo rs) : ∀ r ∈ rs, r.v.ownBlock ≠ some w.heap.size := fun r hr e => by
  have := ((h.1 r hr).lt _ e).2
  omega

set_option maxHeartbeats 8000000 in
set_option maxRecDepth 100000 in
theorem implChanged2_c {w : World} {B : Nat} {v : Value} {L : List Lgr} {H : List Hnd} {q : Int} (F : Nat) (c1 c2 : Value) (o : Option TreeD) (h : TreeIn w B v L H q) (hB : B ≤ w.heap.size) (hin : ∀ (args : Array Value) (W : World), (callFunc F args).run Tryz.prog W = .ok (.enter F args) W)
    (hF : ∀ (W : World) (lo bc : Nat) (v1 v2 : Value) (rs : List Row), treeOk L H q = true → CloPre w lo bc W v1 v2 rs L H q → Calls Tryz.prog F #[.pointer (some ⟨bc, 0, none⟩), c1, c2] W (CloPost lo bc W o)) :
    Calls Tryz.prog 53 #[v, .func (.func F) #[] #[c1, c2]] w (TreePostO w (changedO L H q o)) := by
  have C := hid (fun (W : World) (hW : Below w.heap.size w W) => implValidTreeX_c (h.below hW hB) (Nat.le_trans hB hW.size))
  have HF := hid hF
  clear hF
  obtain ⟨A1, n1, k1, A2, n2, k2, rfl⟩ := h.form
  cases hz : treeOk L H q with
  | false =>
    have HE := hid (show changedO L H q o = none by unfold changedO; rw [hz]; rfl)
    rw [hz] at C
    clear h hz
    go_enter Tryz.func53, Tryz.ntmps53
    go_wp2_with fail
    refine (C.out _ ?_).mono ?_
    case refine_1 => go_grown
    rintro e w1 ⟨rfl, hb1⟩
    have K1 := ((Blk.new _ _ _).to hb1)
    simp only [World.size_alloc] at K1
    have HK1 := hid K1
    have HB1 := hid (Below.trans (by go_grown) (hb1.mono (by simp; try omega)) : Below w.heap.size w w1)
    obtain ⟨q0c, q0f⟩ := HK1.out.2 0 _ rfl
    obtain ⟨q1c, q1f⟩ := HK1.out.2 1 _ rfl
    obtain ⟨q2c, q2f⟩ := HK1.out.2 2 _ rfl
    clear hb1 K1
    go_wp2_with fail
    have RB := ((HK1.out.set 0 (.slice none 0 0)).set 1 (.slice none 0 0)).set 2 (.int .i64 0)
    have f0 := (RB.2 0 _ rfl).1
    have f1 := (RB.2 1 _ rfl).1
    have f2 := (RB.2 2 _ rfl).1
    refine bodyPost_ret (v := .tuple #[.agg #[.slice none 0 0, .slice none 0 0, .int .i64 0], .bool false]) (by simp [results, Tryz.results53, go_sem, f0, f1, f2]) rfl ?_
    refine postO_none HE.out rfl ?_
    iterate 3 refine Below.setCell ?_ (by simp) _
    exact HB1.out
  | true =>
    have hd := fit_ok hz
    have CC := hid (fun (W : World) (hW : Below w.heap.size w W) => implCopy_c (h.below hW hB) hz (Nat.le_trans hB hW.size))
    have HD := hid hd
    have HE := hid (show changedO L H q o = o.bind (fun x => ifOk x.1 x.2.1 x.2.2) by unfold changedO; rw [hz]; rfl)
    have HZ := hid hz
    rw [hz] at C
    clear h hz hd
    go_enter Tryz.func53, Tryz.ntmps53
    go_wp2_with fail
    refine (C.out _ ?_).mono ?_
    case refine_1 => go_grown
    rintro e w1 ⟨rfl, hb1⟩
    have K0 := (((Blk.new _ _ _).alloc _).to hb1)
    have K1 := ((Blk.new _ _ _).to hb1)
    simp only [World.size_alloc] at K0 K1
    have HK0 := hid K0
    have HK1 := hid K1
    have HB1 := hid (Below.trans (by go_grown) (hb1.mono (by simp; try omega)) : Below w.heap.size w w1)
    have hsz1 : w.heap.size + 2 ≤ w1.heap.size := by have := hb1.size; simp at this; omega
    have d0 := (HK0.out.2 0 _ rfl).1
    have d1 := (HK0.out.2 1 _ rfl).1
    have d2 := (HK0.out.2 2 _ rfl).1
    clear hb1 K0 K1
    go_wp2_with fail
    refine (CC.out _ HB1.out).mono ?_
    rintro e w2 ⟨v', rs, rfl, hs, hr, hb2⟩
    obtain ⟨A3, n3, k3, A4, n4, k4, rfl⟩ := (hs.at_ hr HD.out).form
    have HB2 := hid (HB1.out.trans (hb2.mono HB1.out.size))
    have HB12 := hid hb2
    have HS2 := hid hs
    have HRl := hid hr
    have hsz12 : w1.heap.size ≤ w2.heap.size := hb2.size
    have hww1 : w.heap.size ≤ w1.heap.size := HB1.out.size
    clear hb2 hs hr d0 d1 d2
    have HW2 := hid (show Below w2.heap.size w2 (w2.alloc (.cells #[.slice A3 n3 k3, .slice A4 n4 k4, .int .i64 q] 26)) from (Below.refl _ _).alloc (Nat.le_refl _) _)
    have KC := hid (Blk.new w2 #[.slice A3 n3 k3, .slice A4 n4 k4, .int .i64 q] 26)
    have CF := hid (HF.out (w2.alloc (.cells #[.slice A3 n3 k3, .slice A4 n4 k4, .int .i64 q] 26)) w1.heap.size w2.heap.size (.slice A3 n3 k3) (.slice A4 n4 k4) rs HZ.out
      ⟨HB2.out.trans (HW2.out.mono HB2.out.size), hww1, hsz12, KC.out, HS2.out, HRl.out.below HW2.out, rows_below HRl.out, HD.out⟩)
    go_wp2_with fail
    refine (CF.out).mono ?_
    rintro e w3 ⟨hb3, rfl, hx⟩
    have HW3 := hid ((HW2.out.mono hsz12).trans hb3)
    have HX := hid hx
    have HK3 := hid (HK1.out.below ((show Below w1.heap.size w1 w2 from HB12.out).trans HW3.out) (by omega))
    have HB3 := hid (HB1.out.trans (((show Below w1.heap.size w1 w2 from HB12.out).trans HW3.out).mono hww1))
    clear hx hb3 CF
    cases ho : o with
    | none =>
      subst ho
      have HN := hid (show changedO L H q none = none by rw [HE.out]; rfl)
      obtain ⟨q0c, q0f⟩ := HK3.out.2 0 _ rfl
      obtain ⟨q1c, q1f⟩ := HK3.out.2 1 _ rfl
      obtain ⟨q2c, q2f⟩ := HK3.out.2 2 _ rfl
      go_wp2_with fail
      have RB := ((HK3.out.set 0 (.slice none 0 0)).set 1 (.slice none 0 0)).set 2 (.int .i64 0)
      have f0 := (RB.2 0 _ rfl).1
      have f1 := (RB.2 1 _ rfl).1
      have f2 := (RB.2 2 _ rfl).1
      refine bodyPost_ret (v := .tuple #[.agg #[.slice none 0 0, .slice none 0 0, .int .i64 0], .bool false]) (by simp [results, Tryz.results53, go_sem, f0, f1, f2]) rfl ?_
      refine postO_none HN.out rfl ?_
      iterate 3 refine Below.setCell ?_ (by simp) _
      exact HB3.out
    | some x =>
    subst ho
    obtain ⟨L', H', q'⟩ := x
    obtain ⟨A5, n5, k5, A6, n6, k6, rs', KS, HS3, HR3, HD3⟩ := HX.out _ rfl
    simp only at KS HS3 HR3 HD3
    have CV := hid (implValidTreeX_c (HS3.at_ HR3 HD3) (Nat.le_refl _))
    have g0 := (KS.2 0 _ rfl).1
    have g1 := (KS.2 1 _ rfl).1
    have g2 := (KS.2 2 _ rfl).1
    have HKS := hid KS
    have HS4 := hid HS3
    have HR4 := hid HR3
    clear KS HS3 HR3 HD3
    cases hy : treeOk L' H' q' with
    | false =>
      rw [hy] at CV
      have HN := hid (show changedO L H q (some (L', H', q')) = none by rw [HE.out]; show ifOk L' H' q' = none; unfold ifOk; rw [hy]; rfl)
      clear hy
      go_wp2_with fail
      refine (CV.out).mono ?_
      rintro e w4 ⟨rfl, hb4⟩
      have HB4 := hid (HB3.out.trans (hb4.mono HB3.out.size))
      have HK4 := hid (HK3.out.to hb4)
      obtain ⟨q0c, q0f⟩ := HK4.out.2 0 _ rfl
      obtain ⟨q1c, q1f⟩ := HK4.out.2 1 _ rfl
      obtain ⟨q2c, q2f⟩ := HK4.out.2 2 _ rfl
      clear hb4 g0 g1 g2
      go_wp2_with fail
      have RB := ((HK4.out.set 0 (.slice none 0 0)).set 1 (.slice none 0 0)).set 2 (.int .i64 0)
      have f0 := (RB.2 0 _ rfl).1
      have f1 := (RB.2 1 _ rfl).1
      have f2 := (RB.2 2 _ rfl).1
      refine bodyPost_ret (v := .tuple #[.agg #[.slice none 0 0, .slice none 0 0, .int .i64 0], .bool false]) (by simp [results, Tryz.results53, go_sem, f0, f1, f2]) rfl ?_
      refine postO_none HN.out rfl ?_
      iterate 3 refine Below.setCell ?_ (by simp) _
      exact HB4.out
    | true =>
      rw [hy] at CV
      have HN := hid (show changedO L H q (some (L', H', q')) = some (L', H', q') by rw [HE.out]; show ifOk L' H' q' = _; unfold ifOk; rw [hy]; rfl)
      clear hy
      go_wp2_with fail
      refine (CV.out).mono ?_
      rintro e w4 ⟨rfl, hb4⟩
      have HB4 := hid (HB3.out.trans (hb4.mono HB3.out.size))
      have HK4 := hid (HK3.out.to hb4)
      have HR5 := hid (HR4.out.below hb4)
      have KS4 := HKS.out.to hb4
      have g0 := (KS4.2 0 _ rfl).1
      have g1 := (KS4.2 1 _ rfl).1
      have g2 := (KS4.2 2 _ rfl).1
      obtain ⟨q0c, q0f⟩ := HK4.out.2 0 _ rfl
      obtain ⟨q1c, q1f⟩ := HK4.out.2 1 _ rfl
      obtain ⟨q2c, q2f⟩ := HK4.out.2 2 _ rfl
      clear hb4 KS4
      go_wp2_with fail
      have RB := ((HK4.out.set 0 (.slice A5 n5 k5)).set 1 (.slice A6 n6 k6)).set 2 (.int .i64 q')
      have f0 := (RB.2 0 _ rfl).1
      have f1 := (RB.2 1 _ rfl).1
      have f2 := (RB.2 2 _ rfl).1
      refine bodyPost_ret (v := .tuple #[.agg #[.slice A5 n5 k5, .slice A6 n6 k6, .int .i64 q'], .bool true]) (by simp [results, Tryz.results53, go_sem, f0, f1, f2]) rfl ?_
      rw [show changedO L H q (some (L', H', q')) = some (L', H', q') from HN.out]
      refine ⟨_, rs', rfl, HS4.out, ?_, ?_⟩
      · refine Rows.base ?_ hww1
        iterate 3 refine Rows.low ?_ (by omega)
        exact HR5.out
      · iterate 3 refine Below.setCell ?_ (by simp) _
        exact HB4.out
end Go.Proofs.YtioegkcekbkblaaGreat

/-
  TREES copied: the model's copyHandler, copyTree.
-/
namespace Go.Proofs.YtioegkcekbkblaaGreat
open Go.RowKit Nm
set_option linter.unusedSimpArgs false
set_option linter.unusedVariables false

/-- the append of a whole slice to a fresh empty one, as a run, in a region that has drawn its order -/
theorem run_appSlD {P : Program} (w : World) (t : TypeId) (e : TypeId) (i : TypeInfo) (z : Value) (size bytes : Nat) (ht : P.underlying t = some (.slice e)) (hi : P.info? e = some i) (hz : i.zero = some z)
    (hsize : i.size = size) (hby : i.bytes = bytes) (hzs : z.cells.size = size) (hsz : 0 < size)
    (B m : Nat) (src : Value) (ys : List Value) (hsl : Sl w B size m src ys) (hB : B ≤ w.heap.size) (h1 : ∀ u ∈ ys, u.oneCell' = true) (h63 : m ≤ maxLen) (hbytes : m * bytes ≤ 140737488355328) :
    ∃ v' w', (Builtin.append_ #[t, t] t #[.slice (some ⟨w.heap.size, 0, none⟩) 0 0, src]).run P (w.alloc (.cells #[] e)).drew = .ok v' w' ∧ w'.ownsRow w.heap.size e size v' m ys ∧ Below w.heap.size w w' := by
  have hlit : (w.alloc (.cells #[] e)).drew.ownsRow w.heap.size e size (.slice (some ⟨w.heap.size, 0, none⟩) 0 0) 0 [] := (World.ownsRow_lit w #[] 0 (Nat.le_refl _) (by unfold maxLen; omega) (by simp) : (w.alloc (.cells #[] e)).ownsRow _ e size _ _ _).drew
  have hsl' : Sl (w.alloc (.cells #[] e)).drew B size m src ys := hsl.below (((Below.refl w.heap.size w).alloc (Nat.le_refl _) _).drew) hB
  have hb0 : Below w.heap.size w (w.alloc (.cells #[] e)).drew := ((Below.refl w.heap.size w).alloc (Nat.le_refl _) _).drew
  obtain ⟨hl, A, c, rfl, hmc, hcm, hA⟩ := hsl'
  cases A with
  | some ad =>
    obtain ⟨v', w', h2, h3, h4, _, h6⟩ := run_append_own_at (P := P) (w := (w.alloc (.cells #[] e)).drew) w.heap.size t t e i z size bytes ht hi hz hsize hby hzs hsz _ 0 [] hlit ad m c ys hl (by
      intro j u hu
      have hj := (List.getElem?_eq_some_iff.1 hu).1
      have hm0 : 0 < m := by
        rcases Nat.eq_zero_or_pos m with h0 | h0
        · subst h0; rw [Nat.zero_mul] at hl; omega
        · exact h0
      obtain ⟨b, o', e1, _, hc⟩ := hA hm0
      have e2 : ad = ⟨b, o', none⟩ := Option.some.inj e1
      subst e2
      rw [Addr.add_lit]; exact hc j u hu) h1 (by omega) (by rw [Nat.zero_add]; exact hbytes) (by simp)
    exact ⟨v', w', h2, by simpa using h3, hb0.grown h4 (by simp) (own_lt hlit)⟩
  | none =>
    have hm0 : m = 0 := by
      rcases Nat.eq_zero_or_pos m with h0 | h0
      · exact h0
      · obtain ⟨b, o', e1, _⟩ := hA h0; cases e1
    subst hm0
    have hy : ys = [] := List.eq_nil_of_length_eq_zero (by rw [hl, Nat.zero_mul])
    subst hy
    exact ⟨_, _, run_app_none (P := P) w.heap.size t t e i size c ht hi _ 0 [] hlit, hlit, hb0⟩

set_option maxHeartbeats 4000000 in
set_option maxRecDepth 100000 in
theorem specCopyHandler_c (s : ByteArray) (lv : Int) (A : Option Addr) (n c B : Nat) (fs : List Flt) (w : World) (hv : Sl w B 3 n (.slice A n c) (fsCells fs)) (hB : B ≤ w.heap.size) (hn : n ≤ 1048576) :
    Calls Tryz.prog 66 #[.agg #[.string s, .int .i64 lv, .slice A n c]] w (fun e w' => ∃ v', e = .returned (.agg #[.string s, .int .i64 lv, v']) ∧ w'.ownsRow w.heap.size 99 3 v' n (fsCells fs) ∧ Below w.heap.size w w') := by
  obtain ⟨i0, hi, hz0, hz1, hz2⟩ := info_parts Tryz.infoFlt
  have hW : Below w.heap.size w ((w.alloc (.cells #[.string s, .int .i64 lv, .slice A n c] 47)).alloc (.cells #[.string ByteArray.empty, .int .i64 0, .slice none 0 0] 47)) := ((Below.refl _ _).alloc (Nat.le_refl _) _).alloc (by simp) _
  obtain ⟨v', w4, hrun, ho, hb⟩ := run_appSlD (P := Tryz.prog) ((w.alloc (.cells #[.string s, .int .i64 lv, .slice A n c] 47)).alloc (.cells #[.string ByteArray.empty, .int .i64 0, .slice none 0 0] 47)) 45 99 i0 _ 3 32 Tryz.underlying45 hi hz0 hz1 hz2 rfl (by decide) B n _ _ (hv.below hW hB) (Nat.le_trans hB hW.size) (flts_one fs) (by unfold maxLen; omega) (by omega)
  simp only [World.size_alloc] at hrun
  have HR := hid hrun
  obtain ⟨A3, c3, rfl, _, _⟩ := (Sl.of_own ho).form
  have K0 := hid (((Blk.new w #[.string s, .int .i64 lv, .slice A n c] 47).alloc (.cells #[.string ByteArray.empty, .int .i64 0, .slice none 0 0] 47)).to hb)
  have K1 := hid ((Blk.new (w.alloc (.cells #[.string s, .int .i64 lv, .slice A n c] 47)) #[.string ByteArray.empty, .int .i64 0, .slice none 0 0] 47).to hb)
  simp only [World.size_alloc] at K1
  have HO := hid (own_base ho (base' := w.heap.size + 2) (by simp))
  have HB := hid (hW.trans (hb.mono (by simp; omega)))
  have hsz : w.heap.size + 2 ≤ w4.heap.size := by have := hb.size; simp at this; omega
  have S4 := hid (And.intro (K0.out.2 0 _ rfl).1 (And.intro (K0.out.2 1 _ rfl).1 (K0.out.2 2 _ rfl).1))
  obtain ⟨q0c, q0f⟩ := K1.out.2 0 _ rfl
  obtain ⟨q1c, q1f⟩ := K1.out.2 1 _ rfl
  obtain ⟨q2c, q2f⟩ := K1.out.2 2 _ rfl
  clear hv hrun ho hb hW
  go_enter Tryz.func66, Tryz.ntmps66
  go_wp2_with fail
  go_region_held3 (fun w' => w'.cell? ⟨w.heap.size, 0, none⟩ = some (.string s) ∧ w'.cell? ⟨w.heap.size, 1, none⟩ = some (.int .i64 lv) ∧ w'.cell? ⟨w.heap.size, 2, none⟩ = some (.slice A n c)) (first | exact S4.out | go_keep) (first | (refine wp_app rfl (by rfl) (by rfl) HR.out ?_))
  go_wp2_with fail
  have RB := ((K1.out.set 0 (.string s)).set 1 (.int .i64 lv)).set 2 (.slice A3 n c3)
  have f0 := (RB.2 0 _ rfl).1
  have f1 := (RB.2 1 _ rfl).1
  have f2 := (RB.2 2 _ rfl).1
  refine bodyPost_ret (v := .agg #[.string s, .int .i64 lv, .slice A3 n c3]) (by simp [results, Tryz.results66, go_sem, f0, f1, f2]) rfl ?_
  refine ⟨_, rfl, ?_, ?_⟩
  · refine own_base ?_ (show w.heap.size ≤ w.heap.size + 2 by omega)
    iterate 3 refine own_set_low ?_ (by omega)
    exact HO.out
  · iterate 3 refine Below.setCell ?_ (by simp) _
    exact HB.out
end Go.Proofs.YtioegkcekbkblaaGreat

/-
  TREES copied: the model's copyTree.
-/
namespace Go.Proofs.YtioegkcekbkblaaGreat
open Go.RowKit Nm
set_option linter.unusedSimpArgs false
set_option linter.unusedVariables false

theorem hcell_one (nm : List UInt8) (lv : Int) (A : Option Addr) (n c : Nat) : ∀ u ∈ [txt nm, .int .i64 lv, .slice A n c], u.oneCell' = true := by
  intro u hu
  simp only [List.mem_cons, List.not_mem_nil, or_false] at hu
  rcases hu with rfl | rfl | rfl <;> rfl

theorem perm_lgr (a b x o r : Row) (l m : List Row) : ([a, b, x] ++ [o] ++ (r :: (l ++ m))).Perm (([] ++ [o] ++ (r :: ((l ++ [b, a]) ++ m))) ++ [x]) := by
  have h1 : ([a, b, x] ++ ([o] ++ (r :: (l ++ m)))).Perm (([o] ++ (r :: (l ++ m))) ++ [a, b, x]) := List.perm_append_comm
  have h2 : ([o] ++ (r :: (l ++ m)) ++ [a, b, x]).Perm ([o] ++ (r :: (l ++ (m ++ [b, a, x])))) := by
    have h := (List.Perm.swap b a [x]).append_left (o :: r :: (l ++ m))
    simpa [List.append_assoc] using h
  have h3 : ([o] ++ (r :: (l ++ (m ++ [b, a, x])))).Perm ([o] ++ (r :: (l ++ ([b, a] ++ (m ++ [x]))))) := by
    have : (m ++ ([b, a] ++ [x])).Perm ([b, a] ++ (m ++ [x])) := List.perm_append_comm_assoc _ _ _
    exact ((this.append_left l).cons r).append_left [o]
  have h := h1.trans (h2.trans h3)
  simp only [List.append_assoc, List.nil_append, List.cons_append] at h ⊢
  exact h
theorem perm_hand (a b : Row) (l m : List Row) : ([a] ++ [b] ++ (l ++ m)).Perm ([] ++ [b] ++ (l ++ (m ++ [a]))) := by
  have h1 : ([a] ++ ([b] ++ (l ++ m))).Perm (([b] ++ (l ++ m)) ++ [a]) := List.perm_append_comm
  simp only [List.append_assoc, List.nil_append] at h1 ⊢
  exact h1

set_option maxHeartbeats 16000000 in
set_option maxRecDepth 100000 in
theorem specCopy_c {w : World} {B : Nat} {v : Value} {L : List Lgr} {H : List Hnd} {q : Int} (h : TreeIn w B v L H q) (hok : treeOk L H q = true) (hB : B ≤ w.heap.size) :
    Calls Tryz.prog 65 #[v] w (TreePost w L H q) := by
  obtain ⟨ls, hs, ⟨A1, n1, k1, A2, n2, k2, rfl, hl, hh, _, _, hhn⟩, rfl, rfl⟩ := h
  obtain ⟨_, _, _, h8, _, _⟩ := tree_names hok
  obtain ⟨hf1, hf2, h6⟩ := tree_small hok
  have hn1 : n1 ≤ 8 := by have := hl.count; simp [lsOf] at h8; omega
  have hn2 : n2 ≤ 6 := by have := hh.count; simp [hsOf] at h6; omega
  have HF1 := hid (show ∀ x ∈ ls, x.fn ≤ 3 from fun x hx => by have := hf1 x.l (List.mem_map.2 ⟨x, hx, rfl⟩); have := (hl.2 x hx).2.2.len; omega)
  have HF2 := hid (show ∀ x ∈ hs, x.fn ≤ 3 from fun x hx => by have := hf2 x.h (List.mem_map.2 ⟨x, hx, rfl⟩); have := (hh.2 x hx).2.len; omega)
  have hc1 := hl.1.cap
  have hc2 := hh.1.cap
  unfold maxLen at hc1 hc2
  have HV := hid (And.intro hl (And.intro hh hhn))
  clear hl hh hhn hok h8 hf1 hf2 h6
  -- the world ahead of the loops
  obtain ⟨W1, hW1⟩ : ∃ W1, W1 = ((w.alloc (.cells #[.slice A1 n1 k1, .slice A2 n2 k2, .int .i64 q] 26)).alloc (.cells #[.slice none 0 0, .slice none 0 0, .int .i64 0] 26)) := ⟨_, rfl⟩
  have hs1 : W1.heap.size = w.heap.size + 2 := by rw [hW1]; simp
  have hb1 : Below w.heap.size w W1 := by rw [hW1]; exact ((Below.refl _ _).alloc (Nat.le_refl _) _).alloc (by simp) _
  have K0 : Blk W1 w.heap.size [.slice A1 n1 k1, .slice A2 n2 k2, .int .i64 q] := by rw [hW1]; exact (Blk.new w _ _).alloc _
  have K1 : Blk W1 (w.heap.size + 1) [.slice none 0 0, .slice none 0 0, .int .i64 0] := by rw [hW1]; have := Blk.new (w.alloc (.cells #[.slice A1 n1 k1, .slice A2 n2 k2, .int .i64 q] 26)) #[.slice none 0 0, .slice none 0 0, .int .i64 0] 26; simpa using this
  have hb2 : Below W1.heap.size W1 ((W1.alloc (.cells #[] 47)).alloc (.cells #[.slice none 0 0, .slice (some ⟨w.heap.size + 2, 0, none⟩) 0 0, .int .i64 q] 26)) := ((Below.refl _ _).alloc (Nat.le_refl _) _).alloc (by simp) _
  have hR0 : Rows ((W1.alloc (.cells #[] 47)).alloc (.cells #[.slice none 0 0, .slice (some ⟨w.heap.size + 2, 0, none⟩) 0 0, .int .i64 q] 26)) (w.heap.size + 2) ([] ++ [bxRow 26 3 (w.heap.size + 3) [.slice none 0 0, .slice (some ⟨w.heap.size + 2, 0, none⟩) 0 0, .int .i64 q]] ++ (two 47 3 0 (.slice (some ⟨w.heap.size + 2, 0, none⟩) 0 0) hcells (fun _ => []) [] ++ [])) := by
    have h1 : Rows (W1.alloc (.cells #[] 47)) (w.heap.size + 2) [⟨47, 3, 0, .slice (some ⟨w.heap.size + 2, 0, none⟩) 0 0, []⟩] := by
      have := World.ownsRow_lit (e := 47) (size := 3) W1 #[] 0 (base := w.heap.size + 2) (by omega) (by unfold maxLen; omega) (by simp)
      rw [hs1] at this
      exact Rows.one this
    have h2 := Rows.box (W1.alloc (.cells #[] 47)) #[.slice none 0 0, .slice (some ⟨w.heap.size + 2, 0, none⟩) 0 0, .int .i64 q] 26 3 rfl
    have h3 := h1.newer ((Below.refl _ _).alloc (Nat.le_refl _) _) h2 (by simp; omega)
    simp only [World.size_alloc, hs1] at h3
    simpa [two] using h3
  have HK := hid (And.intro (K0.to hb2) (K1.to hb2))
  have HB := hid (hb1.trans (hb2.mono (by omega)))
  have HR := hid hR0
  have d0 := (K0.2 0 _ rfl).1
  have d1 := (K0.2 1 _ rfl).1
  have d2 := (K0.2 2 _ rfl).1
  clear hb1 hb2 hR0 K0 K1 d0 d1 d2 hs1
  subst hW1
  obtain ⟨i0, hi, hz0, hz1, hz2⟩ := info_parts Tryz.infoHandler
  go_enter Tryz.func65, Tryz.ntmps65
  go_wp2_with fail
  go_loopw [4] (fun iv wr => ∃ (k : Nat) (l' : List HndV) (A4 : Option Addr) (c4 : Nat), iv = .int .i64 k ∧ k ≤ n2 ∧ Hid (hsOf l' = hsOf (hs.take k) ∧ l'.length = k) ∧ Hid (Rows wr (w.heap.size + 2) ([] ++ [bxRow 26 3 (w.heap.size + 3) [.slice none 0 0, .slice A4 k c4, .int .i64 q]] ++ (two 47 3 k (.slice A4 k c4) hcells (fun _ => []) l' ++ l'.flatMap hrows))) ∧
    Hid (Blk wr w.heap.size [.slice A1 n1 k1, .slice A2 n2 k2, .int .i64 q] ∧ Blk wr (w.heap.size + 1) [.slice none 0 0, .slice none 0 0, .int .i64 0]) ∧ Hid (Below w.heap.size w wr)) (fun iv _ => n2 - (intOf iv).toNat)
  case atStart => exact ⟨0, [], _, _, rfl, by omega, ⟨rfl, rfl⟩, HR.out, HK.out, HB.out⟩
  case round =>
    obtain ⟨k, l', A4, c4, rfl, hk, HC, HRx, HKx, HBx⟩ := hrel
    have hsz := (HRx.out.bcell2 (q := 0) rfl).2.2
    by_cases hlt : k < n2
    · obtain ⟨b, o, x, p, rfl, hbB, hx, hp, hps, hfs, g0, g1, g2⟩ := HV.out.2.1.at_ hlt
      have hxf := HF2.out x (List.mem_of_getElem? hx)
      obtain ⟨A6, k6, e6, _, _⟩ := hfs.1.form
      obtain ⟨⟨xn, xlv, xfs⟩, xfv, fn'⟩ := x
      simp only at e6 hfs hxf hp g1 g2
      subst e6
      have hbw : b < w.heap.size := by omega
      have c0 := (HBx.out.cell (p := ⟨b, o + k * 3, none⟩) hbw).trans g0
      have c1 := (HBx.out.cell (p := ⟨b, o + k * 3 + 1, none⟩) hbw).trans g1
      have c2 := (HBx.out.cell (p := ⟨b, o + k * 3 + 2, none⟩) hbw).trans g2
      have d1 := (HKx.out.1.2 1 _ rfl).1
      have o1 := (HRx.out.bcell2 (q := 1) rfl).1
      have CH := hid (fun (W : World) (hW : Below w.heap.size w W) => specCopyHandler_c p xlv A6 fn' k6 B xfs W (hfs.1.below hW hB) (Nat.le_trans hB hW.size) (by omega))
      have ARM := hid (fun (w9 : World) (A8 : Option Addr) (k8 : Nat) (ho9 : w9.ownsRow wr.drew.heap.size 99 3 (.slice A8 fn' k8) fn' (fsCells xfs)) (hb9 : Below wr.drew.heap.size wr.drew w9) =>
        (show ∃ (A5 : Option Addr) (c5 : Nat) (w4 : World), (Builtin.append_ #[24, 24] 24 #[.slice A4 k c4, .slice (some ⟨w9.heap.size, 0, none⟩) 1 1]).run Tryz.prog (w9.alloc (.cells #[.string p, .int .i64 xlv, .slice A8 fn' k8] 47)) = .ok (.slice A5 (k + 1) c5) w4 ∧
            Rows w4 (w.heap.size + 2) ([⟨99, 3, fn', .slice A8 fn' k8, fsCells xfs⟩] ++ [bxRow 26 3 (w.heap.size + 3) [.slice none 0 0, .slice A4 k c4, .int .i64 q]] ++ (two 47 3 (k + 1) (.slice A5 (k + 1) c5) hcells (fun _ => []) (l' ++ [⟨⟨xn, xlv, xfs⟩, .slice A8 fn' k8, fn'⟩]) ++ l'.flatMap hrows)) ∧
            Below w.heap.size w w4 ∧ Blk w4 w.heap.size [.slice A1 n1 k1, .slice (some ⟨b, o, none⟩) n2 k2, .int .i64 q] ∧ Blk w4 (w.heap.size + 1) [.slice none 0 0, .slice none 0 0, .int .i64 0] from by
          have hRd : Rows wr.drew (w.heap.size + 2) _ := HRx.out.below ((Below.refl _ _).drew)
          have hR9 := hRd.newer hb9 (Rows.one (r := ⟨99, 3, fn', .slice A8 fn' k8, fsCells xfs⟩) ho9) (by show w.heap.size + 2 ≤ wr.heap.size; omega)
          have hB9 : Below w.heap.size w w9 := HBx.out.drew.trans (hb9.mono HBx.out.drew.size)
          have hK0 : Blk w9 w.heap.size _ := (HKx.out.1.dr 1).to hb9
          have hK1 : Blk w9 (w.heap.size + 1) _ := (HKx.out.2.dr 1).to hb9
          have htop : w9.ownsRow (w.heap.size + 2) 47 3 (.slice A4 k c4) k (l'.flatMap hcells) := hR9.1 ⟨47, 3, k, .slice A4 k c4, l'.flatMap hcells⟩ (by simp [two])
          obtain ⟨v5, w4, hrun, ho4, hg4, hloc⟩ := run_app1P (P := Tryz.prog) w9 24 (w.heap.size + 2) 47 i0 _ 3 48 Tryz.underlying24 hi hz0 hz1 hz2 rfl (by decide) _ k _ htop [txt xn, .int .i64 xlv, .slice A8 fn' k8] 47 rfl (hcell_one _ _ _ _ _) (by unfold maxLen; omega) (by omega) (by have := hb9.size; have : wr.drew.heap.size = wr.heap.size := rfl; omega)
          obtain ⟨A5, c5, rfl, _, _⟩ := (Sl.of_own ho4).form
          have e0 : txt xn = .string p := by rw [← hp, txt_data]
          have hR4 := Rows.app (pre := [⟨99, 3, fn', .slice A8 fn' k8, fsCells xfs⟩, bxRow 26 3 (w.heap.size + 3) [.slice none 0 0, .slice A4 k c4, .int .i64 q]]) (r := ⟨47, 3, k, .slice A4 k c4, l'.flatMap hcells⟩) (post := l'.flatMap hrows) (by simpa [two, flat_nil] using hR9) hg4 ho4 hloc
          have hlo4 : ∀ z, (Value.slice A4 k c4).ownBlock = some z → w.heap.size + 2 ≤ z := own_lt htop
          have hne : ∀ z, z < w.heap.size + 2 → some z ≠ (Value.slice A4 k c4).ownBlock := fun z hz e => by have := hlo4 z e.symm; omega
          rw [e0] at hrun
          refine ⟨A5, c5, w4, hrun, ?_, hB9.grown hg4 hB9.size (fun z hz => by have := hlo4 z hz; omega), hK0.kept hg4 (hne _ (by omega)), hK1.kept hg4 (hne _ (by omega))⟩
          have e1 : (l' ++ [(⟨⟨xn, xlv, xfs⟩, .slice A8 fn' k8, fn'⟩ : HndV)]).flatMap hcells = l'.flatMap hcells ++ [txt xn, .int .i64 xlv, .slice A8 fn' k8] := by simp [hcells]
          simpa [two, flat_nil, e1] using hR4))
      have s0 : (0 : Int) ≤ (k : Int) := by omega
      have s1 : (k : Int) < (n2 : Int) := by omega
      have s2 : ((k : Int)).toNat = k := by simp
      have HX := hid hx
      have HP := hid hp
      have HCo := hid (And.intro g0 (And.intro g1 g2))
      have hwr : w.heap.size < wr.heap.size := by omega
      have hbr : b < wr.heap.size := by omega
      clear hx hp hps hfs g0 g1 g2
      go_wp2_with fail
      refine wp_region_held_drew (S := (fun w' : World => w'.cell? ⟨w.heap.size, 1, none⟩ = some (.slice (some ⟨b, o, none⟩) n2 k2) ∧ w'.cell? ⟨b, o + k * 3, none⟩ = some (.string p) ∧ w'.cell? ⟨b, o + k * 3 + 1, none⟩ = some (.int .i64 xlv) ∧ w'.cell? ⟨b, o + k * 3 + 2, none⟩ = some (.slice A6 fn' k6))) (by kernel_rfl) ⟨d1, c0, c1, c2⟩ (fun hS => ?_)
      refine wpAnyH_take (i := 0) (oi := ?oi101) (v := ?v101) ?hi101 (by kernel_rfl) ?hf101 ?hr101 ?hQ101 (Or.inl ⟨?hw101, ?hy101⟩) (by assumption) ?rest101
      case hi101 => simp only [List.getElem?_toArray, List.getElem?_cons_succ, List.getElem?_cons_zero]; rfl
      case hf101 => kernel_rfl
      case hr101 => kernel_rfl
      case hw101 => rfl
      case hy101 => (intro w hSw; (try dsimp only at hSw); go_simp; all_goals (first | done | with_reducible rfl))
      case hQ101 => exact fun _ _ _ h => h
      simp only [Act.put, List.setIfInBounds_toArray, List.set_cons_zero, List.set_cons_succ]
      refine wpAnyH_take (i := 2) (oi := ?oi102) (v := ?v102) ?hi102 (by kernel_rfl) ?hf102 ?hr102 ?hQ102 (Or.inl ⟨?hw102, ?hy102⟩) (by assumption) ?rest102
      case hi102 => simp only [List.getElem?_toArray, List.getElem?_cons_succ, List.getElem?_cons_zero]; rfl
      case hf102 => kernel_rfl
      case hr102 => kernel_rfl
      case hw102 => rfl
      case hy102 => (intro w hSw; (try dsimp only at hSw); go_simp; all_goals (first | done | with_reducible rfl))
      case hQ102 => exact fun _ _ _ h => h
      simp only [Act.put, List.setIfInBounds_toArray, List.set_cons_zero, List.set_cons_succ]
      refine wpAnyH_take (i := 3) (oi := ?oi103) (v := ?v103) ?hi103 (by kernel_rfl) ?hf103 ?hr103 ?hQ103 (Or.inl ⟨?hw103, ?hy103⟩) (by assumption) ?rest103
      case hi103 => simp only [List.getElem?_toArray, List.getElem?_cons_succ, List.getElem?_cons_zero]; rfl
      case hf103 => kernel_rfl
      case hr103 => kernel_rfl
      case hw103 => rfl
      case hy103 => (intro w hSw; (try dsimp only at hSw); go_simp; all_goals (first | done | with_reducible rfl))
      case hQ103 => exact fun _ _ _ h => h
      simp only [Act.put, List.setIfInBounds_toArray, List.set_cons_zero, List.set_cons_succ]
      refine wpAnyH_take (i := 4) (oi := ?oi104) (v := ?v104) ?hi104 (by kernel_rfl) ?hf104 ?hr104 ?hQ104 (Or.inl ⟨?hw104, ?hy104⟩) (by assumption) ?rest104
      case hi104 => simp only [List.getElem?_toArray, List.getElem?_cons_succ, List.getElem?_cons_zero]; rfl
      case hf104 => kernel_rfl
      case hr104 => kernel_rfl
      case hw104 => rfl
      case hy104 => (intro w hSw; (try dsimp only at hSw); go_simp; all_goals (first | done | with_reducible rfl))
      case hQ104 => exact fun _ _ _ h => h
      simp only [Act.put, List.setIfInBounds_toArray, List.set_cons_zero, List.set_cons_succ]
      refine wpAnyH_take (i := 5) (oi := ?oi105) (v := ?v105) ?hi105 (by kernel_rfl) ?hf105 ?hr105 ?hQ105 (Or.inl ⟨?hw105, ?hy105⟩) (by assumption) ?rest105
      case hi105 => simp only [List.getElem?_toArray, List.getElem?_cons_succ, List.getElem?_cons_zero]; rfl
      case hf105 => kernel_rfl
      case hr105 => kernel_rfl
      case hw105 => rfl
      case hy105 => (intro w hSw; (try dsimp only at hSw); go_simp; all_goals (first | done | with_reducible rfl))
      case hQ105 => exact fun _ _ _ h => h
      simp only [Act.put, List.setIfInBounds_toArray, List.set_cons_zero, List.set_cons_succ]
      refine wpAnyH_take (i := 6) (oi := ?oi106) (v := ?v106) ?hi106 (by kernel_rfl) ?hf106 ?hr106 ?hQ106 (Or.inl ⟨?hw106, ?hy106⟩) (by assumption) ?rest106
      case hi106 => simp only [List.getElem?_toArray, List.getElem?_cons_succ, List.getElem?_cons_zero]; rfl
      case hf106 => kernel_rfl
      case hr106 => kernel_rfl
      case hw106 => rfl
      case hy106 => (intro w hSw; (try dsimp only at hSw); go_simp; all_goals (first | done | with_reducible rfl))
      case hQ106 => exact fun _ _ _ h => h
      simp only [Act.put, List.setIfInBounds_toArray, List.set_cons_zero, List.set_cons_succ]
      refine wpAnyH_ready (rs := [1, 7]) (by kernel_rfl) (by simp) ?_
      refine AllReadyH.cons (o := ?oi107) ?hi107 (fun K hK => ?stepA107) (AllReadyH.cons (o := ?oj107) ?hj107 (fun K hK => ?stepB107) AllReadyH.nil)
      case hi107 => simp only [List.getElem?_toArray, List.getElem?_cons_succ, List.getElem?_cons_zero]; rfl
      case hj107 => simp only [List.getElem?_toArray, List.getElem?_cons_succ, List.getElem?_cons_zero]; rfl
      all_goals rw [if_pos (by rfl)]
      all_goals go_simp
      · refine hK.out _ _ hS (fun _ => ?_)
        refine wpAnyH_ready (rs := [7]) (by kernel_rfl) (by simp) ?_
        refine AllReadyH.cons (o := ?oi108) ?hi108 (fun K hK => ?step108) AllReadyH.nil
        case hi108 => simp only [List.getElem?_toArray, List.getElem?_cons_succ, List.getElem?_cons_zero]; rfl
        rw [if_pos (by rfl)]
        go_simp
        go_at_call 66
        refine (CH.out _ HBx.out.drew).mono ?_
        rintro e w9 ⟨v8, rfl, ho9, hb9⟩
        obtain ⟨A8, k8, rfl, _, _⟩ := (Sl.of_own ho9).form
        obtain ⟨A5, c5, w4, hrun, hR4, hB4, hK4, hK5⟩ := ARM.out w9 A8 k8 ho9 hb9
        have hS9 : w9.cell? ⟨w.heap.size, 1, none⟩ = some (.slice (some ⟨b, o, none⟩) n2 k2) ∧ w9.cell? ⟨b, o + k * 3, none⟩ = some (.string p) ∧ w9.cell? ⟨b, o + k * 3 + 1, none⟩ = some (.int .i64 xlv) ∧ w9.cell? ⟨b, o + k * 3 + 2, none⟩ = some (.slice A6 fn' k6) := ⟨(hb9.cell (p := ⟨w.heap.size, _, none⟩) hwr).trans d1, (hb9.cell (p := ⟨b, _, none⟩) hbr).trans c0, (hb9.cell (p := ⟨b, _, none⟩) hbr).trans c1, (hb9.cell (p := ⟨b, _, none⟩) hbr).trans c2⟩
        have h9s : w.heap.size + 3 < w9.heap.size := Nat.lt_of_lt_of_le hsz hb9.size
        have hSa : (w9.alloc (.cells #[.string p, .int .i64 xlv, .slice A8 fn' k8] 47)).cell? ⟨w.heap.size, 1, none⟩ = some (.slice (some ⟨b, o, none⟩) n2 k2) ∧ (w9.alloc (.cells #[.string p, .int .i64 xlv, .slice A8 fn' k8] 47)).cell? ⟨b, o + k * 3, none⟩ = some (.string p) ∧ (w9.alloc (.cells #[.string p, .int .i64 xlv, .slice A8 fn' k8] 47)).cell? ⟨b, o + k * 3 + 1, none⟩ = some (.int .i64 xlv) ∧ (w9.alloc (.cells #[.string p, .int .i64 xlv, .slice A8 fn' k8] 47)).cell? ⟨b, o + k * 3 + 2, none⟩ = some (.slice A6 fn' k6) := ⟨(World.cell?_alloc_past _ _ _ (show w.heap.size < _ by omega)).trans hS9.1, (World.cell?_alloc_past _ _ _ (show b < _ by omega)).trans hS9.2.1, (World.cell?_alloc_past _ _ _ (show b < _ by omega)).trans hS9.2.2.1, (World.cell?_alloc_past _ _ _ (show b < _ by omega)).trans hS9.2.2.2⟩
        have S4 := And.intro (hK4.2 1 _ rfl).1 (And.intro ((hB4.cell (p := ⟨b, _, none⟩) hbw).trans HCo.out.1) (And.intro ((hB4.cell (p := ⟨b, _, none⟩) hbw).trans HCo.out.2.1) ((hB4.cell (p := ⟨b, _, none⟩) hbw).trans HCo.out.2.2)))
        have o9 := (hb9.cell (p := ⟨w.heap.size + 3, 1, none⟩) hsz).trans o1
        have oa : (w9.alloc (.cells #[.string p, .int .i64 xlv, .slice A8 fn' k8] 47)).cell? ⟨w.heap.size + 3, 1, none⟩ = _ := (World.cell?_alloc_past _ _ _ h9s).trans o9
        have o4 := (hR4.bcell2 (q := 1) rfl).1
        have o4f := (hR4.bcell2 (q := 1) rfl).2.1
        have HRun := hid hrun
        have HR4 := hid hR4
        have HB4 := hid hB4
        have HK4 := hid (And.intro hK4 hK5)
        clear hrun hR4 hB4 hK4 hK5 ho9
        refine hK.out _ _ hS9 (fun _ => ?_)
        refine wpAnyH_ready (rs := [8]) (by kernel_rfl) (by simp) ?_
        refine AllReadyH.cons (o := ?oi109) ?hi109 (fun K hK => ?step109) AllReadyH.nil
        case hi109 => simp only [List.getElem?_toArray, List.getElem?_cons_succ, List.getElem?_cons_zero]; rfl
        rw [if_pos (by rfl)]
        go_simp
        refine hK.out _ _ hSa (fun _ => ?_)
        refine wpAnyH_ready (rs := [9]) (by kernel_rfl) (by simp) ?_
        refine AllReadyH.cons (o := ?oi110) ?hi110 (fun K hK => ?step110) AllReadyH.nil
        case hi110 => simp only [List.getElem?_toArray, List.getElem?_cons_succ, List.getElem?_cons_zero]; rfl
        rw [if_pos (by rfl)]
        refine wp_app rfl (by rfl) (by rfl) HRun.out ?_
        refine hK.out _ _ S4 (fun _ => ?_)
        simp only [Act.put, List.setIfInBounds_toArray, List.set_cons_zero, List.set_cons_succ]
        refine wpAnyH_take (i := 10) (oi := ?oi111) (v := ?v111) ?hi111 (by kernel_rfl) ?hf111 ?hr111 ?hQ111 (Or.inl ⟨?hw111, ?hy111⟩) (by assumption) ?rest111
        case hi111 => simp only [List.getElem?_toArray, List.getElem?_cons_succ, List.getElem?_cons_zero]; rfl
        case hf111 => kernel_rfl
        case hr111 => kernel_rfl
        case hw111 => rfl
        case hy111 => (intro w hSw; (try dsimp only at hSw); go_simp; all_goals (first | done | with_reducible rfl))
        case hQ111 => exact fun _ _ _ h => h
        simp only [Act.put, List.setIfInBounds_toArray, List.set_cons_zero, List.set_cons_succ]
        refine wpAnyH_ready (rs := [11]) (by kernel_rfl) (by simp) ?_
        refine AllReadyH.cons (o := ?oi112) ?hi112 (fun K hK => ?step112) AllReadyH.nil
        case hi112 => simp only [List.getElem?_toArray, List.getElem?_cons_succ, List.getElem?_cons_zero]; rfl
        rw [if_pos (by rfl)]
        go_simp
        refine hK.out _ _ ⟨(World.cell?_setCell_far _ _ _ _ (show w.heap.size + 1 + 1 + 1 ≠ w.heap.size by omega)).trans S4.1, (World.cell?_setCell_far _ _ _ _ (show w.heap.size + 1 + 1 + 1 ≠ b by omega)).trans S4.2.1, (World.cell?_setCell_far _ _ _ _ (show w.heap.size + 1 + 1 + 1 ≠ b by omega)).trans S4.2.2.1, (World.cell?_setCell_far _ _ _ _ (show w.heap.size + 1 + 1 + 1 ≠ b by omega)).trans S4.2.2.2⟩ (fun _ => ?_)
        refine wpAnyH_done (by kernel_rfl) ?_ _
        clear hS9 hSa S4 o9 oa o4 o4f o1 d1 c0 c1 c2
        have HR5 := hid (HR4.out.boxset (j := 1) (u := .slice A5 (k + 1) c5))
        go_wp2_with fail
        go_roundw
        case rel =>
          refine ⟨k + 1, l' ++ [⟨⟨xn, xlv, xfs⟩, .slice A8 fn' k8, fn'⟩], A5, c5, by go_num, by omega, ⟨?_, by rw [List.length_append, HC.out.2]; rfl⟩, ?_, ⟨HK4.out.1.apart _ _ (show w.heap.size + 1 + 1 + 1 ≠ w.heap.size by omega), HK4.out.2.apart _ _ (show w.heap.size + 1 + 1 + 1 ≠ w.heap.size + 1 by omega)⟩, HB4.out.setCell (show w.heap.size ≤ w.heap.size + 1 + 1 + 1 by omega) _⟩
          · unfold hsOf at HC ⊢
            rw [List.map_append, HC.out.1, List.take_add_one, HX.out, List.map_append]; rfl
          · rw [List.flatMap_append]
            have h7 := HR5.out.perm (perm_hand _ _ _ _)
            exact h7
        case measure => simp [intOf]; omega
      · go_at_call 66
        refine (CH.out _ HBx.out.drew).mono ?_
        rintro e w9 ⟨v8, rfl, ho9, hb9⟩
        obtain ⟨A8, k8, rfl, _, _⟩ := (Sl.of_own ho9).form
        obtain ⟨A5, c5, w4, hrun, hR4, hB4, hK4, hK5⟩ := ARM.out w9 A8 k8 ho9 hb9
        have hS9 : w9.cell? ⟨w.heap.size, 1, none⟩ = some (.slice (some ⟨b, o, none⟩) n2 k2) ∧ w9.cell? ⟨b, o + k * 3, none⟩ = some (.string p) ∧ w9.cell? ⟨b, o + k * 3 + 1, none⟩ = some (.int .i64 xlv) ∧ w9.cell? ⟨b, o + k * 3 + 2, none⟩ = some (.slice A6 fn' k6) := ⟨(hb9.cell (p := ⟨w.heap.size, _, none⟩) hwr).trans d1, (hb9.cell (p := ⟨b, _, none⟩) hbr).trans c0, (hb9.cell (p := ⟨b, _, none⟩) hbr).trans c1, (hb9.cell (p := ⟨b, _, none⟩) hbr).trans c2⟩
        have h9s : w.heap.size + 3 < w9.heap.size := Nat.lt_of_lt_of_le hsz hb9.size
        have hSa : (w9.alloc (.cells #[.string p, .int .i64 xlv, .slice A8 fn' k8] 47)).cell? ⟨w.heap.size, 1, none⟩ = some (.slice (some ⟨b, o, none⟩) n2 k2) ∧ (w9.alloc (.cells #[.string p, .int .i64 xlv, .slice A8 fn' k8] 47)).cell? ⟨b, o + k * 3, none⟩ = some (.string p) ∧ (w9.alloc (.cells #[.string p, .int .i64 xlv, .slice A8 fn' k8] 47)).cell? ⟨b, o + k * 3 + 1, none⟩ = some (.int .i64 xlv) ∧ (w9.alloc (.cells #[.string p, .int .i64 xlv, .slice A8 fn' k8] 47)).cell? ⟨b, o + k * 3 + 2, none⟩ = some (.slice A6 fn' k6) := ⟨(World.cell?_alloc_past _ _ _ (show w.heap.size < _ by omega)).trans hS9.1, (World.cell?_alloc_past _ _ _ (show b < _ by omega)).trans hS9.2.1, (World.cell?_alloc_past _ _ _ (show b < _ by omega)).trans hS9.2.2.1, (World.cell?_alloc_past _ _ _ (show b < _ by omega)).trans hS9.2.2.2⟩
        have S4 := And.intro (hK4.2 1 _ rfl).1 (And.intro ((hB4.cell (p := ⟨b, _, none⟩) hbw).trans HCo.out.1) (And.intro ((hB4.cell (p := ⟨b, _, none⟩) hbw).trans HCo.out.2.1) ((hB4.cell (p := ⟨b, _, none⟩) hbw).trans HCo.out.2.2)))
        have o9 := (hb9.cell (p := ⟨w.heap.size + 3, 1, none⟩) hsz).trans o1
        have oa : (w9.alloc (.cells #[.string p, .int .i64 xlv, .slice A8 fn' k8] 47)).cell? ⟨w.heap.size + 3, 1, none⟩ = _ := (World.cell?_alloc_past _ _ _ h9s).trans o9
        have o4 := (hR4.bcell2 (q := 1) rfl).1
        have o4f := (hR4.bcell2 (q := 1) rfl).2.1
        have HRun := hid hrun
        have HR4 := hid hR4
        have HB4 := hid hB4
        have HK4 := hid (And.intro hK4 hK5)
        clear hrun hR4 hB4 hK4 hK5 ho9
        refine hK.out _ _ hS9 (fun _ => ?_)
        refine wpAnyH_ready (rs := [1, 8]) (by kernel_rfl) (by simp) ?_
        refine AllReadyH.cons (o := ?oi113) ?hi113 (fun K hK => ?stepA113) (AllReadyH.cons (o := ?oj113) ?hj113 (fun K hK => ?stepB113) AllReadyH.nil)
        case hi113 => simp only [List.getElem?_toArray, List.getElem?_cons_succ, List.getElem?_cons_zero]; rfl
        case hj113 => simp only [List.getElem?_toArray, List.getElem?_cons_succ, List.getElem?_cons_zero]; rfl
        all_goals rw [if_pos (by rfl)]
        all_goals go_simp
        · refine hK.out _ _ hS9 (fun _ => ?_)
          refine wpAnyH_ready (rs := [8]) (by kernel_rfl) (by simp) ?_
          refine AllReadyH.cons (o := ?oi114) ?hi114 (fun K hK => ?step114) AllReadyH.nil
          case hi114 => simp only [List.getElem?_toArray, List.getElem?_cons_succ, List.getElem?_cons_zero]; rfl
          rw [if_pos (by rfl)]
          go_simp
          refine hK.out _ _ hSa (fun _ => ?_)
          refine wpAnyH_ready (rs := [9]) (by kernel_rfl) (by simp) ?_
          refine AllReadyH.cons (o := ?oi115) ?hi115 (fun K hK => ?step115) AllReadyH.nil
          case hi115 => simp only [List.getElem?_toArray, List.getElem?_cons_succ, List.getElem?_cons_zero]; rfl
          rw [if_pos (by rfl)]
          refine wp_app rfl (by rfl) (by rfl) HRun.out ?_
          refine hK.out _ _ S4 (fun _ => ?_)
          simp only [Act.put, List.setIfInBounds_toArray, List.set_cons_zero, List.set_cons_succ]
          refine wpAnyH_take (i := 10) (oi := ?oi116) (v := ?v116) ?hi116 (by kernel_rfl) ?hf116 ?hr116 ?hQ116 (Or.inl ⟨?hw116, ?hy116⟩) (by assumption) ?rest116
          case hi116 => simp only [List.getElem?_toArray, List.getElem?_cons_succ, List.getElem?_cons_zero]; rfl
          case hf116 => kernel_rfl
          case hr116 => kernel_rfl
          case hw116 => rfl
          case hy116 => (intro w hSw; (try dsimp only at hSw); go_simp; all_goals (first | done | with_reducible rfl))
          case hQ116 => exact fun _ _ _ h => h
          simp only [Act.put, List.setIfInBounds_toArray, List.set_cons_zero, List.set_cons_succ]
          refine wpAnyH_ready (rs := [11]) (by kernel_rfl) (by simp) ?_
          refine AllReadyH.cons (o := ?oi117) ?hi117 (fun K hK => ?step117) AllReadyH.nil
          case hi117 => simp only [List.getElem?_toArray, List.getElem?_cons_succ, List.getElem?_cons_zero]; rfl
          rw [if_pos (by rfl)]
          go_simp
          refine hK.out _ _ ⟨(World.cell?_setCell_far _ _ _ _ (show w.heap.size + 1 + 1 + 1 ≠ w.heap.size by omega)).trans S4.1, (World.cell?_setCell_far _ _ _ _ (show w.heap.size + 1 + 1 + 1 ≠ b by omega)).trans S4.2.1, (World.cell?_setCell_far _ _ _ _ (show w.heap.size + 1 + 1 + 1 ≠ b by omega)).trans S4.2.2.1, (World.cell?_setCell_far _ _ _ _ (show w.heap.size + 1 + 1 + 1 ≠ b by omega)).trans S4.2.2.2⟩ (fun _ => ?_)
          refine wpAnyH_done (by kernel_rfl) ?_ _
          clear hS9 hSa S4 o9 oa o4 o4f o1 d1 c0 c1 c2
          have HR5 := hid (HR4.out.boxset (j := 1) (u := .slice A5 (k + 1) c5))
          go_wp2_with fail
          go_roundw
          case rel =>
            refine ⟨k + 1, l' ++ [⟨⟨xn, xlv, xfs⟩, .slice A8 fn' k8, fn'⟩], A5, c5, by go_num, by omega, ⟨?_, by rw [List.length_append, HC.out.2]; rfl⟩, ?_, ⟨HK4.out.1.apart _ _ (show w.heap.size + 1 + 1 + 1 ≠ w.heap.size by omega), HK4.out.2.apart _ _ (show w.heap.size + 1 + 1 + 1 ≠ w.heap.size + 1 by omega)⟩, HB4.out.setCell (show w.heap.size ≤ w.heap.size + 1 + 1 + 1 by omega) _⟩
            · unfold hsOf at HC ⊢
              rw [List.map_append, HC.out.1, List.take_add_one, HX.out, List.map_append]; rfl
            · rw [List.flatMap_append]
              have h7 := HR5.out.perm (perm_hand _ _ _ _)
              exact h7
          case measure => simp [intOf]; omega
        · refine hK.out _ _ hSa (fun _ => ?_)
          refine wpAnyH_ready (rs := [1]) (by kernel_rfl) (by simp) ?_
          refine AllReadyH.cons (o := ?oi118) ?hi118 (fun K hK => ?step118) AllReadyH.nil
          case hi118 => simp only [List.getElem?_toArray, List.getElem?_cons_succ, List.getElem?_cons_zero]; rfl
          rw [if_pos (by rfl)]
          go_simp
          refine hK.out _ _ hSa (fun _ => ?_)
          refine wpAnyH_ready (rs := [9]) (by kernel_rfl) (by simp) ?_
          refine AllReadyH.cons (o := ?oi119) ?hi119 (fun K hK => ?step119) AllReadyH.nil
          case hi119 => simp only [List.getElem?_toArray, List.getElem?_cons_succ, List.getElem?_cons_zero]; rfl
          rw [if_pos (by rfl)]
          refine wp_app rfl (by rfl) (by rfl) HRun.out ?_
          refine hK.out _ _ S4 (fun _ => ?_)
          simp only [Act.put, List.setIfInBounds_toArray, List.set_cons_zero, List.set_cons_succ]
          refine wpAnyH_take (i := 10) (oi := ?oi120) (v := ?v120) ?hi120 (by kernel_rfl) ?hf120 ?hr120 ?hQ120 (Or.inl ⟨?hw120, ?hy120⟩) (by assumption) ?rest120
          case hi120 => simp only [List.getElem?_toArray, List.getElem?_cons_succ, List.getElem?_cons_zero]; rfl
          case hf120 => kernel_rfl
          case hr120 => kernel_rfl
          case hw120 => rfl
          case hy120 => (intro w hSw; (try dsimp only at hSw); go_simp; all_goals (first | done | with_reducible rfl))
          case hQ120 => exact fun _ _ _ h => h
          simp only [Act.put, List.setIfInBounds_toArray, List.set_cons_zero, List.set_cons_succ]
          refine wpAnyH_ready (rs := [11]) (by kernel_rfl) (by simp) ?_
          refine AllReadyH.cons (o := ?oi121) ?hi121 (fun K hK => ?step121) AllReadyH.nil
          case hi121 => simp only [List.getElem?_toArray, List.getElem?_cons_succ, List.getElem?_cons_zero]; rfl
          rw [if_pos (by rfl)]
          go_simp
          refine hK.out _ _ ⟨(World.cell?_setCell_far _ _ _ _ (show w.heap.size + 1 + 1 + 1 ≠ w.heap.size by omega)).trans S4.1, (World.cell?_setCell_far _ _ _ _ (show w.heap.size + 1 + 1 + 1 ≠ b by omega)).trans S4.2.1, (World.cell?_setCell_far _ _ _ _ (show w.heap.size + 1 + 1 + 1 ≠ b by omega)).trans S4.2.2.1, (World.cell?_setCell_far _ _ _ _ (show w.heap.size + 1 + 1 + 1 ≠ b by omega)).trans S4.2.2.2⟩ (fun _ => ?_)
          refine wpAnyH_done (by kernel_rfl) ?_ _
          clear hS9 hSa S4 o9 oa o4 o4f o1 d1 c0 c1 c2
          have HR5 := hid (HR4.out.boxset (j := 1) (u := .slice A5 (k + 1) c5))
          go_wp2_with fail
          go_roundw
          case rel =>
            refine ⟨k + 1, l' ++ [⟨⟨xn, xlv, xfs⟩, .slice A8 fn' k8, fn'⟩], A5, c5, by go_num, by omega, ⟨?_, by rw [List.length_append, HC.out.2]; rfl⟩, ?_, ⟨HK4.out.1.apart _ _ (show w.heap.size + 1 + 1 + 1 ≠ w.heap.size by omega), HK4.out.2.apart _ _ (show w.heap.size + 1 + 1 + 1 ≠ w.heap.size + 1 by omega)⟩, HB4.out.setCell (show w.heap.size ≤ w.heap.size + 1 + 1 + 1 by omega) _⟩
            · unfold hsOf at HC ⊢
              rw [List.map_append, HC.out.1, List.take_add_one, HX.out, List.map_append]; rfl
            · rw [List.flatMap_append]
              have h7 := HR5.out.perm (perm_hand _ _ _ _)
              exact h7
          case measure => simp [intOf]; omega
    · obtain rfl : k = n2 := by omega
      obtain ⟨iS, hSi, hSz0, hSz1, hSz2⟩ := info_parts Tryz.infoStr
      obtain ⟨iF, hFi, hFz0, hFz1, hFz2⟩ := info_parts Tryz.infoFlt
      obtain ⟨iL, hLi, hLz0, hLz1, hLz2⟩ := info_parts Tryz.infoLogger
      have d1 := (HKx.out.1.2 1 _ rfl).1
      have HCh := hid (show hsOf l' = hsOf hs by rw [HC.out.1, List.take_of_length_le (by rw [HV.out.2.1.count]; exact Nat.le_refl _)])
      have HCn := hid HC.out.2
      have HRy := hid (show Rows wr (w.heap.size + 2) ([] ++ [bxRow 26 3 (w.heap.size + 3) [.slice none 0 0, .slice A4 k c4, .int .i64 q]] ++ (⟨72, 6, 0, .slice none 0 0, ([] : List LgrV).flatMap lcells⟩ :: (([] : List LgrV).flatMap lrows ++ two 47 3 k (.slice A4 k c4) hcells hrows l'))) from by
        have h1 : Rows wr (w.heap.size + 2) ([] ++ [bxRow 26 3 (w.heap.size + 3) [.slice none 0 0, .slice A4 k c4, .int .i64 q]] ++ two 47 3 k (.slice A4 k c4) hcells hrows l') := by
          have := HRx.out
          simpa [two, flat_nil] using this
        have h2 := h1.newer (rs' := [⟨72, 6, 0, .slice none 0 0, []⟩]) (Below.refl _ _) (Rows.one (World.ownsRow_nil _ _ _ _)) (by omega)
        refine h2.perm ?_
        simp only [List.nil_append, List.flatMap_nil, List.cons_append]
        exact List.Perm.swap _ _ _)
      clear HC
      go_wp2_with fail
      clear d1
      go_loopw [5] (fun iv wx => ∃ (j : Nat) (ls' : List LgrV) (A3 : Option Addr) (c3 : Nat), iv = .int .i64 j ∧ j ≤ n1 ∧ Hid (lsOf ls' = lsOf (ls.take j) ∧ ls'.length = j) ∧ Hid (Rows wx (w.heap.size + 2) ([] ++ [bxRow 26 3 (w.heap.size + 3) [.slice A3 j c3, .slice A4 k c4, .int .i64 q]] ++ (⟨72, 6, j, .slice A3 j c3, ls'.flatMap lcells⟩ :: (ls'.flatMap lrows ++ two 47 3 k (.slice A4 k c4) hcells hrows l')))) ∧
        Hid (Blk wx w.heap.size [.slice A1 n1 k1, .slice A2 k k2, .int .i64 q] ∧ Blk wx (w.heap.size + 1) [.slice none 0 0, .slice none 0 0, .int .i64 0]) ∧ Hid (Below w.heap.size w wx)) (fun iv _ => n1 - (intOf iv).toNat)
      case atStart => exact ⟨0, [], none, 0, rfl, by omega, ⟨rfl, rfl⟩, HRy.out, HKx.out, HBx.out⟩
      case round =>
        obtain ⟨j, ls', A3, c3, rfl, hj, HCl, HRl, HKl, HBl⟩ := hrel
        have hszl := (HRl.out.bcell2 (q := 0) rfl).2.2
        have d0 := (HKl.out.1.2 0 _ rfl).1
        by_cases hlt2 : j < n1
        · obtain ⟨b, o, x, p, rfl, hbB, hx, hp, hps, hts, hfs, g0, g1, g2, g3, g4, g5⟩ := HV.out.1.at_ hlt2
          have hxn := HV.out.2.2 x (List.mem_of_getElem? hx)
          have hxf := HF1.out x (List.mem_of_getElem? hx)
          obtain ⟨A5, k5, e5, _, _⟩ := hts.1.form
          obtain ⟨A6, k6, e6, _, _⟩ := hfs.1.form
          obtain ⟨⟨xn, xlv, xhs, xfs, xst, xof⟩, xhv, hn', xfv, fn'⟩ := x
          simp only at e5 e6 hts hfs hxf hxn hp g1 g2 g3 g4 g5
          subst e5 e6
          have hbw : b < w.heap.size := by omega
          have c0 := (HBl.out.cell (p := ⟨b, o + j * 6, none⟩) hbw).trans g0
          have c1 := (HBl.out.cell (p := ⟨b, o + j * 6 + 1, none⟩) hbw).trans g1
          have c2 := (HBl.out.cell (p := ⟨b, o + j * 6 + 2, none⟩) hbw).trans g2
          have c3' := (HBl.out.cell (p := ⟨b, o + j * 6 + 3, none⟩) hbw).trans g3
          have c4' := (HBl.out.cell (p := ⟨b, o + j * 6 + 4, none⟩) hbw).trans g4
          have c5' := (HBl.out.cell (p := ⟨b, o + j * 6 + 5, none⟩) hbw).trans g5
          have hwr : w.heap.size < wr.heap.size := by omega
          have hbx : b < wr.heap.size := by omega
          have hb1 : Below wr.heap.size wr (wr.alloc (.cells #[.string p, .int .i64 xlv, .slice A5 hn' k5, .slice A6 fn' k6, .bool xst, .bool xof] 72)) := (Below.refl _ _).alloc (Nat.le_refl _) _
          have HRa := hid (HRl.out.newer hb1 (Rows.box wr #[.string p, .int .i64 xlv, .slice A5 hn' k5, .slice A6 fn' k6, .bool xst, .bool xof] 72 6 rfl) (by omega))
          have HSt := hid (hts.1.below (HBl.out.trans (hb1.mono HBl.out.size)) hB)
          have HSf := hid hfs.1
          have HX := hid hx
          have HP := hid hp
          have HB1 := hid (HBl.out.trans (hb1.mono HBl.out.size))
          have HK1 := hid (And.intro (HKl.out.1.to hb1) (HKl.out.2.to hb1))
          clear hx hp hps hts hfs g0 g1 g2 g3 g4 g5 hb1
          go_wp2_with (at_builtin; refine wpList_appSl _ rfl _ _ 62 rfl (wr.heap.size + 1) 9 iS _ 1 16 Tryz.underlying62 hSi hSz0 hSz1 hSz2 rfl (by decide) (.slice (some ⟨wr.heap.size + 1, 0, none⟩) 0 0) 0 [] (by rfl) (by have := World.ownsRow_lit (e := 9) (size := 1) (base := wr.heap.size + 1) (wr.alloc (.cells #[.string p, .int .i64 xlv, .slice A5 hn' k5, .slice A6 fn' k6, .bool xst, .bool xof] 72)) #[] 0 (by simp) (by unfold maxLen; omega) (by simp); simpa using this) B hn' _ _ (by rfl) (HSt.out.below ((Below.refl _ _).alloc (Nat.le_refl _) _) (Nat.le_trans hB HB1.out.size)) (txts_one xhs) (by unfold maxLen; omega) (by omega) (by simp) ?_)
          intro v3 w3 ho3 hb3
          have ho3' : w3.ownsRow (wr.heap.size + 1) 9 1 v3 hn' (xhs.map txt) := by simpa using ho3
          obtain ⟨A7, k7, rfl, _, _⟩ := (Sl.of_own ho3').form
          have hb13 : Below (wr.alloc (.cells #[.string p, .int .i64 xlv, .slice A5 hn' k5, .slice A6 fn' k6, .bool xst, .bool xof] 72)).heap.size (wr.alloc (.cells #[.string p, .int .i64 xlv, .slice A5 hn' k5, .slice A6 fn' k6, .bool xst, .bool xof] 72)) w3 := ((Below.refl _ _).alloc (Nat.le_refl _) _).trans (by simpa using hb3)
          have HRb := hid (show Rows w3 (w.heap.size + 2) ([⟨9, 1, hn', .slice A7 hn' k7, xhs.map txt⟩] ++ [bxRow 72 6 wr.heap.size [.string p, .int .i64 xlv, .slice A5 hn' k5, .slice A6 fn' k6, .bool xst, .bool xof]] ++ ([bxRow 26 3 (w.heap.size + 3) [.slice A3 j c3, .slice A4 k c4, .int .i64 q]] ++ (⟨72, 6, j, .slice A3 j c3, ls'.flatMap lcells⟩ :: (ls'.flatMap lrows ++ two 47 3 k (.slice A4 k c4) hcells hrows l')))) from by
            have := HRa.out.newer hb13 (Rows.one (r := ⟨9, 1, hn', .slice A7 hn' k7, xhs.map txt⟩) (by have := ho3'; simpa [Row.own] using this)) (by simp; omega)
            simpa [List.append_assoc] using this)
          have HRc := hid (HRb.out.boxset (j := 2) (u := .slice A7 hn' k7))
          have HB3 := hid (HB1.out.trans (hb13.mono HB1.out.size))
          have HK3 := hid (And.intro (HK1.out.1.to hb13) (HK1.out.2.to hb13))
          have m2 := (HRb.out.bcell2 (q := 2) rfl)
          have m2a := m2.1
          have m2b := m2.2.1
          have m3 := (HRb.out.bcell2 (q := 3) rfl).1
          have hz3 : wr.heap.size < w3.heap.size := m2.2.2
          have hz3b : w.heap.size + 3 < w3.heap.size := by omega
          have HB3s := hid (HB3.out.setCell (p := ⟨wr.heap.size, 2, none⟩) (show w.heap.size ≤ wr.heap.size by omega) (.slice A7 hn' k7))
          have hsfx : Sl (w3.setCell ⟨wr.heap.size, 2, none⟩ (.slice A7 hn' k7)) B 3 fn' (.slice A6 fn' k6) (fsCells xfs) := HSf.out.below HB3s.out hB
          have HSfx := hid hsfx
          clear ho3 ho3' hb3 hb13 hsfx c0 c1 c2 c3' c4' c5' m2 d0
          go_wp2_with (at_builtin; refine wpList_appSl _ rfl _ _ 45 rfl w3.heap.size 99 iF _ 3 32 Tryz.underlying45 hFi hFz0 hFz1 hFz2 rfl (by decide) (.slice (some ⟨w3.heap.size, 0, none⟩) 0 0) 0 [] (by rfl) (by have := World.ownsRow_lit (e := 99) (size := 3) (base := w3.heap.size) (w3.setCell ⟨wr.heap.size, 2, none⟩ (.slice A7 hn' k7)) #[] 0 (by simp) (by unfold maxLen; omega) (by simp); simpa using this) B fn' _ _ (by rfl) (HSfx.out.below ((Below.refl _ _).alloc (Nat.le_refl _) _) (by simp; exact Nat.le_trans hB HB3.out.size)) (flts_one xfs) (by unfold maxLen; omega) (by omega) (by simp) ?_)
          intro v4 w4 ho4 hb4
          have ho4' : w4.ownsRow w3.heap.size 99 3 v4 fn' (fsCells xfs) := by simpa using ho4
          obtain ⟨A8, k8, rfl, _, _⟩ := (Sl.of_own ho4').form
          have hb14 : Below (w3.setCell ⟨wr.heap.size, 2, none⟩ (.slice A7 hn' k7)).heap.size (w3.setCell ⟨wr.heap.size, 2, none⟩ (.slice A7 hn' k7)) w4 := ((Below.refl _ _).alloc (Nat.le_refl _) _).trans (by simpa using hb4)
          have HRd := hid (show Rows w4 (w.heap.size + 2) (([⟨99, 3, fn', .slice A8 fn' k8, fsCells xfs⟩] ++ [⟨9, 1, hn', .slice A7 hn' k7, xhs.map txt⟩]) ++ [bxRow 72 6 wr.heap.size [.string p, .int .i64 xlv, .slice A7 hn' k7, .slice A6 fn' k6, .bool xst, .bool xof]] ++ ([bxRow 26 3 (w.heap.size + 3) [.slice A3 j c3, .slice A4 k c4, .int .i64 q]] ++ (⟨72, 6, j, .slice A3 j c3, ls'.flatMap lcells⟩ :: (ls'.flatMap lrows ++ two 47 3 k (.slice A4 k c4) hcells hrows l')))) from by
            have := HRc.out.newer hb14 (Rows.one (r := ⟨99, 3, fn', .slice A8 fn' k8, fsCells xfs⟩) (by have := ho4'; simpa [Row.own] using this)) (by simp; omega)
            simpa [List.append_assoc] using this)
          have HRe := hid (HRd.out.boxset (j := 3) (u := .slice A8 fn' k8))
          have HB4 := hid (HB3s.out.trans (hb14.mono HB3s.out.size))
          have HK4 := hid (And.intro ((HK3.out.1.apart ⟨wr.heap.size, 2, none⟩ (.slice A7 hn' k7) (show wr.heap.size ≠ w.heap.size by omega)).to hb14) ((HK3.out.2.apart ⟨wr.heap.size, 2, none⟩ (.slice A7 hn' k7) (show wr.heap.size ≠ w.heap.size + 1 by omega)).to hb14))
          have y0 := (HRd.out.bcell2 (q := 0) rfl).1
          have y1 := (HRd.out.bcell2 (q := 1) rfl).1
          have y2 := (HRd.out.bcell2 (q := 2) rfl).1
          have y3 := (HRd.out.bcell2 (q := 3) rfl)
          have y3a := y3.1
          have y3b := y3.2.1
          have y4 := (HRd.out.bcell2 (q := 4) rfl).1
          have y5 := (HRd.out.bcell2 (q := 5) rfl).1
          have hz4 : wr.heap.size < w4.heap.size := y3.2.2
          have HRd2 := hid (show Rows w4 (w.heap.size + 2) ([⟨99, 3, fn', .slice A8 fn' k8, fsCells xfs⟩, ⟨9, 1, hn', .slice A7 hn' k7, xhs.map txt⟩, bxRow 72 6 wr.heap.size [.string p, .int .i64 xlv, .slice A7 hn' k7, .slice A6 fn' k6, .bool xst, .bool xof]] ++ [bxRow 26 3 (w.heap.size + 3) [.slice A3 j c3, .slice A4 k c4, .int .i64 q]] ++ (⟨72, 6, j, .slice A3 j c3, ls'.flatMap lcells⟩ :: (ls'.flatMap lrows ++ two 47 3 k (.slice A4 k c4) hcells hrows l'))) from by
            have := HRd.out
            simpa [List.append_assoc] using this)
          have o0 := (HRd2.out.bcell2 (q := 0) rfl).1
          have htop : (w4.setCell ⟨wr.heap.size, 3, none⟩ (.slice A8 fn' k8)).ownsRow (w.heap.size + 2) 72 6 (.slice A3 j c3) j (ls'.flatMap lcells) := HRe.out.1 ⟨72, 6, j, .slice A3 j c3, ls'.flatMap lcells⟩ (by simp)
          have HT := hid htop
          have hone : ∀ u ∈ [.string p, .int .i64 xlv, .slice A7 hn' k7, .slice A8 fn' k8, .bool xst, .bool xof], Value.oneCell' u = true := by
            intro u hu
            simp only [List.mem_cons, List.not_mem_nil, or_false] at hu
            rcases hu with rfl | rfl | rfl | rfl | rfl | rfl <;> rfl
          have HOne := hid hone
          have hz4b : w.heap.size + 3 < w4.heap.size := by omega
          have hszc : (w4.setCell ⟨wr.heap.size, 3, none⟩ (.slice A8 fn' k8)).heap.size = w4.heap.size := by simp
          clear ho4 ho4' hb4 hb14 htop hone y3 m2a m2b m3
          go_wp2_with (at_builtin; go_loud (refine wpList_app1L _ rfl (.tmp 52) (.tmp 54) 23 rfl (w.heap.size + 2) 72 iL _ 6 80 Tryz.underlying23 hLi hLz0 hLz1 hLz2 rfl (by decide) _ j _ (by rfl) HT.out [.string p, .int .i64 xlv, .slice A7 hn' k7, .slice A8 fn' k8, .bool xst, .bool xof] 1 _ (by rw [hszc]; rfl) rfl HOne.out (by unfold maxLen; omega) (by omega) (by simp; omega) ?_))
          intro v5 w5 ho5 hg5 hloc
          obtain ⟨A9, c9, rfl, _, _⟩ := (Sl.of_own ho5).form
          have HRf := hid (Rows.app (pre := [⟨99, 3, fn', .slice A8 fn' k8, fsCells xfs⟩, ⟨9, 1, hn', .slice A7 hn' k7, xhs.map txt⟩, bxRow 72 6 wr.heap.size [.string p, .int .i64 xlv, .slice A7 hn' k7, .slice A8 fn' k8, .bool xst, .bool xof], bxRow 26 3 (w.heap.size + 3) [.slice A3 j c3, .slice A4 k c4, .int .i64 q]]) (r := ⟨72, 6, j, .slice A3 j c3, ls'.flatMap lcells⟩) (post := ls'.flatMap lrows ++ two 47 3 k (.slice A4 k c4) hcells hrows l') (by have := HRe.out; simpa [List.append_assoc] using this) hg5 ho5 (by rw [hszc]; exact hloc))
          have HRg := hid (show Rows w5 (w.heap.size + 2) ([⟨99, 3, fn', .slice A8 fn' k8, fsCells xfs⟩, ⟨9, 1, hn', .slice A7 hn' k7, xhs.map txt⟩, bxRow 72 6 wr.heap.size [.string p, .int .i64 xlv, .slice A7 hn' k7, .slice A8 fn' k8, .bool xst, .bool xof]] ++ [bxRow 26 3 (w.heap.size + 3) [.slice A3 j c3, .slice A4 k c4, .int .i64 q]] ++ (⟨72, 6, j + 1, .slice A9 (j + 1) c9, ls'.flatMap lcells ++ [.string p, .int .i64 xlv, .slice A7 hn' k7, .slice A8 fn' k8, .bool xst, .bool xof]⟩ :: (ls'.flatMap lrows ++ two 47 3 k (.slice A4 k c4) hcells hrows l'))) from by
            have := HRf.out
            simpa [List.append_assoc] using this)
          have HRh := hid (HRg.out.boxset (j := 0) (u := .slice A9 (j + 1) c9))
          have hlo5 : ∀ z, (Value.slice A3 j c3).ownBlock = some z → w.heap.size + 2 ≤ z := own_lt HT.out
          have hne : ∀ z, z < w.heap.size + 2 → some z ≠ (Value.slice A3 j c3).ownBlock := fun z hz e => by have := hlo5 z e.symm; omega
          have HB5 := hid ((HB4.out.setCell (p := ⟨wr.heap.size, 3, none⟩) (show w.heap.size ≤ wr.heap.size by omega) (.slice A8 fn' k8)).grown hg5 (by simp; omega) (fun z hz => by have := hlo5 z hz; omega))
          have HK5 := hid (And.intro ((HK4.out.1.apart ⟨wr.heap.size, 3, none⟩ (.slice A8 fn' k8) (show wr.heap.size ≠ w.heap.size by omega)).kept hg5 (hne _ (by omega))) ((HK4.out.2.apart ⟨wr.heap.size, 3, none⟩ (.slice A8 fn' k8) (show wr.heap.size ≠ w.heap.size + 1 by omega)).kept hg5 (hne _ (by omega))))
          have z0 := (HRg.out.bcell2 (q := 0) rfl)
          have z0a := z0.1
          have z0b := z0.2.1
          clear ho5 hg5 hloc hlo5 hne z0 y0 y1 y2 y3a y3b y4 y5 o0
          go_wp2_with fail
          go_roundw
          case rel =>
            refine ⟨j + 1, ls' ++ [⟨⟨xn, xlv, xhs, xfs, xst, xof⟩, .slice A7 hn' k7, hn', .slice A8 fn' k8, fn'⟩], A9, c9, by go_num, by omega, ⟨?_, by rw [List.length_append, HCl.out.2]; rfl⟩, ?_, ⟨HK5.out.1.apart _ _ (show w.heap.size + 1 + 1 + 1 ≠ w.heap.size by omega), HK5.out.2.apart _ _ (show w.heap.size + 1 + 1 + 1 ≠ w.heap.size + 1 by omega)⟩, HB5.out.setCell (show w.heap.size ≤ w.heap.size + 1 + 1 + 1 by omega) _⟩
            · unfold lsOf at HCl ⊢
              rw [List.map_append, HCl.out.1, List.take_add_one, HX.out, List.map_append]; rfl
            · have e0 : txt xn = .string p := by rw [← HP.out, txt_data]
              have e1 : (ls' ++ [(⟨⟨xn, xlv, xhs, xfs, xst, xof⟩, .slice A7 hn' k7, hn', .slice A8 fn' k8, fn'⟩ : LgrV)]).flatMap lcells = ls'.flatMap lcells ++ [.string p, .int .i64 xlv, .slice A7 hn' k7, .slice A8 fn' k8, .bool xst, .bool xof] := by simp [lcells, e0]
              have e2 : (ls' ++ [(⟨⟨xn, xlv, xhs, xfs, xst, xof⟩, .slice A7 hn' k7, hn', .slice A8 fn' k8, fn'⟩ : LgrV)]).flatMap lrows = ls'.flatMap lrows ++ [⟨9, 1, hn', .slice A7 hn' k7, xhs.map txt⟩, ⟨99, 3, fn', .slice A8 fn' k8, fsCells xfs⟩] := by simp [lrows]
              rw [e1, e2]
              have h7 := HRh.out.perm (perm_lgr _ _ _ _ _ _ _)
              exact (h7.sub (List.sublist_append_left _ _))
          case measure => simp [intOf]; omega
        · obtain rfl : j = n1 := by omega
          have o0 := (HRl.out.bcell2 (q := 0) rfl).1
          have o1 := (HRl.out.bcell2 (q := 1) rfl).1
          have o2 := (HRl.out.bcell2 (q := 2) rfl).1
          obtain ⟨q0c, q0f⟩ := HKl.out.2.2 0 _ rfl
          obtain ⟨q1c, q1f⟩ := HKl.out.2.2 1 _ rfl
          obtain ⟨q2c, q2f⟩ := HKl.out.2.2 2 _ rfl
          have HCe := hid (show lsOf ls' = lsOf ls by rw [HCl.out.1, List.take_of_length_le (by rw [HV.out.1.count]; exact Nat.le_refl _)])
          have HCm := hid HCl.out.2
          clear HCl
          go_wp2_with fail
          have RB := ((HKl.out.2.set 0 (.slice A3 j c3)).set 1 (.slice A4 k c4)).set 2 (.int .i64 q)
          have f0 := (RB.2 0 _ rfl).1
          have f1 := (RB.2 1 _ rfl).1
          have f2 := (RB.2 2 _ rfl).1
          refine bodyPost_ret (v := .agg #[.slice A3 j c3, .slice A4 k c4, .int .i64 q]) (by simp [results, Tryz.results65, go_sem, f0, f1, f2]) rfl ?_
          refine ⟨_, _, rfl, ⟨_, _, ls', l', rfl, HCe.out, HCh.out, rfl⟩, ?_, ?_⟩
          · refine Rows.base ?_ (show w.heap.size ≤ w.heap.size + 2 by omega)
            iterate 3 refine Rows.low ?_ (by omega)
            have h9 := HRl.out.sub (List.sublist_append_right _ _)
            rw [treeRows_eq, HCm.out, HCn.out]
            simp only [two, flat_nil, List.append_assoc, List.cons_append, List.nil_append] at h9 ⊢
            exact h9
          · iterate 3 refine Below.setCell ?_ (by simp) _
            exact HBl.out
end Go.Proofs.YtioegkcekbkblaaGreat

/-
  TREES changed: the program's SetQuiet, changedLogger, SetLevel, SetStop, SetOff.
-/
namespace Go.Proofs.YtioegkcekbkblaaGreat
open Go.RowKit Nm
set_option linter.unusedSimpArgs false
set_option linter.unusedVariables false

theorem enters {f : FuncId} {fn : Func} {c : Code} (hf : Tryz.prog.funcs[f]? = some fn) (hname : (fn.name == "runtime.NumGoroutine") = false) (hb : fn.body = some c) (args : Array Value) (w : World) :
    (callFunc f args).run Tryz.prog w = .ok (.enter f args) w := by
  have h1 : fn.name ≠ "runtime.NumGoroutine" := by simpa using hname
  simp [callFunc, hf, h1, hb]

end Go.Proofs.YtioegkcekbkblaaGreat

/-
  TREES changed: the model's checkedTree and SetQuiet.
-/
namespace Go.Proofs.YtioegkcekbkblaaGreat
open Go.RowKit Nm
set_option linter.unusedSimpArgs false
set_option linter.unusedVariables false

theorem changed_fit (L : List Lgr) (H : List Hnd) (q : Int) (o : Option TreeD) : dataFit (resL (changedO L H q o)) (resH (changedO L H q o)) := by
  have hn : dataFit (resL none) (resH none) := ⟨⟨by simp [resL], by simp [resL]⟩, ⟨by simp [resH], by simp [resH]⟩⟩
  unfold changedO
  cases treeOk L H q with
  | false => exact hn
  | true =>
    cases o with
    | none => exact hn
    | some x =>
      show dataFit (resL (ifOk x.1 x.2.1 x.2.2)) (resH (ifOk x.1 x.2.1 x.2.2))
      unfold ifOk
      by_cases h : treeOk x.1 x.2.1 x.2.2 = true
      · rw [if_pos h]; exact fit_ok h
      · rw [if_neg h]; exact hn
/-- what the model's check gives -/
def CheckPost (w : World) (v : Value) (b : Bool) (e : Ending) (w' : World) : Prop :=
  e = .returned (.tuple #[if b then v else .agg #[.slice none 0 0, .slice none 0 0, .int .i64 0], .bool b]) ∧ Below w.heap.size w w'

set_option maxHeartbeats 4000000 in
set_option maxRecDepth 100000 in
theorem specChecked_c {w : World} {B : Nat} {v : Value} {L : List Lgr} {H : List Hnd} {q : Int} (h : TreeIn w B v L H q) (hB : B ≤ w.heap.size) :
    Calls Tryz.prog 67 #[v] w (CheckPost w v (treeOk L H q)) := by
  have C := hid (fun (W : World) (hW : Below w.heap.size w W) => specTreeX_c (h.below hW hB) (Nat.le_trans hB hW.size))
  obtain ⟨A1, n1, k1, A2, n2, k2, rfl⟩ := h.form
  clear h
  cases hz : treeOk L H q with
  | false =>
    rw [hz] at C
    clear hz
    go_enter Tryz.func67, Tryz.ntmps67
    go_wp2_with fail
    refine (C.out _ ?_).mono ?_
    case refine_1 => go_grown
    rintro e w1 ⟨rfl, hb1⟩
    have K1 := ((Blk.new _ _ _).to hb1)
    simp only [World.size_alloc] at K1
    have HK1 := hid K1
    have HB1 := hid (Below.trans (by go_grown) (hb1.mono (by simp; try omega)) : Below w.heap.size w w1)
    obtain ⟨q0c, q0f⟩ := HK1.out.2 0 _ rfl
    obtain ⟨q1c, q1f⟩ := HK1.out.2 1 _ rfl
    obtain ⟨q2c, q2f⟩ := HK1.out.2 2 _ rfl
    clear hb1 K1
    go_wp2_with fail
    have RB := ((HK1.out.set 0 (.slice none 0 0)).set 1 (.slice none 0 0)).set 2 (.int .i64 0)
    have f0 := (RB.2 0 _ rfl).1
    have f1 := (RB.2 1 _ rfl).1
    have f2 := (RB.2 2 _ rfl).1
    refine bodyPost_ret (v := .tuple #[.agg #[.slice none 0 0, .slice none 0 0, .int .i64 0], .bool false]) (by simp [results, Tryz.results67, go_sem, f0, f1, f2]) rfl ?_
    refine ⟨rfl, ?_⟩
    iterate 3 refine Below.setCell ?_ (by simp) _
    exact HB1.out
  | true =>
    rw [hz] at C
    clear hz
    go_enter Tryz.func67, Tryz.ntmps67
    go_wp2_with fail
    refine (C.out _ ?_).mono ?_
    case refine_1 => go_grown
    rintro e w1 ⟨rfl, hb1⟩
    have K0 := (((Blk.new _ _ _).alloc _).to hb1)
    have K1 := ((Blk.new _ _ _).to hb1)
    simp only [World.size_alloc] at K0 K1
    have HK0 := hid K0
    have HK1 := hid K1
    have HB1 := hid (Below.trans (by go_grown) (hb1.mono (by simp; try omega)) : Below w.heap.size w w1)
    have d0 := (HK0.out.2 0 _ rfl).1
    have d1 := (HK0.out.2 1 _ rfl).1
    have d2 := (HK0.out.2 2 _ rfl).1
    obtain ⟨q0c, q0f⟩ := HK1.out.2 0 _ rfl
    obtain ⟨q1c, q1f⟩ := HK1.out.2 1 _ rfl
    obtain ⟨q2c, q2f⟩ := HK1.out.2 2 _ rfl
    clear hb1 K0 K1
    go_wp2_with fail
    have RB := ((HK1.out.set 0 (.slice A1 n1 k1)).set 1 (.slice A2 n2 k2)).set 2 (.int .i64 q)
    have f0 := (RB.2 0 _ rfl).1
    have f1 := (RB.2 1 _ rfl).1
    have f2 := (RB.2 2 _ rfl).1
    refine bodyPost_ret (v := .tuple #[.agg #[.slice A1 n1 k1, .slice A2 n2 k2, .int .i64 q], .bool true]) (by simp [results, Tryz.results67, go_sem, f0, f1, f2]) rfl ?_
    refine ⟨rfl, ?_⟩
    iterate 3 refine Below.setCell ?_ (by simp) _
    exact HB1.out

end Go.Proofs.YtioegkcekbkblaaGreat

/-
  TREES changed: one cell of a logger: the program's SetLevel, SetStop, SetOff. By gen_c8.py.
-/
namespace Go.Proofs.YtioegkcekbkblaaGreat
open Go.RowKit Nm
set_option linter.unusedSimpArgs false
set_option linter.unusedVariables false

end Go.Proofs.YtioegkcekbkblaaGreat

/-
  TREES changed: one cell of a logger: the model's SetLevel, SetStop, SetOff. By gen_c9.py.
-/
namespace Go.Proofs.YtioegkcekbkblaaGreat
open Go.RowKit Nm
set_option linter.unusedSimpArgs false
set_option linter.unusedVariables false

end Go.Proofs.YtioegkcekbkblaaGreat

/-
  TREES changed: AddLogger.
-/
namespace Go.Proofs.YtioegkcekbkblaaGreat
open Go.RowKit Nm
set_option linter.unusedSimpArgs false
set_option linter.unusedVariables false

def mkL (s : List UInt8) : Lgr := ⟨s, 0, [], [], false, false⟩
theorem perm_add (a b c : List Row) (t : Row) : (c ++ (t :: (a ++ b))).Perm (t :: ((a ++ c) ++ b)) := by
  have h1 : (c ++ ([t] ++ (a ++ b))).Perm ([t] ++ (c ++ (a ++ b))) := List.perm_append_comm_assoc _ _ _
  have h2 : ([t] ++ (c ++ (a ++ b))).Perm ([t] ++ (a ++ (c ++ b))) := (List.perm_append_comm_assoc _ _ _).append_left _
  have := h1.trans h2
  simpa [List.append_assoc] using this
theorem Rows.off {W : World} {lo b j : Nat} {u : Value} {rs : List Row} (h : Rows W lo rs) (hb : ∀ r ∈ rs, r.v.ownBlock ≠ some b) : Rows (W.setCell ⟨b, j, none⟩ u) lo rs :=
  ⟨fun r hr => (h.1 r hr).kept (grown_set W b j u) (by
    cases hq : r.v.ownBlock with
    | none => exact .inl rfl
    | some g => right; intro e2; exact hb r hr (hq.trans e2)), h.2⟩
end Go.Proofs.YtioegkcekbkblaaGreat

/-
  TREES changed: the program's AddLogger.
-/
namespace Go.Proofs.YtioegkcekbkblaaGreat
open Go.RowKit Nm
set_option linter.unusedSimpArgs false
set_option linter.unusedVariables false

end Go.Proofs.YtioegkcekbkblaaGreat

/-
  TREES changed: the model's AddLogger. By gen_c12.py.
-/
namespace Go.Proofs.YtioegkcekbkblaaGreat
open Go.RowKit Nm
set_option linter.unusedSimpArgs false
set_option linter.unusedVariables false

end Go.Proofs.YtioegkcekbkblaaGreat
