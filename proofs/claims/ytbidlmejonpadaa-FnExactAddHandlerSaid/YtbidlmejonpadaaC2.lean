/-
  TREES copied: the program's copyTree.
-/
import Derived.Test.YtbidlmejonpadaaC1
namespace Go.Proofs.Ytbidlmejonpadaa
open Go.RowKit Nm
set_option linter.unusedSimpArgs false
set_option linter.unusedVariables false

theorem take_set {α : Type} {l : List α} {k : Nat} {x : α} (h : l[k]? = some x) (y : α) : (l.set k y).take (k + 1) = l.take k ++ [y] := by
  rw [List.take_add_one, set_at h, List.take_set_of_le (Nat.le_refl _)]; rfl
theorem lsOf_set {l : List LgrV} {k : Nat} {x y : LgrV} (h : l[k]? = some x) (e : y.l = x.l) : lsOf (l.set k y) = lsOf l := by
  unfold lsOf
  rw [List.map_set, e]
  refine List.ext_getElem? fun j => ?_
  by_cases hj : j = k
  · subst hj
    rw [List.getElem?_set_self (by rw [List.length_map]; exact (List.getElem?_eq_some_iff.1 h).1), List.getElem?_map, h]; rfl
  · rw [List.getElem?_set_ne (by omega)]
theorem hsOf_set {l : List HndV} {k : Nat} {x y : HndV} (h : l[k]? = some x) (e : y.h = x.h) : hsOf (l.set k y) = hsOf l := by
  unfold hsOf
  rw [List.map_set, e]
  refine List.ext_getElem? fun j => ?_
  by_cases hj : j = k
  · subst hj
    rw [List.getElem?_set_self (by rw [List.length_map]; exact (List.getElem?_eq_some_iff.1 h).1), List.getElem?_map, h]; rfl
  · rw [List.getElem?_set_ne (by omega)]
theorem perm_two (a b : Row) (l m : List Row) : ([a] ++ [b] ++ l ++ m).Perm (l ++ (m ++ [b, a])) := by
  have h1 : ([a] ++ [b] ++ l ++ m).Perm ((l ++ m) ++ [b, a]) := by
    rw [List.append_assoc]
    exact List.perm_append_comm.trans ((List.Perm.swap b a []).append_left _)
  simp only [List.append_assoc] at h1 ⊢
  exact h1
theorem flat_nil {α : Type} (l : List α) : l.flatMap (fun _ => ([] : List Row)) = [] := by
  induction l with
  | nil => rfl
  | cons a l ih => rw [List.flatMap_cons, ih]; rfl
theorem perm_one (a : Row) (p l m : List Row) : ([a] ++ p ++ l ++ m).Perm (p ++ l ++ (m ++ [a])) := by
  have h1 : ([a] ++ (p ++ l ++ m)).Perm ((p ++ l ++ m) ++ [a]) := List.perm_append_comm
  simp only [List.append_assoc] at h1 ⊢
  exact h1
theorem tree_small {L : List Lgr} {H : List Hnd} {q : Int} (h : treeOk L H q = true) : (∀ l ∈ L, l.fs.length ≤ 3) ∧ (∀ x ∈ H, x.fs.length ≤ 3) ∧ H.length ≤ 6 := by
  unfold treeOk lgrsOk hndsOk at h
  simp only [Bool.and_eq_true, decide_eq_true_eq, List.all_eq_true] at h
  obtain ⟨_, ⟨h1, h2, h3⟩, h4, _⟩ := h
  refine ⟨fun l hl => ?_, fun x hx => ?_, h3⟩
  · have := h4 l hl
    unfold lgrOk filtersOk at this
    simp only [Bool.and_eq_true, decide_eq_true_eq] at this
    exact this.2.2.1.2
  · have := h1 x hx
    unfold hndOk filtersOk at this
    simp only [Bool.and_eq_true, decide_eq_true_eq] at this
    exact this.2.2.2.2

set_option maxHeartbeats 16000000 in
set_option maxRecDepth 100000 in
theorem implCopy_c {w : World} {B : Nat} {v : Value} {L : List Lgr} {H : List Hnd} {q : Int} (h : TreeIn w B v L H q) (hok : treeOk L H q = true) (hB : B ≤ w.heap.size) :
    Calls Try.prog 91 #[v] w (TreePost w L H q) := by
  obtain ⟨ls, hs, ⟨A1, n1, k1, A2, n2, k2, rfl, hl, hh, _, _, hhn⟩, rfl, rfl⟩ := h
  obtain ⟨_, _, _, h8, _, _⟩ := tree_names hok
  obtain ⟨hf1, hf2, h6⟩ := tree_small hok
  have hn1 : n1 ≤ 8 := by have := hl.count; simp [lsOf] at h8; omega
  have hn2 : n2 ≤ 6 := by have := hh.count; simp [hsOf] at h6; omega
  have HF1 := hid (show ∀ x ∈ ls, x.fn ≤ 3 from fun x hx => by have := hf1 x.l (List.mem_map.2 ⟨x, hx, rfl⟩); have := (hl.2 x hx).2.2.len; omega)
  have HF2 := hid (show ∀ x ∈ hs, x.fn ≤ 3 from fun x hx => by have := hf2 x.h (List.mem_map.2 ⟨x, hx, rfl⟩); have := (hh.2 x hx).2.len; omega)
  have C1 := hid (fun (W : World) (hW : Below w.heap.size w W) => freshLgr_c (.slice A1 n1 k1) n1 B ls W (hl.1.below hW hB) hl.slices (by omega))
  have C2 := hid (fun (W : World) (hW : Below w.heap.size w W) => freshHnd_c (.slice A2 n2 k2) n2 B hs W (hh.1.below hW hB) hh.slices (by omega))
  have HV := hid (And.intro hl (And.intro hh hhn))
  clear hl hh hhn hok h8 hf1 hf2 h6
  go_enter Try.func91, Try.ntmps91
  go_wp2_with fail
  refine (C1.out _ ?_).mono ?_
  case refine_1 => go_grown
  rintro e w1 ⟨v1', rfl, ho1, hb1⟩
  obtain ⟨A3, c3, rfl, h3c, h3m⟩ := (Sl.of_own ho1).form
  unfold maxLen at h3m
  have K0 := ((Blk.new _ _ _).alloc _).to hb1
  have K1 := (Blk.new _ _ _).to hb1
  simp only [World.size_alloc] at K0 K1
  have HK := hid (And.intro K0 K1)
  have HB1 := hid (Below.trans (by go_grown) (hb1.mono (by simp; try omega)) : Below w.heap.size w w1)
  have HR1 := hid (show Rows w1 (w.heap.size + 2) (two 65 6 n1 (.slice A3 n1 c3) lcells (fun _ => []) ls ++ (ls.take 0).flatMap lrows) from by
    have : Rows w1 (w.heap.size + 2) [⟨65, 6, n1, .slice A3 n1 c3, ls.flatMap lcells⟩] := Rows.one (show Row.own _ _ _ from by have := own_base ho1 (base' := w.heap.size + 2) (by simp); exact this)
    simpa [two, flat_nil] using this)
  have hsz1 : w.heap.size + 2 ≤ w1.heap.size := by have := hb1.size; simp at this; omega
  have e0 := (HK.out.1.2 0 _ rfl).1
  have f0 := (HK.out.1.2 0 _ rfl).2
  clear K0 K1 hb1 ho1
  go_wp2_with fail
  have HKs := hid (And.intro (HK.out.1.set 0 (.slice A3 n1 c3)) (HK.out.2.apart ⟨w.heap.size, 0, none⟩ (.slice A3 n1 c3) (by simp)))
  have HBs := hid (HB1.out.setCell (p := ⟨w.heap.size, 0, none⟩) (Nat.le_refl _) (.slice A3 n1 c3))
  have HRs := hid (HR1.out.low (b := w.heap.size) (j := 0) (u := .slice A3 n1 c3) (by omega))
  clear e0 f0
  go_loopw [14] (fun cv wr => ∃ (k : Nat) (cur : List LgrV), cv = .int .i64 k ∧ k ≤ n1 ∧ Hid (lsOf cur = lsOf ls ∧ cur.length = n1 ∧ (∀ j, k ≤ j → cur[j]? = ls[j]?)) ∧ Hid (Rows wr (w.heap.size + 2) (two 65 6 n1 (.slice A3 n1 c3) lcells (fun _ => []) cur ++ (cur.take k).flatMap lrows)) ∧
    Hid (Blk wr w.heap.size [.slice A3 n1 c3, .slice A2 n2 k2, .int .i64 q] ∧ Blk wr (w.heap.size + 1) [.slice none 0 0, .slice none 0 0, .int .i64 0]) ∧ Hid (Below w.heap.size w wr ∧ w.heap.size + 2 ≤ wr.heap.size)) (fun cv _ => n1 - (intOf cv).toNat)
  case atStart => exact ⟨0, ls, rfl, by omega, ⟨rfl, HV.out.1.count, fun _ _ => rfl⟩, HRs.out, ⟨HKs.out.1, HKs.out.2⟩, ⟨HBs.out, by simpa using hsz1⟩⟩
  case round =>
    obtain ⟨k, cur, rfl, hk, HC, HR, HKx, HBx⟩ := hrel
    by_cases hlt : k < n1
    · obtain ⟨x, hx⟩ : ∃ x, ls[k]? = some x := ⟨_, List.getElem?_eq_getElem (by rw [HV.out.1.count]; exact hlt)⟩
      have hcx : cur[k]? = some x := (HC.out.2.2 k (Nat.le_refl _)).trans hx
      obtain ⟨_, ht, hfs⟩ := HV.out.1.2 x (List.mem_of_getElem? hx)
      have hxn := HV.out.2.2 x (List.mem_of_getElem? hx)
      have hxf := HF1.out x (List.mem_of_getElem? hx)
      obtain ⟨A5, k5, e5, _, _⟩ := ht.1.form
      obtain ⟨A6, k6, e6, _, _⟩ := hfs.1.form
      obtain ⟨xl, xhv, hn', xfv, fn'⟩ := x
      simp only at e5 e6 ht hfs hxn hxf
      subst e5 e6
      have CT := hid (fun (W : World) (hW : Below w.heap.size w W) => freshText_c (.slice A5 hn' k5) hn' B xl.hs W (ht.1.below hW hB) hxn)
      have CF := hid (fun (W : World) (hW : Below w.heap.size w W) => freshFlt_c (.slice A6 fn' k6) fn' B xl.fs W (hfs.1.below hW hB) (by omega))
      have HCX := hid hcx
      have HX := hid hx
      have d0 := (HKx.out.1.2 0 _ rfl).1
      have HR0 := hid (show Rows wr (w.heap.size + 2) ([] ++ two 65 6 n1 (.slice A3 n1 c3) lcells (fun _ => []) cur ++ (cur.take k).flatMap lrows) from HR.out)
      obtain ⟨g, rfl, hglt⟩ := own_some HR0.out.top (by omega)
      have c2 := (HR0.out.cell_at (j := 2) lcells_len hcx rfl).1
      have hgl : w.heap.size + 2 ≤ g := (HR0.out.top.lt g rfl).1
      have hszr := HBx.out.2
      have hk6 : k * 6 + 6 ≤ n1 * 6 := by omega
      clear hx hcx ht hfs
      go_wp2_with fail
      refine (CT.out _ HBx.out.1).mono ?_
      rintro e w3 ⟨v3, rfl, ho3, hb3⟩
      obtain ⟨A7, k7, rfl, _, _⟩ := (Sl.of_own ho3).form
      have HRa := hid (show Rows w3 (w.heap.size + 2) ([⟨9, 1, hn', .slice A7 hn' k7, xl.hs.map txt⟩] ++ two 65 6 n1 (.slice (some ⟨g, 0, none⟩) n1 c3) lcells (fun _ => []) cur ++ (cur.take k).flatMap lrows) from by
        rw [List.append_assoc]; exact HR.out.newer hb3 (Rows.one (r := ⟨9, 1, hn', .slice A7 hn' k7, xl.hs.map txt⟩) ho3) hszr)
      have HRb := hid (HRa.out.cellset (j := 2) (e := 0) (x := ⟨xl, .slice A5 hn' k5, hn', .slice A6 fn' k6, fn'⟩) (y := ⟨xl, .slice A7 hn' k7, hn', .slice A6 fn' k6, fn'⟩) (u := .slice A7 hn' k7) lcells_len (fun _ => rfl) HCX.out (by omega) rfl rfl)
      have m2 := HRa.out.cell_at (j := 2) lcells_len HCX.out rfl
      have m2a := m2.1
      have m2b := m2.2
      have m3 := (HRa.out.cell_at (j := 3) lcells_len HCX.out rfl).1
      have HB3 := hid (HBx.out.1.trans (hb3.mono HBx.out.1.size))
      have HK3 := hid (And.intro (HKx.out.1.to hb3) (HKx.out.2.to hb3))
      have hsz3 : w.heap.size + 2 ≤ w3.heap.size := Nat.le_trans hszr hb3.size
      have hg3 : g < w3.heap.size := Nat.lt_of_lt_of_le hglt hb3.size
      clear hb3 ho3 d0 c2 m2
      go_wp2_with fail
      refine (CF.out _ (HB3.out.setCell (p := ⟨g, k * 6 + 2, none⟩) (by show w.heap.size ≤ g; omega) _)).mono ?_
      rintro e w4 ⟨v4, rfl, ho4, hb4⟩
      obtain ⟨A8, k8, rfl, _, _⟩ := (Sl.of_own ho4).form
      have HRc := hid (show Rows w4 (w.heap.size + 2) ([⟨83, 3, fn', .slice A8 fn' k8, fsCells xl.fs⟩] ++ [⟨9, 1, hn', .slice A7 hn' k7, xl.hs.map txt⟩] ++ two 65 6 n1 (.slice (some ⟨g, 0, none⟩) n1 c3) lcells (fun _ => []) (cur.set k ⟨xl, .slice A7 hn' k7, hn', .slice A6 fn' k6, fn'⟩) ++ (cur.take k).flatMap lrows) from by
        have := HRb.out.newer hb4 (Rows.one (r := ⟨83, 3, fn', .slice A8 fn' k8, fsCells xl.fs⟩) ho4) (by simpa using hsz3)
        simp only [List.append_assoc] at this ⊢
        exact this)
      have HRd := hid (HRc.out.cellset (j := 3) (e := 0) (x := ⟨xl, .slice A7 hn' k7, hn', .slice A6 fn' k6, fn'⟩) (y := ⟨xl, .slice A7 hn' k7, hn', .slice A8 fn' k8, fn'⟩) (u := .slice A8 fn' k8) lcells_len (fun _ => rfl) (set_at HCX.out _) (by omega) rfl rfl)
      have m3 := HRc.out.cell_at (j := 3) lcells_len (set_at HCX.out _) rfl
      have m3a := m3.1
      have m3b := m3.2
      have HB4 := hid ((HB3.out.setCell (p := ⟨g, k * 6 + 2, none⟩) (by show w.heap.size ≤ g; omega) (.slice A7 hn' k7)).trans (hb4.mono (by simpa using HB3.out.size)))
      have HK4 := hid (And.intro ((HK3.out.1.apart ⟨g, k * 6 + 2, none⟩ (.slice A7 hn' k7) (by show g ≠ _; omega)).to hb4) ((HK3.out.2.apart ⟨g, k * 6 + 2, none⟩ (.slice A7 hn' k7) (by show g ≠ _; omega)).to hb4))
      have hsz4 : w.heap.size + 2 ≤ w4.heap.size := Nat.le_trans hsz3 (by simpa using hb4.size)
      clear hb4 ho4 m2a m2b m3
      go_wp2_with fail
      go_roundw
      case rel =>
        refine ⟨k + 1, cur.set k ⟨xl, .slice A7 hn' k7, hn', .slice A8 fn' k8, fn'⟩, by go_num, by omega, ⟨?_, ?_, ?_⟩, ?_, ⟨HK4.out.1.apart _ _ (by show g ≠ _; omega), HK4.out.2.apart _ _ (by show g ≠ _; omega)⟩, ⟨HB4.out.setCell (by show w.heap.size ≤ g; omega) _, by simpa using hsz4⟩⟩
        · rw [lsOf_set (y := ⟨xl, .slice A7 hn' k7, hn', .slice A8 fn' k8, fn'⟩) HCX.out rfl]; exact HC.out.1
        · rw [List.length_set]; exact HC.out.2.1
        · intro j hj
          rw [List.getElem?_set_ne (by omega)]; exact HC.out.2.2 j (by omega)
        · have h7 := HRd.out
          rw [List.set_set] at h7
          have h8 := h7.perm (perm_two _ _ _ _)
          rw [take_set HCX.out, List.flatMap_append]
          exact h8
      case measure => simp [intOf]; omega
    · obtain rfl : k = n1 := by omega
      have d1 := (HKx.out.1.2 1 _ rfl).1
      have hszr := HBx.out.2
      have HRl := hid (show Rows wr (w.heap.size + 2) (two 65 6 k (.slice A3 k c3) lcells lrows cur) from by
        have := HR.out
        rw [List.take_of_length_le (by rw [HC.out.2.1]; exact Nat.le_refl _)] at this
        simpa [two, flat_nil] using this)
      have HL := hid HC.out.1
      have HCl := hid HC.out.2.1
      go_wp2_with fail
      refine (C2.out _ HBx.out.1).mono ?_
      rintro e w2 ⟨v2', rfl, ho2, hb2⟩
      obtain ⟨A4, c4, rfl, h4c, h4m⟩ := (Sl.of_own ho2).form
      unfold maxLen at h4m
      have HRm := hid (show Rows w2 (w.heap.size + 2) (two 65 6 k (.slice A3 k c3) lcells lrows cur ++ two 49 3 n2 (.slice A4 n2 c4) hcells (fun _ => []) hs ++ (hs.take 0).flatMap hrows) from by
        have := HRl.out.more hb2 (Rows.one (r := ⟨49, 3, n2, .slice A4 n2 c4, hs.flatMap hcells⟩) ho2) hszr
        have e : two 49 3 n2 (.slice A4 n2 c4) hcells (fun _ => []) hs = [⟨49, 3, n2, .slice A4 n2 c4, hs.flatMap hcells⟩] := by rw [two, flat_nil]
        rw [e, List.take_zero, List.flatMap_nil, List.append_nil]; exact this)
      have HK2 := hid (And.intro (HKx.out.1.to hb2) (HKx.out.2.to hb2))
      have HB2 := hid (HBx.out.1.trans (hb2.mono HBx.out.1.size))
      have hsz2 : w.heap.size + 2 ≤ w2.heap.size := Nat.le_trans hszr hb2.size
      have e1 := (HK2.out.1.2 1 _ rfl).1
      have f1 := (HK2.out.1.2 1 _ rfl).2
      clear d1 hb2 ho2
      go_wp2_with fail
      have HKs2 := hid (And.intro (HK2.out.1.set 1 (.slice A4 n2 c4)) (HK2.out.2.apart ⟨w.heap.size, 1, none⟩ (.slice A4 n2 c4) (by simp)))
      have HBs2 := hid (HB2.out.setCell (p := ⟨w.heap.size, 1, none⟩) (Nat.le_refl _) (.slice A4 n2 c4))
      have HRs2 := hid (HRm.out.low (b := w.heap.size) (j := 1) (u := .slice A4 n2 c4) (by omega))
      clear e1 f1
      go_loopw [45] (fun cv wx => ∃ (j : Nat) (cuh : List HndV), cv = .int .i64 j ∧ j ≤ n2 ∧ Hid (hsOf cuh = hsOf hs ∧ cuh.length = n2 ∧ (∀ i, j ≤ i → cuh[i]? = hs[i]?)) ∧ Hid (Rows wx (w.heap.size + 2) (two 65 6 k (.slice A3 k c3) lcells lrows cur ++ two 49 3 n2 (.slice A4 n2 c4) hcells (fun _ => []) cuh ++ (cuh.take j).flatMap hrows)) ∧
        Hid (Blk wx w.heap.size [.slice A3 k c3, .slice A4 n2 c4, .int .i64 q] ∧ Blk wx (w.heap.size + 1) [.slice none 0 0, .slice none 0 0, .int .i64 0]) ∧ Hid (Below w.heap.size w wx ∧ w.heap.size + 2 ≤ wx.heap.size)) (fun cv _ => n2 - (intOf cv).toNat)
      case atStart => exact ⟨0, hs, rfl, by omega, ⟨rfl, HV.out.2.1.count, fun _ _ => rfl⟩, HRs2.out, ⟨HKs2.out.1, HKs2.out.2⟩, ⟨HBs2.out, by simpa using hsz2⟩⟩
      case round =>
        obtain ⟨j, cuh, rfl, hj, HCh, HRh, HKh, HBh⟩ := hrel
        by_cases hlt2 : j < n2
        · obtain ⟨x, hx⟩ : ∃ x, hs[j]? = some x := ⟨_, List.getElem?_eq_getElem (by rw [HV.out.2.1.count]; exact hlt2)⟩
          have hcx : cuh[j]? = some x := (HCh.out.2.2 j (Nat.le_refl _)).trans hx
          obtain ⟨_, hfs⟩ := HV.out.2.1.2 x (List.mem_of_getElem? hx)
          have hxf := HF2.out x (List.mem_of_getElem? hx)
          obtain ⟨A6, k6, e6, _, _⟩ := hfs.1.form
          obtain ⟨xl, xfv, fn'⟩ := x
          simp only at e6 hfs hxf
          subst e6
          have CF := hid (fun (W : World) (hW : Below w.heap.size w W) => freshFlt_c (.slice A6 fn' k6) fn' B xl.fs W (hfs.1.below hW hB) (by omega))
          have HCX := hid hcx
          have d0 := (HKh.out.1.2 1 _ rfl).1
          obtain ⟨g, rfl, hglt⟩ := own_some HRh.out.top (by omega)
          have hgl : w.heap.size + 2 ≤ g := (HRh.out.top.lt g rfl).1
          have c2 := (HRh.out.cell_at (j := 2) hcells_len hcx rfl).1
          have hszx := HBh.out.2
          have hj3 : j * 3 + 3 ≤ n2 * 3 := by omega
          clear hx hcx hfs
          go_wp2_with fail
          refine (CF.out _ HBh.out.1).mono ?_
          rintro e w4 ⟨v4, rfl, ho4, hb4⟩
          obtain ⟨A8, k8, rfl, _, _⟩ := (Sl.of_own ho4).form
          have HRc := hid (show Rows w4 (w.heap.size + 2) (([⟨83, 3, fn', .slice A8 fn' k8, fsCells xl.fs⟩] ++ two 65 6 k (.slice A3 k c3) lcells lrows cur) ++ two 49 3 n2 (.slice (some ⟨g, 0, none⟩) n2 c4) hcells (fun _ => []) cuh ++ (cuh.take j).flatMap hrows) from by
            have := HRh.out.newer hb4 (Rows.one (r := ⟨83, 3, fn', .slice A8 fn' k8, fsCells xl.fs⟩) ho4) hszx
            simp only [List.append_assoc] at this ⊢
            exact this)
          have HRd := hid (HRc.out.cellset (j := 2) (e := 0) (x := ⟨xl, .slice A6 fn' k6, fn'⟩) (y := ⟨xl, .slice A8 fn' k8, fn'⟩) (u := .slice A8 fn' k8) hcells_len (fun _ => rfl) HCX.out (by omega) rfl rfl)
          have m3 := HRc.out.cell_at (j := 2) hcells_len HCX.out rfl
          have m3a := m3.1
          have m3b := m3.2
          have HB4 := hid (HBh.out.1.trans (hb4.mono HBh.out.1.size))
          have HK4 := hid (And.intro (HKh.out.1.to hb4) (HKh.out.2.to hb4))
          have hsz4 : w.heap.size + 2 ≤ w4.heap.size := Nat.le_trans hszx hb4.size
          clear hb4 ho4 c2 m3 d0
          go_wp2_with fail
          go_roundw
          case rel =>
            refine ⟨j + 1, cuh.set j ⟨xl, .slice A8 fn' k8, fn'⟩, by go_num, by omega, ⟨?_, ?_, ?_⟩, ?_, ⟨HK4.out.1.apart _ _ (by show g ≠ _; omega), HK4.out.2.apart _ _ (by show g ≠ _; omega)⟩, ⟨HB4.out.setCell (by show w.heap.size ≤ g; omega) _, by simpa using hsz4⟩⟩
            · rw [hsOf_set (y := ⟨xl, .slice A8 fn' k8, fn'⟩) HCX.out rfl]; exact HCh.out.1
            · rw [List.length_set]; exact HCh.out.2.1
            · intro i hi
              rw [List.getElem?_set_ne (by omega)]; exact HCh.out.2.2 i (by omega)
            · have h8 := HRd.out.perm (perm_one _ _ _ _)
              rw [take_set HCX.out, List.flatMap_append]
              exact h8
          case measure => simp [intOf]; omega
        · obtain rfl : j = n2 := by omega
          have e0 := (HKh.out.1.2 0 _ rfl).1
          have e1 := (HKh.out.1.2 1 _ rfl).1
          have e2 := (HKh.out.1.2 2 _ rfl).1
          obtain ⟨q0c, q0f⟩ := HKh.out.2.2 0 _ rfl
          obtain ⟨q1c, q1f⟩ := HKh.out.2.2 1 _ rfl
          obtain ⟨q2c, q2f⟩ := HKh.out.2.2 2 _ rfl
          go_wp2_with fail
          have RB := ((HKh.out.2.set 0 (.slice A3 k c3)).set 1 (.slice A4 j c4)).set 2 (.int .i64 q)
          have f0 := (RB.2 0 _ rfl).1
          have f1 := (RB.2 1 _ rfl).1
          have f2 := (RB.2 2 _ rfl).1
          refine bodyPost_ret (v := .agg #[.slice A3 k c3, .slice A4 j c4, .int .i64 q]) (by simp [results, Try.results91, go_sem, f0, f1, f2]) rfl ?_
          refine ⟨_, _, rfl, ⟨_, _, cur, cuh, rfl, HL.out, HCh.out.1, rfl⟩, ?_, ?_⟩
          · refine Rows.base ?_ (show w.heap.size ≤ w.heap.size + 2 by omega)
            iterate 3 refine Rows.low ?_ (by omega)
            have h9 := HRh.out
            rw [List.take_of_length_le (by rw [HCh.out.2.1]; exact Nat.le_refl _)] at h9
            rw [treeRows_eq, HCl.out, HCh.out.2.1]
            simp only [two, flat_nil, List.append_assoc, List.cons_append, List.nil_append] at h9 ⊢
            exact h9
          · iterate 3 refine Below.setCell ?_ (by simp) _
            exact HBh.out.1
end Go.Proofs.Ytbidlmejonpadaa
