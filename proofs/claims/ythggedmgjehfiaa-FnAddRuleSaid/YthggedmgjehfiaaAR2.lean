/-
  RULES ADDED: slices.Insert of one rule ahead of all.
-/
import Derived.Test.YthggedmgjehfiaaAR1
namespace Go.Proofs.Ythggedmgjehfiaa
open Go.RowKit Nm
set_option linter.unusedSimpArgs false
set_option linter.unusedVariables false

/-- a rule in a row of its own -/
def OneAt (W : World) (vb : Nat) (xa : Int) (xw xm : ByteArray) (xl : Int) : Prop := W.heap[vb]? = some (.cells #[.int .i64 xa, .string xw, .string xm, .int .i64 xl] 31 (0, 0))
theorem OneAt.cell {W : World} {vb : Nat} {xa xl : Int} {xw xm : ByteArray} (h : OneAt W vb xa xw xm xl) {j : Nat} {u : Value} (hu : ([.int .i64 xa, .string xw, .string xm, .int .i64 xl] : List Value)[j]? = some u) : W.cell? ⟨vb, j, none⟩ = some u := by
  rw [cell_of_row W vb j _ _ _ h]; simpa using hu
theorem OneAt.sl {W : World} {vb : Nat} {xa xl : Int} {xw xm : ByteArray} (h : OneAt W vb xa xw xm xl) (hb : vb < W.heap.size) : Sl W W.heap.size 4 1 (.slice (some ⟨vb, 0, none⟩) 1 1) ([.int .i64 xa, .string xw, .string xm, .int .i64 xl] : List Value) := by
  refine ⟨rfl, some ⟨vb, 0, none⟩, 1, rfl, Nat.le_refl _, by unfold maxLen; omega, fun _ => ⟨vb, 0, rfl, hb, fun j u hu => ?_⟩⟩
  rw [Nat.zero_add]; exact h.cell hu
theorem one_cells (xa xl : Int) (xw xm : ByteArray) : ∀ u ∈ ([.int .i64 xa, .string xw, .string xm, .int .i64 xl] : List Value), u.oneCell' = true := by
  intro u hu
  simp at hu
  rcases hu with rfl | rfl | rfl | rfl <;> rfl
def InsPost (W : World) (lo n : Nat) (xs : List Value) (e : Ending) (w' : World) : Prop := ∃ v', e = .returned v' ∧ w'.ownsRow lo 31 4 v' (n + 1) xs ∧ Below lo W w'

set_option maxHeartbeats 4000000 in
set_option maxRecDepth 100000 in
theorem insertNone_c {W : World} {lo vb : Nat} {v : Value} (xa xl : Int) (xw xm : ByteArray) (hown : W.ownsRow lo 31 4 v 0 []) (hlo : lo ≤ W.heap.size) (hx : OneAt W vb xa xw xm xl) (hvl : vb < W.heap.size) :
    Calls Try.prog 21 #[v, .int .i64 0, .slice (some ⟨vb, 0, none⟩) 1 1] W (InsPost W lo 0 ([.int .i64 xa, .string xw, .string xm, .int .i64 xl] : List Value)) := by
  obtain ⟨i0, hi, hz0, hz1, hz2⟩ := info_parts Try.infoRule
  obtain ⟨A, c, rfl, hnc, hcm⟩ := (Sl.of_own hown).form
  have HO := hid hown
  have HS := hid (hx.sl hvl)
  clear hown hx
  have hA : ∀ b, (if c = 0 then A else (A.map fun a : Addr => { a with off := a.off + 0 * 4 })) = b → True := fun _ _ => trivial
  go_enter Try.func21, Try.ntmps21
  go_wp2_with (at_builtin; refine wpList_appSl _ rfl _ _ 27 rfl lo 31 i0 _ 4 48 Try.underlying27 hi hz0 hz1 hz2 rfl (by decide) (.slice A 0 c) 0 [] (by rfl) HO.out W.heap.size 1 _ _ (by rfl) HS.out (one_cells xa xl xw xm) (by unfold maxLen; omega) (by omega) hlo ?_)
  intro v' w' ho hb
  have HO2 := hid ho
  have HB2 := hid hb
  clear ho hb
  go_wp2_with fail
  go_ret
  exact ⟨v', rfl, by simpa using HO2.out, HB2.out⟩

set_option maxHeartbeats 8000000 in
set_option maxRecDepth 100000 in
theorem insertRoom_c {W : World} {lo n c g vb : Nat} {xs : List Value} (xa xl : Int) (xw xm : ByteArray) (hown : W.ownsRow lo 31 4 (.slice (some ⟨g, 0, none⟩) n c) n xs) (h1 : ∀ u ∈ xs, u.oneCell' = true) (hn0 : 0 < n) (hn : n ≤ 64) (hlo : lo ≤ W.heap.size) (hx : OneAt W vb xa xw xm xl) (hvl : vb < W.heap.size) (hvg : vb ≠ g) (hroom : n + 1 ≤ c) :
    Calls Try.prog 21 #[.slice (some ⟨g, 0, none⟩) n c, .int .i64 0, .slice (some ⟨vb, 0, none⟩) 1 1] W (InsPost W lo n (.int .i64 xa :: .string xw :: .string xm :: .int .i64 xl :: xs)) := by
  obtain ⟨i0, hi, hz0, hz1, hz2⟩ := info_parts Try.infoRule
  have hcm : c ≤ 9223372036854775807 := by obtain ⟨A, c', e, _, h⟩ := (Sl.of_own hown).form; unfold maxLen at h; simp at e; omega
  have hlx : xs.length = n * 4 := hown.1
  obtain ⟨ys, hm⟩ := own_more hown (k := n + 1) (by omega) hroom
  have hly : ys.length = 4 := by have h9 := hm.1; rw [List.length_append] at h9; omega
  have hdr : W.drew.ownsRow lo 31 4 (.slice (some ⟨g, 0, none⟩) (n + 1) c) (n + 1) (xs ++ ys) := hm.drew
  obtain ⟨W1, hr1, ho1, hg1⟩ := own_copy (P := Try.prog) Try.underlying27 hi hz1 hdr (k := 1) (q := n) (o := 4) (cs := xs) (a := ⟨g, 0, none⟩) rfl (by omega) hlx (fun j u hu => by
    rw [Addr.add_lit, Nat.zero_add, hdr.cellAt j (by have := (List.getElem?_eq_some_iff.1 hu).1; omega)]
    rw [List.getElem?_append_left (List.getElem?_eq_some_iff.1 hu).1]; exact hu) h1
  have e1 : (xs ++ ys).take (1 * 4) ++ xs ++ (xs ++ ys).drop (1 * 4 + xs.length) = (xs ++ ys).take 4 ++ xs := by
    rw [List.drop_of_length_le (by rw [List.length_append]; omega), List.append_nil]
  rw [e1] at ho1
  have hx1 : OneAt W1 vb xa xw xm xl := (hg1.block vb hvl (fun e => hvg (Option.some.inj e))).trans hx
  obtain ⟨W2, hr2, ho2, hg2⟩ := own_copy (P := Try.prog) Try.underlying27 hi hz1 ho1 (k := 0) (q := 1) (o := 0) (cs := ([.int .i64 xa, .string xw, .string xm, .int .i64 xl] : List Value)) (a := ⟨vb, 0, none⟩) rfl (by omega) rfl (fun j u hu => by
    rw [Addr.add_lit, Nat.zero_add]; exact hx1.cell hu) (one_cells xa xl xw xm)
  have e2 : ((xs ++ ys).take 4 ++ xs).take (0 * 4) ++ ([.int .i64 xa, .string xw, .string xm, .int .i64 xl] : List Value) ++ ((xs ++ ys).take 4 ++ xs).drop (0 * 4 + ([.int .i64 xa, .string xw, .string xm, .int .i64 xl] : List Value).length) = (.int .i64 xa :: .string xw :: .string xm :: .int .i64 xl :: xs : List Value) := by
    have h4 : ((xs ++ ys).take 4).length = 4 := by rw [List.length_take, List.length_append]; omega
    simp [List.drop_append, h4]
  rw [e2] at ho2
  have hov : ∀ lb cb, (callFunc 33 #[.slice (some ⟨vb, 0, none⟩) 1 1, .slice (some ⟨g, 4, none⟩) lb cb]).run Try.prog W = .ok (.value (.bool false)) W := fun lb cb => by
    obtain ⟨cur, hcur⟩ : ∃ cur, W.heap[g]? = some (.cells cur 31 (0, 0)) ∧ cur.size = c * 4 := by
      rcases hown.2 with ⟨h', _⟩ | ⟨g', cap', cur, h', hb, hg, hnc, hcm, hcz, htk⟩
      · simp at h'
      · simp only [Value.slice.injEq, Option.some.injEq, Addr.mk.injEq, and_true, true_and] at h'
        obtain ⟨rfl, rfl⟩ := h'
        exact ⟨cur, hg, hcz⟩
    rw [run_callFunc_extern Try.func33 (by kernel_rfl) (by kernel_rfl) (by kernel_rfl) (e := Extern.SlicesOverlaps.overlaps #[27, 27] #[4]) (by kernel_rfl),
      Lib.run_overlaps_apart W 27 4 31 Try.underlying27 4 (fun w => by kernel_rfl) ⟨vb, 0, none⟩ ⟨g, 4, none⟩ 1 1 lb cb hvg 31 31 4 (c * 4) (by unfold OneAt at hx; simp [World.shape?, hx]) (by simp [World.shape?, hcur.1, hcur.2]) (by omega) (by unfold OneAt at hx; simp [World.frozen?, hx]) (by unfold OneAt at hx; simp [World.frozen?, hx])]
    rfl
  have HR1 := hid (fun (ty : TypeId) (c sc : Nat) => hr1 ty n c (n + 1) sc (Nat.min_eq_right (by omega)))
  have HR2 := hid (fun (ty : TypeId) (c sc : Nat) => hr2 ty (n + 1) c 1 sc (Nat.min_eq_left (by omega)))
  have tw : IntKind.i64.wrap 1 = 1 := by decide
  have HO2 := hid ho2
  have HB2 := hid (below_of_grown (grown2 (show W.grownBy W.drew (some g) from grown_dr W _) (grown2 hg1 hg2)) hlo (own_lt hown))
  have t1 : ¬ c = 1 := by omega
  have t2 : ((n : Int) == 0) = false := by simp; omega
  have t2' : ((0 : Int) == (n : Int)) = false := by simp; omega
  have t3 : (n : Int) + 1 ≤ (c : Int) := by omega
  have t4 : ((n : Int) + 1).toNat = n + 1 := by omega
  have t5 : (0 : Int) ≤ (n : Int) + 1 := by omega
  have t6 : (1 : Int) ≤ (n : Int) + 1 := by omega
  have t7 : IntKind.i64.wrap ((n : Int) + 1) = (n : Int) + 1 := by rw [IntKind.wrap_i64]; omega
  have t8 : ¬ c = 0 := by omega
  clear hr1 hr2 ho1 ho2 hg1 hg2 hdr hm hown e1 e2 h1 hx hx1
  go_enter Try.func21, Try.ntmps21
  go_wp2_with (simp only [hov])
  refine wp_region_held_drew (S := (fun _ : World => True)) (by kernel_rfl) trivial (fun hS => ?_)
  refine wpAnyH_take (i := 0) (oi := ?oi101) (v := ?v101) ?hi101 (by kernel_rfl) ?hf101 ?hr101 ?hQ101 (Or.inl ⟨?hw101, ?hy101⟩) (by assumption) ?rest101
  case hi101 => simp only [List.getElem?_toArray, List.getElem?_cons_succ, List.getElem?_cons_zero]; rfl
  case hf101 => kernel_rfl
  case hr101 => kernel_rfl
  case hw101 => rfl
  case hy101 => (intro w hSw; (try dsimp only at hSw); go_simp; all_goals (first | done | with_reducible rfl))
  case hQ101 => exact fun _ _ _ h => h
  simp only [Act.put, List.setIfInBounds_toArray, List.set_cons_zero, List.set_cons_succ]
  refine wpAnyH_take (i := 1) (oi := ?oi102) (v := ?v102) ?hi102 (by kernel_rfl) ?hf102 ?hr102 ?hQ102 (Or.inl ⟨?hw102, ?hy102⟩) (by assumption) ?rest102
  case hi102 => simp only [List.getElem?_toArray, List.getElem?_cons_succ, List.getElem?_cons_zero]; rfl
  case hf102 => kernel_rfl
  case hr102 => kernel_rfl
  case hw102 => rfl
  case hy102 => (intro w hSw; (try dsimp only at hSw); go_simp; all_goals (first | done | with_reducible rfl))
  case hQ102 => exact fun _ _ _ h => h
  simp only [Act.put, List.setIfInBounds_toArray, List.set_cons_zero, List.set_cons_succ]
  refine wpAnyH_take (i := 2) (oi := ?oi103) (v := ?v103) ?hi103 (by kernel_rfl) ?hf103 ?hr103 ?hQ103 (Or.inl ⟨?hw103, ?hy103⟩) (by assumption) ?rest103
  case hi103 => simp only [List.getElem?_toArray, List.getElem?_cons_succ, List.getElem?_cons_zero]; rfl
  case hf103 => kernel_rfl
  case hr103 => kernel_rfl
  case hw103 => rfl
  case hy103 => (intro w hSw; (try dsimp only at hSw); go_simp; all_goals (first | done | with_reducible rfl))
  case hQ103 => exact fun _ _ _ h => h
  simp only [Act.put, List.setIfInBounds_toArray, List.set_cons_zero, List.set_cons_succ]
  refine wpAnyH_take (i := 3) (oi := ?oi104) (v := ?v104) ?hi104 (by kernel_rfl) ?hf104 ?hr104 ?hQ104 (Or.inl ⟨?hw104, ?hy104⟩) (by assumption) ?rest104
  case hi104 => simp only [List.getElem?_toArray, List.getElem?_cons_succ, List.getElem?_cons_zero]; rfl
  case hf104 => kernel_rfl
  case hr104 => kernel_rfl
  case hw104 => rfl
  case hy104 => (intro w hSw; (try dsimp only at hSw); go_simp; all_goals (first | done | with_reducible rfl))
  case hQ104 => exact fun _ _ _ h => h
  simp only [Act.put, List.setIfInBounds_toArray, List.set_cons_zero, List.set_cons_succ]
  refine wpAnyH_take (i := 4) (oi := ?oi105) (v := ?v105) ?hi105 (by kernel_rfl) ?hf105 ?hr105 ?hQ105 (Or.inl ⟨?hw105, ?hy105⟩) (by assumption) ?rest105
  case hi105 => simp only [List.getElem?_toArray, List.getElem?_cons_succ, List.getElem?_cons_zero]; rfl
  case hf105 => kernel_rfl
  case hr105 => kernel_rfl
  case hw105 => rfl
  case hy105 => (intro w hSw; (try dsimp only at hSw); go_simp; all_goals (first | done | with_reducible rfl))
  case hQ105 => exact fun _ _ _ h => h
  simp only [Act.put, List.setIfInBounds_toArray, List.set_cons_zero, List.set_cons_succ]
  refine wpAnyH_take (i := 5) (oi := ?oi106) (v := ?v106) ?hi106 (by kernel_rfl) ?hf106 ?hr106 ?hQ106 (Or.inl ⟨?hw106, ?hy106⟩) (by assumption) ?rest106
  case hi106 => simp only [List.getElem?_toArray, List.getElem?_cons_succ, List.getElem?_cons_zero]; rfl
  case hf106 => kernel_rfl
  case hr106 => kernel_rfl
  case hw106 => rfl
  case hy106 => (intro w hSw; (try dsimp only at hSw); go_simp; all_goals (first | done | with_reducible rfl))
  case hQ106 => exact fun _ _ _ h => h
  simp only [Act.put, List.setIfInBounds_toArray, List.set_cons_zero, List.set_cons_succ]
  refine wpAnyH_take (i := 6) (oi := ?oi107) (v := ?v107) ?hi107 (by kernel_rfl) ?hf107 ?hr107 ?hQ107 (Or.inl ⟨?hw107, ?hy107⟩) (by assumption) ?rest107
  case hi107 => simp only [List.getElem?_toArray, List.getElem?_cons_succ, List.getElem?_cons_zero]; rfl
  case hf107 => kernel_rfl
  case hr107 => kernel_rfl
  case hw107 => rfl
  case hy107 => (intro w hSw; (try dsimp only at hSw); go_simp; all_goals (first | done | with_reducible rfl))
  case hQ107 => exact fun _ _ _ h => h
  simp only [Act.put, List.setIfInBounds_toArray, List.set_cons_zero, List.set_cons_succ]
  refine wpAnyH_take (i := 7) (oi := ?oi108) (v := ?v108) ?hi108 (by kernel_rfl) ?hf108 ?hr108 ?hQ108 (Or.inl ⟨?hw108, ?hy108⟩) (by assumption) ?rest108
  case hi108 => simp only [List.getElem?_toArray, List.getElem?_cons_succ, List.getElem?_cons_zero]; rfl
  case hf108 => kernel_rfl
  case hr108 => kernel_rfl
  case hw108 => rfl
  case hy108 => (intro w hSw; (try dsimp only at hSw); go_simp; all_goals (first | done | with_reducible rfl))
  case hQ108 => exact fun _ _ _ h => h
  simp only [Act.put, List.setIfInBounds_toArray, List.set_cons_zero, List.set_cons_succ]
  refine wpAnyH_ready (rs := [8]) (by kernel_rfl) (by simp) ?_
  refine AllReadyH.cons (o := ?oi109) ?hi109 (fun K hK => ?step109) AllReadyH.nil
  case hi109 => simp only [List.getElem?_toArray, List.getElem?_cons_succ, List.getElem?_cons_zero]; rfl
  rw [if_pos (by rfl)]
  refine wp_copyI rfl (by rfl) (by rfl) (HR1.out _ _ _) ?_
  refine hK.out _ _ trivial (fun _ => ?_)
  simp only [Act.put, List.setIfInBounds_toArray, List.set_cons_zero, List.set_cons_succ]
  refine wpAnyH_done (by kernel_rfl) ?_ _
  go_wp2_with (refine wpList_copyI _ rfl _ _ 27 rfl _ _ rfl rfl (HR2.out _ _ _) ?_)
  go_wp2_with fail
  go_ret
  exact ⟨_, rfl, HO2.out, HB2.out⟩

set_option maxHeartbeats 8000000 in
set_option maxRecDepth 100000 in
theorem insertMake_c {W : World} {lo n c g vb : Nat} {xs : List Value} (xa xl : Int) (xw xm : ByteArray) (hown : W.ownsRow lo 31 4 (.slice (some ⟨g, 0, none⟩) n c) n xs) (h1 : ∀ u ∈ xs, u.oneCell' = true) (hn0 : 0 < n) (hn : n ≤ 64) (hlo : lo ≤ W.heap.size) (hx : OneAt W vb xa xw xm xl) (hvl : vb < W.heap.size) (hvg : vb ≠ g) (hroom : c < n + 1) :
    Calls Try.prog 21 #[.slice (some ⟨g, 0, none⟩) n c, .int .i64 0, .slice (some ⟨vb, 0, none⟩) 1 1] W (InsPost W lo n (.int .i64 xa :: .string xw :: .string xm :: .int .i64 xl :: xs)) := by
  obtain ⟨i0, hi, hz0, hz1, hz2⟩ := info_parts Try.infoRule
  have hnc : n ≤ c := by obtain ⟨A, c', e, h, _⟩ := (Sl.of_own hown).form; simp at e; omega
  obtain rfl : c = n := by omega
  have hlx : xs.length = c * 4 := hown.1
  have hgl : g < W.heap.size := (own_some hown hn0).elim fun g' h => by have h9 := h.1; simp at h9; subst h9; exact h.2
  have hold : (Builtin.firstCells i0.size 0 (.slice (some ⟨g, 0, none⟩) 0 c)).run Try.prog W.drew = .ok ([] : List Value).toArray W.drew := run_firstCells_some W.drew i0.size 0 ⟨g, 0, none⟩ 0 c [] (by simp) (fun j v hj => by simp at hj)
  have hrz := fun ty => Lib.run_append_grow_zeros (P := Try.prog) W 27 3 ty 31 i0 _ .i64 .i64 Try.underlying27 Try.underlying3 hi hz0 (some ⟨g, 0, none⟩) 0 c [] hold (c + 1) (by omega) (by omega) (by omega) (by omega) (by rw [hz2]; omega) (by rw [hz2]; exact growslice_fits (by omega) (by omega))
  have hGn : c + 1 ≤ grownCap W (0 + (c + 1)) c 31 := by have h9 := grownCap_ge W (0 + (c + 1)) c 31; omega
  have hGm : grownCap W (0 + (c + 1)) c 31 ≤ maxLen := grownCap_le_maxLen W _ _ _ (by unfold maxLen; omega)
  generalize grownCap W (0 + (c + 1)) c 31 = G at hrz hGn hGm
  have hG63 : G ≤ 9223372036854775807 := by unfold maxLen at hGm; omega
  generalize hROW : (([] : List Value).toArray ++ Builtin.zeroCells (Value.agg #[.int .i64 0, .string ByteArray.empty, .string ByteArray.empty, .int .i64 0]).cells (c + 1) ++ Builtin.zeroCells (Value.agg #[.int .i64 0, .string ByteArray.empty, .string ByteArray.empty, .int .i64 0]).cells (G - (0 + (c + 1)))) = ROW at hrz
  have hRs : ROW.size = G * 4 := by
    rw [← hROW]
    simp only [Array.size_append, size_zeroCells, List.size_toArray, List.length_nil]
    rw [show (Value.agg #[.int .i64 0, .string ByteArray.empty, .string ByteArray.empty, .int .i64 0]).cells.size = 4 from rfl]
    omega
  clear hROW hold
  have hm := own_made W.drew ROW 31 4 (c + 1) G hRs hGn hGm
  have hW1 : Below W.heap.size W (W.drew.alloc (.cells ROW 31)) := (below_dr (Below.refl _ W) 1).alloc (Nat.le_refl _) _
  have hx1 : OneAt (W.drew.alloc (.cells ROW 31)) vb xa xw xm xl := (hW1.block vb hvl).trans hx
  have hc1 : ∀ j u, xs[j]? = some u → (W.drew.alloc (.cells ROW 31)).cell? ⟨g, j, none⟩ = some u := fun j u hu => by
    rw [hW1.cell (p := ⟨g, j, none⟩) hgl, hown.cellAt j (by have := (List.getElem?_eq_some_iff.1 hu).1; omega)]; exact hu
  generalize ROW.toList.take ((c + 1) * 4) = zs at hm
  rw [World.size_drew] at hm
  generalize hWW : W.drew.alloc (.cells ROW 31) = W1 at *
  have hlz : zs.length = (c + 1) * 4 := hm.1
  obtain ⟨W2, hr2, ho2, hg2⟩ := own_copy (P := Try.prog) Try.underlying27 hi hz1 hm (k := 0) (q := 1) (o := 0) (cs := ([.int .i64 xa, .string xw, .string xm, .int .i64 xl] : List Value)) (a := ⟨vb, 0, none⟩) rfl (by omega) rfl (fun j u hu => by
    rw [Addr.add_lit, Nat.zero_add]; exact hx1.cell hu) (one_cells xa xl xw xm)
  have hdr := ho2.drew
  obtain ⟨W3, hr3, ho3, hg3⟩ := own_copy (P := Try.prog) Try.underlying27 hi hz1 hdr (k := 1) (q := c) (o := 4) (cs := xs) (a := ⟨g, 0, none⟩) rfl (by omega) hlx (fun j u hu => by
    rw [Addr.add_lit, Nat.zero_add]
    have h8 := hg2.block g (Nat.lt_of_lt_of_le hgl hW1.size) (fun e => by have := Option.some.inj e; omega)
    exact (World.cell?_of_block (a := ⟨g, j, none⟩) (w' := W2.drew) (by exact h8)).trans (hc1 j u hu)) h1
  have hZ4 : (zs.take (0 * 4) ++ ([.int .i64 xa, .string xw, .string xm, .int .i64 xl] : List Value) ++ zs.drop (0 * 4 + ([.int .i64 xa, .string xw, .string xm, .int .i64 xl] : List Value).length)).take (1 * 4) = ([.int .i64 xa, .string xw, .string xm, .int .i64 xl] : List Value) := by simp
  have hZl : (zs.take (0 * 4) ++ ([.int .i64 xa, .string xw, .string xm, .int .i64 xl] : List Value) ++ zs.drop (0 * 4 + ([.int .i64 xa, .string xw, .string xm, .int .i64 xl] : List Value).length)).length = (c + 1) * 4 := by simp [hlz]; omega
  generalize (zs.take (0 * 4) ++ ([.int .i64 xa, .string xw, .string xm, .int .i64 xl] : List Value) ++ zs.drop (0 * 4 + ([.int .i64 xa, .string xw, .string xm, .int .i64 xl] : List Value).length)) = Z at ho3 hZ4 hZl
  rw [hZ4, List.drop_of_length_le (by rw [hZl, hlx]; omega), List.append_nil] at ho3
  have HRZ := hid hrz
  have HR2 := hid (fun (ty : TypeId) (c' sc : Nat) => hr2 ty (c + 1) c' 1 sc (Nat.min_eq_left (by omega)))
  have HR3 := hid (fun (ty : TypeId) (c' sc : Nat) => hr3 ty c c' c sc (Nat.min_self _))
  have tw : IntKind.i64.wrap 1 = 1 := by decide
  have t6 : (1 : Int) ≤ (c : Int) + 1 := by omega
  have HO3 := hid (own_base ho3 hlo)
  have HB3 := hid (show Below lo W W3 from (hW1.mono hlo).trans (below_of_grown (grown2 hg2 (grown2 (show W2.grownBy W2.drew (some W.heap.size) from grown_dr W2 _) hg3)) (Nat.le_trans hlo hW1.size) (fun k hk => by have := Option.some.inj hk; omega)))
  have t1 : ¬ G = 1 := by omega
  have t2 : ((c : Int) == 0) = false := by simp; omega
  have t2' : ((0 : Int) == (c : Int)) = false := by simp; omega
  have t7 : IntKind.i64.wrap ((c : Int) + 1) = (c : Int) + 1 := by rw [IntKind.wrap_i64]; omega
  have t8 : ¬ G = 0 := by omega
  have t9 : ¬ c = 0 := by omega
  clear hrz hr2 hr3 ho2 ho3 hg2 hg3 hdr hm hown h1 hx hx1 hc1 hZ4 hZl hW1
  go_enter Try.func21, Try.ntmps21
  go_wp2_with (first
    | (at_builtin; refine Lib.wpList_append_run _ rfl _ _ _ _ rfl _ _ rfl rfl _ _ (HRZ.out _) ?_)
    | (refine wpList_copyI _ rfl _ _ 27 rfl _ _ rfl rfl (HR2.out _ _ _) ?_))
  refine wp_region_held_drew (S := (fun _ : World => True)) (by kernel_rfl) trivial (fun hS => ?_)
  refine wpAnyH_take (i := 0) (oi := ?oi110) (v := ?v110) ?hi110 (by kernel_rfl) ?hf110 ?hr110 ?hQ110 (Or.inl ⟨?hw110, ?hy110⟩) (by assumption) ?rest110
  case hi110 => simp only [List.getElem?_toArray, List.getElem?_cons_succ, List.getElem?_cons_zero]; rfl
  case hf110 => kernel_rfl
  case hr110 => kernel_rfl
  case hw110 => rfl
  case hy110 => (intro w hSw; (try dsimp only at hSw); go_simp; all_goals (first | done | with_reducible rfl))
  case hQ110 => exact fun _ _ _ h => h
  simp only [Act.put, List.setIfInBounds_toArray, List.set_cons_zero, List.set_cons_succ]
  refine wpAnyH_take (i := 1) (oi := ?oi111) (v := ?v111) ?hi111 (by kernel_rfl) ?hf111 ?hr111 ?hQ111 (Or.inl ⟨?hw111, ?hy111⟩) (by assumption) ?rest111
  case hi111 => simp only [List.getElem?_toArray, List.getElem?_cons_succ, List.getElem?_cons_zero]; rfl
  case hf111 => kernel_rfl
  case hr111 => kernel_rfl
  case hw111 => rfl
  case hy111 => (intro w hSw; (try dsimp only at hSw); go_simp; all_goals (first | done | with_reducible rfl))
  case hQ111 => exact fun _ _ _ h => h
  simp only [Act.put, List.setIfInBounds_toArray, List.set_cons_zero, List.set_cons_succ]
  refine wpAnyH_take (i := 2) (oi := ?oi112) (v := ?v112) ?hi112 (by kernel_rfl) ?hf112 ?hr112 ?hQ112 (Or.inl ⟨?hw112, ?hy112⟩) (by assumption) ?rest112
  case hi112 => simp only [List.getElem?_toArray, List.getElem?_cons_succ, List.getElem?_cons_zero]; rfl
  case hf112 => kernel_rfl
  case hr112 => kernel_rfl
  case hw112 => rfl
  case hy112 => (intro w hSw; (try dsimp only at hSw); go_simp; all_goals (first | done | with_reducible rfl))
  case hQ112 => exact fun _ _ _ h => h
  simp only [Act.put, List.setIfInBounds_toArray, List.set_cons_zero, List.set_cons_succ]
  refine wpAnyH_take (i := 3) (oi := ?oi113) (v := ?v113) ?hi113 (by kernel_rfl) ?hf113 ?hr113 ?hQ113 (Or.inl ⟨?hw113, ?hy113⟩) (by assumption) ?rest113
  case hi113 => simp only [List.getElem?_toArray, List.getElem?_cons_succ, List.getElem?_cons_zero]; rfl
  case hf113 => kernel_rfl
  case hr113 => kernel_rfl
  case hw113 => rfl
  case hy113 => (intro w hSw; (try dsimp only at hSw); go_simp; all_goals (first | done | with_reducible rfl))
  case hQ113 => exact fun _ _ _ h => h
  simp only [Act.put, List.setIfInBounds_toArray, List.set_cons_zero, List.set_cons_succ]
  refine wpAnyH_take (i := 4) (oi := ?oi114) (v := ?v114) ?hi114 (by kernel_rfl) ?hf114 ?hr114 ?hQ114 (Or.inl ⟨?hw114, ?hy114⟩) (by assumption) ?rest114
  case hi114 => simp only [List.getElem?_toArray, List.getElem?_cons_succ, List.getElem?_cons_zero]; rfl
  case hf114 => kernel_rfl
  case hr114 => kernel_rfl
  case hw114 => rfl
  case hy114 => (intro w hSw; (try dsimp only at hSw); go_simp; all_goals (first | done | with_reducible rfl))
  case hQ114 => exact fun _ _ _ h => h
  simp only [Act.put, List.setIfInBounds_toArray, List.set_cons_zero, List.set_cons_succ]
  refine wpAnyH_take (i := 5) (oi := ?oi115) (v := ?v115) ?hi115 (by kernel_rfl) ?hf115 ?hr115 ?hQ115 (Or.inl ⟨?hw115, ?hy115⟩) (by assumption) ?rest115
  case hi115 => simp only [List.getElem?_toArray, List.getElem?_cons_succ, List.getElem?_cons_zero]; rfl
  case hf115 => kernel_rfl
  case hr115 => kernel_rfl
  case hw115 => rfl
  case hy115 => (intro w hSw; (try dsimp only at hSw); go_simp; all_goals (first | done | with_reducible rfl))
  case hQ115 => exact fun _ _ _ h => h
  simp only [Act.put, List.setIfInBounds_toArray, List.set_cons_zero, List.set_cons_succ]
  refine wpAnyH_take (i := 6) (oi := ?oi116) (v := ?v116) ?hi116 (by kernel_rfl) ?hf116 ?hr116 ?hQ116 (Or.inl ⟨?hw116, ?hy116⟩) (by assumption) ?rest116
  case hi116 => simp only [List.getElem?_toArray, List.getElem?_cons_succ, List.getElem?_cons_zero]; rfl
  case hf116 => kernel_rfl
  case hr116 => kernel_rfl
  case hw116 => rfl
  case hy116 => (intro w hSw; (try dsimp only at hSw); go_simp; all_goals (first | done | with_reducible rfl))
  case hQ116 => exact fun _ _ _ h => h
  simp only [Act.put, List.setIfInBounds_toArray, List.set_cons_zero, List.set_cons_succ]
  refine wpAnyH_take (i := 7) (oi := ?oi117) (v := ?v117) ?hi117 (by kernel_rfl) ?hf117 ?hr117 ?hQ117 (Or.inl ⟨?hw117, ?hy117⟩) (by assumption) ?rest117
  case hi117 => simp only [List.getElem?_toArray, List.getElem?_cons_succ, List.getElem?_cons_zero]; rfl
  case hf117 => kernel_rfl
  case hr117 => kernel_rfl
  case hw117 => rfl
  case hy117 => (intro w hSw; (try dsimp only at hSw); go_simp; all_goals (first | done | with_reducible rfl))
  case hQ117 => exact fun _ _ _ h => h
  simp only [Act.put, List.setIfInBounds_toArray, List.set_cons_zero, List.set_cons_succ]
  refine wpAnyH_ready (rs := [8]) (by kernel_rfl) (by simp) ?_
  refine AllReadyH.cons (o := ?oi118) ?hi118 (fun K hK => ?step118) AllReadyH.nil
  case hi118 => simp only [List.getElem?_toArray, List.getElem?_cons_succ, List.getElem?_cons_zero]; rfl
  rw [if_pos (by rfl)]
  refine wp_copyI rfl (by rfl) (by rfl) (HR3.out _ _ _) ?_
  refine hK.out _ _ trivial (fun _ => ?_)
  simp only [Act.put, List.setIfInBounds_toArray, List.set_cons_zero, List.set_cons_succ]
  refine wpAnyH_done (by kernel_rfl) ?_ _
  go_wp2_with fail
  go_ret
  exact ⟨_, rfl, HO3.out, HB3.out⟩

theorem insertRul_c {W : World} {lo n vb : Nat} {v : Value} {xs : List Value} (xa xl : Int) (xw xm : ByteArray) (hown : W.ownsRow lo 31 4 v n xs) (h1 : ∀ u ∈ xs, u.oneCell' = true) (hn : n ≤ 64) (hlo : lo ≤ W.heap.size) (hx : OneAt W vb xa xw xm xl) (hvl : vb < W.heap.size) (hvg : v.ownBlock ≠ some vb) :
    Calls Try.prog 21 #[v, .int .i64 0, .slice (some ⟨vb, 0, none⟩) 1 1] W (InsPost W lo n (.int .i64 xa :: .string xw :: .string xm :: .int .i64 xl :: xs)) := by
  rcases Nat.eq_zero_or_pos n with hn0 | hn0
  · subst hn0
    obtain rfl : xs = [] := List.length_eq_zero_iff.1 (by have := hown.1; omega)
    exact insertNone_c xa xl xw xm hown hlo hx hvl
  · obtain ⟨A, c, rfl, hnc, hcm⟩ := (Sl.of_own hown).form
    obtain ⟨g, rfl, hgl⟩ := own_some hown hn0
    have hne : vb ≠ g := fun e => hvg (by rw [e]; rfl)
    by_cases hr : n + 1 ≤ c
    · exact insertRoom_c xa xl xw xm hown h1 hn0 hn hlo hx hvl hne hr
    · exact insertMake_c xa xl xw xm hown h1 hn0 hn hlo hx hvl hne (by omega)
end Go.Proofs.Ythggedmgjehfiaa
