/-
  A LOGGER DROPPED: DropLogger of the program and of the model. By gen_dl3.py.
-/
import Derived.Test.YteoblmhbjmefoaaDL1
import Derived.Test.YteoblmhbjmefoaaDL2
import Derived.Test.YteoblmhbjmefoaaC10
import Derived.Test.YteoblmhbjmefoaaHeld
namespace Go.Proofs.Yteoblmhbjmefoaa
open Go.RowKit Nm
set_option linter.unusedSimpArgs false
set_option linter.unusedVariables false

theorem flat_takeD {α : Type} {f : α → List Value} {d : Nat} (hf : ∀ x, (f x).length = d) (l : List α) (k : Nat) : (l.flatMap f).take (k * d) = (l.take k).flatMap f := by
  induction l generalizing k with
  | nil => simp
  | cons a l ih =>
    cases k with
    | zero => simp
    | succ k =>
      rw [List.flatMap_cons, List.take_succ_cons, List.flatMap_cons, show (k + 1) * d = (f a).length + k * d by rw [hf, Nat.succ_mul]; omega, List.take_length_add_append, ih]
theorem flat_dropD {α : Type} {f : α → List Value} {d : Nat} (hf : ∀ x, (f x).length = d) (l : List α) (k : Nat) : (l.flatMap f).drop (k * d) = (l.drop k).flatMap f := by
  induction l generalizing k with
  | nil => simp
  | cons a l ih =>
    cases k with
    | zero => simp
    | succ k =>
      rw [List.flatMap_cons, List.drop_succ_cons, show (k + 1) * d = (f a).length + k * d by rw [hf, Nat.succ_mul]; omega, List.drop_length_add_append, ih]
theorem flat_erase {α : Type} {f : α → List Value} {d : Nat} (hf : ∀ x, (f x).length = d) (l : List α) (k : Nat) : (l.flatMap f).take (k * d) ++ (l.flatMap f).drop ((k + 1) * d) = (l.eraseIdx k).flatMap f := by
  rw [flat_takeD hf, flat_dropD hf, List.eraseIdx_eq_take_drop_succ, List.flatMap_append]
theorem sub_flatM {α β : Type} {f : α → List β} {l l' : List α} (h : l'.Sublist l) : (l'.flatMap f).Sublist (l.flatMap f) := by
  induction h with
  | slnil => exact List.Sublist.refl _
  | cons a _ ih => rw [List.flatMap_cons]; exact ih.trans (List.sublist_append_right _ _)
  | cons_cons a _ ih => rw [List.flatMap_cons, List.flatMap_cons]; exact (List.Sublist.refl _).append ih
theorem lsOf_erase (ls : List LgrV) (k : Nat) : lsOf (ls.eraseIdx k) = (lsOf ls).eraseIdx k := by
  unfold lsOf
  rw [List.eraseIdx_eq_take_drop_succ, List.eraseIdx_eq_take_drop_succ, List.map_append, List.map_take, List.map_drop]
theorem hsOf_erase (hs : List HndV) (k : Nat) : hsOf (hs.eraseIdx k) = (hsOf hs).eraseIdx k := by
  unfold hsOf
  rw [List.eraseIdx_eq_take_drop_succ, List.eraseIdx_eq_take_drop_succ, List.map_append, List.map_take, List.map_drop]
theorem treeL_slices {W : World} {lo n1 n2 : Nat} {v1 v2 : Value} {ls : List LgrV} {hs : List HndV} (hr : Rows W lo (treeRows n1 v1 ls n2 v2 hs)) : (∀ u ∈ ls.flatMap lcells, u.oneCell' = true) ∧ (∀ u ∈ hs.flatMap hcells, u.oneCell' = true) := by
  obtain ⟨hl, hh⟩ := hr.lsIn
  refine ⟨lgrs_one ls fun x hx => ?_, hnds_one hs fun x hx => ?_⟩
  · obtain ⟨a, b⟩ := hl.2 x hx
    obtain ⟨A, c, e, _⟩ := a.form
    obtain ⟨A', c', e', _⟩ := b.form
    exact ⟨⟨A, _, c, e⟩, ⟨A', _, c', e'⟩⟩
  · obtain ⟨A, c, e, _⟩ := (hh.2 x hx).form
    exact ⟨A, _, c, e⟩
/-- a tree without a logger -/
theorem tree_del {W W' : World} {lo n m k : Nat} {v1 v1' v2 : Value} {ls : List LgrV} {hs : List HndV} (hn : n = ls.length) (hk : k < ls.length) (hm : m + 1 = n) (hr : Rows W lo (treeRows n v1 ls hs.length v2 hs))
    (ho : W'.ownsRow lo 49 6 v1' m ((ls.flatMap lcells).take (k * 6) ++ (ls.flatMap lcells).drop ((k + 1) * 6))) (hg : W.grownBy W' v1.ownBlock) (hv : v1'.ownBlock = v1.ownBlock) :
    Rows W' lo (treeRows (ls.eraseIdx k).length v1' (ls.eraseIdx k) hs.length v2 hs) ∧ ∀ b, (∀ r ∈ treeRows n v1 ls hs.length v2 hs, r.v.ownBlock ≠ some b) → ∀ r ∈ treeRows (ls.eraseIdx k).length v1' (ls.eraseIdx k) hs.length v2 hs, r.v.ownBlock ≠ some b := by
  subst hn
  rw [flat_erase lcells_len] at ho
  have h0 : Rows W lo ([] ++ ⟨49, 6, ls.length, v1, ls.flatMap lcells⟩ :: (ls.flatMap lrows ++ two 83 3 hs.length v2 hcells hrows hs)) := by
    rw [treeRows_eq] at hr
    simpa [two] using hr
  have h1 := Rows.app h0 hg ho (.inl hv)
  have hlen : (ls.eraseIdx k).length = m := by rw [List.length_eraseIdx, if_pos hk]; omega
  have ht : treeRows (ls.eraseIdx k).length v1' (ls.eraseIdx k) hs.length v2 hs = ⟨49, 6, m, v1', (ls.eraseIdx k).flatMap lcells⟩ :: ((ls.eraseIdx k).flatMap lrows ++ two 83 3 hs.length v2 hcells hrows hs) := by
    rw [treeRows_eq, two, hlen]; simp
  have hsub : ((ls.eraseIdx k).flatMap lrows).Sublist (ls.flatMap lrows) := sub_flatM (List.eraseIdx_sublist _ _)
  rw [ht]
  refine ⟨h1.sub (List.Sublist.cons_cons _ (hsub.append (List.Sublist.refl _))), fun b hb r hr' => ?_⟩
  rw [treeRows_eq] at hb
  rcases List.mem_cons.1 hr' with rfl | hr'
  · show v1'.ownBlock ≠ _
    rw [hv]
    exact hb ⟨49, 6, ls.length, v1, ls.flatMap lcells⟩ (by simp [two])
  · rcases List.mem_append.1 hr' with hr' | hr'
    · exact hb r (List.mem_append.2 (.inl (by simp only [two, List.mem_cons]; exact .inr (hsub.subset hr'))))
    · exact hb r (List.mem_append.2 (.inr hr'))

set_option maxHeartbeats 8000000 in
set_option maxRecDepth 100000 in
theorem dropClo_c {w : World} {L : List Lgr} {H : List Hnd} {q : Int} {k ba : Nat} (hba : w.cell? ⟨ba, 0, none⟩ = some (.int .i64 k)) (hk : k < L.length) (hok : treeOk L H q = true)
    (W : World) (lo bc : Nat) (v1 v2 : Value) (rs : List Row) (hp : CloPre w lo bc W v1 v2 rs L H q) :
    Calls Try.prog 52 #[.pointer (some ⟨bc, 0, none⟩), .pointer (some ⟨ba, 0, none⟩)] W (CloPost lo bc W (some (L.eraseIdx k, H, q))) := by
  obtain ⟨hb, hlo, hbc, hkb, hs, hr, hap, hd⟩ := hp
  obtain ⟨_, _, _, h8, _, _⟩ := tree_names hok
  have HD := hid (sub_fit hd (List.eraseIdx_sublist L k) (List.Sublist.refl H))
  have hbaw : ba < w.heap.size := World.block_lt_of_cell? w _ hba
  obtain ⟨u1, u2, ls, hs', e, h1, h2, h3⟩ := hs
  have e' : v1 = u1 ∧ v2 = u2 := by simpa using e
  obtain ⟨rfl, rfl⟩ := e'
  subst h3
  have hll : ls.length = L.length := by rw [← h1]; simp [lsOf]
  have hkl : k < ls.length := by omega
  obtain ⟨m, hm⟩ : ∃ m, m + 1 = ls.length := ⟨ls.length - 1, by omega⟩
  obtain ⟨hl, hh⟩ := hr.lsIn
  obtain ⟨A, c, rfl, hnc, hcm⟩ := hl.1.form
  obtain ⟨A4, c4, rfl, _, _⟩ := hh.1.form
  have hr0 := hr
  rw [treeRows_eq] at hr0
  have hown : W.ownsRow lo 49 6 (.slice A ls.length c) ls.length (ls.flatMap lcells) := hr.1 ⟨49, 6, ls.length, .slice A ls.length c, ls.flatMap lcells⟩ (by rw [treeRows_eq]; simp [two])
  obtain ⟨g, rfl, hglt⟩ := own_some hown (by omega)
  have hgl : lo ≤ g := (hown.lt g rfl).1
  have hgb : g ≠ bc := fun e => hap ⟨49, 6, ls.length, .slice (some ⟨g, 0, none⟩) ls.length c, ls.flatMap lcells⟩ (by rw [treeRows_eq]; simp [two]) (by rw [← e]; rfl)
  have hga : g ≠ ba := by omega
  have hbca : bc ≠ ba := by omega
  have HONE := hid (treeL_slices hr).1
  rw [← hm] at hown
  have CD := hid (deleteLgr_c (k := k) hown.drew (by omega) HONE.out (by omega))
  have HR := hid hr
  have HAP := hid hap
  have HKB := hid hkb
  have HL := hid (And.intro h1 h2)
  have HM := hid (And.intro hm hkl)
  have HLO := hid (And.intro hlo hbc)
  have HLw := hid (show lo ≤ W.heap.size by have := hkb.1; omega)
  have oa : W.cell? ⟨ba, 0, none⟩ = some (.int .i64 k) := (hb.cell (p := ⟨ba, 0, none⟩) hbaw).trans hba
  have od : W.drew.cell? ⟨bc, 0, none⟩ = some (.slice (some ⟨g, 0, none⟩) (m + 1) c) := by rw [hm]; exact (hkb.2 0 _ rfl).1
  have hm8 : m ≤ 64 := by omega
  have s0 : IntKind.i64.wrap ((k : Int) + 1) = (k : Int) + 1 := by rw [IntKind.wrap_i64]; omega
  clear hl hh hr0 hr hap hkb hd h1 h2 e hb hba hok hll hkl hm h8 hown hlo hbc
  go_enter Try.func52, Try.ntmps52
  go_wp2_with fail
  refine wp_region_held_drew (S := (fun w' : World => w'.cell? ⟨ba, 0, none⟩ = some (.int .i64 k))) (by kernel_rfl) oa (fun hS => ?_)
  refine wpAnyH_take (i := 0) (oi := ?oi101) (v := ?v101) ?hi101 (by kernel_rfl) ?hf101 ?hr101 ?hQ101 (Or.inl ⟨?hw101, ?hy101⟩) (by assumption) ?rest101
  case hi101 => simp only [List.getElem?_toArray, List.getElem?_cons_succ, List.getElem?_cons_zero]; rfl
  case hf101 => kernel_rfl
  case hr101 => kernel_rfl
  case hw101 => rfl
  case hy101 => (intro w hSw; (try dsimp only at hSw); go_simp; all_goals (first | done | with_reducible rfl))
  case hQ101 => exact fun _ _ _ h => h
  simp only [Act.put, List.setIfInBounds_toArray, List.set_cons_zero, List.set_cons_succ]
  refine wpAnyH_take (i := 1) (oi := ?oi102) (v := ?v102) ?hi102 (by kernel_rfl) ?hf102 ?hr102 ?hQ102 (Or.inl ⟨?hw102, ?hy102⟩) (by assumption) ?rest102
  case hi102 => simp only [List.getElem?_toArray, List.getElem?_cons_succ, List.getElem?_cons_zero]; rfl
  case hf102 => kernel_rfl
  case hr102 => kernel_rfl
  case hw102 => rfl
  case hy102 => (intro w hSw; (try dsimp only at hSw); go_simp; all_goals (first | done | with_reducible rfl))
  case hQ102 => exact fun _ _ _ h => h
  simp only [Act.put, List.setIfInBounds_toArray, List.set_cons_zero, List.set_cons_succ]
  refine wpAnyH_take (i := 2) (oi := ?oi103) (v := ?v103) ?hi103 (by kernel_rfl) ?hf103 ?hr103 ?hQ103 (Or.inl ⟨?hw103, ?hy103⟩) (by assumption) ?rest103
  case hi103 => simp only [List.getElem?_toArray, List.getElem?_cons_succ, List.getElem?_cons_zero]; rfl
  case hf103 => kernel_rfl
  case hr103 => kernel_rfl
  case hw103 => rfl
  case hy103 => (intro w hSw; (try dsimp only at hSw); go_simp; all_goals (first | done | with_reducible rfl))
  case hQ103 => exact fun _ _ _ h => h
  simp only [Act.put, List.setIfInBounds_toArray, List.set_cons_zero, List.set_cons_succ]
  refine wpAnyH_take (i := 3) (oi := ?oi104) (v := ?v104) ?hi104 (by kernel_rfl) ?hf104 ?hr104 ?hQ104 (Or.inl ⟨?hw104, ?hy104⟩) (by assumption) ?rest104
  case hi104 => simp only [List.getElem?_toArray, List.getElem?_cons_succ, List.getElem?_cons_zero]; rfl
  case hf104 => kernel_rfl
  case hr104 => kernel_rfl
  case hw104 => rfl
  case hy104 => (intro w hSw; (try dsimp only at hSw); go_simp; all_goals (first | done | with_reducible rfl))
  case hQ104 => exact fun _ _ _ h => h
  simp only [Act.put, List.setIfInBounds_toArray, List.set_cons_zero, List.set_cons_succ]
  refine wpAnyH_take (i := 5) (oi := ?oi105) (v := ?v105) ?hi105 (by kernel_rfl) ?hf105 ?hr105 ?hQ105 (Or.inl ⟨?hw105, ?hy105⟩) (by assumption) ?rest105
  case hi105 => simp only [List.getElem?_toArray, List.getElem?_cons_succ, List.getElem?_cons_zero]; rfl
  case hf105 => kernel_rfl
  case hr105 => kernel_rfl
  case hw105 => rfl
  case hy105 => (intro w hSw; (try dsimp only at hSw); go_simp; all_goals (first | done | with_reducible rfl))
  case hQ105 => exact fun _ _ _ h => h
  simp only [Act.put, List.setIfInBounds_toArray, List.set_cons_zero, List.set_cons_succ]
  refine wpAnyH_take (i := 6) (oi := ?oi106) (v := ?v106) ?hi106 (by kernel_rfl) ?hf106 ?hr106 ?hQ106 (Or.inl ⟨?hw106, ?hy106⟩) (by assumption) ?rest106
  case hi106 => simp only [List.getElem?_toArray, List.getElem?_cons_succ, List.getElem?_cons_zero]; rfl
  case hf106 => kernel_rfl
  case hr106 => kernel_rfl
  case hw106 => rfl
  case hy106 => (intro w hSw; (try dsimp only at hSw); go_simp; all_goals (first | done | with_reducible rfl))
  case hQ106 => exact fun _ _ _ h => h
  simp only [Act.put, List.setIfInBounds_toArray, List.set_cons_zero, List.set_cons_succ]
  refine wpAnyH_take (i := 7) (oi := ?oi107) (v := ?v107) ?hi107 (by kernel_rfl) ?hf107 ?hr107 ?hQ107 (Or.inl ⟨?hw107, ?hy107⟩) (by assumption) ?rest107
  case hi107 => simp only [List.getElem?_toArray, List.getElem?_cons_succ, List.getElem?_cons_zero]; rfl
  case hf107 => kernel_rfl
  case hr107 => kernel_rfl
  case hw107 => rfl
  case hy107 => (intro w hSw; (try dsimp only at hSw); go_simp; all_goals (first | done | with_reducible rfl))
  case hQ107 => exact fun _ _ _ h => h
  simp only [Act.put, List.setIfInBounds_toArray, List.set_cons_zero, List.set_cons_succ]
  refine wpAnyH_ready (rs := [4]) (by kernel_rfl) (by simp) ?_
  refine AllReadyH.cons (o := ?oi108) ?hi108 (fun K hK => ?step108) AllReadyH.nil
  case hi108 => simp only [List.getElem?_toArray, List.getElem?_cons_succ, List.getElem?_cons_zero]; rfl
  rw [if_pos (by rfl)]
  go_simp
  refine hK.out _ _ hS (fun hS => ?_)
  refine wpAnyH_ready (rs := [8]) (by kernel_rfl) (by simp) ?_
  refine AllReadyH.cons (o := ?oi109) ?hi109 (fun K hK => ?step109) AllReadyH.nil
  case hi109 => simp only [List.getElem?_toArray, List.getElem?_cons_succ, List.getElem?_cons_zero]; rfl
  rw [if_pos (by rfl)]
  go_simp
  go_at_call 53
  refine (CD.out).mono ?_
  rintro e w1 ⟨rfl, ho1, hg1⟩
  have HG1 := hid (show W.grownBy w1 (some g) from grown2 (grown_dr W _) hg1)
  have HK1 := hid (HKB.out.kept HG1.out (show some bc ≠ some g from fun e => hgb (Option.some.inj e).symm))
  obtain ⟨hR1, hoff⟩ := tree_del rfl HM.out.2 HM.out.1 HR.out ho1 HG1.out rfl
  have HR1 := hid (hR1.off (j := 0) (u := .slice (some ⟨g, 0, none⟩) m c) (hoff bc HAP.out))
  have HB1 := hid (show Below lo W w1 from (Below.refl lo W).grown HG1.out HLw.out (fun z hz => by obtain rfl := Option.some.inj hz; exact hgl))
  have oa1 : w1.cell? ⟨ba, 0, none⟩ = some (.int .i64 k) := (World.cell?_of_block (HG1.out.block ba (World.block_lt_of_cell? _ _ oa) (fun e => hga (Option.some.inj e).symm))).trans oa
  refine hK.out _ _ oa1 (fun hS => ?_)
  refine wpAnyH_take (i := 9) (oi := ?oi110) (v := ?v110) ?hi110 (by kernel_rfl) ?hf110 ?hr110 ?hQ110 (Or.inl ⟨?hw110, ?hy110⟩) (by assumption) ?rest110
  case hi110 => simp only [List.getElem?_toArray, List.getElem?_cons_succ, List.getElem?_cons_zero]; rfl
  case hf110 => kernel_rfl
  case hr110 => kernel_rfl
  case hw110 => rfl
  case hy110 => (intro w hSw; (try dsimp only at hSw); go_simp; all_goals (first | done | with_reducible rfl))
  case hQ110 => exact fun _ _ _ h => h
  simp only [Act.put, List.setIfInBounds_toArray, List.set_cons_zero, List.set_cons_succ]
  refine wpAnyH_take (i := 10) (oi := ?oi111) (v := ?v111) ?hi111 (by kernel_rfl) ?hf111 ?hr111 ?hQ111 (Or.inl ⟨?hw111, ?hy111⟩) (by assumption) ?rest111
  case hi111 => simp only [List.getElem?_toArray, List.getElem?_cons_succ, List.getElem?_cons_zero]; rfl
  case hf111 => kernel_rfl
  case hr111 => kernel_rfl
  case hw111 => rfl
  case hy111 => (intro w hSw; (try dsimp only at hSw); go_simp; all_goals (first | done | with_reducible rfl))
  case hQ111 => exact fun _ _ _ h => h
  simp only [Act.put, List.setIfInBounds_toArray, List.set_cons_zero, List.set_cons_succ]
  have o9 := (HK1.out.2 0 _ rfl).1
  have o9f := (HK1.out.2 0 _ rfl).2
  refine wpAnyH_ready (rs := [11]) (by kernel_rfl) (by simp) ?_
  refine AllReadyH.cons (o := ?oi112) ?hi112 (fun K hK => ?step112) AllReadyH.nil
  case hi112 => simp only [List.getElem?_toArray, List.getElem?_cons_succ, List.getElem?_cons_zero]; rfl
  rw [if_pos (by rfl)]
  go_simp
  refine hK.out _ _ ((World.cell?_setCell_far _ _ _ _ hbca).trans oa1) (fun hS => ?_)
  refine wpAnyH_done (by kernel_rfl) ?_ _
  clear oa od oa1 o9 o9f hS ho1 hg1 hR1 hoff
  have hlob := HLO.out.2
  go_wp2_with fail
  go_ret
  refine ⟨HB1.out.setCell hlob _, rfl, fun x hx => ?_⟩
  obtain rfl := Option.some.inj hx
  exact ⟨_, _, _, _, _, _, _, HK1.out.set 0 _, ⟨_, _, ls.eraseIdx k, hs', rfl, by rw [lsOf_erase, HL.out.1], HL.out.2, rfl⟩, HR1.out, HD.out⟩

set_option maxHeartbeats 4000000 in
set_option maxRecDepth 100000 in
theorem implDropLogger_c {w : World} {B : Nat} {v : Value} {L : List Lgr} {H : List Hnd} {q : Int} (s : ByteArray) (h : TreeIn w B v L H q) (hB : B ≤ w.heap.size) :
    Calls Try.prog 15 #[v, .string s] w (TreePostO w (dropX L H q s.data.toList)) := by
  have C := fun (W : World) (hW : Below w.heap.size w W) => implLoggerAtX_c s (h.below hW hB) (Nat.le_trans hB hW.size)
  have CH := hid (fun (W : World) (hW : Below w.heap.size w W) => h.below hW hB)
  obtain ⟨A1, n1, k1, A2, n2, k2, rfl⟩ := h.form
  have hmf : ∀ (fn : Fn) (first cap : Array Value) (w : World), (Instr.makeFunc fn first cap).run Try.prog w = .ok (.func fn first cap) w := fun _ _ _ _ => rfl
  clear h
  by_cases hneg : (if treeOk L H q then idxL (namesOf L) s.data.toList else -1) ≤ 0
  · have HE := hid (show dropX L H q s.data.toList = none by
      unfold dropX
      by_cases hz : treeOk L H q = true
      · rw [if_pos hz] at hneg; rw [if_pos hneg]
      · unfold changedO; rw [if_neg hz]; split <;> rfl)
    generalize (if treeOk L H q then idxL (namesOf L) s.data.toList else -1) = z at C hneg
    replace C := hid C
    clear CH
    go_enter Try.func15, Try.ntmps15
    go_wp2_with fail
    refine (C.out _ ?_).mono ?_
    case refine_1 => go_grown
    rintro e w1 ⟨rfl, hb1⟩
    have K1 := ((Blk.new _ _ _).to hb1)
    simp only [World.size_alloc] at K1
    have HK1 := hid K1
    have HB1 := hid (Below.trans (by go_grown) (hb1.mono (by simp; try omega)) : Below w.heap.size w w1)
    have HK2 := hid (HK1.out.alloc (.cells #[.int .i64 z] 3))
    have HB2 := hid (HB1.out.alloc HB1.out.size (.cells #[.int .i64 z] 3))
    obtain ⟨q0c, q0f⟩ := HK2.out.2 0 _ rfl
    obtain ⟨q1c, q1f⟩ := HK2.out.2 1 _ rfl
    obtain ⟨q2c, q2f⟩ := HK2.out.2 2 _ rfl
    clear hb1 K1
    go_wp2_with fail
    have RB := ((HK2.out.set 0 (.slice none 0 0)).set 1 (.slice none 0 0)).set 2 (.int .i64 0)
    have f0 := (RB.2 0 _ rfl).1
    have f1 := (RB.2 1 _ rfl).1
    have f2 := (RB.2 2 _ rfl).1
    refine bodyPost_ret (v := .tuple #[.agg #[.slice none 0 0, .slice none 0 0, .int .i64 0], .bool false]) (by simp [results, Try.results15, go_sem, f0, f1, f2]) rfl ?_
    refine postO_none HE.out rfl ?_
    iterate 3 refine Below.setCell ?_ (by simp; try omega) _
    exact HB2.out
  · obtain ⟨k, hzk⟩ : ∃ k : Nat, (if treeOk L H q then idxL (namesOf L) s.data.toList else -1) = (k : Int) := ⟨_, (Int.toNat_of_nonneg (by omega)).symm⟩
    have hzt : treeOk L H q = true := by
      by_cases hz : treeOk L H q = true
      · exact hz
      · rw [if_neg hz] at hneg; omega
    rw [hzk] at C hneg
    rw [if_pos hzt] at hzk
    have hkl : k < L.length := by have := (idx_nat hzk).1; simpa [namesOf] using this
    have HE := hid (show dropX L H q s.data.toList = changedO L H q (some (L.eraseIdx k, H, q)) by unfold dropX; rw [hzk, if_neg hneg]; rfl)
    have HZ := hid hzt
    replace C := hid C
    clear hzk hzt
    generalize hX : dropX L H q s.data.toList = X at HE ⊢
    clear hX
    go_enter Try.func15, Try.ntmps15
    go_wp2_with fail
    refine (C.out _ ?_).mono ?_
    case refine_1 => go_grown
    rintro e w1 ⟨rfl, hb1⟩
    have K0 := (((Blk.new _ _ _).alloc _).to hb1)
    have K1 := ((Blk.new _ _ _).to hb1)
    simp only [World.size_alloc] at K0 K1
    have HB1 := hid (Below.trans (by go_grown) (hb1.mono (by simp; try omega)) : Below w.heap.size w w1)
    have hw1 : w.heap.size + 2 ≤ w1.heap.size := by have := hb1.size; simp at this; omega
    have HW := hid (show Below w.heap.size w (w1.alloc (.cells #[.int .i64 k] 3)) from HB1.out.alloc HB1.out.size _)
    have HKA := hid (Blk.new w1 #[.int .i64 k] 3)
    have HK2 := hid (K1.alloc (.cells #[.int .i64 k] 3))
    have CQ := hid (implChanged1_c 52 (.pointer (some ⟨w1.heap.size, 0, none⟩)) (some (L.eraseIdx k, H, q)) (CH.out _ HW.out) (Nat.le_trans hB HW.out.size) (fun args w => enters rfl (by kernel_rfl) rfl args w)
      (fun W lo bc v1 v2 rs _ hp => dropClo_c (HKA.out.2 0 _ rfl).1 hkl HZ.out W lo bc v1 v2 rs hp))
    have K0' := K0.alloc (.cells #[.int .i64 k] 3)
    have d0 := (K0'.2 0 _ rfl).1
    have d1 := (K0'.2 1 _ rfl).1
    have d2 := (K0'.2 2 _ rfl).1
    clear hb1 K0 K0' K1
    go_wp2_with fail
    refine (CQ.out).mono ?_
    rintro e w2 ⟨v', rs, rfl, hs, hr, hb2⟩
    have HX' := hid (show changedO L H q (some (L.eraseIdx k, H, q)) = X from HE.out.symm)
    rw [HX'.out] at hs
    obtain ⟨u1, u2, ls, hs', rfl, hL, hH, rfl⟩ := hs
    have KR1 := hid (HK2.out.to hb2)
    have HB2 := hid (HW.out.trans (hb2.mono HW.out.size))
    have HR1 := hid (hr.base (show w.heap.size + 2 ≤ _ by simp; omega))
    have HS1 := hid (show TreeS (treeRows ls.length u1 ls hs'.length u2 hs') (.agg #[u1, u2, .int .i64 (resQ X)]) (resL X) (resH X) (resQ X) from ⟨u1, u2, ls, hs', rfl, hL, hH, rfl⟩)
    obtain ⟨hl, hh⟩ := hr.lsIn
    obtain ⟨A3, c3, rfl, _, _⟩ := hl.1.form
    obtain ⟨A4, c4, rfl, _, _⟩ := hh.1.form
    obtain ⟨q0c, q0f⟩ := KR1.out.2 0 _ rfl
    obtain ⟨q1c, q1f⟩ := KR1.out.2 1 _ rfl
    obtain ⟨q2c, q2f⟩ := KR1.out.2 2 _ rfl
    generalize hq0 : resQ X = q0 at *
    generalize hi0 : (changedO L H q (some (L.eraseIdx k, H, q))).isSome = i0 at *
    have HI := hid (show X.isSome = i0 by rw [← HX'.out]; exact hi0)
    have HQ0 := hid hq0
    clear hq0 hi0 hb2 hr hl hh hL hH
    go_wp2_with fail
    have RB := ((KR1.out.set 0 (.slice A3 ls.length c3)).set 1 (.slice A4 hs'.length c4)).set 2 (.int .i64 q0)
    have f0 := (RB.2 0 _ rfl).1
    have f1 := (RB.2 1 _ rfl).1
    have f2 := (RB.2 2 _ rfl).1
    refine bodyPost_ret (v := .tuple #[.agg #[.slice A3 ls.length c3, .slice A4 hs'.length c4, .int .i64 q0], .bool i0]) (by simp [results, Try.results15, go_sem, f0, f1, f2]) rfl ?_
    refine ⟨_, _, by rw [HI.out], (by rw [HQ0.out]; exact HS1.out), ?_, ?_⟩
    · refine Rows.base ?_ (show w.heap.size ≤ w.heap.size + 2 by omega)
      iterate 3 refine Rows.low ?_ (by omega)
      exact HR1.out
    · iterate 3 refine Below.setCell ?_ (by simp; try omega) _
      exact HB2.out

set_option maxHeartbeats 8000000 in
set_option maxRecDepth 100000 in
theorem specDropLogger_c {w : World} {B : Nat} {v : Value} {L : List Lgr} {H : List Hnd} {q : Int} (s : ByteArray) (h : TreeIn w B v L H q) (hB : B ≤ w.heap.size) :
    Calls Try.prog 13 #[v, .string s] w (TreePostO w (dropX L H q s.data.toList)) := by
  have C := hid (fun (W : World) (hW : Below w.heap.size w W) => specTreeX_c (h.below hW hB) (Nat.le_trans hB hW.size))
  obtain ⟨A1, n1, k1, A2, n2, k2, rfl⟩ := h.form
  obtain ⟨ls, hl, hL⟩ := h.loggers
  have AT := fun (W : World) (hW : Below w.heap.size w W) => loggerAt_c (.slice A1 n1 k1) n1 B ls s W (hl.below hW hB)
  have hN : lnames ls = namesOf L := by rw [← hL, namesOf_ls]
  rw [hN] at AT
  clear hN hl hL
  cases hz : treeOk L H q with
  | false =>
    have HE := hid (show dropX L H q s.data.toList = none by unfold dropX changedO; rw [hz]; split <;> rfl)
    generalize idxL (namesOf L) s.data.toList = z at AT
    replace AT := hid AT
    rw [hz] at C
    clear h hz
    go_enter Try.func13, Try.ntmps13
    go_wp2_with (go_at_call 46; refine (AT.out _ (by go_grown)).mono ?_; rintro e w2 ⟨rfl, hw2⟩; have hw2 := hw2.symm; subst hw2)
    refine (C.out _ ?_).mono ?_
    case refine_1 => go_grown
    rintro e w1 ⟨rfl, hb1⟩
    have K1 := ((Blk.new _ _ _).to hb1)
    simp only [World.size_alloc] at K1
    have HK1 := hid K1
    have HB1 := hid (Below.trans (by go_grown) (hb1.mono (by simp; try omega)) : Below w.heap.size w w1)
    obtain ⟨q0c, q0f⟩ := HK1.out.2 0 _ rfl
    obtain ⟨q1c, q1f⟩ := HK1.out.2 1 _ rfl
    obtain ⟨q2c, q2f⟩ := HK1.out.2 2 _ rfl
    clear hb1 K1
    go_wp2_with fail
    have RB := ((HK1.out.set 0 (.slice none 0 0)).set 1 (.slice none 0 0)).set 2 (.int .i64 0)
    have f0 := (RB.2 0 _ rfl).1
    have f1 := (RB.2 1 _ rfl).1
    have f2 := (RB.2 2 _ rfl).1
    refine bodyPost_ret (v := .tuple #[.agg #[.slice none 0 0, .slice none 0 0, .int .i64 0], .bool false]) (by simp [results, Try.results13, go_sem, f0, f1, f2]) rfl ?_
    refine postO_none HE.out rfl ?_
    iterate 3 refine Below.setCell ?_ (by simp) _
    exact HB1.out
  | true =>
   by_cases hneg : idxL (namesOf L) s.data.toList ≤ 0
   · have HE := hid (show dropX L H q s.data.toList = none by unfold dropX; rw [if_pos hneg])
     generalize idxL (namesOf L) s.data.toList = z at AT hneg
     have hneg' : z < 1 := by omega
     replace AT := hid AT
     rw [hz] at C
     clear h hz hneg
     go_enter Try.func13, Try.ntmps13
     go_wp2_with (go_at_call 46; refine (AT.out _ (by go_grown)).mono ?_; rintro e w2 ⟨rfl, hw2⟩; have hw2 := hw2.symm; subst hw2)
     refine (C.out _ ?_).mono ?_
     case refine_1 => go_grown
     rintro e w1 ⟨rfl, hb1⟩
     have K1 := ((Blk.new _ _ _).to hb1)
     simp only [World.size_alloc] at K1
     have HK1 := hid K1
     have HB1 := hid (Below.trans (by go_grown) (hb1.mono (by simp; try omega)) : Below w.heap.size w w1)
     obtain ⟨q0c, q0f⟩ := HK1.out.2 0 _ rfl
     obtain ⟨q1c, q1f⟩ := HK1.out.2 1 _ rfl
     obtain ⟨q2c, q2f⟩ := HK1.out.2 2 _ rfl
     clear hb1 K1
     go_wp2_with fail
     have RB := ((HK1.out.set 0 (.slice none 0 0)).set 1 (.slice none 0 0)).set 2 (.int .i64 0)
     have f0 := (RB.2 0 _ rfl).1
     have f1 := (RB.2 1 _ rfl).1
     have f2 := (RB.2 2 _ rfl).1
     refine bodyPost_ret (v := .tuple #[.agg #[.slice none 0 0, .slice none 0 0, .int .i64 0], .bool false]) (by simp [results, Try.results13, go_sem, f0, f1, f2]) rfl ?_
     refine postO_none HE.out rfl ?_
     iterate 3 refine Below.setCell ?_ (by simp) _
     exact HB1.out
   · obtain ⟨k, hzk⟩ : ∃ k : Nat, idxL (namesOf L) s.data.toList = (k : Int) := ⟨_, (Int.toNat_of_nonneg (by omega)).symm⟩
     have hkl : k < L.length := by have := (idx_nat hzk).1; simpa [namesOf] using this
     have hk0 : 0 < k := by omega
     have HN := hid (drop_some hz hzk hk0)
     rw [hzk] at AT
     replace AT := hid AT
     have HD := hid (fit_ok hz)
     have HZ := hid hz
     have CC := hid (fun (W : World) (hW : Below w.heap.size w W) => specCopy_c (h.below hW hB) hz (Nat.le_trans hB hW.size))
     obtain ⟨_, _, _, h8, _, _⟩ := tree_names hz
     rw [hz] at C
     clear h hz hneg hzk
     go_enter Try.func13, Try.ntmps13
     go_wp2_with (go_at_call 46; refine (AT.out _ (by go_grown)).mono ?_; rintro e w2 ⟨rfl, hw2⟩; have hw2 := hw2.symm; subst hw2)
     refine (C.out _ ?_).mono ?_
     case refine_1 => go_grown
     rintro e w1 ⟨rfl, hb1⟩
     have K0 := (((Blk.new _ _ _).alloc _).to hb1)
     have K1 := ((Blk.new _ _ _).to hb1)
     simp only [World.size_alloc] at K0 K1
     have HK0 := hid K0
     have HK1 := hid K1
     have HB1 := hid (Below.trans (by go_grown) (hb1.mono (by simp; try omega)) : Below w.heap.size w w1)
     have hsz1 : w.heap.size + 2 ≤ w1.heap.size := by have := hb1.size; simp at this; omega
     have d0 := (HK0.out.2 0 _ rfl).1
     have d1 := (HK0.out.2 1 _ rfl).1
     have d2 := (HK0.out.2 2 _ rfl).1
     have hk1 : ¬ (k : Int) < 1 := by omega
     clear hb1 K0 K1
     go_wp2_with fail
     refine (CC.out _ HB1.out).mono ?_
     rintro e w2 ⟨v', rs, rfl, hs, hr, hb2⟩
     obtain ⟨u1, u2, ls, hs', rfl, h1, h2, rfl⟩ := hs
     have hll : ls.length = L.length := by rw [← h1]; simp [lsOf]
     have hkl2 : k < ls.length := by omega
     obtain ⟨m, hm⟩ : ∃ m, m + 1 = ls.length := ⟨ls.length - 1, by omega⟩
     obtain ⟨hl, hh⟩ := hr.lsIn
     obtain ⟨A, c, rfl, hnc, hcm⟩ := hl.1.form
     obtain ⟨A4, c4, rfl, _, _⟩ := hh.1.form
     have hown : w2.ownsRow w1.heap.size 49 6 (.slice A ls.length c) ls.length (ls.flatMap lcells) := hr.1 ⟨49, 6, ls.length, .slice A ls.length c, ls.flatMap lcells⟩ (by rw [treeRows_eq]; simp [two])
     obtain ⟨g, rfl, hglt⟩ := own_some hown (by omega)
     have hgl : w1.heap.size ≤ g := (hown.lt g rfl).1
     have hsz12 : w1.heap.size ≤ w2.heap.size := hb2.size
     have hww1 : w.heap.size ≤ w1.heap.size := HB1.out.size
     have hgo : g ≠ w2.heap.size := by omega
     -- the world in which the copy lies in its box
     obtain ⟨i0, hi, _, hz1, _⟩ := info_parts Try.infoLogger
     have hone := (treeL_slices hr).1
     obtain ⟨A0, hA⟩ : ∃ A0 : Addr, (if c = k + 1 then (some ⟨g, 0, none⟩ : Option Addr) else some ⟨g, (k + 1) * 6, none⟩) = some A0 := by split <;> exact ⟨_, rfl⟩
     have HBA := hid (show Below w2.heap.size w2 (w2.alloc (.cells #[.slice (some ⟨g, 0, none⟩) ls.length c, .slice A4 hs'.length c4, .int .i64 q] 30)) from (Below.refl _ _).alloc (Nat.le_refl _) _)
     have HRA := hid (hr.below HBA.out.drew)
     have hownA := own_below hown HBA.out.drew
     rw [← hm] at hownA
     obtain ⟨w3, hrun, ho3, hg3⟩ := run_delete (P := Try.prog) Try.underlying27 hi hz1 hownA (by omega) (by omega) hone hA
     have HK2 := hid ((HK1.out.to hb2).alloc (.cells #[.slice (some ⟨g, 0, none⟩) ls.length c, .slice A4 hs'.length c4, .int .i64 q] 30))
     have KO := Blk.new w2 #[.slice (some ⟨g, 0, none⟩) ls.length c, .slice A4 hs'.length c4, .int .i64 q] 30
     rw [← hm] at KO HBA HK2 hnc
     have HKO3 := hid ((KO.dr 1).kept hg3 (show some w2.heap.size ≠ some g from fun e => hgo (Option.some.inj e).symm))
     have HK3 := hid ((HK2.out.dr 1).kept hg3 (show some (w.heap.size + 1) ≠ some g from fun e => by have := Option.some.inj e; omega))
     obtain ⟨hR3, hoff⟩ := tree_del rfl hkl2 hm HRA.out ho3 (by rw [← hm]; exact hg3) rfl
     have HR3 := hid (hR3.off (j := 0) (u := .slice (some ⟨g, 0, none⟩) m c) (hoff w2.heap.size (rows_below hr)))
     have HB3 := hid (show Below w1.heap.size w1 w3 from ((show Below w1.heap.size w1 w2 from hb2).trans (HBA.out.drew.mono hb2.size)).grown hg3 (Nat.le_trans hsz12 HBA.out.size) (fun z hz => by obtain rfl := Option.some.inj hz; exact hgl))
     have HRun := hid hrun
     have HL := hid (And.intro (show lsOf (ls.eraseIdx k) = L.eraseIdx k by rw [lsOf_erase, h1]) h2)
     have od : (w2.alloc (.cells #[.slice (some ⟨g, 0, none⟩) (m + 1) c, .slice A4 hs'.length c4, .int .i64 q] 30)).drew.cell? ⟨w2.heap.size, 0, none⟩ = some (.slice (some ⟨g, 0, none⟩) (m + 1) c) := (KO.2 0 _ rfl).1
     have s0 : IntKind.i64.wrap ((k : Int) + 1) = (k : Int) + 1 := by rw [IntKind.wrap_i64]; omega
     have s1 : (0 : Int) ≤ (k : Int) := by omega
     have s2 : ((k : Int)).toNat = k := by simp
     have s3 : ((k : Int) + 1).toNat = k + 1 := by omega
     have s4 : (k : Int) + 1 ≤ ((m + 1 : Nat) : Int) := by omega
     have s5 : (0 : Int) ≤ (k : Int) + 1 := by omega
     have s6 : (k : Int) ≤ (c : Int) := by omega
     have s8 : k + 1 ≤ m + 1 := by omega
     have s9 : k ≤ c := by omega
     have s10 : k ≤ m := by omega
     unfold maxLen at hcm
     rw [← hm]
     clear hb2 hr hl hh hown hownA hone hrun ho3 hg3 KO hR3 hoff h1 h2 hll hkl2 hm d0 d1 d2 h8
     go_wp2_with fail
     refine wp_region_let 11 (fun w' : World => True) (fun w' : World => w'.cell? ⟨w2.heap.size, 0, none⟩ = some (.slice (some ⟨g, 0, none⟩) (m + 1) c)) (by kernel_rfl) trivial od (fun hS => ?_)
     refine wpAnyL_take (i := 0) (oi := ?oi113) (v := ?v113) ?hi113 (by kernel_rfl) ?hf113 ?hr113 (by decide) ?hQ113 (Or.inl ⟨?hw113, ?hy113⟩) (⟨hS.1, fun h => hS.2 (by first | rfl | exact h)⟩) ?rest113
     case hi113 => simp only [List.getElem?_toArray, List.getElem?_cons_succ, List.getElem?_cons_zero]; rfl
     case hf113 => kernel_rfl
     case hr113 => kernel_rfl
     case hw113 => rfl
     case hy113 => (intro w hSw; (try dsimp only at hSw); go_simp; all_goals (first | done | with_reducible rfl))
     case hQ113 => exact fun _ _ _ h => h
     simp only [Act.put, List.setIfInBounds_toArray, List.set_cons_zero, List.set_cons_succ]
     refine wpAnyL_take (i := 2) (oi := ?oi114) (v := ?v114) ?hi114 (by kernel_rfl) ?hf114 ?hr114 (by decide) ?hQ114 (Or.inl ⟨?hw114, ?hy114⟩) (⟨hS.1, fun h => hS.2 (by first | rfl | exact h)⟩) ?rest114
     case hi114 => simp only [List.getElem?_toArray, List.getElem?_cons_succ, List.getElem?_cons_zero]; rfl
     case hf114 => kernel_rfl
     case hr114 => kernel_rfl
     case hw114 => rfl
     case hy114 => (intro w hSw; (try dsimp only at hSw); go_simp; all_goals (first | done | with_reducible rfl))
     case hQ114 => exact fun _ _ _ h => h
     simp only [Act.put, List.setIfInBounds_toArray, List.set_cons_zero, List.set_cons_succ]
     refine wpAnyL_take (i := 4) (oi := ?oi115) (v := ?v115) ?hi115 (by kernel_rfl) ?hf115 ?hr115 (by decide) ?hQ115 (Or.inl ⟨?hw115, ?hy115⟩) (⟨hS.1, fun h => hS.2 (by first | rfl | exact h)⟩) ?rest115
     case hi115 => simp only [List.getElem?_toArray, List.getElem?_cons_succ, List.getElem?_cons_zero]; rfl
     case hf115 => kernel_rfl
     case hr115 => kernel_rfl
     case hw115 => rfl
     case hy115 => (intro w hSw; (try dsimp only at hSw); go_simp; all_goals (first | done | with_reducible rfl))
     case hQ115 => exact fun _ _ _ h => h
     simp only [Act.put, List.setIfInBounds_toArray, List.set_cons_zero, List.set_cons_succ]
     refine wpAnyL_take (i := 6) (oi := ?oi116) (v := ?v116) ?hi116 (by kernel_rfl) ?hf116 ?hr116 (by decide) ?hQ116 (Or.inl ⟨?hw116, ?hy116⟩) (⟨hS.1, fun h => hS.2 (by first | rfl | exact h)⟩) ?rest116
     case hi116 => simp only [List.getElem?_toArray, List.getElem?_cons_succ, List.getElem?_cons_zero]; rfl
     case hf116 => kernel_rfl
     case hr116 => kernel_rfl
     case hw116 => rfl
     case hy116 => (intro w hSw; (try dsimp only at hSw); go_simp; all_goals (first | done | with_reducible rfl))
     case hQ116 => exact fun _ _ _ h => h
     simp only [Act.put, List.setIfInBounds_toArray, List.set_cons_zero, List.set_cons_succ]
     refine wpAnyL_take (i := 7) (oi := ?oi117) (v := ?v117) ?hi117 (by kernel_rfl) ?hf117 ?hr117 (by decide) ?hQ117 (Or.inl ⟨?hw117, ?hy117⟩) (⟨hS.1, fun h => hS.2 (by first | rfl | exact h)⟩) ?rest117
     case hi117 => simp only [List.getElem?_toArray, List.getElem?_cons_succ, List.getElem?_cons_zero]; rfl
     case hf117 => kernel_rfl
     case hr117 => kernel_rfl
     case hw117 => rfl
     case hy117 => (intro w hSw; (try dsimp only at hSw); go_simp; all_goals (first | done | with_reducible rfl))
     case hQ117 => exact fun _ _ _ h => h
     simp only [Act.put, List.setIfInBounds_toArray, List.set_cons_zero, List.set_cons_succ]
     refine wpAnyL_take1 (i := 1) (oi := ?oi118) (om := ?om118) (v := ?v118) ?hi118 (by kernel_rfl) ?hf118 ?hr118 (by decide) ?hm118 ?hd118 (by rfl) ?hQ118 (Or.inl ⟨?hw118, ?hy118⟩) (⟨hS.1, fun h => hS.2 (by first | rfl | exact h)⟩) ?rest118
     case hi118 => simp only [List.getElem?_toArray, List.getElem?_cons_succ, List.getElem?_cons_zero]; rfl
     case hm118 => simp only [List.getElem?_toArray, List.getElem?_cons_succ, List.getElem?_cons_zero]; rfl
     case hd118 => kernel_rfl
     case hf118 => kernel_rfl
     case hr118 => kernel_rfl
     case hw118 => rfl
     case hy118 => (intro w hSw; (try dsimp only at hSw); go_simp; all_goals (first | done | with_reducible rfl))
     case hQ118 => exact fun _ _ _ h => h
     simp only [Act.put, List.setIfInBounds_toArray, List.set_cons_zero, List.set_cons_succ]
     refine wpAnyL_take1 (i := 5) (oi := ?oi119) (om := ?om119) (v := ?v119) ?hi119 (by kernel_rfl) ?hf119 ?hr119 (by decide) ?hm119 ?hd119 (by rfl) ?hQ119 (Or.inl ⟨?hw119, ?hy119⟩) (⟨hS.1, fun h => hS.2 (by first | rfl | exact h)⟩) ?rest119
     case hi119 => simp only [List.getElem?_toArray, List.getElem?_cons_succ, List.getElem?_cons_zero]; rfl
     case hm119 => simp only [List.getElem?_toArray, List.getElem?_cons_succ, List.getElem?_cons_zero]; rfl
     case hd119 => kernel_rfl
     case hf119 => kernel_rfl
     case hr119 => kernel_rfl
     case hw119 => rfl
     case hy119 => (intro w hSw; (try dsimp only at hSw); go_simp; all_goals (first | done | with_reducible rfl))
     case hQ119 => exact fun _ _ _ h => h
     simp only [Act.put, List.setIfInBounds_toArray, List.set_cons_zero, List.set_cons_succ]
     refine wpAnyL_take (i := 3) (oi := ?oi120) (v := ?v120) ?hi120 (by kernel_rfl) ?hf120 ?hr120 (by decide) ?hQ120 (Or.inl ⟨?hw120, ?hy120⟩) (⟨hS.1, fun h => hS.2 (by first | rfl | exact h)⟩) ?rest120
     case hi120 => simp only [List.getElem?_toArray, List.getElem?_cons_succ, List.getElem?_cons_zero]; rfl
     case hf120 => kernel_rfl
     case hr120 => kernel_rfl
     case hw120 => rfl
     case hy120 => (intro w hSw; (try dsimp only at hSw); go_simp; all_goals (first | done | with_reducible rfl))
     case hQ120 => exact fun _ _ _ h => h
     simp only [Act.put, List.setIfInBounds_toArray, List.set_cons_zero, List.set_cons_succ]
     refine wpAnyL_take (i := 8) (oi := ?oi121) (v := ?v121) ?hi121 (by kernel_rfl) ?hf121 ?hr121 (by decide) ?hQ121 (Or.inl ⟨?hw121, ?hy121⟩) (⟨hS.1, fun h => hS.2 (by first | rfl | exact h)⟩) ?rest121
     case hi121 => simp only [List.getElem?_toArray, List.getElem?_cons_succ, List.getElem?_cons_zero]; rfl
     case hf121 => kernel_rfl
     case hr121 => kernel_rfl
     case hw121 => rfl
     case hy121 => (intro w hSw; (try dsimp only at hSw); go_simp; all_goals (first | done | with_reducible rfl))
     case hQ121 => exact fun _ _ _ h => h
     simp only [Act.put, List.setIfInBounds_toArray, List.set_cons_zero, List.set_cons_succ]
     refine wpAnyL_ready (rs := [9]) (by kernel_rfl) (by simp) ?_
     refine AllReadyL.cons (o := ?oi122) ?hi122 (fun K hK => ?step122) AllReadyL.nil
     case hi122 => simp only [List.getElem?_toArray, List.getElem?_cons_succ, List.getElem?_cons_zero]; rfl
     rw [if_pos (by rfl)]
     refine wp_app rfl (by rfl) (by rfl) HRun.out ?_
     refine hK.out _ _ ⟨trivial, fun _ => (HKO3.out.2 0 _ rfl).1⟩ (fun hS => ?_)
     simp only [Act.put, List.setIfInBounds_toArray, List.set_cons_zero, List.set_cons_succ]
     refine wpAnyL_take (i := 10) (oi := ?oi123) (v := ?v123) ?hi123 (by kernel_rfl) ?hf123 ?hr123 (by decide) ?hQ123 (Or.inl ⟨?hw123, ?hy123⟩) (⟨hS.1, fun h => hS.2 (by first | rfl | exact h)⟩) ?rest123
     case hi123 => simp only [List.getElem?_toArray, List.getElem?_cons_succ, List.getElem?_cons_zero]; rfl
     case hf123 => kernel_rfl
     case hr123 => kernel_rfl
     case hw123 => rfl
     case hy123 => (intro w hSw; (try dsimp only at hSw); go_simp; all_goals (first | done | with_reducible rfl))
     case hQ123 => exact fun _ _ _ h => h
     simp only [Act.put, List.setIfInBounds_toArray, List.set_cons_zero, List.set_cons_succ]
     have o9 := (HKO3.out.2 0 _ rfl).1
     have o9f := (HKO3.out.2 0 _ rfl).2
     refine wpAnyL_ready (rs := [11]) (by kernel_rfl) (by simp) ?_
     refine AllReadyL.cons (o := ?oi124) ?hi124 (fun K hK => ?step124) AllReadyL.nil
     case hi124 => simp only [List.getElem?_toArray, List.getElem?_cons_succ, List.getElem?_cons_zero]; rfl
     rw [if_pos (by rfl)]
     go_simp
     refine hK.out _ _ ⟨trivial, fun h => absurd h (by decide)⟩ (fun hS => ?_)
     refine wpAnyL_done (by kernel_rfl) ?_ _
     clear o9 o9f od hS
     have HKO4 := hid (HKO3.out.set 0 (.slice (some ⟨g, 0, none⟩) m c))
     have HK4 := hid (HK3.out.apart ⟨w2.heap.size, 0, none⟩ (.slice (some ⟨g, 0, none⟩) m c) (show w2.heap.size ≠ w.heap.size + 1 by omega))
     have HB4 := hid (HB1.out.trans ((HB3.out.setCell (p := ⟨w2.heap.size, 0, none⟩) hsz12 (.slice (some ⟨g, 0, none⟩) m c)).mono hww1))
     generalize w3.setCell ⟨w2.heap.size, 0, none⟩ (.slice (some ⟨g, 0, none⟩) m c) = w4 at *
     have b0 := (HKO4.out.2 0 _ rfl).1
     have b1 := (HKO4.out.2 1 _ rfl).1
     have b2 := (HKO4.out.2 2 _ rfl).1
     obtain ⟨q0c, q0f⟩ := HK4.out.2 0 _ rfl
     obtain ⟨q1c, q1f⟩ := HK4.out.2 1 _ rfl
     obtain ⟨q2c, q2f⟩ := HK4.out.2 2 _ rfl
     go_wp2_with fail
     have RB := ((HK4.out.set 0 (.slice (some ⟨g, 0, none⟩) m c)).set 1 (.slice A4 hs'.length c4)).set 2 (.int .i64 q)
     have f0 := (RB.2 0 _ rfl).1
     have f1 := (RB.2 1 _ rfl).1
     have f2 := (RB.2 2 _ rfl).1
     refine bodyPost_ret (v := .tuple #[.agg #[.slice (some ⟨g, 0, none⟩) m c, .slice A4 hs'.length c4, .int .i64 q], .bool true]) (by simp [results, Try.results13, go_sem, f0, f1, f2]) rfl ?_
     rw [HN.out]
     refine ⟨_, _, rfl, ⟨_, _, ls.eraseIdx k, hs', rfl, HL.out.1, HL.out.2, rfl⟩, ?_, ?_⟩
     · refine Rows.base ?_ hww1
       iterate 3 refine Rows.low ?_ (by omega)
       exact HR3.out
     · iterate 3 refine Below.setCell ?_ (by simp) _
       exact HB4.out
end Go.Proofs.Yteoblmhbjmefoaa
