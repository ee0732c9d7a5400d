/-
  A HANDLER NAMED ANEW: the program's change.
-/
import Derived.Test.YteoblmhbjmefoaaNH1
namespace Go.Proofs.Yteoblmhbjmefoaa
open Go.RowKit Nm
set_option linter.unusedSimpArgs false
set_option linter.unusedVariables false

theorem nm_set {α : Type} {X : List α} {k : Nat} {l : α} (h : X[k]? = some l) : X.set k l = X := by
  refine List.ext_getElem? fun i => ?_
  by_cases hi : i = k
  · subst hi; rw [List.getElem?_set_self (List.getElem?_eq_some_iff.1 h).1, h]
  · rw [List.getElem?_set_ne (by omega)]
theorem idx_natN {ns : List Name} {x : Name} (h : ¬ idxL ns x < 0) : ∃ k : Nat, idxL ns x = (k : Int) ∧ k < ns.length ∧ ns[k]? = some x := by
  obtain ⟨k, hk⟩ : ∃ k : Nat, idxL ns x = (k : Int) := ⟨_, (Int.toNat_of_nonneg (by omega)).symm⟩
  exact ⟨k, hk, idx_nat hk⟩
theorem hset_of {hs : List HndV} {H : List Hnd} (h : hsOf hs = H) {k : Nat} {y : HndV} (hy : hs[k]? = some y) (t : Name) : hsOf (hs.set k { y with h := { y.h with nm := t } }) = setNm H k t := by
  subst h
  unfold hsOf setNm
  rw [List.map_set, List.getElem?_map, hy]; rfl
theorem renL_none {s t : Name} {l : Lgr} (h : s ∉ l.hs) : renL s t l = l := by unfold renL; rw [ren_none h]

set_option maxHeartbeats 8000000 in
set_option maxRecDepth 100000 in
theorem nameClo_c {w : World} {L : List Lgr} {H : List Hnd} {q : Int} {bf bt : Nat} (f t : ByteArray) (hfz : f.size ≤ maxTxt) (htz : t.size ≤ maxTxt) (hbf : w.cell? ⟨bf, 0, none⟩ = some (.string f)) (hbt : w.cell? ⟨bt, 0, none⟩ = some (.string t)) (hok : treeOk L H q = true)
    (W : World) (lo bc : Nat) (v1 v2 : Value) (rs : List Row) (hp : CloPre w lo bc W v1 v2 rs L H q) :
    Calls Try.prog 85 #[.pointer (some ⟨bc, 0, none⟩), .pointer (some ⟨bf, 0, none⟩), .pointer (some ⟨bt, 0, none⟩)] W (CloPost lo bc W (if idxL (hnm H) f.data.toList < 0 then none else some (renT L f.data.toList t.data.toList, setNm H (idxL (hnm H) f.data.toList).toNat t.data.toList, q))) := by
  obtain ⟨hb, hlo, hbc, hkb, hs, hr, hap, hd⟩ := hp
  obtain ⟨_, _, _, h8, h1l, _⟩ := tree_names hok
  have h6 := tree_hlen hok
  have HND := hid (fun (l : Lgr) (hl : l ∈ L) => tree_nodup hok hl)
  have HTX := hid (fun (l : Lgr) (hl : l ∈ L) => (hd.1.2 l hl).2.1.2)
  have HD := hid (rename_fit (s := f.data.toList) (idxL (hnm H) f.data.toList).toNat hd (by rw [← Lib.size_eq]; exact htz : t.data.toList.length ≤ maxTxt))
  have hbfw : bf < w.heap.size := World.block_lt_of_cell? w _ hbf
  have hbtw : bt < w.heap.size := World.block_lt_of_cell? w _ hbt
  have CHA := hid (implHandlerAt_c f (hs.at_ (hr.below (Below.refl W.heap.size W).drew) hd) (Nat.le_refl _))
  obtain ⟨u1, u2, ls, hs', e, h1, h2, h3⟩ := hs
  have e' : v1 = u1 ∧ v2 = u2 := by simpa using e
  obtain ⟨rfl, rfl⟩ := e'
  subst h3
  have hll : ls.length = L.length := by rw [← h1]; simp [lsOf]
  have hlh : hs'.length = H.length := by rw [← h2]; simp [hsOf]
  obtain ⟨hl, hh⟩ := hr.lsIn
  obtain ⟨A, c, rfl, hnc, hcm⟩ := hl.1.form
  obtain ⟨A4, c4, rfl, hnc4, hcm4⟩ := hh.1.form
  clear hl hh
  rw [treeRows_eq] at hr hap
  have hr0 : Rows W lo ([] ++ two 49 6 ls.length (.slice A ls.length c) lcells lrows ls ++ two 83 3 hs'.length (.slice A4 hs'.length c4) hcells hrows hs') := by simpa using hr
  obtain ⟨g, rfl, hglt⟩ := own_some hr0.top (by omega)
  have hgl : lo ≤ g := (hr0.top.lt g rfl).1
  have hgb : g ≠ bc := fun e => hap ⟨49, 6, ls.length, .slice (some ⟨g, 0, none⟩) ls.length c, ls.flatMap lcells⟩ (by simp [two]) (by rw [← e]; rfl)
  have HNB := hid (show ∀ x ∈ ls, x.hv.ownBlock ≠ some bc from fun x hx => hap ⟨9, 1, x.hn, x.hv, x.l.hs.map txt⟩ (by
    rw [List.mem_append]; left
    simp only [two, List.mem_cons, List.mem_flatMap]
    exact .inr ⟨x, hx, by simp [lrows]⟩))
  have HHB := hid (show (Value.slice A4 hs'.length c4).ownBlock ≠ some bc from hap ⟨83, 3, hs'.length, .slice A4 hs'.length c4, hs'.flatMap hcells⟩ (by
    rw [List.mem_append]; right
    simp [two]))
  have hgf : g ≠ bf := by omega
  have hgt : g ≠ bt := by omega
  generalize hN : ls.length = n at *
  have hn8 : n ≤ 8 := by omega
  unfold maxLen at hcm hcm4
  have HR := hid hr0
  have HKB := hid hkb
  have HB := hid hb
  have HBF := hid hbf
  have HBT := hid hbt
  have HH := hid h2
  have HL := hid h1
  have HNe := hid (And.intro hgb (And.intro hgf hgt))
  have HLn := hid hll
  have HLh := hid hlh
  have HLe := hid hN
  have d0 := (HKB.out.2 0 _ rfl).1
  have d1 := (HKB.out.2 1 _ rfl).1
  have d2 := (HKB.out.2 2 _ rfl).1
  have cf := (HB.out.cell (p := ⟨bf, 0, none⟩) hbfw).trans hbf
  clear hap hr hr0 hkb hd h1 h2 e hbf hbt hok hb hgb hgf hgt hll hlh hN h8 h1l
  generalize hO : (if idxL (hnm H) f.data.toList < 0 then none else some (renT L f.data.toList t.data.toList, setNm H (idxL (hnm H) f.data.toList).toNat t.data.toList, q)) = O
  have HO := hid hO
  clear hO
  have HIX := hid (fun (h : ¬ idxL (hnm H) f.data.toList < 0) => idx_natN h)
  go_enter Try.func85, Try.ntmps85
  go_wp2_with fail
  refine wp_region_held_drew (S := (fun w' : World => (w'.cell? ⟨bc, 0, none⟩ = some (.slice (some ⟨g, 0, none⟩) n c) ∧ w'.cell? ⟨bc, 1, none⟩ = some (.slice A4 hs'.length c4) ∧ w'.cell? ⟨bc, 2, none⟩ = some (.int .i64 q)) ∧ w'.cell? ⟨bf, 0, none⟩ = some (.string f))) (by kernel_rfl) ⟨⟨d0, d1, d2⟩, cf⟩ (fun hS => ?_)
  refine wpAnyH_take (i := 0) (oi := ?oi101) (v := ?v101) ?hi101 (by kernel_rfl) ?hf101 ?hr101 ?hQ101 (Or.inl ⟨?hw101, ?hy101⟩) (by assumption) ?rest101
  case hi101 => simp only [List.getElem?_toArray, List.getElem?_cons_succ, List.getElem?_cons_zero]; rfl
  case hf101 => kernel_rfl
  case hr101 => kernel_rfl
  case hw101 => rfl
  case hy101 => (intro w hSw; (try dsimp only at hSw); go_simp; all_goals (first | done | with_reducible rfl))
  case hQ101 => exact fun _ _ _ h => h
  simp only [Act.put, List.setIfInBounds_toArray, List.set_cons_zero, List.set_cons_succ]
  refine wpAnyH_take (i := 1) (oi := ?oi102) (v := ?v102) ?hi102 (by kernel_rfl) ?hf102 ?hr102 ?hQ102 (Or.inl ⟨?hw102, ?hy102⟩) (by assumption) ?rest102
  case hi102 => simp only [List.getElem?_toArray, List.getElem?_cons_succ, List.getElem?_cons_zero]; rfl
  case hf102 => kernel_rfl
  case hr102 => kernel_rfl
  case hw102 => rfl
  case hy102 => (intro w hSw; (try dsimp only at hSw); go_simp; all_goals (first | done | with_reducible rfl))
  case hQ102 => exact fun _ _ _ h => h
  simp only [Act.put, List.setIfInBounds_toArray, List.set_cons_zero, List.set_cons_succ]
  refine wpAnyH_take (i := 2) (oi := ?oi103) (v := ?v103) ?hi103 (by kernel_rfl) ?hf103 ?hr103 ?hQ103 (Or.inl ⟨?hw103, ?hy103⟩) (by assumption) ?rest103
  case hi103 => simp only [List.getElem?_toArray, List.getElem?_cons_succ, List.getElem?_cons_zero]; rfl
  case hf103 => kernel_rfl
  case hr103 => kernel_rfl
  case hw103 => rfl
  case hy103 => (intro w hSw; (try dsimp only at hSw); go_simp; all_goals (first | done | with_reducible rfl))
  case hQ103 => exact fun _ _ _ h => h
  simp only [Act.put, List.setIfInBounds_toArray, List.set_cons_zero, List.set_cons_succ]
  refine wpAnyH_take (i := 3) (oi := ?oi104) (v := ?v104) ?hi104 (by kernel_rfl) ?hf104 ?hr104 ?hQ104 (Or.inl ⟨?hw104, ?hy104⟩) (by assumption) ?rest104
  case hi104 => simp only [List.getElem?_toArray, List.getElem?_cons_succ, List.getElem?_cons_zero]; rfl
  case hf104 => kernel_rfl
  case hr104 => kernel_rfl
  case hw104 => rfl
  case hy104 => (intro w hSw; (try dsimp only at hSw); go_simp; all_goals (first | done | with_reducible rfl))
  case hQ104 => exact fun _ _ _ h => h
  simp only [Act.put, List.setIfInBounds_toArray, List.set_cons_zero, List.set_cons_succ]
  refine wpAnyH_ready (rs := [4]) (by kernel_rfl) (by simp) ?_
  refine AllReadyH.cons (o := ?oi105) ?hi105 (fun K hK => ?step105) AllReadyH.nil
  case hi105 => simp only [List.getElem?_toArray, List.getElem?_cons_succ, List.getElem?_cons_zero]; rfl
  rw [if_pos (by rfl)]
  go_simp
  go_at_call 63
  refine (CHA.out).mono ?_
  rintro e w1 ⟨rfl, hb1⟩
  have HW1 := hid (show Below W.heap.size W w1 from ((Below.refl W.heap.size W).drew).trans hb1)
  have K1 := HKB.out.to HW1.out
  have HK1 := hid K1
  have HR1 := hid (HR.out.below HW1.out)
  have HL1 := hid (HW1.out.mono (show lo ≤ W.heap.size by have := HKB.out.1; omega))
  refine hK.out _ _ ⟨⟨(K1.2 0 _ rfl).1, (K1.2 1 _ rfl).1, (K1.2 2 _ rfl).1⟩, (HW1.out.cell (p := ⟨bf, 0, none⟩) (World.block_lt_of_cell? _ _ cf)).trans cf⟩ (fun hS => ?_)
  refine wpAnyH_take (i := 5) (oi := ?oi106) (v := ?v106) ?hi106 (by kernel_rfl) ?hf106 ?hr106 ?hQ106 (Or.inl ⟨?hw106, ?hy106⟩) (by assumption) ?rest106
  case hi106 => simp only [List.getElem?_toArray, List.getElem?_cons_succ, List.getElem?_cons_zero]; rfl
  case hf106 => kernel_rfl
  case hr106 => kernel_rfl
  case hw106 => rfl
  case hy106 => (intro w hSw; (try dsimp only at hSw); go_simp; all_goals (first | done | with_reducible rfl))
  case hQ106 => exact fun _ _ _ h => h
  simp only [Act.put, List.setIfInBounds_toArray, List.set_cons_zero, List.set_cons_succ]
  refine wpAnyH_done (by kernel_rfl) ?_ _
  clear hb1 K1 d0 d1 d2 hS
  by_cases hneg : idxL (hnm H) f.data.toList < 0
  · have HO1 := hid (show O = none by rw [← HO.out, if_pos hneg])
    generalize idxL (hnm H) f.data.toList = ix at *
    go_wp2_with fail
    go_ret
    exact ⟨HL1.out, by rw [HO1.out]; rfl, fun x hx => by rw [HO1.out] at hx; cases hx⟩
  obtain ⟨kk, hkk, hkl, hkx⟩ := HIX.out (by omega)
  have hO1 : O = some (renT L f.data.toList t.data.toList, setNm H kk t.data.toList, q) := by rw [← HO.out, if_neg hneg, hkk]; rfl
  rw [hkk] at HD
  rw [hkk]
  have hkH : kk < hs'.length := by have := HLh.out; unfold hnm at hkl; rw [List.length_map] at hkl; omega
  obtain ⟨y, hy⟩ : ∃ y, hs'[kk]? = some y := ⟨_, List.getElem?_eq_getElem hkH⟩
  have HO2 := hid hO1
  have HYS := hid (hset_of HH.out hy t.data.toList)
  -- the handler's row
  have hrh : Rows w1 lo (two 49 6 n (.slice (some ⟨g, 0, none⟩) n c) lcells lrows ls ++ two 83 3 hs'.length (.slice A4 hs'.length c4) hcells hrows hs' ++ []) := by simpa using HR1.out
  obtain ⟨g4, rfl, _⟩ := own_some hrh.top (by omega)
  have hg4 : lo ≤ g4 := (hrh.top.lt g4 rfl).1
  have hg4b : g4 ≠ bc := fun e => HHB.out (by rw [← e]; rfl)
  have hg4f : g4 ≠ bf := by omega
  have hg4t : g4 ≠ bt := by omega
  have ho := hrh.cell_at (j := 0) hcells_len hy (u := txt y.h.nm) rfl
  have oc : w1.drew.cell? ⟨g4, kk * 3, none⟩ = some (txt y.h.nm) := ho.1
  have of : w1.drew.frozen? ⟨g4, kk * 3, none⟩ = false := ho.2
  have hrs0 := hrh.cellset (j := 0) (e := 1) (x := y) (y := { y with h := { y.h with nm := t.data.toList } }) (u := .string t) hcells_len hrows_len hy (by omega) (by show [txt _, _, _] = _; rw [txt_data]; rfl) rfl
  have hrs := hrs0.below ((Below.refl _ _).drew)
  have HR2 := hid (show Rows (w1.setCell ⟨g4, kk * 3, none⟩ (.string t)).drew lo ([] ++ two 49 6 n (.slice (some ⟨g, 0, none⟩) n c) lcells lrows ls ++ two 83 3 hs'.length (.slice (some ⟨g4, 0, none⟩) hs'.length c4) hcells hrows (hs'.set kk { y with h := { y.h with nm := t.data.toList } })) by simpa using hrs)
  have HK2 := hid (show Blk (w1.setCell ⟨g4, kk * 3, none⟩ (.string t)).drew bc _ from (HK1.out.apart ⟨g4, kk * 3, none⟩ (.string t) hg4b).dr 1)
  have HL2 := hid ((HL1.out.setCell (p := ⟨g4, kk * 3, none⟩) hg4 (.string t)).drew)
  have d1 := (HK1.out.2 1 _ rfl).1
  have ct : w1.cell? ⟨bt, 0, none⟩ = some (.string t) := (HW1.out.cell (p := ⟨bt, 0, none⟩) (show bt < W.heap.size by have := HB.out.size; omega)).trans ((HB.out.cell (p := ⟨bt, 0, none⟩) hbtw).trans HBT.out)
  have s0 : (0 : Int) ≤ (kk : Int) := by omega
  have s1 : (kk : Int) < (hs'.length : Int) := by omega
  have s2 : ((kk : Int)).toNat = kk := by simp
  have hhl : (hs'.set kk { y with h := { y.h with nm := t.data.toList } }).length = hs'.length := List.length_set ..
  generalize hs'.set kk { y with h := { y.h with nm := t.data.toList } } = hs2 at *
  have HLs := hid hhl
  clear hneg hkk hkl hkx hO1 hrh ho hrs hrs0 cf hhl
  go_wp2_with fail
  refine wp_region_held_drew (S := (fun w' : World => w'.cell? ⟨bc, 1, none⟩ = some (.slice (some ⟨g4, 0, none⟩) hs'.length c4) ∧ w'.cell? ⟨bt, 0, none⟩ = some (.string t))) (by kernel_rfl) ⟨d1, ct⟩ (fun hS => ?_)
  refine wpAnyH_take (i := 0) (oi := ?oi107) (v := ?v107) ?hi107 (by kernel_rfl) ?hf107 ?hr107 ?hQ107 (Or.inl ⟨?hw107, ?hy107⟩) (by assumption) ?rest107
  case hi107 => simp only [List.getElem?_toArray, List.getElem?_cons_succ, List.getElem?_cons_zero]; rfl
  case hf107 => kernel_rfl
  case hr107 => kernel_rfl
  case hw107 => rfl
  case hy107 => (intro w hSw; (try dsimp only at hSw); go_simp; all_goals (first | done | with_reducible rfl))
  case hQ107 => exact fun _ _ _ h => h
  simp only [Act.put, List.setIfInBounds_toArray, List.set_cons_zero, List.set_cons_succ]
  refine wpAnyH_take (i := 1) (oi := ?oi108) (v := ?v108) ?hi108 (by kernel_rfl) ?hf108 ?hr108 ?hQ108 (Or.inl ⟨?hw108, ?hy108⟩) (by assumption) ?rest108
  case hi108 => simp only [List.getElem?_toArray, List.getElem?_cons_succ, List.getElem?_cons_zero]; rfl
  case hf108 => kernel_rfl
  case hr108 => kernel_rfl
  case hw108 => rfl
  case hy108 => (intro w hSw; (try dsimp only at hSw); go_simp; all_goals (first | done | with_reducible rfl))
  case hQ108 => exact fun _ _ _ h => h
  simp only [Act.put, List.setIfInBounds_toArray, List.set_cons_zero, List.set_cons_succ]
  refine wpAnyH_take (i := 2) (oi := ?oi109) (v := ?v109) ?hi109 (by kernel_rfl) ?hf109 ?hr109 ?hQ109 (Or.inl ⟨?hw109, ?hy109⟩) (by assumption) ?rest109
  case hi109 => simp only [List.getElem?_toArray, List.getElem?_cons_succ, List.getElem?_cons_zero]; rfl
  case hf109 => kernel_rfl
  case hr109 => kernel_rfl
  case hw109 => rfl
  case hy109 => (intro w hSw; (try dsimp only at hSw); go_simp; all_goals (first | done | with_reducible rfl))
  case hQ109 => exact fun _ _ _ h => h
  simp only [Act.put, List.setIfInBounds_toArray, List.set_cons_zero, List.set_cons_succ]
  refine wpAnyH_take (i := 3) (oi := ?oi110) (v := ?v110) ?hi110 (by kernel_rfl) ?hf110 ?hr110 ?hQ110 (Or.inl ⟨?hw110, ?hy110⟩) (by assumption) ?rest110
  case hi110 => simp only [List.getElem?_toArray, List.getElem?_cons_succ, List.getElem?_cons_zero]; rfl
  case hf110 => kernel_rfl
  case hr110 => kernel_rfl
  case hw110 => rfl
  case hy110 => (intro w hSw; (try dsimp only at hSw); go_simp; all_goals (first | done | with_reducible rfl))
  case hQ110 => exact fun _ _ _ h => h
  simp only [Act.put, List.setIfInBounds_toArray, List.set_cons_zero, List.set_cons_succ]
  refine wpAnyH_take (i := 4) (oi := ?oi111) (v := ?v111) ?hi111 (by kernel_rfl) ?hf111 ?hr111 ?hQ111 (Or.inl ⟨?hw111, ?hy111⟩) (by assumption) ?rest111
  case hi111 => simp only [List.getElem?_toArray, List.getElem?_cons_succ, List.getElem?_cons_zero]; rfl
  case hf111 => kernel_rfl
  case hr111 => kernel_rfl
  case hw111 => rfl
  case hy111 => (intro w hSw; (try dsimp only at hSw); go_simp; all_goals (first | done | with_reducible rfl))
  case hQ111 => exact fun _ _ _ h => h
  simp only [Act.put, List.setIfInBounds_toArray, List.set_cons_zero, List.set_cons_succ]
  refine wpAnyH_take (i := 5) (oi := ?oi112) (v := ?v112) ?hi112 (by kernel_rfl) ?hf112 ?hr112 ?hQ112 (Or.inl ⟨?hw112, ?hy112⟩) (by assumption) ?rest112
  case hi112 => simp only [List.getElem?_toArray, List.getElem?_cons_succ, List.getElem?_cons_zero]; rfl
  case hf112 => kernel_rfl
  case hr112 => kernel_rfl
  case hw112 => rfl
  case hy112 => (intro w hSw; (try dsimp only at hSw); go_simp; all_goals (first | done | with_reducible rfl))
  case hQ112 => exact fun _ _ _ h => h
  simp only [Act.put, List.setIfInBounds_toArray, List.set_cons_zero, List.set_cons_succ]
  refine wpAnyH_take (i := 6) (oi := ?oi113) (v := ?v113) ?hi113 (by kernel_rfl) ?hf113 ?hr113 ?hQ113 (Or.inl ⟨?hw113, ?hy113⟩) (by assumption) ?rest113
  case hi113 => simp only [List.getElem?_toArray, List.getElem?_cons_succ, List.getElem?_cons_zero]; rfl
  case hf113 => kernel_rfl
  case hr113 => kernel_rfl
  case hw113 => rfl
  case hy113 => (intro w hSw; (try dsimp only at hSw); go_simp; all_goals (first | done | with_reducible rfl))
  case hQ113 => exact fun _ _ _ h => h
  simp only [Act.put, List.setIfInBounds_toArray, List.set_cons_zero, List.set_cons_succ]
  refine wpAnyH_take (i := 7) (oi := ?oi114) (v := ?v114) ?hi114 (by kernel_rfl) ?hf114 ?hr114 ?hQ114 (Or.inl ⟨?hw114, ?hy114⟩) (by assumption) ?rest114
  case hi114 => simp only [List.getElem?_toArray, List.getElem?_cons_succ, List.getElem?_cons_zero]; rfl
  case hf114 => kernel_rfl
  case hr114 => kernel_rfl
  case hw114 => rfl
  case hy114 => (intro w hSw; (try dsimp only at hSw); go_simp; all_goals (first | done | with_reducible rfl))
  case hQ114 => exact fun _ _ _ h => h
  simp only [Act.put, List.setIfInBounds_toArray, List.set_cons_zero, List.set_cons_succ]
  refine wpAnyH_ready (rs := [8]) (by kernel_rfl) (by simp) ?_
  refine AllReadyH.cons (o := ?oi115) ?hi115 (fun K hK => ?step115) AllReadyH.nil
  case hi115 => simp only [List.getElem?_toArray, List.getElem?_cons_succ, List.getElem?_cons_zero]; rfl
  rw [if_pos (by rfl)]
  go_simp
  refine hK.out _ _ ⟨(World.cell?_setCell_far _ _ _ _ hg4b).trans hS.1, (World.cell?_setCell_far _ _ _ _ hg4t).trans hS.2⟩ (fun _ => ?_)
  refine wpAnyH_done (by kernel_rfl) ?_ _
  clear oc of d1 ct hS
  generalize hw2 : (w1.setCell ⟨g4, kk * 3, none⟩ (.string t)).drew = w2 at *
  clear hw2
  have d0 := (HK2.out.2 0 _ rfl).1
  go_wp2_with fail
  clear d0
  have HHs := hid (And.intro HYS.out HLs.out)
  go_loopw [7, 8, 29] (fun lv kv iv wr => ∃ (k : Nat) (cur : List LgrV) (u7 u8 : Value), iv = .int .i64 k ∧ lv = u7 ∧ kv = u8 ∧ k ≤ n ∧ Hid (lsOf cur = renT (L.take k) f.data.toList t.data.toList ++ L.drop k) ∧
    Hid (Rows wr lo ([] ++ two 49 6 n (.slice (some ⟨g, 0, none⟩) n c) lcells lrows cur ++ two 83 3 hs'.length (.slice (some ⟨g4, 0, none⟩) hs'.length c4) hcells hrows hs2)) ∧ Hid (Blk wr bc [.slice (some ⟨g, 0, none⟩) n c, .slice (some ⟨g4, 0, none⟩) hs'.length c4, .int .i64 q]) ∧ Hid (∀ x ∈ cur, x.hv.ownBlock ≠ some bc) ∧ Hid (Below lo W wr)) (fun _ _ iv _ => n - (intOf iv).toNat)
  case atStart => exact ⟨0, ls, _, _, rfl, rfl, rfl, by omega, by simpa [renT, Hid] using HL.out, HR2.out, HK2.out, HNB.out, HL2.out⟩
  case round =>
    obtain ⟨k, cur, u7, u8, rfl, rfl, rfl, hk, HC, HRx, HKx, HNx, HBx⟩ := hrel
    by_cases hlt : k < n
    · have hkL : k < L.length := by have := HLn.out; omega
      obtain ⟨l, hl⟩ : ∃ l, L[k]? = some l := ⟨_, List.getElem?_eq_getElem hkL⟩
      have hcl : (lsOf cur)[k]? = some l := by rw [HC.out, ren_at _ _ hkL]; exact hl
      obtain ⟨x, hx, hxl⟩ : ∃ x, cur[k]? = some x ∧ x.l = l := by
        unfold lsOf at hcl
        rw [List.getElem?_map] at hcl
        cases hx : cur[k]? with
        | none => rw [hx] at hcl; cases hcl
        | some x => rw [hx] at hcl; exact ⟨x, rfl, Option.some.inj hcl⟩
      obtain ⟨xl, xhv, xhn, xfv, xfn⟩ := x
      simp only at hxl
      subst hxl
      have own6 := HRx.out.sub_ hx (r := ⟨9, 1, xhn, xhv, xl.hs.map txt⟩) (by simp [lrows])
      have own7 := HRx.out.sub_ hx (r := ⟨134, 3, xfn, xfv, fsCells xl.fs⟩) (by simp [lrows])
      replace own6 : wr.ownsRow lo 9 1 xhv xhn (xl.hs.map txt) := own6
      replace own7 : wr.ownsRow lo 134 3 xfv xfn (fsCells xl.fs) := own7
      have hnb := HNx.out _ (List.mem_of_getElem? hx)
      simp only at hnb
      obtain ⟨A6, k6, e6, hnc6, hcm6⟩ := (Sl.of_own own6).form
      obtain ⟨A7, k7, e7, _, _⟩ := (Sl.of_own own7).form
      subst e6
      subst e7
      unfold maxLen at hcm6
      have o0 : wr.cell? ⟨g, k * 6, none⟩ = some (txt xl.nm) := (HRx.out.cell_at (j := 0) lcells_len hx rfl).1
      have o1 : wr.cell? ⟨g, k * 6 + 1, none⟩ = some (.int .i64 xl.lv) := (HRx.out.cell_at (j := 1) lcells_len hx rfl).1
      have o2 : wr.cell? ⟨g, k * 6 + 2, none⟩ = some (.slice A6 xhn k6) := (HRx.out.cell_at (j := 2) lcells_len hx rfl).1
      have o3 : wr.cell? ⟨g, k * 6 + 3, none⟩ = some (.slice A7 xfn k7) := (HRx.out.cell_at (j := 3) lcells_len hx rfl).1
      have o4 : wr.cell? ⟨g, k * 6 + 4, none⟩ = some (.bool xl.stop) := (HRx.out.cell_at (j := 4) lcells_len hx rfl).1
      have o5 : wr.cell? ⟨g, k * 6 + 5, none⟩ = some (.bool xl.off) := (HRx.out.cell_at (j := 5) lcells_len hx rfl).1
      obtain ⟨p, hp, hp2⟩ := txt_mk xl.nm
      rw [hp] at o0
      obtain ⟨wb, hwb⟩ : ∃ wb, wb = wr.alloc (.cells #[.string p, .int .i64 xl.lv, .slice A6 xhn k6, .slice A7 xfn k7, .bool xl.stop, .bool xl.off] 49) := ⟨_, rfl⟩
      have hba : Below wr.heap.size wr wb := by rw [hwb]; exact (Below.refl _ _).alloc (Nat.le_refl _) _
      have KX := hid (show Blk wb wr.heap.size [.string p, .int .i64 xl.lv, .slice A6 xhn k6, .slice A7 xfn k7, .bool xl.stop, .bool xl.off] by rw [hwb]; exact Blk.new wr _ _)
      have HRb := hid (HRx.out.below hba)
      have HKb := hid (HKx.out.to hba)
      have hlw : lo ≤ wr.heap.size := by have := HKx.out.1; omega
      have HBb := hid (HBx.out.trans (hba.mono hlw))
      have own6b := own_below own6 hba
      have hgx : ∀ z, (Value.slice A6 xhn k6).ownBlock = some z → z ≠ wr.heap.size := fun z hz => by have := (own6.lt z hz).2; omega
      have hmem : xl ∈ L := List.mem_of_getElem? hl
      have CIX := hid (indexTxt_c (.slice A6 xhn k6) xhn wb.heap.size xl.hs f wb ⟨Sl.of_own own6b, HTX.out xl hmem⟩)
      have cf : wb.cell? ⟨bf, 0, none⟩ = some (.string f) := (HBb.out.cell (p := ⟨bf, 0, none⟩) (show bf < lo by omega)).trans ((HB.out.cell (p := ⟨bf, 0, none⟩) hbfw).trans HBF.out)
      have ct : wb.cell? ⟨bt, 0, none⟩ = some (.string t) := (HBb.out.cell (p := ⟨bt, 0, none⟩) (show bt < lo by omega)).trans ((HB.out.cell (p := ⟨bt, 0, none⟩) hbtw).trans HBT.out)
      have x2 := (KX.out.2 2 _ rfl).1
      have HOW := hid own6b
      have cfe : (wr.alloc (.cells #[.string p, .int .i64 xl.lv, .slice A6 xhn k6, .slice A7 xfn k7, .bool xl.stop, .bool xl.off] 49)).cell? ⟨bf, 0, none⟩ = some (.string f) := by rw [← hwb]; exact cf
      have x2e : (wr.alloc (.cells #[.string p, .int .i64 xl.lv, .slice A6 xhn k6, .slice A7 xfn k7, .bool xl.stop, .bool xl.off] 49)).cell? ⟨wr.heap.size, 2, none⟩ = some (.slice A6 xhn k6) := by rw [← hwb]; exact x2
      have HX := hid hx
      have HLk := hid hl
      have hnd := (HND.out xl hmem).1
      have hlen6 : xl.hs.length = xhn := by have := own6.1; simpa using this
      have hm6 := (HND.out xl hmem).2
      have HND1 := hid (And.intro hnd hlen6)
      have hxn6 : xhn ≤ 6 := by omega
      clear hx hl hcl own6 own7 own6b hmem hp hp2 hnd hlen6 hm6
      by_cases hin : f.data.toList ∈ xl.hs
      · obtain ⟨jj, hjj, hjl, hjx⟩ := idx_natN (ns := xl.hs) (x := f.data.toList) (by unfold idxL; rw [if_pos hin]; omega)
        rw [hjj] at CIX
        have hjn : jj < xhn := by have := HND1.out.2; omega
        obtain ⟨g6, rfl, _⟩ := own_some HOW.out (by omega)
        have hg6 : lo ≤ g6 := (HOW.out.lt g6 rfl).1
        have hg6b : g6 ≠ bc := fun e => hnb (by rw [← e]; rfl)
        have hg6x : g6 ≠ wr.heap.size := hgx g6 rfl
        have hset := hid (ren_set (t := t.data.toList) HND1.out.1 hjx)
        have st := HOW.out.stored jj (.string t)
        have HRs := hid (HRb.out.rowset (j := 0) (e := 2) (x := ⟨xl, .slice (some ⟨g6, 0, none⟩) xhn k6, xhn, .slice A7 xfn k7, xfn⟩) (y := ⟨renL f.data.toList t.data.toList xl, .slice (some ⟨g6, 0, none⟩) xhn k6, xhn, .slice A7 xfn k7, xfn⟩)
          (r := ⟨9, 1, xhn, .slice (some ⟨g6, 0, none⟩) xhn k6, xl.hs.map txt⟩) (ys := (xl.hs.map txt).set jj (.string t)) lcells_len lrows_len HX.out (by omega) rfl st.2 st.1 rfl
          (by
            show [(⟨_, _, _, _, (xl.hs.map (renS f.data.toList t.data.toList)).map txt⟩ : Row), _] = _
            rw [← hset.out, List.map_set, txt_data]; rfl))
        have HKs := hid (HKb.out.apart ⟨g6, jj, none⟩ (.string t) hg6b)
        have HBs := hid (HBb.out.setCell (p := ⟨g6, jj, none⟩) hg6 (.string t))
        have oc := (HOW.out.cellAt jj (by simp; have := HND1.out.2; omega))
        have of := HOW.out.frozenAt jj
        obtain ⟨z, hz⟩ : ∃ z, wb.cell? ⟨g6, jj, none⟩ = some z := own_cell HOW.out (by omega)
        have s0 : (0 : Int) ≤ (k : Int) := by omega
        have s1 : (k : Int) < (n : Int) := by omega
        have s2 : ((k : Int)).toNat = k := by simp
        have t0 : (0 : Int) ≤ (jj : Int) := by omega
        have t1 : (jj : Int) < (xhn : Int) := by omega
        have t2 : ((jj : Int)).toNat = jj := by simp
        clear hjj hjl hjx st hin oc
        go_wp2_with fail
        rw [← hwb]
        refine (CIX.out).mono ?_
        rintro e w9 ⟨rfl, rfl⟩
        clear o0 o1 o2 o3 o4 o5 hwb cfe x2e
        go_wp2_with fail
        go_roundw
        case rel =>
          refine ⟨k + 1, cur.set k ⟨renL f.data.toList t.data.toList xl, .slice (some ⟨g6, 0, none⟩) xhn k6, xhn, .slice A7 xfn k7, xfn⟩, _, _, by go_num, rfl, rfl, by omega, ?_, HRs.out, HKs.out, ?_, HBs.out⟩
          · show lsOf (cur.set k _) = _
            rw [ren_step _ _ HLk.out, ← HC.out]
            unfold lsOf
            rw [List.map_set]
          · intro x hx
            rcases List.mem_or_eq_of_mem_set hx with hx | rfl
            · exact HNx.out x hx
            · exact hnb
        case measure => simp [intOf]; omega
      · have hix : idxL xl.hs f.data.toList = -1 := idx_miss _ _ hin
        rw [hix] at CIX
        have HRL := hid (renL_none (t := t.data.toList) hin)
        have s0 : (0 : Int) ≤ (k : Int) := by omega
        have s1 : (k : Int) < (n : Int) := by omega
        have s2 : ((k : Int)).toNat = k := by simp
        clear hix hin
        go_wp2_with fail
        rw [← hwb]
        refine (CIX.out).mono ?_
        rintro e w9 ⟨rfl, rfl⟩
        clear o0 o1 o2 o3 o4 o5 hwb cfe x2e
        go_wp2_with fail
        go_roundw
        case rel =>
          refine ⟨k + 1, cur, _, _, by go_num, rfl, rfl, by omega, ?_, HRb.out, HKb.out, HNx.out, HBb.out⟩
          show lsOf cur = _
          rw [ren_step _ _ HLk.out, HRL.out, nm_set ((ren_at _ _ hkL).trans HLk.out)]
          exact HC.out
        case measure => simp [intOf]; omega
    · obtain rfl : k = n := by omega
      have hkL := HLn.out
      have e0 : L.take k = L := List.take_of_length_le (by omega)
      have e1 : L.drop k = [] := List.drop_eq_nil_of_le (by omega)
      rw [e0, e1, List.append_nil] at HC
      clear e0 e1
      go_wp2_with fail
      go_ret
      refine ⟨HBx.out, by rw [HO2.out]; rfl, fun x hx => ?_⟩
      rw [HO2.out] at hx
      obtain rfl := Option.some.inj hx
      have hcl : cur.length = k := by have h := congrArg List.length HC.out; simp [lsOf, renT] at h; omega
      refine ⟨_, _, _, _, _, _, treeRows cur.length _ cur hs2.length _ hs2, HKx.out, ⟨_, _, cur, hs2, rfl, HC.out, HHs.out.1, rfl⟩, ?_, HD.out⟩
      rw [treeRows_eq, hcl, HHs.out.2]
      simpa using HRx.out
end Go.Proofs.Yteoblmhbjmefoaa
