/-
  A HANDLER NAMED ANEW: NameHandler of the program and of the model. By gen_nh3.py.
-/
import Derived.Test.YteoblmhbjmefoaaNH2
namespace Go.Proofs.Yteoblmhbjmefoaa
open Go.RowKit Nm
set_option linter.unusedSimpArgs false
set_option linter.unusedVariables false

theorem nameX_def (L : List Lgr) (H : List Hnd) (q : Int) (s t : Name) : nameX L H q s t = changedO L H q (if idxL (hnm H) s < 0 then none else some (renT L s t, setNm H (idxL (hnm H) s).toNat t, q)) := rfl

set_option maxHeartbeats 8000000 in
set_option maxRecDepth 100000 in
theorem implNameHandler_c {w : World} {B : Nat} {v : Value} {L : List Lgr} {H : List Hnd} {q : Int} (f t : ByteArray) (h : TreeIn w B v L H q) (hB : B ≤ w.heap.size) (hfz : f.size ≤ maxTxt) (htz : t.size ≤ maxTxt) :
    Calls Try.prog 35 #[v, .string f, .string t] w (TreePostO w (nameX L H q f.data.toList t.data.toList)) := by
  have CH := hid (fun (W : World) (hW : Below w.heap.size w W) => h.below hW hB)
  obtain ⟨A1, n1, k1, A2, n2, k2, rfl⟩ := h.form
  have HW := hid (show Below w.heap.size w ((((w.alloc (.cells #[.slice A1 n1 k1, .slice A2 n2 k2, .int .i64 q] 30)).alloc (.cells #[.string f] 9)).alloc (.cells #[.string t] 9)).alloc (.cells #[.slice none 0 0, .slice none 0 0, .int .i64 0] 30)) from ((((Below.refl _ _).alloc (Nat.le_refl _) _).alloc (by simp) _).alloc (by simp; omega) _).alloc (by simp; omega) _)
  have KT := hid ((((Blk.new w #[.slice A1 n1 k1, .slice A2 n2 k2, .int .i64 q] 30).alloc (.cells #[.string f] 9)).alloc (.cells #[.string t] 9)).alloc (.cells #[.slice none 0 0, .slice none 0 0, .int .i64 0] 30))
  have KF := hid (((Blk.new (w.alloc (.cells #[.slice A1 n1 k1, .slice A2 n2 k2, .int .i64 q] 30)) #[.string f] 9).alloc (.cells #[.string t] 9)).alloc (.cells #[.slice none 0 0, .slice none 0 0, .int .i64 0] 30))
  have KN := hid ((Blk.new ((w.alloc (.cells #[.slice A1 n1 k1, .slice A2 n2 k2, .int .i64 q] 30)).alloc (.cells #[.string f] 9)) #[.string t] 9).alloc (.cells #[.slice none 0 0, .slice none 0 0, .int .i64 0] 30))
  have KR := hid (Blk.new (((w.alloc (.cells #[.slice A1 n1 k1, .slice A2 n2 k2, .int .i64 q] 30)).alloc (.cells #[.string f] 9)).alloc (.cells #[.string t] 9)) #[.slice none 0 0, .slice none 0 0, .int .i64 0] 30)
  simp only [World.size_alloc] at KF KN KR
  have hmf : ∀ (fn : Fn) (first cap : Array Value) (w : World), (Instr.makeFunc fn first cap).run Try.prog w = .ok (.func fn first cap) w := fun _ _ _ _ => rfl
  have CQ := hid (implChanged2_c 85 (.pointer (some ⟨w.heap.size + 1, 0, none⟩)) (.pointer (some ⟨w.heap.size + 1 + 1, 0, none⟩)) (if idxL (hnm H) f.data.toList < 0 then none else some (renT L f.data.toList t.data.toList, setNm H (idxL (hnm H) f.data.toList).toNat t.data.toList, q)) (CH.out _ HW.out) (Nat.le_trans hB HW.out.size) (fun args w => enters rfl (by kernel_rfl) rfl args w)
    (fun W lo bc v1 v2 rs hok hp => nameClo_c f t hfz htz (KF.out.2 0 _ rfl).1 (KN.out.2 0 _ rfl).1 hok W lo bc v1 v2 rs hp))
  have HE := hid (nameX_def L H q f.data.toList t.data.toList)
  generalize nameX L H q f.data.toList t.data.toList = X at HE ⊢
  generalize (if idxL (hnm H) f.data.toList < 0 then none else some (renT L f.data.toList t.data.toList, setNm H (idxL (hnm H) f.data.toList).toNat t.data.toList, q)) = O at HE CQ
  clear h
  have d0 := (KT.out.2 0 _ rfl).1
  have d1 := (KT.out.2 1 _ rfl).1
  have d2 := (KT.out.2 2 _ rfl).1
  go_enter Try.func35, Try.ntmps35
  go_wp2_with fail
  refine (CQ.out).mono ?_
  rintro e w3 ⟨v', rs, rfl, hs, hr, hb3⟩
  have HX' := hid (show changedO L H q O = X from HE.out.symm)
  rw [HX'.out] at hs
  obtain ⟨u1, u2, ls, hs', rfl, hL, hH, rfl⟩ := hs
  have KR3 := hid (KR.out.to hb3)
  have HB3 := hid (HW.out.trans (hb3.mono HW.out.size))
  have HR1 := hid (hr.base (show w.heap.size + 4 ≤ _ by simp))
  have HS1 := hid (show TreeS (treeRows ls.length u1 ls hs'.length u2 hs') (.agg #[u1, u2, .int .i64 (resQ X)]) (resL X) (resH X) (resQ X) from ⟨u1, u2, ls, hs', rfl, hL, hH, rfl⟩)
  obtain ⟨hl, hh⟩ := hr.lsIn
  obtain ⟨A3, c3, rfl, _, _⟩ := hl.1.form
  obtain ⟨A4, c4, rfl, _, _⟩ := hh.1.form
  generalize hq0 : resQ X = q0 at *
  generalize hi0 : (changedO L H q O).isSome = i0 at *
  have HI := hid (show X.isSome = i0 by rw [← HX'.out]; exact hi0)
  have HQ0 := hid hq0
  clear hq0 hi0 hb3 hr hl hh hL hH d0 d1 d2
  obtain ⟨q0c, q0f⟩ := KR3.out.2 0 _ rfl
  obtain ⟨q1c, q1f⟩ := KR3.out.2 1 _ rfl
  obtain ⟨q2c, q2f⟩ := KR3.out.2 2 _ rfl
  go_wp2_with fail
  have RB := ((KR3.out.set 0 (.slice A3 ls.length c3)).set 1 (.slice A4 hs'.length c4)).set 2 (.int .i64 q0)
  have f0 := (RB.2 0 _ rfl).1
  have f1 := (RB.2 1 _ rfl).1
  have f2 := (RB.2 2 _ rfl).1
  refine bodyPost_ret (v := .tuple #[.agg #[.slice A3 ls.length c3, .slice A4 hs'.length c4, .int .i64 q0], .bool i0]) (by simp [results, Try.results35, go_sem, f0, f1, f2]) rfl ?_
  refine ⟨_, _, by rw [HI.out], (by rw [HQ0.out]; exact HS1.out), ?_, ?_⟩
  · refine Rows.base ?_ (show w.heap.size ≤ w.heap.size + 4 by omega)
    iterate 3 refine Rows.low ?_ (by omega)
    exact HR1.out
  · iterate 3 refine Below.setCell ?_ (by simp; try omega) _
    exact HB3.out

theorem ren_mapstep {l : List Name} {j : Nat} {x : Name} (r : Name → Name) (h : l[j]? = some x) : (l.take (j + 1)).map r ++ l.drop (j + 1) = ((l.take j).map r ++ l.drop j).set j (r x) := by
  have hk := (List.getElem?_eq_some_iff.1 h).1
  have e1 : (l.take (j + 1)).map r = (l.take j).map r ++ [r x] := by rw [List.take_add_one, h, List.map_append]; rfl
  have e2 : l.drop j = x :: l.drop (j + 1) := by rw [List.drop_eq_getElem_cons hk]; congr 1; exact (List.getElem?_eq_some_iff.1 h).2
  have e3 : ((l.take j).map r).length = j := by rw [List.length_map, List.length_take]; omega
  rw [e1, e2, List.set_append_right _ _ (by omega), e3, Nat.sub_self, List.set_cons_zero, List.append_assoc]; rfl
theorem ren_mapat {l : List Name} {j : Nat} (r : Name → Name) (hj : j < l.length) : ((l.take j).map r ++ l.drop j)[j]? = l[j]? := by
  have e3 : ((l.take j).map r).length = j := by rw [List.length_map, List.length_take]; omega
  rw [List.getElem?_append_right (by omega), e3, Nat.sub_self, List.getElem?_drop]; rfl
theorem ren_maplen {l : List Name} {j : Nat} (r : Name → Name) : ((l.take j).map r ++ l.drop j).length = l.length := by simp; omega

set_option maxHeartbeats 8000000 in
set_option maxRecDepth 100000 in
theorem specNameHandler_c {w : World} {B : Nat} {v : Value} {L : List Lgr} {H : List Hnd} {q : Int} (f t : ByteArray) (h : TreeIn w B v L H q) (hB : B ≤ w.heap.size) (hfz : f.size ≤ maxTxt) (htz : t.size ≤ maxTxt) :
    Calls Try.prog 36 #[v, .string f, .string t] w (TreePostO w (nameX L H q f.data.toList t.data.toList)) := by
  have h0 := h
  have C := hid (fun (W : World) (hW : Below w.heap.size w W) => specTreeX_c (h0.below hW hB) (Nat.le_trans hB hW.size))
  have CC := hid (fun (hz : treeOk L H q = true) (W : World) (hW : Below w.heap.size w W) => specCopy_c (h0.below hW hB) hz (Nat.le_trans hB hW.size))
  obtain ⟨ls0, hs0, ⟨A1, n1, k1, A2, n2, k2, rfl, _, hh0, _⟩, _, hH0⟩ := h
  have AT := fun (W : World) (hW : Below w.heap.size w W) => handlerAt_c (.slice A2 n2 k2) n2 B hs0 f W (hh0.below hW hB)
  have hN : hnames hs0 = hnm H := by rw [hnames_hnm, hH0]
  rw [hN] at AT
  clear hN hh0 hH0 h0
  cases hz : treeOk L H q with
  | false =>
    have HN := hid (show nameX L H q f.data.toList t.data.toList = none by unfold nameX changedO; rw [hz]; rfl)
    generalize idxL (hnm H) f.data.toList = z at AT
    replace AT := hid AT
    rw [hz] at C
    clear hz CC
    go_enter Try.func36, Try.ntmps36
    go_wp2_with (go_at_call 60; refine (AT.out _ (by go_grown)).mono ?_; rintro e w2 ⟨rfl, hw2⟩; have hw2 := hw2.symm; subst hw2)
    refine (C.out _ ?_).mono ?_
    case refine_1 => go_grown
    rintro e w1 ⟨rfl, hb1⟩
    have K1 := ((Blk.new _ _ _).to hb1)
    simp only [World.size_alloc] at K1
    have HK1 := hid K1
    have HB1 := hid (Below.trans (by go_grown) (hb1.mono (by simp; try omega)) : Below w.heap.size w w1)
    clear hb1 K1
    obtain ⟨q0c, q0f⟩ := HK1.out.2 0 _ rfl
    obtain ⟨q1c, q1f⟩ := HK1.out.2 1 _ rfl
    obtain ⟨q2c, q2f⟩ := HK1.out.2 2 _ rfl
    go_wp2_with fail
    have RB := ((HK1.out.set 0 (.slice none 0 0)).set 1 (.slice none 0 0)).set 2 (.int .i64 0)
    have f0 := (RB.2 0 _ rfl).1
    have f1 := (RB.2 1 _ rfl).1
    have f2 := (RB.2 2 _ rfl).1
    refine bodyPost_ret (v := .tuple #[.agg #[.slice none 0 0, .slice none 0 0, .int .i64 0], .bool false]) (by simp [results, Try.results36, go_sem, f0, f1, f2]) rfl ?_
    refine postO_none HN.out rfl ?_
    iterate 3 refine Below.setCell ?_ (by simp) _
    exact HB1.out
  | true =>
   by_cases hneg : idxL (hnm H) f.data.toList < 0
   · have HN := hid (show nameX L H q f.data.toList t.data.toList = none by unfold nameX changedO; rw [hz, if_pos hneg]; rfl)
     generalize idxL (hnm H) f.data.toList = z at AT hneg
     replace AT := hid AT
     rw [hz] at C
     clear hz CC
     go_enter Try.func36, Try.ntmps36
     go_wp2_with (go_at_call 60; refine (AT.out _ (by go_grown)).mono ?_; rintro e w2 ⟨rfl, hw2⟩; have hw2 := hw2.symm; subst hw2)
     refine (C.out _ ?_).mono ?_
     case refine_1 => go_grown
     rintro e w1 ⟨rfl, hb1⟩
     have K1 := ((Blk.new _ _ _).to hb1)
     simp only [World.size_alloc] at K1
     have HK1 := hid K1
     have HB1 := hid (Below.trans (by go_grown) (hb1.mono (by simp; try omega)) : Below w.heap.size w w1)
     clear hb1 K1
     obtain ⟨q0c, q0f⟩ := HK1.out.2 0 _ rfl
     obtain ⟨q1c, q1f⟩ := HK1.out.2 1 _ rfl
     obtain ⟨q2c, q2f⟩ := HK1.out.2 2 _ rfl
     go_wp2_with fail
     have RB := ((HK1.out.set 0 (.slice none 0 0)).set 1 (.slice none 0 0)).set 2 (.int .i64 0)
     have f0 := (RB.2 0 _ rfl).1
     have f1 := (RB.2 1 _ rfl).1
     have f2 := (RB.2 2 _ rfl).1
     refine bodyPost_ret (v := .tuple #[.agg #[.slice none 0 0, .slice none 0 0, .int .i64 0], .bool false]) (by simp [results, Try.results36, go_sem, f0, f1, f2]) rfl ?_
     refine postO_none HN.out rfl ?_
     iterate 3 refine Below.setCell ?_ (by simp) _
     exact HB1.out
   · obtain ⟨kk, hzk, hkl, hkx⟩ := idx_natN hneg
     have hkL : kk < H.length := by unfold hnm at hkl; rw [List.length_map] at hkl; exact hkl
     obtain ⟨_, _, _, h8, h1l, _⟩ := tree_names hz
     have h6 := tree_hlen hz
     have HE := hid (show nameX L H q f.data.toList t.data.toList = ifOk (renT L f.data.toList t.data.toList) (setNm H kk t.data.toList) q by unfold nameX; rw [hzk, if_neg (by omega)]; unfold changedO; rw [hz]; rfl)
     rw [hzk] at AT
     replace AT := hid AT
     have HD := hid (fit_ok hz)
     have HD2 := hid (rename_fit (s := f.data.toList) kk HD.out (by rw [← Lib.size_eq]; exact htz : t.data.toList.length ≤ maxTxt))
     have HLW := hid (fun (l : Lgr) (hl : l ∈ L) => (tree_nodup hz hl).2)
     replace CC := hid (CC.out hz)
     rw [hz] at C
     clear hz hneg hzk hkl hkx
     go_enter Try.func36, Try.ntmps36
     go_wp2_with (go_at_call 60; refine (AT.out _ (by go_grown)).mono ?_; rintro e w2 ⟨rfl, hw2⟩; have hw2 := hw2.symm; subst hw2)
     refine (C.out _ ?_).mono ?_
     case refine_1 => go_grown
     rintro e w1 ⟨rfl, hb1⟩
     have K0 := (((Blk.new _ _ _).alloc _).to hb1)
     have K1 := ((Blk.new _ _ _).to hb1)
     simp only [World.size_alloc] at K0 K1
     have HK0 := hid K0
     have HK1 := hid K1
     have HB1 := hid (Below.trans (by go_grown) (hb1.mono (by simp; try omega)) : Below w.heap.size w w1)
     have hsz1 : w.heap.size + 2 ≤ w1.heap.size := by have := hb1.size; simp at this; omega
     have d0 := (HK0.out.2 0 _ rfl).1
     have d1 := (HK0.out.2 1 _ rfl).1
     have d2 := (HK0.out.2 2 _ rfl).1
     clear hb1 K0 K1
     go_wp2_with fail
     refine (CC.out _ HB1.out).mono ?_
     rintro e w2 ⟨v', rs, rfl, hs, hr, hb2⟩
     obtain ⟨u1, u2, ls, hs', rfl, hL, hH, rfl⟩ := hs
     have hll : ls.length = L.length := by rw [← hL]; simp [lsOf]
     have hlh : hs'.length = H.length := by rw [← hH]; simp [hsOf]
     obtain ⟨hl, hh⟩ := hr.lsIn
     obtain ⟨A, c, rfl, hnc, hcm⟩ := hl.1.form
     obtain ⟨A4, c4, rfl, hnc4, hcm4⟩ := hh.1.form
     clear hl hh
     have hrh : Rows w2 w1.heap.size (two 49 6 ls.length (.slice A ls.length c) lcells lrows ls ++ two 83 3 hs'.length (.slice A4 hs'.length c4) hcells hrows hs' ++ []) := by rw [treeRows_eq] at hr; simpa using hr
     have hr0 : Rows w2 w1.heap.size ([] ++ two 49 6 ls.length (.slice A ls.length c) lcells lrows ls ++ two 83 3 hs'.length (.slice A4 hs'.length c4) hcells hrows hs') := by simpa using hrh
     obtain ⟨g, rfl, hglt⟩ := own_some hr0.top (by omega)
     obtain ⟨g4, rfl, hg4lt⟩ := own_some hrh.top (by omega)
     have hgl : w1.heap.size ≤ g := (hr0.top.lt g rfl).1
     have hg4 : w1.heap.size ≤ g4 := (hrh.top.lt g4 rfl).1
     obtain ⟨y, hy⟩ : ∃ y, hs'[kk]? = some y := ⟨_, List.getElem?_eq_getElem (by omega)⟩
     have hYS := hset_of hH hy t.data.toList
     have ho := hrh.cell_at (j := 0) hcells_len hy (u := txt y.h.nm) rfl
     have oc : w2.cell? ⟨g4, kk * 3, none⟩ = some (txt y.h.nm) := ho.1
     have of : w2.frozen? ⟨g4, kk * 3, none⟩ = false := ho.2
     have hrs := hrh.cellset (j := 0) (e := 1) (x := y) (y := { y with h := { y.h with nm := t.data.toList } }) (u := .string t) hcells_len hrows_len hy (by omega) (by show [txt _, _, _] = _; rw [txt_data]; rfl) rfl
     have hhl : (hs'.set kk { y with h := { y.h with nm := t.data.toList } }).length = hs'.length := List.length_set ..
     generalize hs'.set kk { y with h := { y.h with nm := t.data.toList } } = hs2 at *
     have HHs := hid (And.intro hYS hhl)
     have hrs0 : Rows (w2.setCell ⟨g4, kk * 3, none⟩ (.string t)) w1.heap.size ([] ++ two 49 6 ls.length (.slice (some ⟨g, 0, none⟩) ls.length c) lcells lrows ls ++ two 83 3 hs'.length (.slice (some ⟨g4, 0, none⟩) hs'.length c4) hcells hrows hs2) := by simpa using hrs
     generalize hNn : ls.length = n at *
     have hn8 : n ≤ 8 := by omega
     unfold maxLen at hcm hcm4
     have HB2 := hid (HB1.out.trans (hb2.mono HB1.out.size))
     have hsz12 : w1.heap.size ≤ w2.heap.size := hb2.size
     have hww1 : w.heap.size ≤ w1.heap.size := HB1.out.size
     have HK2 := hid (HK1.out.to hb2)
     have HBA := hid (show Below w2.heap.size w2 (w2.alloc (.cells #[.slice (some ⟨g, 0, none⟩) n c, .slice (some ⟨g4, 0, none⟩) hs'.length c4, .int .i64 q] 30)) from (Below.refl _ _).alloc (Nat.le_refl _) _)
     have hsc : (w2.setCell ⟨g4, kk * 3, none⟩ (.string t)).heap.size = w2.heap.size := by simp
     have HBs := hid (show Below w2.heap.size (w2.setCell ⟨g4, kk * 3, none⟩ (.string t)) ((w2.setCell ⟨g4, kk * 3, none⟩ (.string t)).alloc (.cells #[.slice (some ⟨g, 0, none⟩) n c, .slice (some ⟨g4, 0, none⟩) hs'.length c4, .int .i64 q] 30)) from (Below.refl _ _).alloc (by rw [hsc]; exact Nat.le_refl _) _)
     have HB3 := hid ((HB2.out.setCell (p := ⟨g4, kk * 3, none⟩) (show w.heap.size ≤ g4 by omega) (.string t)).trans (HBs.out.mono HB2.out.size))
     have HK3 := hid ((HK2.out.apart ⟨g4, kk * 3, none⟩ (.string t) (show g4 ≠ w.heap.size + 1 by omega)).alloc (.cells #[.slice (some ⟨g, 0, none⟩) n c, .slice (some ⟨g4, 0, none⟩) hs'.length c4, .int .i64 q] 30))
     have KB := Blk.new (w2.setCell ⟨g4, kk * 3, none⟩ (.string t)) #[.slice (some ⟨g, 0, none⟩) n c, .slice (some ⟨g4, 0, none⟩) hs'.length c4, .int .i64 q] 30
     rw [hsc] at KB
     have HKB := hid KB
     have oc3 := (HBA.out.cell (p := ⟨g4, kk * 3, none⟩) hg4lt).trans oc
     have of3 := (HBA.out.frozen (p := ⟨g4, kk * 3, none⟩) hg4lt).trans of
     have HR2 := hid (hrs0.below (by rw [hsc]; exact HBs.out))
     have HL := hid hL
     have HLn := hid (And.intro hll hNn)
     have s0 : (0 : Int) ≤ (kk : Int) := by omega
     have s1 : (kk : Int) < (hs'.length : Int) := by omega
     have s2 : ((kk : Int)).toNat = kk := by simp
     have HNB := hid (show ∀ x ∈ ls, ∀ z, x.hv.ownBlock = some z → w1.heap.size ≤ z ∧ z < w2.heap.size from fun x hx z hz => (hr.1 ⟨9, 1, x.hn, x.hv, x.l.hs.map txt⟩ (by
       rw [treeRows_eq, List.mem_append]; left
       simp only [two, List.mem_cons, List.mem_flatMap]
       exact .inr ⟨x, hx, by simp [lrows]⟩)).lt z hz)
     clear hb2 hr hrh hr0 hL hH hll hlh hrs hrs0 ho hYS hhl KB oc of d0 d1 d2 h8 h1l hNn
     have hgb : g ≠ w2.heap.size := by omega
     have hgr : g ≠ w.heap.size + 1 := by omega
     go_wp2_with fail
     generalize hw3 : (w2.setCell ⟨g4, kk * 3, none⟩ (.string t)).alloc (.cells #[.slice (some ⟨g, 0, none⟩) n c, .slice (some ⟨g4, 0, none⟩) hs'.length c4, .int .i64 q] 30) = w3 at *
     clear hw3 oc3 of3
     generalize hbo : w2.heap.size = bo at *
     clear hbo
     go_loopw [10, 11] (fun iv jv wr => ∃ (k : Nat) (cur : List LgrV) (u11 : Value), iv = .int .i64 k ∧ jv = u11 ∧ k ≤ n ∧ Hid (lsOf cur = renT (L.take k) f.data.toList t.data.toList ++ L.drop k) ∧
       Hid (Rows wr w1.heap.size ([] ++ two 49 6 n (.slice (some ⟨g, 0, none⟩) n c) lcells lrows cur ++ two 83 3 hs'.length (.slice (some ⟨g4, 0, none⟩) hs'.length c4) hcells hrows hs2)) ∧ Hid (Blk wr bo [.slice (some ⟨g, 0, none⟩) n c, .slice (some ⟨g4, 0, none⟩) hs'.length c4, .int .i64 q]) ∧ Hid (Blk wr (w.heap.size + 1) [.slice none 0 0, .slice none 0 0, .int .i64 0]) ∧ Hid (∀ x ∈ cur, x.hv.ownBlock ≠ some bo ∧ x.hv.ownBlock ≠ some (w.heap.size + 1)) ∧ Hid (Below w.heap.size w wr)) (fun iv _ _ => n - (intOf iv).toNat)
     case atStart => exact ⟨0, ls, _, rfl, rfl, by omega, by simpa [renT, Hid] using HL.out, HR2.out, HKB.out, HK3.out, fun x hx => ⟨fun e => by have := HNB.out x hx _ e; omega, fun e => by have := HNB.out x hx _ e; omega⟩, HB3.out⟩
     case round =>
      obtain ⟨k, cur, u11, rfl, rfl, hk, HC, HRx, HKx, HKr, HNx, HBx⟩ := hrel
      by_cases hlt : k < n
      · have b0 := (HKx.out.2 0 _ rfl).1
        have hkL1 : k < L.length := by have := HLn.out.1; have := HLn.out.2; omega
        obtain ⟨l, hl⟩ : ∃ l, L[k]? = some l := ⟨_, List.getElem?_eq_getElem hkL1⟩
        have hcl : (lsOf cur)[k]? = some l := by rw [HC.out, ren_at _ _ hkL1]; exact hl
        obtain ⟨x, hx, hxl⟩ : ∃ x, cur[k]? = some x ∧ x.l = l := by
          unfold lsOf at hcl
          rw [List.getElem?_map] at hcl
          cases hx : cur[k]? with
          | none => rw [hx] at hcl; cases hcl
          | some x => rw [hx] at hcl; exact ⟨x, rfl, Option.some.inj hcl⟩
        obtain ⟨xl, xhv, xhn, xfv, xfn⟩ := x
        simp only at hxl
        subst hxl
        have own6 : wr.ownsRow w1.heap.size 9 1 xhv xhn (xl.hs.map txt) := HRx.out.sub_ hx (r := ⟨9, 1, xhn, xhv, xl.hs.map txt⟩) (by simp [lrows])
        have hnb := HNx.out _ (List.mem_of_getElem? hx)
        simp only at hnb
        obtain ⟨A6, k6, e6, hnc6, hcm6⟩ := (Sl.of_own own6).form
        subst e6
        unfold maxLen at hcm6
        have hlen6 : xl.hs.length = xhn := by have := own6.1; simpa using this
        have hxn6 : xhn ≤ 6 := by have := HLW.out xl (List.mem_of_getElem? hl); omega
        have hcur : k < cur.length := (List.getElem?_eq_some_iff.1 hx).1
        have HX := hid hx
        have HLk := hid hl
        have HNb := hid hnb
        have HL6 := hid hlen6
        clear hx hl hcl own6 hnb hlen6
        go_wp2_with fail
        clear b0
        go_loopw [11] (fun jv wr => ∃ (j : Nat) (hsj : List Name) (cur2 : List LgrV), jv = .int .i64 j ∧ j ≤ xhn ∧ Hid (hsj = (xl.hs.take j).map (renS f.data.toList t.data.toList) ++ xl.hs.drop j) ∧ Hid (cur2 = cur.set k ⟨{ xl with hs := hsj }, .slice A6 xhn k6, xhn, xfv, xfn⟩) ∧
          Hid (Rows wr w1.heap.size ([] ++ two 49 6 n (.slice (some ⟨g, 0, none⟩) n c) lcells lrows cur2 ++ two 83 3 hs'.length (.slice (some ⟨g4, 0, none⟩) hs'.length c4) hcells hrows hs2)) ∧ Hid (Blk wr bo [.slice (some ⟨g, 0, none⟩) n c, .slice (some ⟨g4, 0, none⟩) hs'.length c4, .int .i64 q]) ∧ Hid (Blk wr (w.heap.size + 1) [.slice none 0 0, .slice none 0 0, .int .i64 0]) ∧ Hid (Below w.heap.size w wr)) (fun jv _ => xhn - (intOf jv).toNat)
        case atStart => exact ⟨0, xl.hs, cur, rfl, Nat.zero_le _, by simp [Hid], (nm_set HX.out).symm, HRx.out, HKx.out, HKr.out, HBx.out⟩
        case round =>
          obtain ⟨j, hsj, cur2, rfl, hj, HJ, HC2, HRj, HKj, HKq, HBj⟩ := hrel
          have hx2 : cur2[k]? = some ⟨{ xl with hs := hsj }, .slice A6 xhn k6, xhn, xfv, xfn⟩ := by rw [HC2.out]; exact List.getElem?_set_self hcur
          have o2 : wr.cell? ⟨g, k * 6 + 2, none⟩ = some (.slice A6 xhn k6) := (HRj.out.cell_at (j := 2) lcells_len hx2 rfl).1
          have own6 : wr.ownsRow w1.heap.size 9 1 (.slice A6 xhn k6) xhn (hsj.map txt) := HRj.out.sub_ hx2 (r := ⟨9, 1, xhn, .slice A6 xhn k6, hsj.map txt⟩) (by simp [lrows])
          have b0 := (HKj.out.2 0 _ rfl).1
          have s0 : (0 : Int) ≤ (k : Int) := by omega
          have s1 : (k : Int) < (n : Int) := by omega
          have s2 : ((k : Int)).toNat = k := by simp
          by_cases hjn : j < xhn
          · have hjl : j < xl.hs.length := by have := HL6.out; omega
            obtain ⟨z, hz⟩ : ∃ z, xl.hs[j]? = some z := ⟨_, List.getElem?_eq_getElem hjl⟩
            have hzj : hsj[j]? = some z := by rw [HJ.out, ren_mapat _ hjl]; exact hz
            obtain ⟨p, hp, hp2⟩ := txt_mk z
            obtain ⟨g6, rfl, _⟩ := own_some own6 (by omega)
            have hg6 : w1.heap.size ≤ g6 := (own6.lt g6 rfl).1
            have hg6b : g6 ≠ bo := fun e => HNb.out.1 (by rw [← e]; rfl)
            have hg6r : g6 ≠ w.heap.size + 1 := fun e => HNb.out.2 (by rw [← e]; rfl)
            have oc : wr.cell? ⟨g6, j, none⟩ = some (.string p) := by
              have h9 := own6.cellAt j (by have := own6.1; simp at this; omega)
              rw [List.getElem?_map, hzj] at h9
              rw [← hp]; exact h9
            have of := own6.frozenAt j
            have hstep := ren_mapstep (renS f.data.toList t.data.toList) hz
            rw [← HJ.out] at hstep
            have HST := hid hstep
            have HZJ := hid hzj
            have t0 : (0 : Int) ≤ (j : Int) := by omega
            have t1 : (j : Int) < (xhn : Int) := by omega
            have t2 : ((j : Int)).toNat = j := by simp
            by_cases heq : p.data.toList = f.data.toList
            · have e1 := eq_true_of heq
              have hr1 := hid (show renS f.data.toList t.data.toList z = t.data.toList by unfold renS; rw [if_pos (by rw [← hp2]; exact heq)])
              have st := own6.stored j (.string t)
              have HRs := hid (HRj.out.rowset (j := 0) (e := 2) (x := ⟨{ xl with hs := hsj }, .slice (some ⟨g6, 0, none⟩) xhn k6, xhn, xfv, xfn⟩) (y := ⟨{ xl with hs := hsj.set j t.data.toList }, .slice (some ⟨g6, 0, none⟩) xhn k6, xhn, xfv, xfn⟩)
                (r := ⟨9, 1, xhn, .slice (some ⟨g6, 0, none⟩) xhn k6, hsj.map txt⟩) (ys := (hsj.map txt).set j (.string t)) lcells_len lrows_len hx2 (by omega) rfl st.2 st.1 rfl
                (by
                  show [(⟨_, _, _, _, (hsj.set j t.data.toList).map txt⟩ : Row), _] = _
                  rw [List.map_set, txt_data]; rfl))
              have HKs := hid (HKj.out.apart ⟨g6, j, none⟩ (.string t) hg6b)
              have HKt := hid (HKq.out.apart ⟨g6, j, none⟩ (.string t) hg6r)
              have HBs := hid (HBj.out.setCell (p := ⟨g6, j, none⟩) (show w.heap.size ≤ g6 by omega) (.string t))
              clear heq hp hp2 hz hzj hstep st hx2 own6
              go_wp2_with fail
              go_roundw
              case rel =>
                refine ⟨j + 1, hsj.set j t.data.toList, cur2.set k ⟨{ xl with hs := hsj.set j t.data.toList }, .slice (some ⟨g6, 0, none⟩) xhn k6, xhn, xfv, xfn⟩, by go_num, by omega, ?_, ?_, HRs.out, HKs.out, HKt.out, HBs.out⟩
                · show _ = _
                  rw [HST.out, hr1.out]
                · show _ = _
                  rw [HC2.out, List.set_set]
              case measure => simp [intOf]; omega
            · have e1 := eq_false_of heq
              have hr1 := hid (show renS f.data.toList t.data.toList z = z by unfold renS; rw [if_neg (by rw [← hp2]; exact heq)])
              clear heq hp hp2 hz hzj hstep hx2 own6
              go_wp2_with fail
              go_roundw
              case rel =>
                refine ⟨j + 1, hsj, cur2, by go_num, by omega, ?_, HC2.out, HRj.out, HKj.out, HKq.out, HBj.out⟩
                show _ = _
                rw [HST.out, hr1.out, nm_set HZJ.out]
              case measure => simp [intOf]; omega
          · have hall := hid (show hsj = xl.hs.map (renS f.data.toList t.data.toList) by
              rw [HJ.out, List.take_of_length_le (by have := HL6.out; omega), List.drop_eq_nil_of_le (by have := HL6.out; omega), List.append_nil])
            clear hx2 own6
            go_wp2_with fail
            go_roundw
            case rel =>
              refine ⟨k + 1, cur2, _, by go_num, rfl, by omega, ?_, HRj.out, HKj.out, HKq.out, ?_, HBj.out⟩
              · show lsOf cur2 = _
                rw [ren_step _ _ HLk.out, ← HC.out, HC2.out]
                unfold lsOf
                rw [List.map_set]
                show (List.map (fun x => x.l) cur).set k { xl with hs := hsj } = _
                rw [hall.out]; rfl
              · intro x hx
                rw [HC2.out] at hx
                rcases List.mem_or_eq_of_mem_set hx with hx | rfl
                · exact HNx.out x hx
                · exact HNb.out
            case measure => simp [intOf]; omega
      · obtain rfl : k = n := by omega
        have hkL2 := HLn.out
        have e0 : L.take k = L := List.take_of_length_le (by omega)
        have e1 : L.drop k = [] := List.drop_eq_nil_of_le (by omega)
        rw [e0, e1, List.append_nil] at HC
        have hcl : cur.length = k := by have h := congrArg List.length HC.out; simp [lsOf, renT] at h; omega
        have HR5 := hid (show Rows wr w1.heap.size (treeRows cur.length (.slice (some ⟨g, 0, none⟩) k c) cur hs2.length (.slice (some ⟨g4, 0, none⟩) hs'.length c4) hs2) by rw [treeRows_eq, hcl, HHs.out.2]; simpa using HRx.out)
        have HS5 := hid (show TreeS (treeRows cur.length (.slice (some ⟨g, 0, none⟩) k c) cur hs2.length (.slice (some ⟨g4, 0, none⟩) hs'.length c4) hs2) (.agg #[.slice (some ⟨g, 0, none⟩) k c, .slice (some ⟨g4, 0, none⟩) hs'.length c4, .int .i64 q]) (renT L f.data.toList t.data.toList) (setNm H kk t.data.toList) q from ⟨_, _, cur, hs2, rfl, HC.out, HHs.out.1, rfl⟩)
        have CV := hid (specChecked_c (HS5.out.at_ HR5.out HD2.out) (Nat.le_refl _))
        have b0 := (HKx.out.2 0 _ rfl).1
        have b1 := (HKx.out.2 1 _ rfl).1
        have b2 := (HKx.out.2 2 _ rfl).1
        clear hcl e0 e1 hkL2
        cases hy : treeOk (renT L f.data.toList t.data.toList) (setNm H kk t.data.toList) q with
        | false =>
          rw [hy] at CV
          have HN := hid (show nameX L H q f.data.toList t.data.toList = none by rw [HE.out]; unfold ifOk; rw [hy]; rfl)
          clear hy
          go_wp2_with fail
          refine (CV.out).mono ?_
          rintro e w4 ⟨rfl, hb4⟩
          have HK4 := hid (HKr.out.to hb4)
          have HB4 := hid (HBx.out.trans (hb4.mono HBx.out.size))
          clear hb4
          obtain ⟨q0c, q0f⟩ := HK4.out.2 0 _ rfl
          obtain ⟨q1c, q1f⟩ := HK4.out.2 1 _ rfl
          obtain ⟨q2c, q2f⟩ := HK4.out.2 2 _ rfl
          go_wp2_with fail
          have RB := ((HK4.out.set 0 (.slice none 0 0)).set 1 (.slice none 0 0)).set 2 (.int .i64 0)
          have f0 := (RB.2 0 _ rfl).1
          have f1 := (RB.2 1 _ rfl).1
          have f2 := (RB.2 2 _ rfl).1
          refine bodyPost_ret (v := .tuple #[.agg #[.slice none 0 0, .slice none 0 0, .int .i64 0], .bool false]) (by simp [results, Try.results36, go_sem, f0, f1, f2]) rfl ?_
          refine postO_none HN.out rfl ?_
          iterate 3 refine Below.setCell ?_ (by simp) _
          exact HB4.out
        | true =>
          rw [hy] at CV
          have HN := hid (show nameX L H q f.data.toList t.data.toList = some (renT L f.data.toList t.data.toList, setNm H kk t.data.toList, q) by rw [HE.out]; unfold ifOk; rw [hy]; rfl)
          clear hy
          go_wp2_with fail
          refine (CV.out).mono ?_
          rintro e w4 ⟨rfl, hb4⟩
          have HK4 := hid (HKr.out.to hb4)
          have HB4 := hid (HBx.out.trans (hb4.mono HBx.out.size))
          have HR6 := hid (HR5.out.below hb4)
          clear hb4
          obtain ⟨q0c, q0f⟩ := HK4.out.2 0 _ rfl
          obtain ⟨q1c, q1f⟩ := HK4.out.2 1 _ rfl
          obtain ⟨q2c, q2f⟩ := HK4.out.2 2 _ rfl
          go_wp2_with fail
          have RB := ((HK4.out.set 0 (.slice (some ⟨g, 0, none⟩) k c)).set 1 (.slice (some ⟨g4, 0, none⟩) hs'.length c4)).set 2 (.int .i64 q)
          have f0 := (RB.2 0 _ rfl).1
          have f1 := (RB.2 1 _ rfl).1
          have f2 := (RB.2 2 _ rfl).1
          refine bodyPost_ret (v := .tuple #[.agg #[.slice (some ⟨g, 0, none⟩) k c, .slice (some ⟨g4, 0, none⟩) hs'.length c4, .int .i64 q], .bool true]) (by simp [results, Try.results36, go_sem, f0, f1, f2]) rfl ?_
          rw [HN.out]
          refine ⟨_, _, rfl, HS5.out, ?_, ?_⟩
          · refine Rows.base ?_ hww1
            iterate 3 refine Rows.low ?_ (by omega)
            exact HR6.out
          · iterate 3 refine Below.setCell ?_ (by simp) _
            exact HB4.out
end Go.Proofs.Yteoblmhbjmefoaa
