/-
  TREES changed: one cell of a logger: the model's SetLevel, SetStop, SetOff. By gen_c9.py.
-/
import Derived.Test.YtpfnjkmkenaipaaC8
namespace Go.Proofs.Ytpfnjkmkenaipaa
open Go.RowKit Nm
set_option linter.unusedSimpArgs false
set_option linter.unusedVariables false

theorem upd_map {β : Type} (g : Lgr → β) (L : List Lgr) (k : Nat) (f : Lgr → Lgr) (h : ∀ l, g (f l) = g l) : (updL L k f).map g = L.map g := by
  unfold updL
  cases e : L[k]? with
  | none => rfl
  | some l =>
    show (L.set k (f l)).map g = L.map g
    rw [List.map_set, h]
    refine List.ext_getElem? fun i => ?_
    by_cases hi : i = k
    · subst hi
      rw [List.getElem?_set_self (by rw [List.length_map]; exact (List.getElem?_eq_some_iff.1 e).1), List.getElem?_map, e]; rfl
    · rw [List.getElem?_set_ne (by omega)]
theorem upd_ok (L : List Lgr) (H : List Hnd) (q : Int) (k : Nat) (f : Lgr → Lgr) {j : Nat} {u : Value} (hf : OneCell f j u) (hlv : ∀ l, (f l).lv = l.lv) (h : treeOk L H q = true) : treeOk (updL L k f) H q = true := by
  have h1 : (updL L k f).map (·.nm) = L.map (·.nm) := upd_map _ L k f hf.nm
  have h2 : (updL L k f).map (lgrOk H) = L.map (lgrOk H) := upd_map _ L k f (fun l => by unfold lgrOk; rw [hf.nm, hf.hs, hf.fs, hlv])
  have h3 : (updL L k f).all (lgrOk H) = L.all (lgrOk H) := by
    have a : ∀ l : List Lgr, l.all (lgrOk H) = (l.map (lgrOk H)).all id := fun l => by rw [List.all_map]; rfl
    rw [a, a, h2]
  have h4 : (updL L k f).length = L.length := by have := congrArg List.length h1; simpa using this
  rw [← h]
  unfold treeOk lgrsOk
  rw [h3, h1, h4]
theorem tree_cell {f : Lgr → Lgr} {j : Nat} {u : Value} (hf : OneCell f j u) {W : World} {lo k : Nat} {rs : List Row} {v : Value} {L : List Lgr} {H : List Hnd} {q : Int} (hs : TreeS rs v L H q) (hr : Rows W lo rs) (hk : k < L.length) :
    ∃ g n c A4 n4 c4 y rs', v = .agg #[.slice (some ⟨g, 0, none⟩) n c, .slice A4 n4 c4, .int .i64 q] ∧ k < n ∧ n ≤ c ∧ c ≤ maxLen ∧ lo ≤ g ∧ g < W.heap.size ∧ W.cell? ⟨g, k * 6 + j, none⟩ = some y ∧ W.frozen? ⟨g, k * 6 + j, none⟩ = false ∧
      (∀ W', Rows W' lo rs → Rows (W'.setCell ⟨g, k * 6 + j, none⟩ u) lo rs') ∧ TreeS rs' v (updL L k f) H q := by
  obtain ⟨v1, v2, ls, hs', rfl, h1, h2, rfl⟩ := hs
  have hkl : k < ls.length := by rw [← h1] at hk; simpa [lsOf] using hk
  obtain ⟨hl, hh⟩ := hr.lsIn
  obtain ⟨A, c, rfl, hnc, hcm⟩ := hl.1.form
  obtain ⟨A4, c4, rfl, _, _⟩ := hh.1.form
  clear hl hh
  have hr0 : Rows W lo ([] ++ two 47 6 ls.length (.slice A ls.length c) lcells lrows ls ++ two 60 3 hs'.length (.slice A4 hs'.length c4) hcells hrows hs') := by rw [treeRows_eq] at hr; simpa using hr
  obtain ⟨g, rfl, hglt⟩ := own_some hr0.top (by omega)
  have hgl : lo ≤ g := (hr0.top.lt g rfl).1
  obtain ⟨x, hx⟩ : ∃ x, ls[k]? = some x := ⟨_, List.getElem?_eq_getElem hkl⟩
  obtain ⟨y, hy⟩ : ∃ y, (lcells x)[j]? = some y := ⟨_, List.getElem?_eq_getElem (by rw [lcells_len]; exact hf.lt)⟩
  obtain ⟨c1, c2⟩ := hr0.cell_at (j := j) lcells_len hx hy
  refine ⟨g, ls.length, c, A4, hs'.length, c4, y, treeRows (ls.set k { x with l := f x.l }).length (.slice (some ⟨g, 0, none⟩) ls.length c) (ls.set k { x with l := f x.l }) hs'.length (.slice A4 hs'.length c4) hs', rfl, hkl, hnc, hcm, hgl, hglt, c1, c2, fun W' hW' => ?_, ⟨_, _, ls.set k { x with l := f x.l }, hs', rfl, by rw [lsOf_upd hx f, h1], h2, rfl⟩⟩
  have hr1 : Rows W' lo ([] ++ two 47 6 ls.length (.slice (some ⟨g, 0, none⟩) ls.length c) lcells lrows ls ++ two 60 3 hs'.length (.slice A4 hs'.length c4) hcells hrows hs') := by rw [treeRows_eq] at hW'; simpa using hW'
  have hr2 := hr1.cellset (j := j) (e := 2) (x := x) (y := { x with l := f x.l }) (u := u) lcells_len lrows_len hx hf.lt (hf.cells x) (by simp [lrows, hf.hs, hf.fs])
  rw [treeRows_eq, List.length_set]
  simpa using hr2

set_option maxHeartbeats 8000000 in
set_option maxRecDepth 100000 in
theorem specSetStop_c {w : World} {B : Nat} {v : Value} {L : List Lgr} {H : List Hnd} {q : Int} (s : ByteArray) (b : Bool) (h : TreeIn w B v L H q) (hB : B ≤ w.heap.size) :
    Calls Try.prog 19 #[v, .string s, .bool b] w (TreePostO w (lgrX L H q s.data.toList (setStopF b))) := by
  have C := hid (fun (W : World) (hW : Below w.heap.size w W) => specTreeX_c (h.below hW hB) (Nat.le_trans hB hW.size))
  obtain ⟨A1, n1, k1, A2, n2, k2, rfl⟩ := h.form
  obtain ⟨ls, hl, hL⟩ := h.loggers
  have AT := fun (W : World) (hW : Below w.heap.size w W) => loggerAt_c (.slice A1 n1 k1) n1 B ls s W (hl.below hW hB)
  have hN : lnames ls = namesOf L := by rw [← hL, namesOf_ls]
  rw [hN] at AT
  clear hN hl hL
  cases hz : treeOk L H q with
  | false =>
    have HE := hid (show lgrX L H q s.data.toList (setStopF b) = none by unfold lgrX changedO; rw [hz]; split <;> rfl)
    generalize idxL (namesOf L) s.data.toList = z at AT
    replace AT := hid AT
    rw [hz] at C
    clear h hz
    go_enter Try.func19, Try.ntmps19
    go_wp2_with (go_at_call 58; refine (AT.out _ (by go_grown)).mono ?_; rintro e w2 ⟨rfl, hw2⟩; have hw2 := hw2.symm; subst hw2)
    refine (C.out _ ?_).mono ?_
    case refine_1 => go_grown
    rintro e w1 ⟨rfl, hb1⟩
    have K1 := ((Blk.new _ _ _).to hb1)
    simp only [World.size_alloc] at K1
    have HK1 := hid K1
    have HB1 := hid (Below.trans (by go_grown) (hb1.mono (by simp; try omega)) : Below w.heap.size w w1)
    obtain ⟨q0c, q0f⟩ := HK1.out.2 0 _ rfl
    obtain ⟨q1c, q1f⟩ := HK1.out.2 1 _ rfl
    obtain ⟨q2c, q2f⟩ := HK1.out.2 2 _ rfl
    clear hb1 K1
    go_wp2_with fail
    have RB := ((HK1.out.set 0 (.slice none 0 0)).set 1 (.slice none 0 0)).set 2 (.int .i64 0)
    have f0 := (RB.2 0 _ rfl).1
    have f1 := (RB.2 1 _ rfl).1
    have f2 := (RB.2 2 _ rfl).1
    refine bodyPost_ret (v := .tuple #[.agg #[.slice none 0 0, .slice none 0 0, .int .i64 0], .bool false]) (by simp [results, Try.results19, go_sem, f0, f1, f2]) rfl ?_
    refine postO_none HE.out rfl ?_
    iterate 3 refine Below.setCell ?_ (by simp) _
    exact HB1.out
  | true =>
   by_cases hneg : idxL (namesOf L) s.data.toList < 0
   · have HE := hid (show lgrX L H q s.data.toList (setStopF b) = none by unfold lgrX; rw [if_pos hneg])
     generalize idxL (namesOf L) s.data.toList = z at AT hneg
     replace AT := hid AT
     rw [hz] at C
     clear h hz
     go_enter Try.func19, Try.ntmps19
     go_wp2_with (go_at_call 58; refine (AT.out _ (by go_grown)).mono ?_; rintro e w2 ⟨rfl, hw2⟩; have hw2 := hw2.symm; subst hw2)
     refine (C.out _ ?_).mono ?_
     case refine_1 => go_grown
     rintro e w1 ⟨rfl, hb1⟩
     have K1 := ((Blk.new _ _ _).to hb1)
     simp only [World.size_alloc] at K1
     have HK1 := hid K1
     have HB1 := hid (Below.trans (by go_grown) (hb1.mono (by simp; try omega)) : Below w.heap.size w w1)
     obtain ⟨q0c, q0f⟩ := HK1.out.2 0 _ rfl
     obtain ⟨q1c, q1f⟩ := HK1.out.2 1 _ rfl
     obtain ⟨q2c, q2f⟩ := HK1.out.2 2 _ rfl
     clear hb1 K1
     go_wp2_with fail
     have RB := ((HK1.out.set 0 (.slice none 0 0)).set 1 (.slice none 0 0)).set 2 (.int .i64 0)
     have f0 := (RB.2 0 _ rfl).1
     have f1 := (RB.2 1 _ rfl).1
     have f2 := (RB.2 2 _ rfl).1
     refine bodyPost_ret (v := .tuple #[.agg #[.slice none 0 0, .slice none 0 0, .int .i64 0], .bool false]) (by simp [results, Try.results19, go_sem, f0, f1, f2]) rfl ?_
     refine postO_none HE.out rfl ?_
     iterate 3 refine Below.setCell ?_ (by simp) _
     exact HB1.out
   · obtain ⟨k, hzk⟩ : ∃ k : Nat, idxL (namesOf L) s.data.toList = (k : Int) := ⟨_, (Int.toNat_of_nonneg (by omega)).symm⟩
     have hkl : k < L.length := by have := (idx_nat hzk).1; simpa [namesOf] using this
     have HE := hid (show lgrX L H q s.data.toList (setStopF b) = ifOk (updL L k (setStopF b)) H q by unfold lgrX changedO; rw [hzk, if_neg (by omega), hz]; rfl)
     rw [hzk] at AT
     replace AT := hid AT
     have HD := hid (fit_ok hz)
     have HZ := hid hz
     have CC := hid (fun (W : World) (hW : Below w.heap.size w W) => specCopy_c (h.below hW hB) hz (Nat.le_trans hB hW.size))
     rw [hz] at C
     clear h hz hneg hzk
     go_enter Try.func19, Try.ntmps19
     go_wp2_with (go_at_call 58; refine (AT.out _ (by go_grown)).mono ?_; rintro e w2 ⟨rfl, hw2⟩; have hw2 := hw2.symm; subst hw2)
     refine (C.out _ ?_).mono ?_
     case refine_1 => go_grown
     rintro e w1 ⟨rfl, hb1⟩
     have K0 := (((Blk.new _ _ _).alloc _).to hb1)
     have K1 := ((Blk.new _ _ _).to hb1)
     simp only [World.size_alloc] at K0 K1
     have HK0 := hid K0
     have HK1 := hid K1
     have HB1 := hid (Below.trans (by go_grown) (hb1.mono (by simp; try omega)) : Below w.heap.size w w1)
     have hsz1 : w.heap.size + 2 ≤ w1.heap.size := by have := hb1.size; simp at this; omega
     have d0 := (HK0.out.2 0 _ rfl).1
     have d1 := (HK0.out.2 1 _ rfl).1
     have d2 := (HK0.out.2 2 _ rfl).1
     clear hb1 K0 K1
     go_wp2_with fail
     refine (CC.out _ HB1.out).mono ?_
     rintro e w2 ⟨v', rs, rfl, hs, hr, hb2⟩
     obtain ⟨g, n, c, A4, n4, c4, y, rs', rfl, hkn, hnc, hcm, hlg, hgw, hc, hfz, hset, hs'⟩ := tree_cell (setStop_one b) hs hr hkl
     have HB2 := hid (HB1.out.trans (hb2.mono HB1.out.size))
     have hsz12 : w1.heap.size ≤ w2.heap.size := hb2.size
     have hww1 : w.heap.size ≤ w1.heap.size := HB1.out.size
     have HK2 := hid (HK1.out.to hb2)
     have HBA := hid (show Below w2.heap.size w2 (w2.alloc (.cells #[.slice (some ⟨g, 0, none⟩) n c, .slice A4 n4 c4, .int .i64 q] 32)) from (Below.refl _ _).alloc (Nat.le_refl _) _)
     have hsc : (w2.setCell ⟨g, k * 6 + 4, none⟩ (.bool b)).heap.size = w2.heap.size := by simp
     have HBs := hid (show Below w2.heap.size (w2.setCell ⟨g, k * 6 + 4, none⟩ (.bool b)) ((w2.setCell ⟨g, k * 6 + 4, none⟩ (.bool b)).alloc (.cells #[.slice (some ⟨g, 0, none⟩) n c, .slice A4 n4 c4, .int .i64 q] 32)) from (Below.refl _ _).alloc (by rw [hsc]; exact Nat.le_refl _) _)
     have HB3 := hid ((HB2.out.setCell (p := ⟨g, k * 6 + 4, none⟩) (show w.heap.size ≤ g by omega) (.bool b)).trans (HBs.out.mono HB2.out.size))
     have HK3 := hid ((HK2.out.apart ⟨g, k * 6 + 4, none⟩ (.bool b) (show g ≠ w.heap.size + 1 by omega)).alloc (.cells #[.slice (some ⟨g, 0, none⟩) n c, .slice A4 n4 c4, .int .i64 q] 32))
     have KB := Blk.new (w2.setCell ⟨g, k * 6 + 4, none⟩ (.bool b)) #[.slice (some ⟨g, 0, none⟩) n c, .slice A4 n4 c4, .int .i64 q] 32
     rw [hsc] at KB
     have b0 := (KB.2 0 _ rfl).1
     have b1 := (KB.2 1 _ rfl).1
     have b2 := (KB.2 2 _ rfl).1
     have hc3 := (HBA.out.cell (p := ⟨g, k * 6 + 4, none⟩) hgw).trans hc
     have hf3 := (HBA.out.frozen (p := ⟨g, k * 6 + 4, none⟩) hgw).trans hfz
     have HS2 := hid hs'
     have HR2 := hid ((hset _ hr).below (by rw [hsc]; exact HBs.out))
     have HD2 := hid (upd_fit (setStop_one b) (k := k) HD.out)
     have s0 : (0 : Int) ≤ (k : Int) := by omega
     have s1 : (k : Int) < (n : Int) := by omega
     have s2 : ((k : Int)).toNat = k := by simp
     unfold maxLen at hcm
     clear hb2 hs hr hs' hset KB hc hfz d0 d1 d2
     have HN := hid (show lgrX L H q s.data.toList (setStopF b) = some (updL L k (setStopF b), H, q) by rw [HE.out]; unfold ifOk; rw [upd_ok L H q k _ (setStop_one b) (fun _ => rfl) HZ.out]; rfl)
     have HK4 := HK3
     have HB4 := HB3
     have HR4 := HR2
     obtain ⟨q0c, q0f⟩ := HK4.out.2 0 _ rfl
     obtain ⟨q1c, q1f⟩ := HK4.out.2 1 _ rfl
     obtain ⟨q2c, q2f⟩ := HK4.out.2 2 _ rfl
     go_wp2_with fail
     have RB := ((HK4.out.set 0 (.slice (some ⟨g, 0, none⟩) n c)).set 1 (.slice A4 n4 c4)).set 2 (.int .i64 q)
     have f0 := (RB.2 0 _ rfl).1
     have f1 := (RB.2 1 _ rfl).1
     have f2 := (RB.2 2 _ rfl).1
     refine bodyPost_ret (v := .tuple #[.agg #[.slice (some ⟨g, 0, none⟩) n c, .slice A4 n4 c4, .int .i64 q], .bool true]) (by simp [results, Try.results19, go_sem, f0, f1, f2]) rfl ?_
     rw [HN.out]
     refine ⟨_, rs', rfl, HS2.out, ?_, ?_⟩
     · refine Rows.base ?_ hww1
       iterate 3 refine Rows.low ?_ (by omega)
       exact HR4.out
     · iterate 3 refine Below.setCell ?_ (by simp) _
       exact HB4.out

end Go.Proofs.Ytpfnjkmkenaipaa
