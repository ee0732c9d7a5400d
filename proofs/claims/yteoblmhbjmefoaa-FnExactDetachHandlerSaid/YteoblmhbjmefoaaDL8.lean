/-
  A HANDLER DROPPED: DropHandler of the program and of the model; without. By gen_dl8.py.
-/
import Derived.Test.YteoblmhbjmefoaaDL7
import Derived.Test.YteoblmhbjmefoaaHeld
namespace Go.Proofs.Yteoblmhbjmefoaa
open Go.RowKit Nm
set_option linter.unusedSimpArgs false
set_option linter.unusedVariables false

set_option maxHeartbeats 4000000 in
set_option maxRecDepth 100000 in
theorem without_c (v : Value) (n B : Nat) (l : List Name) (s : ByteArray) (w : World) (hv : Sl w B 1 n v (l.map txt)) (hB : B ≤ w.heap.size) (hn : n ≤ 64) :
    Calls Try.prog 61 #[v, .string s] w (fun e w' => ∃ v', e = .returned v' ∧ w'.ownsRow w.heap.size 9 1 v' (l.filter (notS s.data.toList)).length ((l.filter (notS s.data.toList)).map txt) ∧ Below w.heap.size w w') := by
  have hln : l.length = n := by have := hv.1; simpa using this
  obtain ⟨A, c, rfl, hnc, hcm⟩ := hv.form
  unfold maxLen at hcm
  have HV := hid (And.intro hv hln)
  clear hv hln
  go_enter Try.func61, Try.ntmps61
  go_wp2_with fail
  go_loopw [5, 6] (fun sv iv wr => ∃ (k : Nat), iv = .int .i64 k ∧ k ≤ n ∧ wr.ownsRow w.heap.size 9 1 sv ((l.take k).filter (notS s.data.toList)).length (((l.take k).filter (notS s.data.toList)).map txt) ∧ Hid (Below w.heap.size w wr)) (fun _ iv _ => n - (intOf iv).toNat)
  case atStart => exact ⟨0, rfl, by omega, World.ownsRow_lit w #[] 0 (Nat.le_refl _) (by unfold maxLen; omega) rfl, (Below.refl _ _).alloc (Nat.le_refl _) _⟩
  case round =>
    obtain ⟨k, rfl, hk, hown, HBx⟩ := hrel
    have hfl : ((l.take k).filter (notS s.data.toList)).length ≤ 64 := by
      have h1 := List.length_filter_le (notS s.data.toList) (l.take k)
      rw [List.length_take] at h1; omega
    obtain ⟨Ax, cx, rfl, _, _⟩ := (Sl.of_own hown).form
    have HO := hid hown
    clear hown
    by_cases hlt : k < n
    · obtain ⟨b, o, p, rfl, hbB, hx, c0⟩ := (HV.out.1.below HBx.out hB).text hlt
      have HX := hid hx
      clear hx
      by_cases he : p.data.toList = s.data.toList
      · have HF := hid (show (l.take (k + 1)).filter (notS s.data.toList) = (l.take k).filter (notS s.data.toList) from filt_drop (by rw [← he]; exact HX.out))
        have e1 := eq_true_of he
        clear he
        go_wp2_with fail
        go_roundw
        case rel => exact ⟨k + 1, by go_num, by omega, by rw [HF.out]; exact HO.out, HBx.out⟩
        case measure => simp [intOf]; omega
      · have HF := hid (show (l.take (k + 1)).filter (notS s.data.toList) = (l.take k).filter (notS s.data.toList) ++ [p.data.toList] from filt_keep HX.out he)
        have e1 := eq_false_of he
        clear he
        go_wp2_with (at_builtin; (refine appText _ rfl (.tmp 20) (.tmp 25) rfl w.heap.size _ ((l.take k).filter (notS s.data.toList)) (by rfl) HO.out p _ _ _ (by rfl) (by simp) (by omega) HBx.out.size ?_))
        intro v' w4 ho4 hb4
        have HO4 := hid ho4
        have HB4 := hid (HBx.out.trans hb4)
        clear ho4 hb4
        go_wp2_with fail
        go_roundw
        case rel => exact ⟨k + 1, by go_num, by omega, by rw [HF.out]; simpa using HO4.out, HB4.out⟩
        case measure => simp [intOf]; omega
    · have HF := hid (show l.take k = l from List.take_of_length_le (by have := HV.out.2; omega))
      go_wp2_with fail
      go_ret
      refine ⟨_, rfl, ?_, HBx.out⟩
      rw [show l.filter (notS s.data.toList) = (l.take k).filter (notS s.data.toList) by rw [HF.out]]
      exact HO.out

set_option maxHeartbeats 4000000 in
set_option maxRecDepth 100000 in
theorem implDropHandler_c {w : World} {B : Nat} {v : Value} {L : List Lgr} {H : List Hnd} {q : Int} (s : ByteArray) (h : TreeIn w B v L H q) (hB : B ≤ w.heap.size) :
    Calls Try.prog 20 #[v, .string s] w (TreePostO w (dropHX L H q s.data.toList)) := by
  obtain ⟨A1, n1, k1, A2, n2, k2, rfl⟩ := h.form
  have HW := hid (show Below w.heap.size w (((w.alloc (.cells #[.slice A1 n1 k1, .slice A2 n2 k2, .int .i64 q] 30)).alloc (.cells #[.string s] 9)).alloc (.cells #[.slice none 0 0, .slice none 0 0, .int .i64 0] 30)) from (((Below.refl _ _).alloc (Nat.le_refl _) _).alloc (by simp) _).alloc (by simp; omega) _)
  have KT := hid (((Blk.new w #[.slice A1 n1 k1, .slice A2 n2 k2, .int .i64 q] 30).alloc (.cells #[.string s] 9)).alloc (.cells #[.slice none 0 0, .slice none 0 0, .int .i64 0] 30))
  have KQ := hid ((Blk.new (w.alloc (.cells #[.slice A1 n1 k1, .slice A2 n2 k2, .int .i64 q] 30)) #[.string s] 9).alloc (.cells #[.slice none 0 0, .slice none 0 0, .int .i64 0] 30))
  have KR := hid (Blk.new ((w.alloc (.cells #[.slice A1 n1 k1, .slice A2 n2 k2, .int .i64 q] 30)).alloc (.cells #[.string s] 9)) #[.slice none 0 0, .slice none 0 0, .int .i64 0] 30)
  simp only [World.size_alloc] at KQ KR
  have h' := h.below HW.out hB
  have hB' := Nat.le_trans hB HW.out.size
  have CQ := hid (implChanged1_c 62 (.pointer (some ⟨w.heap.size + 1, 0, none⟩)) (if idxL (hnm H) s.data.toList < 0 then none else some (L.map (woL s.data.toList), H.eraseIdx (idxL (hnm H) s.data.toList).toNat, q)) h' hB' (fun args w => enters rfl (by kernel_rfl) rfl args w)
      (fun W lo bc v1 v2 rs hok hp => dropHClo_c s (KQ.out.2 0 _ rfl).1 hok W lo bc v1 v2 rs hp))
  have hmf : ∀ (fn : Fn) (first cap : Array Value) (w : World), (Instr.makeFunc fn first cap).run Try.prog w = .ok (.func fn first cap) w := fun _ _ _ _ => rfl
  clear h h' hB'
  have HE := hid (show dropHX L H q s.data.toList = changedO L H q (if idxL (hnm H) s.data.toList < 0 then none else some (L.map (woL s.data.toList), H.eraseIdx (idxL (hnm H) s.data.toList).toNat, q)) from rfl)
  generalize dropHX L H q s.data.toList = X at HE ⊢
  generalize (if idxL (hnm H) s.data.toList < 0 then none else some (L.map (woL s.data.toList), H.eraseIdx (idxL (hnm H) s.data.toList).toNat, q)) = O at HE CQ
  have d0 := (KT.out.2 0 _ rfl).1
  have d1 := (KT.out.2 1 _ rfl).1
  have d2 := (KT.out.2 2 _ rfl).1
  go_enter Try.func20, Try.ntmps20
  go_wp2_with fail
  refine (CQ.out).mono ?_
  rintro e w1 ⟨v', rs, rfl, hs, hr, hb1⟩
  have HX' := hid (show changedO L H q O = X from HE.out.symm)
  rw [HX'.out] at hs
  obtain ⟨u1, u2, ls, hs', rfl, hL, hH, rfl⟩ := hs
  have KR1 := hid (KR.out.to hb1)
  have HB1 := hid (HW.out.trans (hb1.mono HW.out.size))
  have HR1 := hid (hr.base (show w.heap.size + 3 ≤ _ by simp))
  have HS1 := hid (show TreeS (treeRows ls.length u1 ls hs'.length u2 hs') (.agg #[u1, u2, .int .i64 (resQ X)]) (resL X) (resH X) (resQ X) from ⟨u1, u2, ls, hs', rfl, hL, hH, rfl⟩)
  obtain ⟨hl, hh⟩ := hr.lsIn
  obtain ⟨A3, c3, rfl, _, _⟩ := hl.1.form
  obtain ⟨A4, c4, rfl, _, _⟩ := hh.1.form
  obtain ⟨q0c, q0f⟩ := KR1.out.2 0 _ rfl
  obtain ⟨q1c, q1f⟩ := KR1.out.2 1 _ rfl
  obtain ⟨q2c, q2f⟩ := KR1.out.2 2 _ rfl
  generalize hq0 : resQ X = q0 at *
  generalize hi0 : (changedO L H q O).isSome = i0 at *
  have HI := hid (show X.isSome = i0 by rw [← HX'.out]; exact hi0)
  have HQ0 := hid hq0
  clear hq0 hi0 hb1 hr hl hh hL hH d0 d1 d2
  go_wp2_with fail
  have RB := ((KR1.out.set 0 (.slice A3 ls.length c3)).set 1 (.slice A4 hs'.length c4)).set 2 (.int .i64 q0)
  have f0 := (RB.2 0 _ rfl).1
  have f1 := (RB.2 1 _ rfl).1
  have f2 := (RB.2 2 _ rfl).1
  refine bodyPost_ret (v := .tuple #[.agg #[.slice A3 ls.length c3, .slice A4 hs'.length c4, .int .i64 q0], .bool i0]) (by simp [results, Try.results20, go_sem, f0, f1, f2]) rfl ?_
  refine ⟨_, _, by rw [HI.out], (by rw [HQ0.out]; exact HS1.out), ?_, ?_⟩
  · refine Rows.base ?_ (show w.heap.size ≤ w.heap.size + 3 by omega)
    iterate 3 refine Rows.low ?_ (by omega)
    exact HR1.out
  · iterate 3 refine Below.setCell ?_ (by simp; try omega) _
    exact HB1.out

set_option maxHeartbeats 8000000 in
set_option maxRecDepth 100000 in
theorem specDropHandler_c {w : World} {B : Nat} {v : Value} {L : List Lgr} {H : List Hnd} {q : Int} (s : ByteArray) (h : TreeIn w B v L H q) (hB : B ≤ w.heap.size) :
    Calls Try.prog 19 #[v, .string s] w (TreePostO w (dropHX L H q s.data.toList)) := by
  have h0 := h
  have C := hid (fun (W : World) (hW : Below w.heap.size w W) => specTreeX_c (h0.below hW hB) (Nat.le_trans hB hW.size))
  have CC := hid (fun (hz : treeOk L H q = true) (W : World) (hW : Below w.heap.size w W) => specCopy_c (h0.below hW hB) hz (Nat.le_trans hB hW.size))
  obtain ⟨ls0, hs0, ⟨A1, n1, k1, A2, n2, k2, rfl, _, hh0, _⟩, _, hH0⟩ := h
  have AT := fun (W : World) (hW : Below w.heap.size w W) => handlerAt_c (.slice A2 n2 k2) n2 B hs0 s W (hh0.below hW hB)
  have hN : hnames hs0 = hnm H := by rw [hnames_hnm, hH0]
  rw [hN] at AT
  clear hN hh0 hH0 h0
  cases hz : treeOk L H q with
  | false =>
    have HN := hid (show dropHX L H q s.data.toList = none by unfold dropHX changedO; rw [hz]; rfl)
    generalize idxL (hnm H) s.data.toList = z at AT
    replace AT := hid AT
    rw [hz] at C
    clear hz CC
    go_enter Try.func19, Try.ntmps19
    go_wp2_with (go_at_call 60; refine (AT.out _ (by go_grown)).mono ?_; rintro e w2 ⟨rfl, hw2⟩; have hw2 := hw2.symm; subst hw2)
    refine (C.out _ ?_).mono ?_
    case refine_1 => go_grown
    rintro e w1 ⟨rfl, hb1⟩
    have K1 := ((Blk.new _ _ _).to hb1)
    simp only [World.size_alloc] at K1
    have HK1 := hid K1
    have HB1 := hid (Below.trans (by go_grown) (hb1.mono (by simp; try omega)) : Below w.heap.size w w1)
    clear hb1 K1
    obtain ⟨q0c, q0f⟩ := HK1.out.2 0 _ rfl
    obtain ⟨q1c, q1f⟩ := HK1.out.2 1 _ rfl
    obtain ⟨q2c, q2f⟩ := HK1.out.2 2 _ rfl
    go_wp2_with fail
    have RB := ((HK1.out.set 0 (.slice none 0 0)).set 1 (.slice none 0 0)).set 2 (.int .i64 0)
    have f0 := (RB.2 0 _ rfl).1
    have f1 := (RB.2 1 _ rfl).1
    have f2 := (RB.2 2 _ rfl).1
    refine bodyPost_ret (v := .tuple #[.agg #[.slice none 0 0, .slice none 0 0, .int .i64 0], .bool false]) (by simp [results, Try.results19, go_sem, f0, f1, f2]) rfl ?_
    refine postO_none HN.out rfl ?_
    iterate 3 refine Below.setCell ?_ (by simp) _
    exact HB1.out
  | true =>
   by_cases hneg : idxL (hnm H) s.data.toList < 0
   · have HN := hid (show dropHX L H q s.data.toList = none by unfold dropHX changedO; rw [hz, if_pos hneg]; rfl)
     generalize idxL (hnm H) s.data.toList = z at AT hneg
     replace AT := hid AT
     rw [hz] at C
     clear hz CC
     go_enter Try.func19, Try.ntmps19
     go_wp2_with (go_at_call 60; refine (AT.out _ (by go_grown)).mono ?_; rintro e w2 ⟨rfl, hw2⟩; have hw2 := hw2.symm; subst hw2)
     refine (C.out _ ?_).mono ?_
     case refine_1 => go_grown
     rintro e w1 ⟨rfl, hb1⟩
     have K1 := ((Blk.new _ _ _).to hb1)
     simp only [World.size_alloc] at K1
     have HK1 := hid K1
     have HB1 := hid (Below.trans (by go_grown) (hb1.mono (by simp; try omega)) : Below w.heap.size w w1)
     clear hb1 K1
     obtain ⟨q0c, q0f⟩ := HK1.out.2 0 _ rfl
     obtain ⟨q1c, q1f⟩ := HK1.out.2 1 _ rfl
     obtain ⟨q2c, q2f⟩ := HK1.out.2 2 _ rfl
     go_wp2_with fail
     have RB := ((HK1.out.set 0 (.slice none 0 0)).set 1 (.slice none 0 0)).set 2 (.int .i64 0)
     have f0 := (RB.2 0 _ rfl).1
     have f1 := (RB.2 1 _ rfl).1
     have f2 := (RB.2 2 _ rfl).1
     refine bodyPost_ret (v := .tuple #[.agg #[.slice none 0 0, .slice none 0 0, .int .i64 0], .bool false]) (by simp [results, Try.results19, go_sem, f0, f1, f2]) rfl ?_
     refine postO_none HN.out rfl ?_
     iterate 3 refine Below.setCell ?_ (by simp) _
     exact HB1.out
   · obtain ⟨k, hzk, hkl, hkx⟩ := idx_natN hneg
     have hkL : k < H.length := by unfold hnm at hkl; rw [List.length_map] at hkl; exact hkl
     obtain ⟨_, _, _, h8, h1l, _⟩ := tree_names hz
     have h6 := tree_hlen hz
     have HN := hid (dropH_some hz hzk)
     rw [hzk] at AT
     replace AT := hid AT
     have HND := hid (fun (l : Lgr) (hl : l ∈ L) => (tree_nodup hz hl).2)
     replace CC := hid (CC.out hz)
     rw [hz] at C
     clear hz hneg hzk hkl hkx
     go_enter Try.func19, Try.ntmps19
     go_wp2_with (go_at_call 60; refine (AT.out _ (by go_grown)).mono ?_; rintro e w2 ⟨rfl, hw2⟩; have hw2 := hw2.symm; subst hw2)
     refine (C.out _ ?_).mono ?_
     case refine_1 => go_grown
     rintro e w1 ⟨rfl, hb1⟩
     have K0 := (((Blk.new _ _ _).alloc _).to hb1)
     have K1 := ((Blk.new _ _ _).to hb1)
     simp only [World.size_alloc] at K0 K1
     have HK0 := hid K0
     have HK1 := hid K1
     have HB1 := hid (Below.trans (by go_grown) (hb1.mono (by simp; try omega)) : Below w.heap.size w w1)
     have hsz1 : w.heap.size + 2 ≤ w1.heap.size := by have := hb1.size; simp at this; omega
     have d0 := (HK0.out.2 0 _ rfl).1
     have d1 := (HK0.out.2 1 _ rfl).1
     have d2 := (HK0.out.2 2 _ rfl).1
     clear hb1 K0 K1
     go_wp2_with fail
     refine (CC.out _ HB1.out).mono ?_
     rintro e w2 ⟨v', rs, rfl, hs, hr, hb2⟩
     obtain ⟨u1, u2, ls, hs', rfl, h1, h2, rfl⟩ := hs
     have hll : ls.length = L.length := by rw [← h1]; simp [lsOf]
     have hlh : hs'.length = H.length := by rw [← h2]; simp [hsOf]
     have hkh : k < hs'.length := by omega
     obtain ⟨m, hm⟩ : ∃ m, m + 1 = hs'.length := ⟨hs'.length - 1, by omega⟩
     obtain ⟨hl, hh⟩ := hr.lsIn
     obtain ⟨A3, c3, rfl, hnc3, hcm3⟩ := hl.1.form
     obtain ⟨A4, c, rfl, hnc, hcm⟩ := hh.1.form
     have hone := (treeL_slices hr).2
     have hrN := rows_below hr
     rw [treeRows_eq] at hr hrN
     have hr0 : Rows w2 w1.heap.size ([] ++ two 49 6 ls.length (.slice A3 ls.length c3) lcells lrows ls ++ two 83 3 hs'.length (.slice A4 hs'.length c) hcells hrows hs') := by simpa using hr
     obtain ⟨g, rfl, hglt⟩ := own_some hr0.top (by omega)
     have hgl : w1.heap.size ≤ g := (hr0.top.lt g rfl).1
     have hown : w2.ownsRow w1.heap.size 83 3 (.slice A4 hs'.length c) hs'.length (hs'.flatMap hcells) := hr0.1 ⟨83, 3, hs'.length, .slice A4 hs'.length c, hs'.flatMap hcells⟩ (by simp [two])
     obtain ⟨g4, rfl, hg4lt⟩ := own_some hown (by omega)
     have hg4 : w1.heap.size ≤ g4 := (hown.lt g4 rfl).1
     have hsz12 : w1.heap.size ≤ w2.heap.size := hb2.size
     have hww1 : w.heap.size ≤ w1.heap.size := HB1.out.size
     have hgo : g4 ≠ w2.heap.size := by omega
     have hgo1 : g ≠ w2.heap.size := by omega
     have HNL := hid (show ∀ x ∈ ls, ∀ z, x.hv.ownBlock = some z → z < w2.heap.size from fun x hx z hz => (hr0.1 ⟨9, 1, x.hn, x.hv, x.l.hs.map txt⟩ (by
       simp only [two, List.nil_append, List.mem_append, List.mem_cons, List.mem_flatMap]; exact .inl (.inr ⟨x, hx, by simp [lrows]⟩))).lt z hz |>.2)
     -- the world in which the copy lies in its box
     obtain ⟨i0, hi, _, hz1, _⟩ := info_parts Try.infoHandler
     obtain ⟨A0, hA⟩ : ∃ A0 : Addr, (if c = k + 1 then (some ⟨g4, 0, none⟩ : Option Addr) else some ⟨g4, (k + 1) * 3, none⟩) = some A0 := by split <;> exact ⟨_, rfl⟩
     have HBA := hid (show Below w2.heap.size w2 (w2.alloc (.cells #[.slice (some ⟨g, 0, none⟩) ls.length c3, .slice (some ⟨g4, 0, none⟩) hs'.length c, .int .i64 q] 30)) from (Below.refl _ _).alloc (Nat.le_refl _) _)
     have hRA := hr0.below HBA.out.drew
     have hownA := own_below hown HBA.out.drew
     have KO := Blk.new w2 #[.slice (some ⟨g, 0, none⟩) ls.length c3, .slice (some ⟨g4, 0, none⟩) hs'.length c, .int .i64 q] 30
     have HK2 := hid ((HK1.out.to hb2).alloc (.cells #[.slice (some ⟨g, 0, none⟩) ls.length c3, .slice (some ⟨g4, 0, none⟩) hs'.length c, .int .i64 q] 30))
     rw [← hm] at hownA KO HBA HK2 hnc hRA
     obtain ⟨w3, hrun, ho3, hg3⟩ := run_delete (P := Try.prog) Try.underlying28 hi hz1 hownA (by omega) (by omega) hone hA
     have HKO3 := hid ((KO.dr 1).kept hg3 (show some w2.heap.size ≠ some g4 from fun e => hgo (Option.some.inj e).symm))
     have HK3 := hid ((HK2.out.dr 1).kept hg3 (show some (w.heap.size + 1) ≠ some g4 from fun e => by have := Option.some.inj e; omega))
     have hR3 := rows_delH rfl hRA ho3 hg3 rfl
     have HR3 := hid (hR3.off (j := 1) (u := .slice (some ⟨g4, 0, none⟩) m c) (off_rows hgo1 (fun x hx => ⟨fun e => hrN ⟨9, 1, x.hn, x.hv, x.l.hs.map txt⟩ (by
       rw [List.mem_append]; left
       simp only [two, List.mem_cons, List.mem_flatMap]
       exact .inr ⟨x, hx, by simp [lrows]⟩) e, fun e => hrN ⟨134, 3, x.fn, x.fv, fsCells x.l.fs⟩ (by
       rw [List.mem_append]; left
       simp only [two, List.mem_cons, List.mem_flatMap]
       exact .inr ⟨x, hx, by simp [lrows]⟩) e⟩) (fun e => hgo (Option.some.inj e)) (fun x hx => fun e => hrN ⟨134, 3, x.fn, x.fv, fsCells x.h.fs⟩ (by
       rw [List.mem_append]; right
       simp only [two, List.mem_cons, List.mem_flatMap]
       exact .inr ⟨x, (List.eraseIdx_sublist _ _).subset hx, by simp [hrows]⟩) e)))
     have HB3 := hid (show Below w1.heap.size w1 w3 from ((show Below w1.heap.size w1 w2 from hb2).trans (HBA.out.drew.mono hb2.size)).grown hg3 (Nat.le_trans hsz12 HBA.out.size) (fun z hz => by obtain rfl := Option.some.inj hz; exact hg4))
     have HRun := hid hrun
     have HHs := hid (show hsOf (hs'.eraseIdx k) = H.eraseIdx k by rw [hsOf_erase, h2])
     have HHl := hid (show (hs'.eraseIdx k).length = m by rw [List.length_eraseIdx, if_pos hkh]; omega)
     have od : (w2.alloc (.cells #[.slice (some ⟨g, 0, none⟩) ls.length c3, .slice (some ⟨g4, 0, none⟩) (m + 1) c, .int .i64 q] 30)).drew.cell? ⟨w2.heap.size, 1, none⟩ = some (.slice (some ⟨g4, 0, none⟩) (m + 1) c) := (KO.2 1 _ rfl).1
     have s0 : IntKind.i64.wrap ((k : Int) + 1) = (k : Int) + 1 := by rw [IntKind.wrap_i64]; omega
     have s1 : (0 : Int) ≤ (k : Int) := by omega
     have s2 : ((k : Int)).toNat = k := by simp
     have s3 : ((k : Int) + 1).toNat = k + 1 := by omega
     have s4 : (k : Int) + 1 ≤ ((m + 1 : Nat) : Int) := by omega
     have s5 : (0 : Int) ≤ (k : Int) + 1 := by omega
     have s6 : (k : Int) ≤ (c : Int) := by omega
     have s8 : k + 1 ≤ m + 1 := by omega
     have s9 : k ≤ c := by omega
     have s10 : k ≤ m := by omega
     unfold maxLen at hcm hcm3
     have HL := hid h1
     have HLn := hid hll
     have hn8 : ls.length ≤ 8 := by omega
     rw [← hm]
     clear hb2 hr hr0 hrN hl hh hown hownA hone hrun ho3 hg3 KO hR3 hRA h1 h2 hll hkh hm d0 d1 d2 h8 h1l h6 hlh hkL
     go_wp2_with fail
     refine wp_region_let 11 (fun w' : World => True) (fun w' : World => w'.cell? ⟨w2.heap.size, 1, none⟩ = some (.slice (some ⟨g4, 0, none⟩) (m + 1) c)) (by kernel_rfl) trivial od (fun hS => ?_)
     refine wpAnyL_take (i := 0) (oi := ?oi101) (v := ?v101) ?hi101 (by kernel_rfl) ?hf101 ?hr101 (by decide) ?hQ101 (Or.inl ⟨?hw101, ?hy101⟩) (⟨hS.1, fun h => hS.2 (by first | rfl | exact h)⟩) ?rest101
     case hi101 => simp only [List.getElem?_toArray, List.getElem?_cons_succ, List.getElem?_cons_zero]; rfl
     case hf101 => kernel_rfl
     case hr101 => kernel_rfl
     case hw101 => rfl
     case hy101 => (intro w hSw; (try dsimp only at hSw); go_simp; all_goals (first | done | with_reducible rfl))
     case hQ101 => exact fun _ _ _ h => h
     simp only [Act.put, List.setIfInBounds_toArray, List.set_cons_zero, List.set_cons_succ]
     refine wpAnyL_take (i := 2) (oi := ?oi102) (v := ?v102) ?hi102 (by kernel_rfl) ?hf102 ?hr102 (by decide) ?hQ102 (Or.inl ⟨?hw102, ?hy102⟩) (⟨hS.1, fun h => hS.2 (by first | rfl | exact h)⟩) ?rest102
     case hi102 => simp only [List.getElem?_toArray, List.getElem?_cons_succ, List.getElem?_cons_zero]; rfl
     case hf102 => kernel_rfl
     case hr102 => kernel_rfl
     case hw102 => rfl
     case hy102 => (intro w hSw; (try dsimp only at hSw); go_simp; all_goals (first | done | with_reducible rfl))
     case hQ102 => exact fun _ _ _ h => h
     simp only [Act.put, List.setIfInBounds_toArray, List.set_cons_zero, List.set_cons_succ]
     refine wpAnyL_take (i := 4) (oi := ?oi103) (v := ?v103) ?hi103 (by kernel_rfl) ?hf103 ?hr103 (by decide) ?hQ103 (Or.inl ⟨?hw103, ?hy103⟩) (⟨hS.1, fun h => hS.2 (by first | rfl | exact h)⟩) ?rest103
     case hi103 => simp only [List.getElem?_toArray, List.getElem?_cons_succ, List.getElem?_cons_zero]; rfl
     case hf103 => kernel_rfl
     case hr103 => kernel_rfl
     case hw103 => rfl
     case hy103 => (intro w hSw; (try dsimp only at hSw); go_simp; all_goals (first | done | with_reducible rfl))
     case hQ103 => exact fun _ _ _ h => h
     simp only [Act.put, List.setIfInBounds_toArray, List.set_cons_zero, List.set_cons_succ]
     refine wpAnyL_take (i := 6) (oi := ?oi104) (v := ?v104) ?hi104 (by kernel_rfl) ?hf104 ?hr104 (by decide) ?hQ104 (Or.inl ⟨?hw104, ?hy104⟩) (⟨hS.1, fun h => hS.2 (by first | rfl | exact h)⟩) ?rest104
     case hi104 => simp only [List.getElem?_toArray, List.getElem?_cons_succ, List.getElem?_cons_zero]; rfl
     case hf104 => kernel_rfl
     case hr104 => kernel_rfl
     case hw104 => rfl
     case hy104 => (intro w hSw; (try dsimp only at hSw); go_simp; all_goals (first | done | with_reducible rfl))
     case hQ104 => exact fun _ _ _ h => h
     simp only [Act.put, List.setIfInBounds_toArray, List.set_cons_zero, List.set_cons_succ]
     refine wpAnyL_take (i := 7) (oi := ?oi105) (v := ?v105) ?hi105 (by kernel_rfl) ?hf105 ?hr105 (by decide) ?hQ105 (Or.inl ⟨?hw105, ?hy105⟩) (⟨hS.1, fun h => hS.2 (by first | rfl | exact h)⟩) ?rest105
     case hi105 => simp only [List.getElem?_toArray, List.getElem?_cons_succ, List.getElem?_cons_zero]; rfl
     case hf105 => kernel_rfl
     case hr105 => kernel_rfl
     case hw105 => rfl
     case hy105 => (intro w hSw; (try dsimp only at hSw); go_simp; all_goals (first | done | with_reducible rfl))
     case hQ105 => exact fun _ _ _ h => h
     simp only [Act.put, List.setIfInBounds_toArray, List.set_cons_zero, List.set_cons_succ]
     refine wpAnyL_take1 (i := 1) (oi := ?oi106) (om := ?om106) (v := ?v106) ?hi106 (by kernel_rfl) ?hf106 ?hr106 (by decide) ?hm106 ?hd106 (by rfl) ?hQ106 (Or.inl ⟨?hw106, ?hy106⟩) (⟨hS.1, fun h => hS.2 (by first | rfl | exact h)⟩) ?rest106
     case hi106 => simp only [List.getElem?_toArray, List.getElem?_cons_succ, List.getElem?_cons_zero]; rfl
     case hm106 => simp only [List.getElem?_toArray, List.getElem?_cons_succ, List.getElem?_cons_zero]; rfl
     case hd106 => kernel_rfl
     case hf106 => kernel_rfl
     case hr106 => kernel_rfl
     case hw106 => rfl
     case hy106 => (intro w hSw; (try dsimp only at hSw); go_simp; all_goals (first | done | with_reducible rfl))
     case hQ106 => exact fun _ _ _ h => h
     simp only [Act.put, List.setIfInBounds_toArray, List.set_cons_zero, List.set_cons_succ]
     refine wpAnyL_take1 (i := 5) (oi := ?oi107) (om := ?om107) (v := ?v107) ?hi107 (by kernel_rfl) ?hf107 ?hr107 (by decide) ?hm107 ?hd107 (by rfl) ?hQ107 (Or.inl ⟨?hw107, ?hy107⟩) (⟨hS.1, fun h => hS.2 (by first | rfl | exact h)⟩) ?rest107
     case hi107 => simp only [List.getElem?_toArray, List.getElem?_cons_succ, List.getElem?_cons_zero]; rfl
     case hm107 => simp only [List.getElem?_toArray, List.getElem?_cons_succ, List.getElem?_cons_zero]; rfl
     case hd107 => kernel_rfl
     case hf107 => kernel_rfl
     case hr107 => kernel_rfl
     case hw107 => rfl
     case hy107 => (intro w hSw; (try dsimp only at hSw); go_simp; all_goals (first | done | with_reducible rfl))
     case hQ107 => exact fun _ _ _ h => h
     simp only [Act.put, List.setIfInBounds_toArray, List.set_cons_zero, List.set_cons_succ]
     refine wpAnyL_take (i := 3) (oi := ?oi108) (v := ?v108) ?hi108 (by kernel_rfl) ?hf108 ?hr108 (by decide) ?hQ108 (Or.inl ⟨?hw108, ?hy108⟩) (⟨hS.1, fun h => hS.2 (by first | rfl | exact h)⟩) ?rest108
     case hi108 => simp only [List.getElem?_toArray, List.getElem?_cons_succ, List.getElem?_cons_zero]; rfl
     case hf108 => kernel_rfl
     case hr108 => kernel_rfl
     case hw108 => rfl
     case hy108 => (intro w hSw; (try dsimp only at hSw); go_simp; all_goals (first | done | with_reducible rfl))
     case hQ108 => exact fun _ _ _ h => h
     simp only [Act.put, List.setIfInBounds_toArray, List.set_cons_zero, List.set_cons_succ]
     refine wpAnyL_take (i := 8) (oi := ?oi109) (v := ?v109) ?hi109 (by kernel_rfl) ?hf109 ?hr109 (by decide) ?hQ109 (Or.inl ⟨?hw109, ?hy109⟩) (⟨hS.1, fun h => hS.2 (by first | rfl | exact h)⟩) ?rest109
     case hi109 => simp only [List.getElem?_toArray, List.getElem?_cons_succ, List.getElem?_cons_zero]; rfl
     case hf109 => kernel_rfl
     case hr109 => kernel_rfl
     case hw109 => rfl
     case hy109 => (intro w hSw; (try dsimp only at hSw); go_simp; all_goals (first | done | with_reducible rfl))
     case hQ109 => exact fun _ _ _ h => h
     simp only [Act.put, List.setIfInBounds_toArray, List.set_cons_zero, List.set_cons_succ]
     refine wpAnyL_ready (rs := [9]) (by kernel_rfl) (by simp) ?_
     refine AllReadyL.cons (o := ?oi110) ?hi110 (fun K hK => ?step110) AllReadyL.nil
     case hi110 => simp only [List.getElem?_toArray, List.getElem?_cons_succ, List.getElem?_cons_zero]; rfl
     rw [if_pos (by rfl)]
     refine wp_app rfl (by rfl) (by rfl) HRun.out ?_
     refine hK.out _ _ ⟨trivial, fun _ => (HKO3.out.2 1 _ rfl).1⟩ (fun hS => ?_)
     simp only [Act.put, List.setIfInBounds_toArray, List.set_cons_zero, List.set_cons_succ]
     refine wpAnyL_take (i := 10) (oi := ?oi111) (v := ?v111) ?hi111 (by kernel_rfl) ?hf111 ?hr111 (by decide) ?hQ111 (Or.inl ⟨?hw111, ?hy111⟩) (⟨hS.1, fun h => hS.2 (by first | rfl | exact h)⟩) ?rest111
     case hi111 => simp only [List.getElem?_toArray, List.getElem?_cons_succ, List.getElem?_cons_zero]; rfl
     case hf111 => kernel_rfl
     case hr111 => kernel_rfl
     case hw111 => rfl
     case hy111 => (intro w hSw; (try dsimp only at hSw); go_simp; all_goals (first | done | with_reducible rfl))
     case hQ111 => exact fun _ _ _ h => h
     simp only [Act.put, List.setIfInBounds_toArray, List.set_cons_zero, List.set_cons_succ]
     have o9 := (HKO3.out.2 1 _ rfl).1
     have o9f := (HKO3.out.2 1 _ rfl).2
     refine wpAnyL_ready (rs := [11]) (by kernel_rfl) (by simp) ?_
     refine AllReadyL.cons (o := ?oi112) ?hi112 (fun K hK => ?step112) AllReadyL.nil
     case hi112 => simp only [List.getElem?_toArray, List.getElem?_cons_succ, List.getElem?_cons_zero]; rfl
     rw [if_pos (by rfl)]
     go_simp
     refine hK.out _ _ ⟨trivial, fun h => absurd h (by decide)⟩ (fun hS => ?_)
     refine wpAnyL_done (by kernel_rfl) ?_ _
     clear o9 o9f od hS s0 s1 s2 s3 s4 s5 s6 s8 s9 s10
     have HKO4 := hid (HKO3.out.set 1 (.slice (some ⟨g4, 0, none⟩) m c))
     have HK4 := hid (HK3.out.apart ⟨w2.heap.size, 1, none⟩ (.slice (some ⟨g4, 0, none⟩) m c) (show w2.heap.size ≠ w.heap.size + 1 by omega))
     have HB4 := hid (HB3.out.setCell (p := ⟨w2.heap.size, 1, none⟩) hsz12 (.slice (some ⟨g4, 0, none⟩) m c))
     generalize w3.setCell ⟨w2.heap.size, 1, none⟩ (.slice (some ⟨g4, 0, none⟩) m c) = w4 at *
     have hbo1 : w1.heap.size ≤ w2.heap.size := hsz12
     generalize hs'.eraseIdx k = hs2 at *
     generalize hN : ls.length = n at *
     generalize w2.heap.size = bo at *
     clear hN
     go_wp2_with fail
     go_loopw [8] (fun iv wr => ∃ (k : Nat) (cul : List LgrV), iv = .int .i64 k ∧ k ≤ n ∧ Hid (lsOf cul = (L.take k).map (woL s.data.toList) ++ L.drop k) ∧
       Hid (Rows wr w1.heap.size ([] ++ two 49 6 n (.slice (some ⟨g, 0, none⟩) n c3) lcells lrows cul ++ two 83 3 m (.slice (some ⟨g4, 0, none⟩) m c) hcells hrows hs2)) ∧ Hid (Blk wr bo [.slice (some ⟨g, 0, none⟩) n c3, .slice (some ⟨g4, 0, none⟩) m c, .int .i64 q]) ∧ Hid (Blk wr (w.heap.size + 1) [.slice none 0 0, .slice none 0 0, .int .i64 0]) ∧ Hid (Below w1.heap.size w1 wr)) (fun iv _ => n - (intOf iv).toNat)
     case atStart => exact ⟨0, ls, rfl, by omega, by simpa [Hid] using HL.out, HR3.out, HKO4.out, HK4.out, HB4.out⟩
     case round =>
      obtain ⟨i, cul, rfl, hi', HC, HRx, HKx, HKz, HBx⟩ := hrel
      have c0 := (HKx.out.2 0 _ rfl).1
      by_cases hlt : i < n
      · have hkL : i < L.length := by have := HLn.out; omega
        obtain ⟨l0, hl0⟩ : ∃ l, L[i]? = some l := ⟨_, List.getElem?_eq_getElem hkL⟩
        obtain ⟨x, hx, hxl⟩ := lsOf_atD HC.out hl0
        subst hxl
        have HX := hid (And.intro hx hl0)
        have hRd := HRx.out.below ((Below.refl _ _).drew)
        have own6 : wr.drew.ownsRow w1.heap.size 9 1 x.hv x.hn (x.l.hs.map txt) := hRd.sub_ hx (r := ⟨9, 1, x.hn, x.hv, x.l.hs.map txt⟩) (by simp [lrows])
        have o2 := hRd.cell_at (j := 2) lcells_len hx rfl
        have hxn : x.hn ≤ 6 := by have := own6.1; simp at this; have := HND.out x.l (List.mem_of_getElem? hl0); omega
        have CW := hid (without_c x.hv x.hn wr.drew.heap.size x.l.hs s wr.drew (Sl.of_own own6) (Nat.le_refl _) (by omega))
        obtain ⟨A6, c6, e6, _, _⟩ := (Sl.of_own own6).form
        have m0 : wr.drew.cell? ⟨g, i * 6 + 2, none⟩ = some (.slice A6 x.hn c6) := by rw [← e6]; exact o2.1
        rw [e6] at CW
        have HRd := hid hRd
        have HM := hid (And.intro e6 o2.2)
        have hgw : g < wr.drew.heap.size := World.block_lt_of_cell? _ _ m0
        have t0 : (0 : Int) ≤ (i : Int) := by omega
        have t1 : (i : Int) < (n : Int) := by omega
        have t2 : ((i : Int)).toNat = i := by simp
        clear hx hl0 hRd own6 o2 e6
        go_wp2_with fail
        refine wp_region_held_drew (S := (fun w' : World => w'.cell? ⟨bo, 0, none⟩ = some (.slice (some ⟨g, 0, none⟩) n c3))) (by kernel_rfl) c0 (fun hS => ?_)
        refine wpAnyH_take (i := 0) (oi := ?oi113) (v := ?v113) ?hi113 (by kernel_rfl) ?hf113 ?hr113 ?hQ113 (Or.inl ⟨?hw113, ?hy113⟩) (by assumption) ?rest113
        case hi113 => simp only [List.getElem?_toArray, List.getElem?_cons_succ, List.getElem?_cons_zero]; rfl
        case hf113 => kernel_rfl
        case hr113 => kernel_rfl
        case hw113 => rfl
        case hy113 => (intro w hSw; (try dsimp only at hSw); go_simp; all_goals (first | done | with_reducible rfl))
        case hQ113 => exact fun _ _ _ h => h
        simp only [Act.put, List.setIfInBounds_toArray, List.set_cons_zero, List.set_cons_succ]
        refine wpAnyH_take (i := 1) (oi := ?oi114) (v := ?v114) ?hi114 (by kernel_rfl) ?hf114 ?hr114 ?hQ114 (Or.inl ⟨?hw114, ?hy114⟩) (by assumption) ?rest114
        case hi114 => simp only [List.getElem?_toArray, List.getElem?_cons_succ, List.getElem?_cons_zero]; rfl
        case hf114 => kernel_rfl
        case hr114 => kernel_rfl
        case hw114 => rfl
        case hy114 => (intro w hSw; (try dsimp only at hSw); go_simp; all_goals (first | done | with_reducible rfl))
        case hQ114 => exact fun _ _ _ h => h
        simp only [Act.put, List.setIfInBounds_toArray, List.set_cons_zero, List.set_cons_succ]
        refine wpAnyH_take (i := 2) (oi := ?oi115) (v := ?v115) ?hi115 (by kernel_rfl) ?hf115 ?hr115 ?hQ115 (Or.inl ⟨?hw115, ?hy115⟩) (by assumption) ?rest115
        case hi115 => simp only [List.getElem?_toArray, List.getElem?_cons_succ, List.getElem?_cons_zero]; rfl
        case hf115 => kernel_rfl
        case hr115 => kernel_rfl
        case hw115 => rfl
        case hy115 => (intro w hSw; (try dsimp only at hSw); go_simp; all_goals (first | done | with_reducible rfl))
        case hQ115 => exact fun _ _ _ h => h
        simp only [Act.put, List.setIfInBounds_toArray, List.set_cons_zero, List.set_cons_succ]
        refine wpAnyH_take (i := 3) (oi := ?oi116) (v := ?v116) ?hi116 (by kernel_rfl) ?hf116 ?hr116 ?hQ116 (Or.inl ⟨?hw116, ?hy116⟩) (by assumption) ?rest116
        case hi116 => simp only [List.getElem?_toArray, List.getElem?_cons_succ, List.getElem?_cons_zero]; rfl
        case hf116 => kernel_rfl
        case hr116 => kernel_rfl
        case hw116 => rfl
        case hy116 => (intro w hSw; (try dsimp only at hSw); go_simp; all_goals (first | done | with_reducible rfl))
        case hQ116 => exact fun _ _ _ h => h
        simp only [Act.put, List.setIfInBounds_toArray, List.set_cons_zero, List.set_cons_succ]
        refine wpAnyH_take (i := 4) (oi := ?oi117) (v := ?v117) ?hi117 (by kernel_rfl) ?hf117 ?hr117 ?hQ117 (Or.inl ⟨?hw117, ?hy117⟩) (by assumption) ?rest117
        case hi117 => simp only [List.getElem?_toArray, List.getElem?_cons_succ, List.getElem?_cons_zero]; rfl
        case hf117 => kernel_rfl
        case hr117 => kernel_rfl
        case hw117 => rfl
        case hy117 => (intro w hSw; (try dsimp only at hSw); go_simp; all_goals (first | done | with_reducible rfl))
        case hQ117 => exact fun _ _ _ h => h
        simp only [Act.put, List.setIfInBounds_toArray, List.set_cons_zero, List.set_cons_succ]
        refine wpAnyH_take (i := 5) (oi := ?oi118) (v := ?v118) ?hi118 (by kernel_rfl) ?hf118 ?hr118 ?hQ118 (Or.inl ⟨?hw118, ?hy118⟩) (by assumption) ?rest118
        case hi118 => simp only [List.getElem?_toArray, List.getElem?_cons_succ, List.getElem?_cons_zero]; rfl
        case hf118 => kernel_rfl
        case hr118 => kernel_rfl
        case hw118 => rfl
        case hy118 => (intro w hSw; (try dsimp only at hSw); go_simp; all_goals (first | done | with_reducible rfl))
        case hQ118 => exact fun _ _ _ h => h
        simp only [Act.put, List.setIfInBounds_toArray, List.set_cons_zero, List.set_cons_succ]
        refine wpAnyH_take (i := 6) (oi := ?oi119) (v := ?v119) ?hi119 (by kernel_rfl) ?hf119 ?hr119 ?hQ119 (Or.inl ⟨?hw119, ?hy119⟩) (by assumption) ?rest119
        case hi119 => simp only [List.getElem?_toArray, List.getElem?_cons_succ, List.getElem?_cons_zero]; rfl
        case hf119 => kernel_rfl
        case hr119 => kernel_rfl
        case hw119 => rfl
        case hy119 => (intro w hSw; (try dsimp only at hSw); go_simp; all_goals (first | done | with_reducible rfl))
        case hQ119 => exact fun _ _ _ h => h
        simp only [Act.put, List.setIfInBounds_toArray, List.set_cons_zero, List.set_cons_succ]
        refine wpAnyH_take (i := 7) (oi := ?oi120) (v := ?v120) ?hi120 (by kernel_rfl) ?hf120 ?hr120 ?hQ120 (Or.inl ⟨?hw120, ?hy120⟩) (by assumption) ?rest120
        case hi120 => simp only [List.getElem?_toArray, List.getElem?_cons_succ, List.getElem?_cons_zero]; rfl
        case hf120 => kernel_rfl
        case hr120 => kernel_rfl
        case hw120 => rfl
        case hy120 => (intro w hSw; (try dsimp only at hSw); go_simp; all_goals (first | done | with_reducible rfl))
        case hQ120 => exact fun _ _ _ h => h
        simp only [Act.put, List.setIfInBounds_toArray, List.set_cons_zero, List.set_cons_succ]
        refine wpAnyH_take (i := 9) (oi := ?oi121) (v := ?v121) ?hi121 (by kernel_rfl) ?hf121 ?hr121 ?hQ121 (Or.inl ⟨?hw121, ?hy121⟩) (by assumption) ?rest121
        case hi121 => simp only [List.getElem?_toArray, List.getElem?_cons_succ, List.getElem?_cons_zero]; rfl
        case hf121 => kernel_rfl
        case hr121 => kernel_rfl
        case hw121 => rfl
        case hy121 => (intro w hSw; (try dsimp only at hSw); go_simp; all_goals (first | done | with_reducible rfl))
        case hQ121 => exact fun _ _ _ h => h
        simp only [Act.put, List.setIfInBounds_toArray, List.set_cons_zero, List.set_cons_succ]
        refine wpAnyH_ready (rs := [8]) (by kernel_rfl) (by simp) ?_
        refine AllReadyH.cons (o := ?oi122) ?hi122 (fun K hK => ?step122) AllReadyH.nil
        case hi122 => simp only [List.getElem?_toArray, List.getElem?_cons_succ, List.getElem?_cons_zero]; rfl
        rw [if_pos (by rfl)]
        go_simp
        refine hK.out _ _ hS (fun hS => ?_)
        refine wpAnyH_ready (rs := [10]) (by kernel_rfl) (by simp) ?_
        refine AllReadyH.cons (o := ?oi123) ?hi123 (fun K hK => ?step123) AllReadyH.nil
        case hi123 => simp only [List.getElem?_toArray, List.getElem?_cons_succ, List.getElem?_cons_zero]; rfl
        rw [if_pos (by rfl)]
        go_simp
        go_at_call 61
        refine (CW.out).mono ?_
        rintro e w5 ⟨v5, rfl, ho5, hb5⟩
        obtain ⟨A7, c7, rfl, _, _⟩ := (Sl.of_own ho5).form
        have m1 : w5.cell? ⟨g, i * 6 + 2, none⟩ = some (.slice A6 x.hn c6) := (hb5.cell (p := ⟨g, i * 6 + 2, none⟩) hgw).trans m0
        have f1 : w5.frozen? ⟨g, i * 6 + 2, none⟩ = false := (hb5.frozen (p := ⟨g, i * 6 + 2, none⟩) hgw).trans HM.out.2
        have hszr : w1.heap.size ≤ wr.drew.heap.size := HBx.out.size
        have HR5 := hid (HRd.out.rowcell (w' := w5) (i := i) (j := 0) (q := 2) (e := 2) (x := x) (y := ⟨woL s.data.toList x.l, .slice A7 (x.l.hs.filter (notS s.data.toList)).length c7, (x.l.hs.filter (notS s.data.toList)).length, x.fv, x.fn⟩)
          (r := ⟨9, 1, x.hn, x.hv, x.l.hs.map txt⟩) (r' := ⟨9, 1, (x.l.hs.filter (notS s.data.toList)).length, .slice A7 (x.l.hs.filter (notS s.data.toList)).length c7, (x.l.hs.filter (notS s.data.toList)).map txt⟩) (u := .slice A7 (x.l.hs.filter (notS s.data.toList)).length c7)
          lcells_len lrows_len HX.out.1 (by omega) rfl (grown_of hb5 _) (own_base ho5 hszr) (fun z hz => .inr (ho5.lt z hz).1) (by omega) rfl rfl)
        have HK5 := hid (((HKx.out.dr 1).to hb5).apart ⟨g, i * 6 + 2, none⟩ (.slice A7 (x.l.hs.filter (notS s.data.toList)).length c7) hgo1)
        have HKz5 := hid (((HKz.out.dr 1).to hb5).apart ⟨g, i * 6 + 2, none⟩ (.slice A7 (x.l.hs.filter (notS s.data.toList)).length c7) (show g ≠ w.heap.size + 1 by omega))
        have HB5 := hid ((HBx.out.drew.trans (hb5.mono hszr)).setCell (p := ⟨g, i * 6 + 2, none⟩) hgl (.slice A7 (x.l.hs.filter (notS s.data.toList)).length c7))
        have cb := (((HKx.out.dr 1).to hb5).2 0 _ rfl).1
        refine hK.out _ _ cb (fun hS => ?_)
        refine wpAnyH_take (i := 11) (oi := ?oi124) (v := ?v124) ?hi124 (by kernel_rfl) ?hf124 ?hr124 ?hQ124 (Or.inl ⟨?hw124, ?hy124⟩) (by assumption) ?rest124
        case hi124 => simp only [List.getElem?_toArray, List.getElem?_cons_succ, List.getElem?_cons_zero]; rfl
        case hf124 => kernel_rfl
        case hr124 => kernel_rfl
        case hw124 => rfl
        case hy124 => (intro w hSw; (try dsimp only at hSw); go_simp; all_goals (first | done | with_reducible rfl))
        case hQ124 => exact fun _ _ _ h => h
        simp only [Act.put, List.setIfInBounds_toArray, List.set_cons_zero, List.set_cons_succ]
        refine wpAnyH_take (i := 12) (oi := ?oi125) (v := ?v125) ?hi125 (by kernel_rfl) ?hf125 ?hr125 ?hQ125 (Or.inl ⟨?hw125, ?hy125⟩) (by assumption) ?rest125
        case hi125 => simp only [List.getElem?_toArray, List.getElem?_cons_succ, List.getElem?_cons_zero]; rfl
        case hf125 => kernel_rfl
        case hr125 => kernel_rfl
        case hw125 => rfl
        case hy125 => (intro w hSw; (try dsimp only at hSw); go_simp; all_goals (first | done | with_reducible rfl))
        case hQ125 => exact fun _ _ _ h => h
        simp only [Act.put, List.setIfInBounds_toArray, List.set_cons_zero, List.set_cons_succ]
        refine wpAnyH_ready (rs := [13]) (by kernel_rfl) (by simp) ?_
        refine AllReadyH.cons (o := ?oi126) ?hi126 (fun K hK => ?step126) AllReadyH.nil
        case hi126 => simp only [List.getElem?_toArray, List.getElem?_cons_succ, List.getElem?_cons_zero]; rfl
        rw [if_pos (by rfl)]
        go_simp
        refine hK.out _ _ ((HK5.out.2 0 _ rfl).1) (fun hS => ?_)
        refine wpAnyH_done (by kernel_rfl) ?_ _
        clear hS c0 m0 m1 f1 cb ho5 hb5
        go_wp2_with fail
        go_roundw
        case rel =>
          refine ⟨i + 1, _, by go_num, by omega, ?_, HR5.out, HK5.out, HKz5.out, HB5.out⟩
          show lsOf (cul.set i _) = _
          rw [mapk_step _ HX.out.2, ← HC.out]
          unfold lsOf
          rw [List.map_set]
        case measure => simp [intOf]; omega
      · obtain rfl : i = n := by omega
        have HCC := hid (show lsOf cul = L.map (woL s.data.toList) by
          have hkL := HLn.out
          have h := HC.out
          rw [List.take_of_length_le (by omega), List.drop_eq_nil_of_le (by omega), List.append_nil] at h
          exact h)
        have hcll : cul.length = i := by have h := congrArg List.length HCC.out; have := HLn.out; simp [lsOf] at h; omega
        have HCLL := hid hcll
        have b1 := (HKx.out.2 1 _ rfl).1
        have b2 := (HKx.out.2 2 _ rfl).1
        clear hcll HC
        obtain ⟨q0c, q0f⟩ := HKz.out.2 0 _ rfl
        obtain ⟨q1c, q1f⟩ := HKz.out.2 1 _ rfl
        obtain ⟨q2c, q2f⟩ := HKz.out.2 2 _ rfl
        go_wp2_with fail
        have RB := ((HKz.out.set 0 (.slice (some ⟨g, 0, none⟩) i c3)).set 1 (.slice (some ⟨g4, 0, none⟩) m c)).set 2 (.int .i64 q)
        have f0 := (RB.2 0 _ rfl).1
        have f1 := (RB.2 1 _ rfl).1
        have f2 := (RB.2 2 _ rfl).1
        refine bodyPost_ret (v := .tuple #[.agg #[.slice (some ⟨g, 0, none⟩) i c3, .slice (some ⟨g4, 0, none⟩) m c, .int .i64 q], .bool true]) (by simp [results, Try.results19, go_sem, f0, f1, f2]) rfl ?_
        rw [HN.out]
        refine ⟨_, treeRows cul.length _ cul hs2.length _ hs2, rfl, ⟨_, _, cul, hs2, rfl, HCC.out, HHs.out, rfl⟩, ?_, ?_⟩
        · refine Rows.base ?_ hww1
          iterate 3 refine Rows.low ?_ (by omega)
          rw [treeRows_eq, HCLL.out, HHl.out]
          simpa using HRx.out
        · iterate 3 refine Below.setCell ?_ (by simp) _
          exact HB1.out.trans (HBx.out.mono hww1)
end Go.Proofs.Yteoblmhbjmefoaa
