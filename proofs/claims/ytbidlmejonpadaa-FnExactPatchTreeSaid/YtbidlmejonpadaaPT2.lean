/-
  A TREE PATCHED WITH LEVELS OF ANOTHER ONE: the program's change.
-/
import Derived.Test.YtbidlmejonpadaaPT1
import Derived.Test.YtbidlmejonpadaaNH2
import Derived.Test.YtbidlmejonpadaaC10
namespace Go.Proofs.Ytbidlmejonpadaa
open Go.RowKit Nm
set_option linter.unusedSimpArgs false
set_option linter.unusedVariables false

theorem TreeIn.hndP {w : World} {B n1 k1 n2 k2 : Nat} {A1 A2 : Option Addr} {L : List Lgr} {H : List Hnd} {q : Int} (h : TreeIn w B (.agg #[.slice A1 n1 k1, .slice A2 n2 k2, .int .i64 q]) L H q) {k : Nat} (hk : k < H.length) :
    ∃ b o, A2 = some ⟨b, o, none⟩ ∧ b < B ∧ k < n2 ∧ k2 ≤ maxLen ∧ n2 ≤ k2 ∧ w.cell? ⟨b, o + k * 3 + 1, none⟩ = some (.int .i64 ((H.map (·.lv)).getD k 0)) := by
  obtain ⟨ls, hs, ⟨A1', n1', k1', A2', n2', k2', e, _, h1, _⟩, h2, h3⟩ := h
  simp at e
  obtain ⟨⟨rfl, rfl, rfl⟩, ⟨rfl, rfl, rfl⟩⟩ := e
  have hc := h1.count
  have hkn : k < n2 := by rw [← h3] at hk; unfold hsOf at hk; rw [List.length_map] at hk; omega
  obtain ⟨b, o, x, s, rfl, hb, hx, hsx, _, hf, c0, c1, c2⟩ := h1.at_ hkn
  have e1 : H[k]? = some x.h := by rw [← h3]; unfold hsOf; rw [List.getElem?_map, hx]; rfl
  refine ⟨b, o, rfl, hb, hkn, h1.1.cap.2, h1.1.cap.1, ?_⟩
  rw [c1]
  simp [List.getD, e1]
theorem TreeIn.lgrP {w : World} {B n1 k1 n2 k2 : Nat} {A1 A2 : Option Addr} {L : List Lgr} {H : List Hnd} {q : Int} (h : TreeIn w B (.agg #[.slice A1 n1 k1, .slice A2 n2 k2, .int .i64 q]) L H q) {k : Nat} (hk : k < L.length) :
    ∃ b o, A1 = some ⟨b, o, none⟩ ∧ b < B ∧ k < n1 ∧ k1 ≤ maxLen ∧ n1 ≤ k1 ∧ w.cell? ⟨b, o + k * 6 + 1, none⟩ = some (.int .i64 ((L.map (·.lv)).getD k 0)) ∧ w.cell? ⟨b, o + k * 6 + 4, none⟩ = some (.bool ((L.map (·.stop)).getD k false)) := by
  obtain ⟨ls, hl, hL⟩ := h.loggers
  have hc := hl.count
  have hkn : k < n1 := by rw [← hL] at hk; unfold lsOf at hk; rw [List.length_map] at hk; omega
  obtain ⟨b, o, x, s, rfl, hb, hx, _, _, _, _, _, c1, _, _, c4, _⟩ := hl.at_ hkn
  have e1 : L[k]? = some x.l := by rw [← hL]; unfold lsOf; rw [List.getElem?_map, hx]; rfl
  refine ⟨b, o, rfl, hb, hkn, hl.1.cap.2, hl.1.cap.1, ?_, ?_⟩
  · rw [c1]; simp [List.getD, e1]
  · rw [c4]; simp [List.getD, e1]
theorem patH_no {Hb : List Hnd} {h : Hnd} (hn : idxL (hnm Hb) h.nm < 0) : patH Hb h = h := by unfold patH; rw [if_pos hn]
theorem patH_hit {Hb : List Hnd} {h : Hnd} {k : Nat} (hn : idxL (hnm Hb) h.nm = (k : Int)) : patH Hb h = { h with lv := (Hb.map (·.lv)).getD k 0 } := by unfold patH; rw [hn, if_neg (by omega)]; rfl
theorem patL_no {Lb : List Lgr} {l : Lgr} (hn : idxL (namesOf Lb) l.nm < 0) : patL Lb l = l := by unfold patL; rw [if_pos hn]
theorem patL_hit {Lb : List Lgr} {l : Lgr} {k : Nat} (hn : idxL (namesOf Lb) l.nm = (k : Int)) : patL Lb l = { l with lv := (Lb.map (·.lv)).getD k 0, stop := (Lb.map (·.stop)).getD k false } := by unfold patL; rw [hn, if_neg (by omega)]; rfl
theorem hsOf_at {cur : List HndV} {H : List Hnd} {f : Hnd → Hnd} {k : Nat} {h : Hnd} (hc : hsOf cur = (H.take k).map f ++ H.drop k) (hk : H[k]? = some h) : ∃ x, cur[k]? = some x ∧ x.h = h := by
  have hl := mapk_at f (List.getElem?_eq_some_iff.1 hk).1
  rw [← hc, hk] at hl
  unfold hsOf at hl
  rw [List.getElem?_map] at hl
  cases hx : cur[k]? with
  | none => rw [hx] at hl; cases hl
  | some x => rw [hx] at hl; exact ⟨x, rfl, Option.some.inj hl⟩
theorem lsOf_at {cur : List LgrV} {L : List Lgr} {f : Lgr → Lgr} {k : Nat} {l : Lgr} (hc : lsOf cur = (L.take k).map f ++ L.drop k) (hk : L[k]? = some l) : ∃ x, cur[k]? = some x ∧ x.l = l := by
  have hl := mapk_at f (List.getElem?_eq_some_iff.1 hk).1
  rw [← hc, hk] at hl
  unfold lsOf at hl
  rw [List.getElem?_map] at hl
  cases hx : cur[k]? with
  | none => rw [hx] at hl; cases hl
  | some x => rw [hx] at hl; exact ⟨x, rfl, Option.some.inj hl⟩

set_option maxHeartbeats 16000000 in
set_option maxRecDepth 100000 in
theorem patClo_c {w : World} {B m1 j1 m2 j2 bb : Nat} {B1 B2 : Option Addr} {Lb : List Lgr} {Hb : List Hnd} {qb : Int} {L : List Lgr} {H : List Hnd} {q : Int} (hT : TreeIn w B (.agg #[.slice B1 m1 j1, .slice B2 m2 j2, .int .i64 qb]) Lb Hb qb) (hBw : B ≤ w.heap.size)
    (hbb : Blk w bb [.slice B1 m1 j1, .slice B2 m2 j2, .int .i64 qb]) (hokb : treeOk Lb Hb qb = true) (hok : treeOk L H q = true)
    (W : World) (lo bc : Nat) (v1 v2 : Value) (rs : List Row) (hp : CloPre w lo bc W v1 v2 rs L H q) :
    Calls Try.prog 73 #[.pointer (some ⟨bc, 0, none⟩), .pointer (some ⟨bb, 0, none⟩)] W (CloPost lo bc W (some (L.map (patL Lb), H.map (patH Hb), qb))) := by
  obtain ⟨hb, hlo, hbc, hkb, hs, hr, hap, hd⟩ := hp
  obtain ⟨_, _, _, h8, h1l, _⟩ := tree_names hok
  have h6 := tree_hlen hok
  have HD := hid (pat_fit Lb Hb hd)
  have hbbw : bb < w.heap.size := hbb.1
  have CHA := hid (fun (s : ByteArray) (W' : World) (hW : Below w.heap.size w W') => implHandlerAt_c s (hT.below hW hBw) (Nat.le_trans hBw hW.size))
  have CLA := hid (fun (s : ByteArray) (W' : World) (hW : Below w.heap.size w W') => (show Calls Try.prog 74 #[.agg #[.slice B1 m1 j1, .slice B2 m2 j2, .int .i64 qb], .string s] W' (fun e w' => e = .returned (.int .i64 (idxL (namesOf Lb) s.data.toList)) ∧ Below W'.heap.size W' w') from by
    have h9 := implLoggerAtX_c s (hT.below hW hBw) (Nat.le_trans hBw hW.size); rw [if_pos hokb] at h9; exact h9))
  have HHB := hid (fun (k : Nat) (hk : k < Hb.length) => hT.hndP hk)
  have HLB := hid (fun (k : Nat) (hk : k < Lb.length) => hT.lgrP hk)
  have HIN := hid (fun (W' : World) (hW : Below w.heap.size w W') => hbb.to hW)
  obtain ⟨u1, u2, ls, hs', e, h1, h2, h3⟩ := hs
  have e' : v1 = u1 ∧ v2 = u2 := by simpa using e
  obtain ⟨rfl, rfl⟩ := e'
  subst h3
  have hll : ls.length = L.length := by rw [← h1]; simp [lsOf]
  have hlh : hs'.length = H.length := by rw [← h2]; simp [hsOf]
  obtain ⟨hl, hh⟩ := hr.lsIn
  obtain ⟨A, c, rfl, hnc, hcm⟩ := hl.1.form
  obtain ⟨A4, c4, rfl, hnc4, hcm4⟩ := hh.1.form
  clear hl hh
  rw [treeRows_eq] at hr hap
  have hr0 : Rows W lo ([] ++ two 65 6 ls.length (.slice A ls.length c) lcells lrows ls ++ two 49 3 hs'.length (.slice A4 hs'.length c4) hcells hrows hs') := by simpa using hr
  obtain ⟨g, rfl, hglt⟩ := own_some hr0.top (by omega)
  have hgl : lo ≤ g := (hr0.top.lt g rfl).1
  have hgb : g ≠ bc := fun e => hap ⟨65, 6, ls.length, .slice (some ⟨g, 0, none⟩) ls.length c, ls.flatMap lcells⟩ (by simp [two]) (by rw [← e]; rfl)
  have HHN := hid (show (Value.slice A4 hs'.length c4).ownBlock ≠ some bc from hap ⟨49, 3, hs'.length, .slice A4 hs'.length c4, hs'.flatMap hcells⟩ (by
    rw [List.mem_append]; right
    simp [two]))
  have HNL := hid (show ∀ x ∈ ls, x.hv.ownBlock ≠ some bc ∧ x.fv.ownBlock ≠ some bc from fun x hx => ⟨hap ⟨9, 1, x.hn, x.hv, x.l.hs.map txt⟩ (by
    rw [List.mem_append]; left
    simp only [two, List.mem_cons, List.mem_flatMap]
    exact .inr ⟨x, hx, by simp [lrows]⟩), hap ⟨83, 3, x.fn, x.fv, fsCells x.l.fs⟩ (by
    rw [List.mem_append]; left
    simp only [two, List.mem_cons, List.mem_flatMap]
    exact .inr ⟨x, hx, by simp [lrows]⟩)⟩)
  have HNH := hid (show ∀ x ∈ hs', x.fv.ownBlock ≠ some bc from fun x hx => hap ⟨83, 3, x.fn, x.fv, fsCells x.h.fs⟩ (by
    rw [List.mem_append]; right
    simp only [two, List.mem_cons, List.mem_flatMap]
    exact .inr ⟨x, hx, by simp [hrows]⟩))
  have hgx : g ≠ bb := by omega
  have hbcb : bc ≠ bb := by omega
  generalize hN : ls.length = n at *
  generalize hN2 : hs'.length = nh at *
  have hn8 : n ≤ 8 := by omega
  have hn6 : nh ≤ 6 := by omega
  unfold maxLen at hcm hcm4
  have HR := hid hr0
  have HKB := hid hkb
  have HB := hid hb
  have HH := hid h2
  have HL := hid h1
  have HLn := hid hll
  have HLh := hid hlh
  have HLO := hid (And.intro hlo hbc)
  have HT := hid hT
  have HBW := hid hBw
  have d1 := (HKB.out.2 1 _ rfl).1
  clear hap hr hr0 hkb hd h1 h2 e hok hokb hb hll hlh hN hN2 h8 h1l h6 hT hbb hBw hlo hbc
  go_enter Try.func73, Try.ntmps73
  go_wp2_with fail
  clear d1
  go_loopw [4, 5, 6, 15] (fun a5 a6 a7 iv wr => ∃ (k : Nat) (cur : List HndV) (u5 u6 u7 : Value), iv = .int .i64 k ∧ a5 = u5 ∧ a6 = u6 ∧ a7 = u7 ∧ k ≤ nh ∧ Hid (hsOf cur = (H.take k).map (patH Hb) ++ H.drop k) ∧
    Hid (Rows wr lo ([] ++ two 65 6 n (.slice (some ⟨g, 0, none⟩) n c) lcells lrows ls ++ two 49 3 nh (.slice A4 nh c4) hcells hrows cur)) ∧ Hid (Blk wr bc [.slice (some ⟨g, 0, none⟩) n c, .slice A4 nh c4, .int .i64 q]) ∧ Hid (Below lo W wr) ∧ Hid (∀ x ∈ cur, x.fv.ownBlock ≠ some bc)) (fun _ _ _ iv _ => nh - (intOf iv).toNat)
  case atStart => exact ⟨0, hs', _, _, _, rfl, rfl, rfl, rfl, by omega, by simpa [Hid] using HH.out, HR.out, HKB.out, Below.refl _ _, HNH.out⟩
  case round =>
    obtain ⟨k, cur, u5, u6, u7, rfl, rfl, rfl, rfl, hk, HC, HRx, HKx, HBx, HNx⟩ := hrel
    have hlw : lo ≤ wr.heap.size := by have := HKx.out.1; have := HLO.out.2; omega
    have HWx := hid (HB.out.trans (HBx.out.mono HLO.out.1))
    by_cases hlt : k < nh
    · have hkH : k < H.length := by have := HLh.out; omega
      obtain ⟨h0, hh0⟩ : ∃ l, H[k]? = some l := ⟨_, List.getElem?_eq_getElem hkH⟩
      obtain ⟨x, hx, hxl⟩ := hsOf_at HC.out hh0
      subst hxl
      have hrh : Rows wr lo (two 65 6 n (.slice (some ⟨g, 0, none⟩) n c) lcells lrows ls ++ two 49 3 nh (.slice A4 nh c4) hcells hrows cur ++ []) := by simpa using HRx.out
      obtain ⟨g4, rfl, _⟩ := own_some hrh.top (by omega)
      have hg4 : lo ≤ g4 := (hrh.top.lt g4 rfl).1
      have hg4b : g4 ≠ bc := fun e => HHN.out (by rw [← e]; rfl)
      have hg4x : g4 ≠ bb := by have := HLO.out.1; omega
      have ho := hrh.cell_at (j := 0) hcells_len hx (u := txt x.h.nm) rfl
      have o1 := hrh.cell_at (j := 1) hcells_len hx (u := .int .i64 x.h.lv) rfl
      obtain ⟨p, hpt, hp2⟩ := txt_mk x.h.nm
      rw [hpt] at ho
      have c0 : wr.cell? ⟨g4, k * 3, none⟩ = some (.string p) := ho.1
      have d1 := (HKx.out.2 1 _ rfl).1
      have e0 := ((HIN.out _ HWx.out).2 0 _ rfl).1
      have e1 := ((HIN.out _ HWx.out).2 1 _ rfl).1
      have e2 := ((HIN.out _ HWx.out).2 2 _ rfl).1
      have s0 : (0 : Int) ≤ (k : Int) := by omega
      have s1 : (k : Int) < (nh : Int) := by omega
      have s2 : ((k : Int)).toNat = k := by simp
      have HWd := hid (HWx.out.drew)
      have CH := hid (CHA.out p wr.drew HWd.out)
      rw [hp2] at CH
      have HX := hid (And.intro hx hh0)
      have HO1 := hid o1
      have HP := hid hpt
      clear hx hh0 hrh ho o1 hpt hp2
      go_wp2_with fail
      refine wp_region_held_drew (S := (fun w' : World => (w'.cell? ⟨bb, 0, none⟩ = some (.slice B1 m1 j1) ∧ w'.cell? ⟨bb, 1, none⟩ = some (.slice B2 m2 j2) ∧ w'.cell? ⟨bb, 2, none⟩ = some (.int .i64 qb)) ∧ w'.cell? ⟨g4, k * 3, none⟩ = some (.string p))) (by kernel_rfl) ⟨⟨e0, e1, e2⟩, c0⟩ (fun hS => ?_)
      refine wpAnyH_take (i := 0) (oi := ?oi101) (v := ?v101) ?hi101 (by kernel_rfl) ?hf101 ?hr101 ?hQ101 (Or.inl ⟨?hw101, ?hy101⟩) (by assumption) ?rest101
      case hi101 => simp only [List.getElem?_toArray, List.getElem?_cons_succ, List.getElem?_cons_zero]; rfl
      case hf101 => kernel_rfl
      case hr101 => kernel_rfl
      case hw101 => rfl
      case hy101 => (intro w hSw; (try dsimp only at hSw); go_simp; all_goals (first | done | with_reducible rfl))
      case hQ101 => exact fun _ _ _ h => h
      simp only [Act.put, List.setIfInBounds_toArray, List.set_cons_zero, List.set_cons_succ]
      refine wpAnyH_take (i := 1) (oi := ?oi102) (v := ?v102) ?hi102 (by kernel_rfl) ?hf102 ?hr102 ?hQ102 (Or.inl ⟨?hw102, ?hy102⟩) (by assumption) ?rest102
      case hi102 => simp only [List.getElem?_toArray, List.getElem?_cons_succ, List.getElem?_cons_zero]; rfl
      case hf102 => kernel_rfl
      case hr102 => kernel_rfl
      case hw102 => rfl
      case hy102 => (intro w hSw; (try dsimp only at hSw); go_simp; all_goals (first | done | with_reducible rfl))
      case hQ102 => exact fun _ _ _ h => h
      simp only [Act.put, List.setIfInBounds_toArray, List.set_cons_zero, List.set_cons_succ]
      refine wpAnyH_take (i := 2) (oi := ?oi103) (v := ?v103) ?hi103 (by kernel_rfl) ?hf103 ?hr103 ?hQ103 (Or.inl ⟨?hw103, ?hy103⟩) (by assumption) ?rest103
      case hi103 => simp only [List.getElem?_toArray, List.getElem?_cons_succ, List.getElem?_cons_zero]; rfl
      case hf103 => kernel_rfl
      case hr103 => kernel_rfl
      case hw103 => rfl
      case hy103 => (intro w hSw; (try dsimp only at hSw); go_simp; all_goals (first | done | with_reducible rfl))
      case hQ103 => exact fun _ _ _ h => h
      simp only [Act.put, List.setIfInBounds_toArray, List.set_cons_zero, List.set_cons_succ]
      refine wpAnyH_take (i := 3) (oi := ?oi104) (v := ?v104) ?hi104 (by kernel_rfl) ?hf104 ?hr104 ?hQ104 (Or.inl ⟨?hw104, ?hy104⟩) (by assumption) ?rest104
      case hi104 => simp only [List.getElem?_toArray, List.getElem?_cons_succ, List.getElem?_cons_zero]; rfl
      case hf104 => kernel_rfl
      case hr104 => kernel_rfl
      case hw104 => rfl
      case hy104 => (intro w hSw; (try dsimp only at hSw); go_simp; all_goals (first | done | with_reducible rfl))
      case hQ104 => exact fun _ _ _ h => h
      simp only [Act.put, List.setIfInBounds_toArray, List.set_cons_zero, List.set_cons_succ]
      refine wpAnyH_take (i := 4) (oi := ?oi105) (v := ?v105) ?hi105 (by kernel_rfl) ?hf105 ?hr105 ?hQ105 (Or.inl ⟨?hw105, ?hy105⟩) (by assumption) ?rest105
      case hi105 => simp only [List.getElem?_toArray, List.getElem?_cons_succ, List.getElem?_cons_zero]; rfl
      case hf105 => kernel_rfl
      case hr105 => kernel_rfl
      case hw105 => rfl
      case hy105 => (intro w hSw; (try dsimp only at hSw); go_simp; all_goals (first | done | with_reducible rfl))
      case hQ105 => exact fun _ _ _ h => h
      simp only [Act.put, List.setIfInBounds_toArray, List.set_cons_zero, List.set_cons_succ]
      refine wpAnyH_ready (rs := [5]) (by kernel_rfl) (by simp) ?_
      refine AllReadyH.cons (o := ?oi106) ?hi106 (fun K hK => ?step106) AllReadyH.nil
      case hi106 => simp only [List.getElem?_toArray, List.getElem?_cons_succ, List.getElem?_cons_zero]; rfl
      rw [if_pos (by rfl)]
      go_simp
      go_at_call 67
      refine (CH.out).mono ?_
      rintro e w1 ⟨rfl, hb1⟩
      have HW1 := hid (HWd.out.trans (hb1.mono HWd.out.size))
      have hr1 : Below wr.heap.size wr w1 := ((Below.refl wr.heap.size wr).drew).trans hb1
      have HR1 := hid (HRx.out.below hr1)
      have HK1 := hid (HKx.out.to hr1)
      have HB1 := hid (HBx.out.trans (hr1.mono hlw))
      have hgl4 : g4 < wr.heap.size := World.block_lt_of_cell? wr ⟨g4, k * 3, none⟩ c0
      have c01 : w1.cell? ⟨g4, k * 3, none⟩ = some (.string p) := (hr1.cell (p := ⟨g4, k * 3, none⟩) (World.block_lt_of_cell? _ _ c0)).trans c0
      have oc : w1.cell? ⟨g4, k * 3 + 1, none⟩ = some (.int .i64 x.h.lv) := (hr1.cell (p := ⟨g4, k * 3 + 1, none⟩) hgl4).trans HO1.out.1
      have of : w1.frozen? ⟨g4, k * 3 + 1, none⟩ = false := (hr1.frozen (p := ⟨g4, k * 3 + 1, none⟩) hgl4).trans HO1.out.2
      refine hK.out _ _ ⟨⟨((HIN.out _ HW1.out).2 0 _ rfl).1, ((HIN.out _ HW1.out).2 1 _ rfl).1, ((HIN.out _ HW1.out).2 2 _ rfl).1⟩, c01⟩ (fun hS => ?_)
      refine wpAnyH_take (i := 6) (oi := ?oi107) (v := ?v107) ?hi107 (by kernel_rfl) ?hf107 ?hr107 ?hQ107 (Or.inl ⟨?hw107, ?hy107⟩) (by assumption) ?rest107
      case hi107 => simp only [List.getElem?_toArray, List.getElem?_cons_succ, List.getElem?_cons_zero]; rfl
      case hf107 => kernel_rfl
      case hr107 => kernel_rfl
      case hw107 => rfl
      case hy107 => (intro w hSw; (try dsimp only at hSw); go_simp; all_goals (first | done | with_reducible rfl))
      case hQ107 => exact fun _ _ _ h => h
      simp only [Act.put, List.setIfInBounds_toArray, List.set_cons_zero, List.set_cons_succ]
      refine wpAnyH_done (by kernel_rfl) ?_ _
      clear hb1 hr1 hS c0 d1 e0 e1 e2 c01
      by_cases hneg : idxL (hnm Hb) x.h.nm < 0
      · have HN := hid (patH_no hneg)
        generalize idxL (hnm Hb) x.h.nm = ix at *
        clear oc of
        go_wp2_with fail
        go_roundw
        case rel =>
          refine ⟨k + 1, cur, _, _, _, by go_num, rfl, rfl, rfl, by omega, ?_, HR1.out, HK1.out, HB1.out, HNx.out⟩
          show hsOf cur = _
          rw [mapk_same _ HX.out.2 HN.out]; exact HC.out
        case measure => simp [intOf]; omega
      · obtain ⟨kk, hkk, hkl, _⟩ := idx_natN hneg
        have hkb : kk < Hb.length := by unfold hnm at hkl; rw [List.length_map] at hkl; exact hkl
        have HN := hid (patH_hit hkk)
        rw [hkk]
        obtain ⟨gb, ob, hB2, hgbB, hkm, hj2, hmj, hcl⟩ := HHB.out kk hkb
        subst hB2
        unfold maxLen at hj2
        generalize (Hb.map (·.lv)).getD kk 0 = lvb at *
        have e1 := ((HIN.out _ HW1.out).2 1 _ rfl).1
        have cl : w1.cell? ⟨gb, ob + kk * 3 + 1, none⟩ = some (.int .i64 lvb) := (HW1.out.cell (p := ⟨gb, ob + kk * 3 + 1, none⟩) (show gb < w.heap.size by have := HBW.out; omega)).trans hcl
        have t0 : (0 : Int) ≤ (kk : Int) := by omega
        have t1 : (kk : Int) < (m2 : Int) := by omega
        have t2 : ((kk : Int)).toNat = kk := by simp
        have hrh1 : Rows w1 lo (two 65 6 n (.slice (some ⟨g, 0, none⟩) n c) lcells lrows ls ++ two 49 3 nh (.slice (some ⟨g4, 0, none⟩) nh c4) hcells hrows cur ++ []) := by simpa using HR1.out
        have hrs0 := hrh1.cellset (j := 1) (e := 1) (x := x) (y := { x with h := patH Hb x.h }) (u := .int .i64 lvb) hcells_len hrows_len HX.out.1 (by omega) (by rw [HN.out]; rfl) (by rw [HN.out]; rfl)
        have HRs := hid (show Rows (w1.setCell ⟨g4, k * 3 + 1, none⟩ (.int .i64 lvb)) lo ([] ++ two 65 6 n (.slice (some ⟨g, 0, none⟩) n c) lcells lrows ls ++ two 49 3 nh (.slice (some ⟨g4, 0, none⟩) nh c4) hcells hrows (cur.set k { x with h := patH Hb x.h })) by simpa using hrs0)
        have HKs := hid (HK1.out.apart ⟨g4, k * 3 + 1, none⟩ (.int .i64 lvb) hg4b)
        have HBs := hid (HB1.out.setCell (p := ⟨g4, k * 3 + 1, none⟩) hg4 (.int .i64 lvb))
        clear hneg hkk hkl hkb hcl hrs0 hrh1
        go_wp2_with fail
        go_roundw
        case rel =>
          refine ⟨k + 1, _, _, _, _, by go_num, rfl, rfl, rfl, by omega, ?_, HRs.out, HKs.out, HBs.out, ?_⟩
          · show hsOf (cur.set k _) = _
            rw [mapk_step _ HX.out.2, ← HC.out]
            unfold hsOf
            rw [List.map_set]
          · intro y hy
            rcases List.mem_or_eq_of_mem_set hy with hy | rfl
            · exact HNx.out y hy
            · exact HNx.out x (List.mem_of_getElem? HX.out.1)
        case measure => simp [intOf]; omega
    · obtain rfl : k = nh := by omega
      have HCH := hid (show hsOf cur = H.map (patH Hb) by
        have hkL := HLh.out
        have h := HC.out
        rw [List.take_of_length_le (by omega), List.drop_eq_nil_of_le (by omega), List.append_nil] at h
        exact h)
      have hcl : cur.length = k := by have h := congrArg List.length HCH.out; have := HLh.out; simp [hsOf] at h; omega
      have HCL := hid hcl
      have d0 := (HKx.out.2 0 _ rfl).1
      clear hcl HC
      go_wp2_with fail
      clear d0
      go_loopw [7, 8, 9, 47] (fun a5 a6 a7 iv wr => ∃ (j : Nat) (cul : List LgrV) (u5 u6 u7 : Value), iv = .int .i64 j ∧ a5 = u5 ∧ a6 = u6 ∧ a7 = u7 ∧ j ≤ n ∧ Hid (lsOf cul = (L.take j).map (patL Lb) ++ L.drop j) ∧
        Hid (Rows wr lo ([] ++ two 65 6 n (.slice (some ⟨g, 0, none⟩) n c) lcells lrows cul ++ two 49 3 k (.slice A4 k c4) hcells hrows cur)) ∧ Hid (Blk wr bc [.slice (some ⟨g, 0, none⟩) n c, .slice A4 k c4, .int .i64 q]) ∧ Hid (Below lo W wr) ∧ Hid (∀ x ∈ cul, x.hv.ownBlock ≠ some bc ∧ x.fv.ownBlock ≠ some bc)) (fun _ _ _ iv _ => n - (intOf iv).toNat)
      case atStart => exact ⟨0, ls, _, _, _, rfl, rfl, rfl, rfl, by omega, by simpa [Hid] using HL.out, HRx.out, HKx.out, HBx.out, HNL.out⟩
      case round =>
        clear HRx HKx HBx HWx hlw
        obtain ⟨j, cul, u5, u6, u7, rfl, rfl, rfl, rfl, hj, HC, HRx, HKx, HBx, HNy⟩ := hrel
        have hlw : lo ≤ wr.heap.size := by have := HKx.out.1; have := HLO.out.2; omega
        have HWx := hid (HB.out.trans (HBx.out.mono HLO.out.1))
        by_cases hlt : j < n
        · have hkL : j < L.length := by have := HLn.out; omega
          obtain ⟨l0, hl0⟩ : ∃ l, L[j]? = some l := ⟨_, List.getElem?_eq_getElem hkL⟩
          obtain ⟨x, hx, hxl⟩ := lsOf_at HC.out hl0
          subst hxl
          have ho := HRx.out.cell_at (j := 0) lcells_len hx (u := txt x.l.nm) rfl
          have o1 := HRx.out.cell_at (j := 1) lcells_len hx (u := .int .i64 x.l.lv) rfl
          have o4 := HRx.out.cell_at (j := 4) lcells_len hx (u := .bool x.l.stop) rfl
          obtain ⟨p, hpt, hp2⟩ := txt_mk x.l.nm
          rw [hpt] at ho
          have c0 : wr.cell? ⟨g, j * 6, none⟩ = some (.string p) := ho.1
          have d0 := (HKx.out.2 0 _ rfl).1
          have e0 := ((HIN.out _ HWx.out).2 0 _ rfl).1
          have e1 := ((HIN.out _ HWx.out).2 1 _ rfl).1
          have e2 := ((HIN.out _ HWx.out).2 2 _ rfl).1
          have s0 : (0 : Int) ≤ (j : Int) := by omega
          have s1 : (j : Int) < (n : Int) := by omega
          have s2 : ((j : Int)).toNat = j := by simp
          have HWd := hid (HWx.out.drew)
          have CH := hid (CLA.out p wr.drew HWd.out)
          rw [hp2] at CH
          have HX := hid (And.intro hx hl0)
          have HO1 := hid o1
          have HO4 := hid o4
          clear hx hl0 ho o1 o4 hpt hp2
          go_wp2_with fail
          refine wp_region_held_drew (S := (fun w' : World => (w'.cell? ⟨bb, 0, none⟩ = some (.slice B1 m1 j1) ∧ w'.cell? ⟨bb, 1, none⟩ = some (.slice B2 m2 j2) ∧ w'.cell? ⟨bb, 2, none⟩ = some (.int .i64 qb)) ∧ w'.cell? ⟨g, j * 6, none⟩ = some (.string p))) (by kernel_rfl) ⟨⟨e0, e1, e2⟩, c0⟩ (fun hS => ?_)
          refine wpAnyH_take (i := 0) (oi := ?oi108) (v := ?v108) ?hi108 (by kernel_rfl) ?hf108 ?hr108 ?hQ108 (Or.inl ⟨?hw108, ?hy108⟩) (by assumption) ?rest108
          case hi108 => simp only [List.getElem?_toArray, List.getElem?_cons_succ, List.getElem?_cons_zero]; rfl
          case hf108 => kernel_rfl
          case hr108 => kernel_rfl
          case hw108 => rfl
          case hy108 => (intro w hSw; (try dsimp only at hSw); go_simp; all_goals (first | done | with_reducible rfl))
          case hQ108 => exact fun _ _ _ h => h
          simp only [Act.put, List.setIfInBounds_toArray, List.set_cons_zero, List.set_cons_succ]
          refine wpAnyH_take (i := 1) (oi := ?oi109) (v := ?v109) ?hi109 (by kernel_rfl) ?hf109 ?hr109 ?hQ109 (Or.inl ⟨?hw109, ?hy109⟩) (by assumption) ?rest109
          case hi109 => simp only [List.getElem?_toArray, List.getElem?_cons_succ, List.getElem?_cons_zero]; rfl
          case hf109 => kernel_rfl
          case hr109 => kernel_rfl
          case hw109 => rfl
          case hy109 => (intro w hSw; (try dsimp only at hSw); go_simp; all_goals (first | done | with_reducible rfl))
          case hQ109 => exact fun _ _ _ h => h
          simp only [Act.put, List.setIfInBounds_toArray, List.set_cons_zero, List.set_cons_succ]
          refine wpAnyH_take (i := 2) (oi := ?oi110) (v := ?v110) ?hi110 (by kernel_rfl) ?hf110 ?hr110 ?hQ110 (Or.inl ⟨?hw110, ?hy110⟩) (by assumption) ?rest110
          case hi110 => simp only [List.getElem?_toArray, List.getElem?_cons_succ, List.getElem?_cons_zero]; rfl
          case hf110 => kernel_rfl
          case hr110 => kernel_rfl
          case hw110 => rfl
          case hy110 => (intro w hSw; (try dsimp only at hSw); go_simp; all_goals (first | done | with_reducible rfl))
          case hQ110 => exact fun _ _ _ h => h
          simp only [Act.put, List.setIfInBounds_toArray, List.set_cons_zero, List.set_cons_succ]
          refine wpAnyH_take (i := 3) (oi := ?oi111) (v := ?v111) ?hi111 (by kernel_rfl) ?hf111 ?hr111 ?hQ111 (Or.inl ⟨?hw111, ?hy111⟩) (by assumption) ?rest111
          case hi111 => simp only [List.getElem?_toArray, List.getElem?_cons_succ, List.getElem?_cons_zero]; rfl
          case hf111 => kernel_rfl
          case hr111 => kernel_rfl
          case hw111 => rfl
          case hy111 => (intro w hSw; (try dsimp only at hSw); go_simp; all_goals (first | done | with_reducible rfl))
          case hQ111 => exact fun _ _ _ h => h
          simp only [Act.put, List.setIfInBounds_toArray, List.set_cons_zero, List.set_cons_succ]
          refine wpAnyH_take (i := 4) (oi := ?oi112) (v := ?v112) ?hi112 (by kernel_rfl) ?hf112 ?hr112 ?hQ112 (Or.inl ⟨?hw112, ?hy112⟩) (by assumption) ?rest112
          case hi112 => simp only [List.getElem?_toArray, List.getElem?_cons_succ, List.getElem?_cons_zero]; rfl
          case hf112 => kernel_rfl
          case hr112 => kernel_rfl
          case hw112 => rfl
          case hy112 => (intro w hSw; (try dsimp only at hSw); go_simp; all_goals (first | done | with_reducible rfl))
          case hQ112 => exact fun _ _ _ h => h
          simp only [Act.put, List.setIfInBounds_toArray, List.set_cons_zero, List.set_cons_succ]
          refine wpAnyH_ready (rs := [5]) (by kernel_rfl) (by simp) ?_
          refine AllReadyH.cons (o := ?oi113) ?hi113 (fun K hK => ?step113) AllReadyH.nil
          case hi113 => simp only [List.getElem?_toArray, List.getElem?_cons_succ, List.getElem?_cons_zero]; rfl
          rw [if_pos (by rfl)]
          go_simp
          go_at_call 74
          refine (CH.out).mono ?_
          rintro e w1 ⟨rfl, hb1⟩
          have HW1 := hid (HWd.out.trans (hb1.mono HWd.out.size))
          have hr1 : Below wr.heap.size wr w1 := ((Below.refl wr.heap.size wr).drew).trans hb1
          have HR1 := hid (HRx.out.below hr1)
          have HK1 := hid (HKx.out.to hr1)
          have HB1 := hid (HBx.out.trans (hr1.mono hlw))
          have hglw : g < wr.heap.size := World.block_lt_of_cell? wr ⟨g, j * 6, none⟩ c0
          have c01 : w1.cell? ⟨g, j * 6, none⟩ = some (.string p) := (hr1.cell (p := ⟨g, j * 6, none⟩) (World.block_lt_of_cell? _ _ c0)).trans c0
          have oc : w1.cell? ⟨g, j * 6 + 1, none⟩ = some (.int .i64 x.l.lv) := (hr1.cell (p := ⟨g, j * 6 + 1, none⟩) hglw).trans HO1.out.1
          have of : w1.frozen? ⟨g, j * 6 + 1, none⟩ = false := (hr1.frozen (p := ⟨g, j * 6 + 1, none⟩) hglw).trans HO1.out.2
          have oc4 : w1.cell? ⟨g, j * 6 + 4, none⟩ = some (.bool x.l.stop) := (hr1.cell (p := ⟨g, j * 6 + 4, none⟩) hglw).trans HO4.out.1
          have of4 : w1.frozen? ⟨g, j * 6 + 4, none⟩ = false := (hr1.frozen (p := ⟨g, j * 6 + 4, none⟩) hglw).trans HO4.out.2
          refine hK.out _ _ ⟨⟨((HIN.out _ HW1.out).2 0 _ rfl).1, ((HIN.out _ HW1.out).2 1 _ rfl).1, ((HIN.out _ HW1.out).2 2 _ rfl).1⟩, c01⟩ (fun hS => ?_)
          refine wpAnyH_take (i := 6) (oi := ?oi114) (v := ?v114) ?hi114 (by kernel_rfl) ?hf114 ?hr114 ?hQ114 (Or.inl ⟨?hw114, ?hy114⟩) (by assumption) ?rest114
          case hi114 => simp only [List.getElem?_toArray, List.getElem?_cons_succ, List.getElem?_cons_zero]; rfl
          case hf114 => kernel_rfl
          case hr114 => kernel_rfl
          case hw114 => rfl
          case hy114 => (intro w hSw; (try dsimp only at hSw); go_simp; all_goals (first | done | with_reducible rfl))
          case hQ114 => exact fun _ _ _ h => h
          simp only [Act.put, List.setIfInBounds_toArray, List.set_cons_zero, List.set_cons_succ]
          refine wpAnyH_done (by kernel_rfl) ?_ _
          clear hb1 hr1 hS c0 d0 e0 e1 e2 c01
          by_cases hneg : idxL (namesOf Lb) x.l.nm < 0
          · have HN := hid (patL_no hneg)
            generalize idxL (namesOf Lb) x.l.nm = ix at *
            clear oc of oc4 of4
            go_wp2_with fail
            go_roundw
            case rel =>
              refine ⟨j + 1, cul, _, _, _, by go_num, rfl, rfl, rfl, by omega, ?_, HR1.out, HK1.out, HB1.out, HNy.out⟩
              show lsOf cul = _
              rw [mapk_same _ HX.out.2 HN.out]; exact HC.out
            case measure => simp [intOf]; omega
          · obtain ⟨kk, hkk, hkl, _⟩ := idx_natN hneg
            have hkb : kk < Lb.length := by unfold namesOf at hkl; rw [List.length_map] at hkl; exact hkl
            have HN := hid (patL_hit hkk)
            rw [hkk]
            obtain ⟨gb, ob, hB1, hgbB, hkm, hj2, hmj, hcl, hcs⟩ := HLB.out kk hkb
            subst hB1
            unfold maxLen at hj2
            generalize (Lb.map (·.lv)).getD kk 0 = lvb at *
            generalize (Lb.map (·.stop)).getD kk false = stb at *
            have hgbw : gb < w.heap.size := by have := HBW.out; omega
            have e0 := ((HIN.out _ HW1.out).2 0 _ rfl).1
            have cl : w1.cell? ⟨gb, ob + kk * 6 + 1, none⟩ = some (.int .i64 lvb) := (HW1.out.cell (p := ⟨gb, ob + kk * 6 + 1, none⟩) hgbw).trans hcl
            have cs : w1.cell? ⟨gb, ob + kk * 6 + 4, none⟩ = some (.bool stb) := (HW1.out.cell (p := ⟨gb, ob + kk * 6 + 4, none⟩) hgbw).trans hcs
            have hgg : g ≠ gb := by have := HLO.out.1; omega
            have t0 : (0 : Int) ≤ (kk : Int) := by omega
            have t1 : (kk : Int) < (m1 : Int) := by omega
            have t2 : ((kk : Int)).toNat = kk := by simp
            have hrd : Rows w1.drew lo ([] ++ two 65 6 n (.slice (some ⟨g, 0, none⟩) n c) lcells lrows cul ++ two 49 3 k (.slice A4 k c4) hcells hrows cur) := HR1.out.below ((Below.refl _ _).drew)
            have hrs0 := hrd.cellset (j := 1) (e := 2) (x := x) (y := { x with l := { x.l with lv := lvb } }) (u := .int .i64 lvb) lcells_len lrows_len HX.out.1 (by omega) rfl rfl
            have hx1 : (cul.set j { x with l := { x.l with lv := lvb } })[j]? = some { x with l := { x.l with lv := lvb } } := List.getElem?_set_self (List.getElem?_eq_some_iff.1 HX.out.1).1
            have hrs1 := hrs0.cellset (j := 4) (e := 2) (x := { x with l := { x.l with lv := lvb } }) (y := { x with l := patL Lb x.l }) (u := .bool stb) lcells_len lrows_len hx1 (by omega) (by rw [HN.out]; rfl) (by rw [HN.out]; rfl)
            rw [List.set_set] at hrs1
            have HRs := hid hrs1
            have HKs := hid (((HK1.out.dr 1).apart ⟨g, j * 6 + 1, none⟩ (.int .i64 lvb) hgb).apart ⟨g, j * 6 + 4, none⟩ (.bool stb) hgb)
            have HBs := hid ((HB1.out.drew.setCell (p := ⟨g, j * 6 + 1, none⟩) hgl (.int .i64 lvb)).setCell (p := ⟨g, j * 6 + 4, none⟩) hgl (.bool stb))
            clear hneg hkk hkl hkb hcl hcs hrs0 hrs1 hrd hx1
            go_wp2_with fail
            refine wp_region_held_drew (S := (fun w' : World => w'.cell? ⟨bb, 0, none⟩ = some (.slice (some ⟨gb, ob, none⟩) m1 j1) ∧ w'.cell? ⟨gb, ob + kk * 6 + 1, none⟩ = some (.int .i64 lvb) ∧ w'.cell? ⟨gb, ob + kk * 6 + 4, none⟩ = some (.bool stb))) (by kernel_rfl) ⟨e0, cl, cs⟩ (fun hS => ?_)
            refine wpAnyH_take (i := 0) (oi := ?oi115) (v := ?v115) ?hi115 (by kernel_rfl) ?hf115 ?hr115 ?hQ115 (Or.inl ⟨?hw115, ?hy115⟩) (by assumption) ?rest115
            case hi115 => simp only [List.getElem?_toArray, List.getElem?_cons_succ, List.getElem?_cons_zero]; rfl
            case hf115 => kernel_rfl
            case hr115 => kernel_rfl
            case hw115 => rfl
            case hy115 => (intro w hSw; (try dsimp only at hSw); go_simp; all_goals (first | done | with_reducible rfl))
            case hQ115 => exact fun _ _ _ h => h
            simp only [Act.put, List.setIfInBounds_toArray, List.set_cons_zero, List.set_cons_succ]
            refine wpAnyH_take (i := 1) (oi := ?oi116) (v := ?v116) ?hi116 (by kernel_rfl) ?hf116 ?hr116 ?hQ116 (Or.inl ⟨?hw116, ?hy116⟩) (by assumption) ?rest116
            case hi116 => simp only [List.getElem?_toArray, List.getElem?_cons_succ, List.getElem?_cons_zero]; rfl
            case hf116 => kernel_rfl
            case hr116 => kernel_rfl
            case hw116 => rfl
            case hy116 => (intro w hSw; (try dsimp only at hSw); go_simp; all_goals (first | done | with_reducible rfl))
            case hQ116 => exact fun _ _ _ h => h
            simp only [Act.put, List.setIfInBounds_toArray, List.set_cons_zero, List.set_cons_succ]
            refine wpAnyH_take (i := 2) (oi := ?oi117) (v := ?v117) ?hi117 (by kernel_rfl) ?hf117 ?hr117 ?hQ117 (Or.inl ⟨?hw117, ?hy117⟩) (by assumption) ?rest117
            case hi117 => simp only [List.getElem?_toArray, List.getElem?_cons_succ, List.getElem?_cons_zero]; rfl
            case hf117 => kernel_rfl
            case hr117 => kernel_rfl
            case hw117 => rfl
            case hy117 => (intro w hSw; (try dsimp only at hSw); go_simp; all_goals (first | done | with_reducible rfl))
            case hQ117 => exact fun _ _ _ h => h
            simp only [Act.put, List.setIfInBounds_toArray, List.set_cons_zero, List.set_cons_succ]
            refine wpAnyH_take (i := 3) (oi := ?oi118) (v := ?v118) ?hi118 (by kernel_rfl) ?hf118 ?hr118 ?hQ118 (Or.inl ⟨?hw118, ?hy118⟩) (by assumption) ?rest118
            case hi118 => simp only [List.getElem?_toArray, List.getElem?_cons_succ, List.getElem?_cons_zero]; rfl
            case hf118 => kernel_rfl
            case hr118 => kernel_rfl
            case hw118 => rfl
            case hy118 => (intro w hSw; (try dsimp only at hSw); go_simp; all_goals (first | done | with_reducible rfl))
            case hQ118 => exact fun _ _ _ h => h
            simp only [Act.put, List.setIfInBounds_toArray, List.set_cons_zero, List.set_cons_succ]
            refine wpAnyH_take (i := 4) (oi := ?oi119) (v := ?v119) ?hi119 (by kernel_rfl) ?hf119 ?hr119 ?hQ119 (Or.inl ⟨?hw119, ?hy119⟩) (by assumption) ?rest119
            case hi119 => simp only [List.getElem?_toArray, List.getElem?_cons_succ, List.getElem?_cons_zero]; rfl
            case hf119 => kernel_rfl
            case hr119 => kernel_rfl
            case hw119 => rfl
            case hy119 => (intro w hSw; (try dsimp only at hSw); go_simp; all_goals (first | done | with_reducible rfl))
            case hQ119 => exact fun _ _ _ h => h
            simp only [Act.put, List.setIfInBounds_toArray, List.set_cons_zero, List.set_cons_succ]
            refine wpAnyH_take (i := 5) (oi := ?oi120) (v := ?v120) ?hi120 (by kernel_rfl) ?hf120 ?hr120 ?hQ120 (Or.inl ⟨?hw120, ?hy120⟩) (by assumption) ?rest120
            case hi120 => simp only [List.getElem?_toArray, List.getElem?_cons_succ, List.getElem?_cons_zero]; rfl
            case hf120 => kernel_rfl
            case hr120 => kernel_rfl
            case hw120 => rfl
            case hy120 => (intro w hSw; (try dsimp only at hSw); go_simp; all_goals (first | done | with_reducible rfl))
            case hQ120 => exact fun _ _ _ h => h
            simp only [Act.put, List.setIfInBounds_toArray, List.set_cons_zero, List.set_cons_succ]
            refine wpAnyH_take (i := 6) (oi := ?oi121) (v := ?v121) ?hi121 (by kernel_rfl) ?hf121 ?hr121 ?hQ121 (Or.inl ⟨?hw121, ?hy121⟩) (by assumption) ?rest121
            case hi121 => simp only [List.getElem?_toArray, List.getElem?_cons_succ, List.getElem?_cons_zero]; rfl
            case hf121 => kernel_rfl
            case hr121 => kernel_rfl
            case hw121 => rfl
            case hy121 => (intro w hSw; (try dsimp only at hSw); go_simp; all_goals (first | done | with_reducible rfl))
            case hQ121 => exact fun _ _ _ h => h
            simp only [Act.put, List.setIfInBounds_toArray, List.set_cons_zero, List.set_cons_succ]
            refine wpAnyH_take (i := 7) (oi := ?oi122) (v := ?v122) ?hi122 (by kernel_rfl) ?hf122 ?hr122 ?hQ122 (Or.inl ⟨?hw122, ?hy122⟩) (by assumption) ?rest122
            case hi122 => simp only [List.getElem?_toArray, List.getElem?_cons_succ, List.getElem?_cons_zero]; rfl
            case hf122 => kernel_rfl
            case hr122 => kernel_rfl
            case hw122 => rfl
            case hy122 => (intro w hSw; (try dsimp only at hSw); go_simp; all_goals (first | done | with_reducible rfl))
            case hQ122 => exact fun _ _ _ h => h
            simp only [Act.put, List.setIfInBounds_toArray, List.set_cons_zero, List.set_cons_succ]
            refine wpAnyH_take (i := 8) (oi := ?oi123) (v := ?v123) ?hi123 (by kernel_rfl) ?hf123 ?hr123 ?hQ123 (Or.inl ⟨?hw123, ?hy123⟩) (by assumption) ?rest123
            case hi123 => simp only [List.getElem?_toArray, List.getElem?_cons_succ, List.getElem?_cons_zero]; rfl
            case hf123 => kernel_rfl
            case hr123 => kernel_rfl
            case hw123 => rfl
            case hy123 => (intro w hSw; (try dsimp only at hSw); go_simp; all_goals (first | done | with_reducible rfl))
            case hQ123 => exact fun _ _ _ h => h
            simp only [Act.put, List.setIfInBounds_toArray, List.set_cons_zero, List.set_cons_succ]
            refine wpAnyH_take (i := 9) (oi := ?oi124) (v := ?v124) ?hi124 (by kernel_rfl) ?hf124 ?hr124 ?hQ124 (Or.inl ⟨?hw124, ?hy124⟩) (by assumption) ?rest124
            case hi124 => simp only [List.getElem?_toArray, List.getElem?_cons_succ, List.getElem?_cons_zero]; rfl
            case hf124 => kernel_rfl
            case hr124 => kernel_rfl
            case hw124 => rfl
            case hy124 => (intro w hSw; (try dsimp only at hSw); go_simp; all_goals (first | done | with_reducible rfl))
            case hQ124 => exact fun _ _ _ h => h
            simp only [Act.put, List.setIfInBounds_toArray, List.set_cons_zero, List.set_cons_succ]
            refine wpAnyH_take (i := 10) (oi := ?oi125) (v := ?v125) ?hi125 (by kernel_rfl) ?hf125 ?hr125 ?hQ125 (Or.inl ⟨?hw125, ?hy125⟩) (by assumption) ?rest125
            case hi125 => simp only [List.getElem?_toArray, List.getElem?_cons_succ, List.getElem?_cons_zero]; rfl
            case hf125 => kernel_rfl
            case hr125 => kernel_rfl
            case hw125 => rfl
            case hy125 => (intro w hSw; (try dsimp only at hSw); go_simp; all_goals (first | done | with_reducible rfl))
            case hQ125 => exact fun _ _ _ h => h
            simp only [Act.put, List.setIfInBounds_toArray, List.set_cons_zero, List.set_cons_succ]
            refine wpAnyH_take (i := 11) (oi := ?oi126) (v := ?v126) ?hi126 (by kernel_rfl) ?hf126 ?hr126 ?hQ126 (Or.inl ⟨?hw126, ?hy126⟩) (by assumption) ?rest126
            case hi126 => simp only [List.getElem?_toArray, List.getElem?_cons_succ, List.getElem?_cons_zero]; rfl
            case hf126 => kernel_rfl
            case hr126 => kernel_rfl
            case hw126 => rfl
            case hy126 => (intro w hSw; (try dsimp only at hSw); go_simp; all_goals (first | done | with_reducible rfl))
            case hQ126 => exact fun _ _ _ h => h
            simp only [Act.put, List.setIfInBounds_toArray, List.set_cons_zero, List.set_cons_succ]
            refine wpAnyH_take (i := 12) (oi := ?oi127) (v := ?v127) ?hi127 (by kernel_rfl) ?hf127 ?hr127 ?hQ127 (Or.inl ⟨?hw127, ?hy127⟩) (by assumption) ?rest127
            case hi127 => simp only [List.getElem?_toArray, List.getElem?_cons_succ, List.getElem?_cons_zero]; rfl
            case hf127 => kernel_rfl
            case hr127 => kernel_rfl
            case hw127 => rfl
            case hy127 => (intro w hSw; (try dsimp only at hSw); go_simp; all_goals (first | done | with_reducible rfl))
            case hQ127 => exact fun _ _ _ h => h
            simp only [Act.put, List.setIfInBounds_toArray, List.set_cons_zero, List.set_cons_succ]
            refine wpAnyH_take (i := 13) (oi := ?oi128) (v := ?v128) ?hi128 (by kernel_rfl) ?hf128 ?hr128 ?hQ128 (Or.inl ⟨?hw128, ?hy128⟩) (by assumption) ?rest128
            case hi128 => simp only [List.getElem?_toArray, List.getElem?_cons_succ, List.getElem?_cons_zero]; rfl
            case hf128 => kernel_rfl
            case hr128 => kernel_rfl
            case hw128 => rfl
            case hy128 => (intro w hSw; (try dsimp only at hSw); go_simp; all_goals (first | done | with_reducible rfl))
            case hQ128 => exact fun _ _ _ h => h
            simp only [Act.put, List.setIfInBounds_toArray, List.set_cons_zero, List.set_cons_succ]
            refine wpAnyH_take (i := 14) (oi := ?oi129) (v := ?v129) ?hi129 (by kernel_rfl) ?hf129 ?hr129 ?hQ129 (Or.inl ⟨?hw129, ?hy129⟩) (by assumption) ?rest129
            case hi129 => simp only [List.getElem?_toArray, List.getElem?_cons_succ, List.getElem?_cons_zero]; rfl
            case hf129 => kernel_rfl
            case hr129 => kernel_rfl
            case hw129 => rfl
            case hy129 => (intro w hSw; (try dsimp only at hSw); go_simp; all_goals (first | done | with_reducible rfl))
            case hQ129 => exact fun _ _ _ h => h
            simp only [Act.put, List.setIfInBounds_toArray, List.set_cons_zero, List.set_cons_succ]
            refine wpAnyH_take (i := 15) (oi := ?oi130) (v := ?v130) ?hi130 (by kernel_rfl) ?hf130 ?hr130 ?hQ130 (Or.inl ⟨?hw130, ?hy130⟩) (by assumption) ?rest130
            case hi130 => simp only [List.getElem?_toArray, List.getElem?_cons_succ, List.getElem?_cons_zero]; rfl
            case hf130 => kernel_rfl
            case hr130 => kernel_rfl
            case hw130 => rfl
            case hy130 => (intro w hSw; (try dsimp only at hSw); go_simp; all_goals (first | done | with_reducible rfl))
            case hQ130 => exact fun _ _ _ h => h
            simp only [Act.put, List.setIfInBounds_toArray, List.set_cons_zero, List.set_cons_succ]
            refine wpAnyH_ready (rs := [16]) (by kernel_rfl) (by simp) ?_
            refine AllReadyH.cons (o := ?oi131) ?hi131 (fun K hK => ?step131) AllReadyH.nil
            case hi131 => simp only [List.getElem?_toArray, List.getElem?_cons_succ, List.getElem?_cons_zero]; rfl
            rw [if_pos (by rfl)]
            go_simp
            refine hK.out _ _ ⟨(World.cell?_setCell_far _ _ _ _ hgx).trans hS.1, (World.cell?_setCell_far _ _ _ _ hgg).trans hS.2.1, (World.cell?_setCell_far _ _ _ _ hgg).trans hS.2.2⟩ (fun hS => ?_)
            refine wpAnyH_take (i := 17) (oi := ?oi132) (v := ?v132) ?hi132 (by kernel_rfl) ?hf132 ?hr132 ?hQ132 (Or.inl ⟨?hw132, ?hy132⟩) (by assumption) ?rest132
            case hi132 => simp only [List.getElem?_toArray, List.getElem?_cons_succ, List.getElem?_cons_zero]; rfl
            case hf132 => kernel_rfl
            case hr132 => kernel_rfl
            case hw132 => rfl
            case hy132 => (intro w hSw; (try dsimp only at hSw); go_simp; all_goals (first | done | with_reducible rfl))
            case hQ132 => exact fun _ _ _ h => h
            simp only [Act.put, List.setIfInBounds_toArray, List.set_cons_zero, List.set_cons_succ]
            refine wpAnyH_take (i := 18) (oi := ?oi133) (v := ?v133) ?hi133 (by kernel_rfl) ?hf133 ?hr133 ?hQ133 (Or.inl ⟨?hw133, ?hy133⟩) (by assumption) ?rest133
            case hi133 => simp only [List.getElem?_toArray, List.getElem?_cons_succ, List.getElem?_cons_zero]; rfl
            case hf133 => kernel_rfl
            case hr133 => kernel_rfl
            case hw133 => rfl
            case hy133 => (intro w hSw; (try dsimp only at hSw); go_simp; all_goals (first | done | with_reducible rfl))
            case hQ133 => exact fun _ _ _ h => h
            simp only [Act.put, List.setIfInBounds_toArray, List.set_cons_zero, List.set_cons_succ]
            refine wpAnyH_ready (rs := [19]) (by kernel_rfl) (by simp) ?_
            refine AllReadyH.cons (o := ?oi134) ?hi134 (fun K hK => ?step134) AllReadyH.nil
            case hi134 => simp only [List.getElem?_toArray, List.getElem?_cons_succ, List.getElem?_cons_zero]; rfl
            rw [if_pos (by rfl)]
            go_simp
            refine hK.out _ _ ⟨(World.cell?_setCell_far _ _ _ _ hgx).trans hS.1, (World.cell?_setCell_far _ _ _ _ hgg).trans hS.2.1, (World.cell?_setCell_far _ _ _ _ hgg).trans hS.2.2⟩ (fun hS => ?_)
            refine wpAnyH_done (by kernel_rfl) ?_ _
            clear oc of oc4 of4 e0 cl cs hS
            go_wp2_with fail
            go_roundw
            case rel =>
              refine ⟨j + 1, _, _, _, _, by go_num, rfl, rfl, rfl, by omega, ?_, HRs.out, HKs.out, HBs.out, ?_⟩
              · show lsOf (cul.set j _) = _
                rw [mapk_step _ HX.out.2, ← HC.out]
                unfold lsOf
                rw [List.map_set]
              · intro y hy
                rcases List.mem_or_eq_of_mem_set hy with hy | rfl
                · exact HNy.out y hy
                · exact HNy.out x (List.mem_of_getElem? HX.out.1)
            case measure => simp [intOf]; omega
        · obtain rfl : j = n := by omega
          have HCC := hid (show lsOf cul = L.map (patL Lb) by
            have hkL := HLn.out
            have h := HC.out
            rw [List.take_of_length_le (by omega), List.drop_eq_nil_of_le (by omega), List.append_nil] at h
            exact h)
          have hcll : cul.length = j := by have h := congrArg List.length HCC.out; have := HLn.out; simp [lsOf] at h; omega
          have HCLL := hid hcll
          have d2 := (HKx.out.2 2 _ rfl).1
          have f2 := (HKx.out.2 2 _ rfl).2
          have e2 := ((HIN.out _ HWx.out).2 2 _ rfl).1
          have hlob := HLO.out.2
          clear hcll HC
          go_wp2_with fail
          go_ret
          refine ⟨HBx.out.setCell hlob _, rfl, fun x hx => ?_⟩
          obtain rfl := Option.some.inj hx
          refine ⟨_, _, _, _, _, _, treeRows cul.length _ cul cur.length _ cur, HKx.out.set 2 (.int .i64 qb), ⟨_, _, cul, cur, rfl, HCC.out, HCH.out, rfl⟩, ?_, HD.out⟩
          rw [treeRows_eq, HCLL.out, HCL.out]
          refine Rows.off ?_ ?_
          · simpa using HRx.out
          · intro r hr
            simp only [two, hrows, lrows, List.mem_append, List.mem_cons, List.mem_flatMap, List.not_mem_nil, or_false] at hr
            rcases hr with (rfl | ⟨y, hy, rfl | rfl⟩) | rfl | ⟨y, hy, rfl⟩
            · exact fun e => hgb (Option.some.inj e)
            · exact (HNy.out y hy).1
            · exact (HNy.out y hy).2
            · exact HHN.out
            · exact HNx.out y hy
end Go.Proofs.Ytbidlmejonpadaa
