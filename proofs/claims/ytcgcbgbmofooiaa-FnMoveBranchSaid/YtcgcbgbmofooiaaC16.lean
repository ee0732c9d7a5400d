/-
  TREES changed: the model's MoveBranch. By gen_c16.py.
-/
import Derived.Test.YtcgcbgbmofooiaaC15
namespace Go.Proofs.Ytcgcbgbmofooiaa
open Go.RowKit Nm
set_option linter.unusedSimpArgs false
set_option linter.unusedVariables false

set_option maxHeartbeats 8000000 in
set_option maxRecDepth 100000 in
theorem specMoveBranch_c {w : World} {B : Nat} {v : Value} {L : List Lgr} {H : List Hnd} {q : Int} (f t : ByteArray) (h : TreeIn w B v L H q) (hB : B ≤ w.heap.size) (hfz : f.size ≤ 1048576) (htz : t.size ≤ 1048576) :
    Calls Try.prog 34 #[v, .string f, .string t] w (TreePostO w (moveX L H q f.data.toList t.data.toList)) := by
  have Cv := hid (fun (W : World) (hW : Below w.heap.size w W) => specTreeX_c (h.below hW hB) (Nat.le_trans hB hW.size))
  have Cf := hid (fun (W : World) (hW : Below w.heap.size w W) => validName_c f W hfz)
  have Ct := hid (fun (W : World) (hW : Below w.heap.size w W) => validName_c t W htz)
  obtain ⟨A1, n1, k1, A2, n2, k2, rfl⟩ := h.form
  have HW := hid (show Below w.heap.size w ((w.alloc (.cells #[.slice A1 n1 k1, .slice A2 n2 k2, .int .i64 q] 26)).alloc (.cells #[.slice none 0 0, .slice none 0 0, .int .i64 0] 26)) from ((Below.refl _ _).alloc (Nat.le_refl _) _).alloc (by simp) _)
  have KT := hid ((Blk.new w #[.slice A1 n1 k1, .slice A2 n2 k2, .int .i64 q] 26).alloc (.cells #[.slice none 0 0, .slice none 0 0, .int .i64 0] 26))
  have KR := hid (Blk.new (w.alloc (.cells #[.slice A1 n1 k1, .slice A2 n2 k2, .int .i64 q] 26)) #[.slice none 0 0, .slice none 0 0, .int .i64 0] 26)
  simp only [World.size_alloc] at KR
  cases hz : treeOk L H q with
  | false =>
    have HE := hid (show moveX L H q f.data.toList t.data.toList = none by unfold moveX changedO; rw [hz]; split <;> rfl)
    rw [hz] at Cv
    clear h hz
    go_enter Try.func34, Try.ntmps34
    go_wp2_with fail
    refine (Cv.out _ HW.out).mono ?_
    rintro e w1 ⟨rfl, hb1⟩
    have HB1 := hid (HW.out.trans (hb1.mono HW.out.size) : Below w.heap.size w w1)
    have KT1 := hid (KT.out.to hb1)
    have KR1 := hid (KR.out.to hb1)
    clear hb1
    obtain ⟨q0c, q0f⟩ := KR1.out.2 0 _ rfl
    obtain ⟨q1c, q1f⟩ := KR1.out.2 1 _ rfl
    obtain ⟨q2c, q2f⟩ := KR1.out.2 2 _ rfl
    go_wp2_with fail
    have RB := ((KR1.out.set 0 (.slice none 0 0)).set 1 (.slice none 0 0)).set 2 (.int .i64 0)
    have f0 := (RB.2 0 _ rfl).1
    have f1 := (RB.2 1 _ rfl).1
    have f2 := (RB.2 2 _ rfl).1
    refine bodyPost_ret (v := .tuple #[.agg #[.slice none 0 0, .slice none 0 0, .int .i64 0], .bool false]) (by simp [results, Try.results34, go_sem, f0, f1, f2]) rfl ?_
    refine postO_none HE.out rfl ?_
    iterate 3 refine Below.setCell ?_ (by simp; try omega) _
    exact HB1.out
  | true =>
  cases hnf : nameOk f.data.toList with
  | false =>
    have HE := hid (show moveX L H q f.data.toList t.data.toList = none by unfold moveX; rw [if_pos (Or.inr (Or.inr (Or.inl hnf)))])
    rw [hz] at Cv
    rw [hnf] at Cf
    clear h hz hnf
    go_enter Try.func34, Try.ntmps34
    go_wp2_with fail
    refine (Cv.out _ HW.out).mono ?_
    rintro e w1 ⟨rfl, hb1⟩
    have HB1 := hid (HW.out.trans (hb1.mono HW.out.size) : Below w.heap.size w w1)
    have KT1 := hid (KT.out.to hb1)
    have KR1 := hid (KR.out.to hb1)
    clear hb1
    go_wp2_with fail
    refine (Cf.out _ HB1.out).mono ?_
    rintro e w2 ⟨rfl, hb2⟩
    have HB2 := hid (HB1.out.trans (hb2.mono HB1.out.size) : Below w.heap.size w w2)
    have KT2 := hid (KT1.out.to hb2)
    have KR2 := hid (KR1.out.to hb2)
    clear hb2
    obtain ⟨q0c, q0f⟩ := KR2.out.2 0 _ rfl
    obtain ⟨q1c, q1f⟩ := KR2.out.2 1 _ rfl
    obtain ⟨q2c, q2f⟩ := KR2.out.2 2 _ rfl
    go_wp2_with fail
    have RB := ((KR2.out.set 0 (.slice none 0 0)).set 1 (.slice none 0 0)).set 2 (.int .i64 0)
    have f0 := (RB.2 0 _ rfl).1
    have f1 := (RB.2 1 _ rfl).1
    have f2 := (RB.2 2 _ rfl).1
    refine bodyPost_ret (v := .tuple #[.agg #[.slice none 0 0, .slice none 0 0, .int .i64 0], .bool false]) (by simp [results, Try.results34, go_sem, f0, f1, f2]) rfl ?_
    refine postO_none HE.out rfl ?_
    iterate 3 refine Below.setCell ?_ (by simp; try omega) _
    exact HB2.out
  | true =>
  cases hnt : nameOk t.data.toList with
  | false =>
    have HE := hid (show moveX L H q f.data.toList t.data.toList = none by unfold moveX; rw [if_pos (Or.inr (Or.inr (Or.inr hnt)))])
    rw [hz] at Cv
    rw [hnf] at Cf
    rw [hnt] at Ct
    clear h hz hnf hnt
    go_enter Try.func34, Try.ntmps34
    go_wp2_with fail
    refine (Cv.out _ HW.out).mono ?_
    rintro e w1 ⟨rfl, hb1⟩
    have HB1 := hid (HW.out.trans (hb1.mono HW.out.size) : Below w.heap.size w w1)
    have KT1 := hid (KT.out.to hb1)
    have KR1 := hid (KR.out.to hb1)
    clear hb1
    go_wp2_with fail
    refine (Cf.out _ HB1.out).mono ?_
    rintro e w2 ⟨rfl, hb2⟩
    have HB2 := hid (HB1.out.trans (hb2.mono HB1.out.size) : Below w.heap.size w w2)
    have KT2 := hid (KT1.out.to hb2)
    have KR2 := hid (KR1.out.to hb2)
    clear hb2
    go_wp2_with fail
    refine (Ct.out _ HB2.out).mono ?_
    rintro e w3 ⟨rfl, hb3⟩
    have HB3 := hid (HB2.out.trans (hb3.mono HB2.out.size) : Below w.heap.size w w3)
    have KT3 := hid (KT2.out.to hb3)
    have KR3 := hid (KR2.out.to hb3)
    clear hb3
    obtain ⟨q0c, q0f⟩ := KR3.out.2 0 _ rfl
    obtain ⟨q1c, q1f⟩ := KR3.out.2 1 _ rfl
    obtain ⟨q2c, q2f⟩ := KR3.out.2 2 _ rfl
    go_wp2_with fail
    have RB := ((KR3.out.set 0 (.slice none 0 0)).set 1 (.slice none 0 0)).set 2 (.int .i64 0)
    have f0 := (RB.2 0 _ rfl).1
    have f1 := (RB.2 1 _ rfl).1
    have f2 := (RB.2 2 _ rfl).1
    refine bodyPost_ret (v := .tuple #[.agg #[.slice none 0 0, .slice none 0 0, .int .i64 0], .bool false]) (by simp [results, Try.results34, go_sem, f0, f1, f2]) rfl ?_
    refine postO_none HE.out rfl ?_
    iterate 3 refine Below.setCell ?_ (by simp; try omega) _
    exact HB3.out
  | true =>
  by_cases hf0 : f.data.toList = []
  · have e1 := empty_true hf0
    have HE := hid (show moveX L H q f.data.toList t.data.toList = none by unfold moveX; rw [if_pos (Or.inl hf0)])
    rw [hz] at Cv
    rw [hnf] at Cf
    rw [hnt] at Ct
    clear h hz hnf hnt hf0
    go_enter Try.func34, Try.ntmps34
    go_wp2_with fail
    refine (Cv.out _ HW.out).mono ?_
    rintro e w1 ⟨rfl, hb1⟩
    have HB1 := hid (HW.out.trans (hb1.mono HW.out.size) : Below w.heap.size w w1)
    have KT1 := hid (KT.out.to hb1)
    have KR1 := hid (KR.out.to hb1)
    clear hb1
    go_wp2_with fail
    refine (Cf.out _ HB1.out).mono ?_
    rintro e w2 ⟨rfl, hb2⟩
    have HB2 := hid (HB1.out.trans (hb2.mono HB1.out.size) : Below w.heap.size w w2)
    have KT2 := hid (KT1.out.to hb2)
    have KR2 := hid (KR1.out.to hb2)
    clear hb2
    go_wp2_with fail
    refine (Ct.out _ HB2.out).mono ?_
    rintro e w3 ⟨rfl, hb3⟩
    have HB3 := hid (HB2.out.trans (hb3.mono HB2.out.size) : Below w.heap.size w w3)
    have KT3 := hid (KT2.out.to hb3)
    have KR3 := hid (KR2.out.to hb3)
    clear hb3
    obtain ⟨q0c, q0f⟩ := KR3.out.2 0 _ rfl
    obtain ⟨q1c, q1f⟩ := KR3.out.2 1 _ rfl
    obtain ⟨q2c, q2f⟩ := KR3.out.2 2 _ rfl
    go_wp2_with fail
    have RB := ((KR3.out.set 0 (.slice none 0 0)).set 1 (.slice none 0 0)).set 2 (.int .i64 0)
    have f0 := (RB.2 0 _ rfl).1
    have f1 := (RB.2 1 _ rfl).1
    have f2 := (RB.2 2 _ rfl).1
    refine bodyPost_ret (v := .tuple #[.agg #[.slice none 0 0, .slice none 0 0, .int .i64 0], .bool false]) (by simp [results, Try.results34, go_sem, f0, f1, f2]) rfl ?_
    refine postO_none HE.out rfl ?_
    iterate 3 refine Below.setCell ?_ (by simp; try omega) _
    exact HB3.out
  have e1 := empty_false hf0
  by_cases ht0 : t.data.toList = []
  · have e2 := empty_true ht0
    have HE := hid (show moveX L H q f.data.toList t.data.toList = none by unfold moveX; rw [if_pos (Or.inr (Or.inl ht0))])
    rw [hz] at Cv
    rw [hnf] at Cf
    rw [hnt] at Ct
    clear h hz hnf hnt hf0 ht0
    go_enter Try.func34, Try.ntmps34
    go_wp2_with fail
    refine (Cv.out _ HW.out).mono ?_
    rintro e w1 ⟨rfl, hb1⟩
    have HB1 := hid (HW.out.trans (hb1.mono HW.out.size) : Below w.heap.size w w1)
    have KT1 := hid (KT.out.to hb1)
    have KR1 := hid (KR.out.to hb1)
    clear hb1
    go_wp2_with fail
    refine (Cf.out _ HB1.out).mono ?_
    rintro e w2 ⟨rfl, hb2⟩
    have HB2 := hid (HB1.out.trans (hb2.mono HB1.out.size) : Below w.heap.size w w2)
    have KT2 := hid (KT1.out.to hb2)
    have KR2 := hid (KR1.out.to hb2)
    clear hb2
    go_wp2_with fail
    refine (Ct.out _ HB2.out).mono ?_
    rintro e w3 ⟨rfl, hb3⟩
    have HB3 := hid (HB2.out.trans (hb3.mono HB2.out.size) : Below w.heap.size w w3)
    have KT3 := hid (KT2.out.to hb3)
    have KR3 := hid (KR2.out.to hb3)
    clear hb3
    obtain ⟨q0c, q0f⟩ := KR3.out.2 0 _ rfl
    obtain ⟨q1c, q1f⟩ := KR3.out.2 1 _ rfl
    obtain ⟨q2c, q2f⟩ := KR3.out.2 2 _ rfl
    go_wp2_with fail
    have RB := ((KR3.out.set 0 (.slice none 0 0)).set 1 (.slice none 0 0)).set 2 (.int .i64 0)
    have f0 := (RB.2 0 _ rfl).1
    have f1 := (RB.2 1 _ rfl).1
    have f2 := (RB.2 2 _ rfl).1
    refine bodyPost_ret (v := .tuple #[.agg #[.slice none 0 0, .slice none 0 0, .int .i64 0], .bool false]) (by simp [results, Try.results34, go_sem, f0, f1, f2]) rfl ?_
    refine postO_none HE.out rfl ?_
    iterate 3 refine Below.setCell ?_ (by simp; try omega) _
    exact HB3.out
  have e2 := empty_false ht0
  have hf20 : f.size ≤ 20 := by rw [Lib.size_eq]; exact name_size _ hnf
  have ht20 : t.size ≤ 20 := by rw [Lib.size_eq]; exact name_size _ hnt
  have HE := hid (show moveX L H q f.data.toList t.data.toList = (if movedB L f.data.toList then some (moveT L f.data.toList t.data.toList, H, q) else none).bind (fun x => ifOk x.1 x.2.1 x.2.2) by
    unfold moveX changedO
    rw [if_neg (fun a => a.elim hf0 (fun a => a.elim ht0 (fun a => a.elim (fun a => by rw [hnf] at a; cases a) (fun a => by rw [hnt] at a; cases a)))), hz]; rfl)
  have hd := fit_ok hz
  obtain ⟨_, _, hnm, h8, h1l, _⟩ := tree_names hz
  have HN20 := hid (show ∀ l ∈ L, l.nm.length ≤ 20 from fun l hl => name_size _ (hnm _ (List.mem_map.2 ⟨l, hl, rfl⟩)))
  have HD2 := hid (move_fit (f := f.data.toList) (t := t.data.toList) hd HN20.out (by rw [← Lib.size_eq]; exact ht20))
  have CC := hid (fun (W : World) (hW : Below w.heap.size w W) => specCopy_c (h.below hW hB) hz (Nat.le_trans hB hW.size))
  rw [hz] at Cv
  rw [hnf] at Cf
  rw [hnt] at Ct
  clear h hz hnf hnt hf0 ht0 hd hnm
  go_enter Try.func34, Try.ntmps34
  go_wp2_with fail
  refine (Cv.out _ HW.out).mono ?_
  rintro e w1 ⟨rfl, hb1⟩
  have HB1 := hid (HW.out.trans (hb1.mono HW.out.size) : Below w.heap.size w w1)
  have KT1 := hid (KT.out.to hb1)
  have KR1 := hid (KR.out.to hb1)
  clear hb1
  go_wp2_with fail
  refine (Cf.out _ HB1.out).mono ?_
  rintro e w2 ⟨rfl, hb2⟩
  have HB2 := hid (HB1.out.trans (hb2.mono HB1.out.size) : Below w.heap.size w w2)
  have KT2 := hid (KT1.out.to hb2)
  have KR2 := hid (KR1.out.to hb2)
  clear hb2
  go_wp2_with fail
  refine (Ct.out _ HB2.out).mono ?_
  rintro e w3 ⟨rfl, hb3⟩
  have HB3 := hid (HB2.out.trans (hb3.mono HB2.out.size) : Below w.heap.size w w3)
  have KT3 := hid (KT2.out.to hb3)
  have KR3 := hid (KR2.out.to hb3)
  clear hb3
  have d0 := (KT3.out.2 0 _ rfl).1
  have d1 := (KT3.out.2 1 _ rfl).1
  have d2 := (KT3.out.2 2 _ rfl).1
  have hsz3 : w.heap.size + 1 < w3.heap.size := KR3.out.1
  go_wp2_with fail
  refine (CC.out _ HB3.out).mono ?_
  rintro e w4 ⟨v', rs, rfl, hs, hr, hb4⟩
  obtain ⟨u1, u2, ls, hs', rfl, h1, h2, rfl⟩ := hs
  have hll : ls.length = L.length := by rw [← h1]; simp [lsOf]
  obtain ⟨hl, hh⟩ := hr.lsIn
  obtain ⟨A, c, rfl, hnc, hcm⟩ := hl.1.form
  obtain ⟨A4, c4, rfl, _, _⟩ := hh.1.form
  clear hl hh
  have hr0 : Rows w4 w3.heap.size ([] ++ two 45 6 ls.length (.slice A ls.length c) lcells lrows ls ++ two 82 3 hs'.length (.slice A4 hs'.length c4) hcells hrows hs') := by rw [treeRows_eq] at hr; simpa using hr
  obtain ⟨g, rfl, hglt⟩ := own_some hr0.top (by omega)
  have hgl : w3.heap.size ≤ g := (hr0.top.lt g rfl).1
  generalize hN : ls.length = n at *
  have hn8 : n ≤ 8 := by omega
  unfold maxLen at hcm
  have hsz34 : w3.heap.size ≤ w4.heap.size := hb4.size
  have hww3 : w.heap.size ≤ w3.heap.size := HB3.out.size
  have HBA := hid (show Below w4.heap.size w4 (w4.alloc (.cells #[.slice (some ⟨g, 0, none⟩) n c, .slice A4 hs'.length c4, .int .i64 q] 26)) from (Below.refl _ _).alloc (Nat.le_refl _) _)
  have HB4 := hid ((HB3.out.trans (hb4.mono HB3.out.size)).trans (HBA.out.mono (Nat.le_trans hww3 hsz34)))
  have HK4 := hid ((KR3.out.to hb4).to HBA.out)
  have HKB := hid (Blk.new w4 #[.slice (some ⟨g, 0, none⟩) n c, .slice A4 hs'.length c4, .int .i64 q] 26)
  have HR := hid (hr0.below HBA.out)
  have HH := hid h2
  have HL := hid h1
  have HLn := hid hll
  have hgb : g ≠ w4.heap.size := by omega
  have hgr : g ≠ w.heap.size + 1 := by omega
  have HNe := hid (And.intro hgb hgr)
  clear hr hr0 h1 h2 hb4 hll hN h8 h1l d0 d1 d2 hgb hgr
  go_wp2_with fail
  go_loopw [9, 10, 11] (fun mv iv xv wr => ∃ (k m : Nat) (cur : List LgrV) (u11 : Value), iv = .int .i64 k ∧ mv = .int .i64 m ∧ xv = u11 ∧ k ≤ n ∧ m ≤ k ∧ Hid (decide (m = 0) = !movedB (L.take k) f.data.toList) ∧ Hid (lsOf cur = moveT (L.take k) f.data.toList t.data.toList ++ L.drop k) ∧
    Hid (Rows wr w3.heap.size ([] ++ two 45 6 n (.slice (some ⟨g, 0, none⟩) n c) lcells lrows cur ++ two 82 3 hs'.length (.slice A4 hs'.length c4) hcells hrows hs')) ∧ Hid (Blk wr w4.heap.size [.slice (some ⟨g, 0, none⟩) n c, .slice A4 hs'.length c4, .int .i64 q]) ∧ Hid (Blk wr (w.heap.size + 1) [.slice none 0 0, .slice none 0 0, .int .i64 0]) ∧ Hid (Below w.heap.size w wr)) (fun _ iv _ _ => n - (intOf iv).toNat)
  case atStart => exact ⟨0, 0, ls, _, rfl, rfl, rfl, by omega, by omega, rfl, by simpa [moveT, Hid] using HL.out, HR.out, HKB.out, HK4.out, HB4.out⟩
  case round =>
    obtain ⟨k, m, cur, u11, rfl, rfl, rfl, hk, hmk, HM, HC, HRx, HKx, HKr, HBx⟩ := hrel
    have d0 := (HKx.out.2 0 _ rfl).1
    by_cases hlt : k < n
    · have hkL : k < L.length := by have := HLn.out; omega
      obtain ⟨l, hl⟩ : ∃ l, L[k]? = some l := ⟨_, List.getElem?_eq_getElem hkL⟩
      have hcl : (lsOf cur)[k]? = some l := by rw [HC.out, move_at _ _ hkL]; exact hl
      obtain ⟨x, hx, hxl⟩ : ∃ x, cur[k]? = some x ∧ x.l = l := by
        unfold lsOf at hcl
        rw [List.getElem?_map] at hcl
        cases hx : cur[k]? with
        | none => rw [hx] at hcl; cases hcl
        | some x => rw [hx] at hcl; exact ⟨x, rfl, Option.some.inj hcl⟩
      obtain ⟨p, hp⟩ : ∃ p : ByteArray, txt x.l.nm = .string p := ⟨_, rfl⟩
      have hpd : p.data.toList = x.l.nm := by unfold txt at hp; injection hp with hp; rw [← hp]
      have hp20 : p.size ≤ 20 := by rw [Lib.size_eq, hpd, hxl]; exact HN20.out l (List.mem_of_getElem? hl)
      have o := HRx.out.cell_at (j := 0) lcells_len hx (by show some (txt x.l.nm) = _; rw [hp])
      have o1 : wr.cell? ⟨g, k * 6, none⟩ = some (.string p) := o.1
      have o1f : wr.frozen? ⟨g, k * 6, none⟩ = false := o.2
      have CI := hid (fun (W : World) => specBelow_c p f W (by unfold maxLen; omega) (by unfold maxLen; omega))
      have s0 : (0 : Int) ≤ (k : Int) := by omega
      have s1 : (k : Int) < (n : Int) := by omega
      have s2 : ((k : Int)).toNat = k := by simp
      have HX := hid (And.intro hx (And.intro hxl (And.intro hp hpd)))
      have HLk := hid hl
      have hbel : belowL p.data.toList f.data.toList = true → f.size ≤ p.size := fun h => by have := below_len h; rwa [← Lib.size_eq, ← Lib.size_eq] at this
      have HBel := hid hbel
      clear hx hxl hp hpd hl hcl o hbel
      cases hbl : belowL p.data.toList f.data.toList with
      | false =>
        have HBl := hid hbl
        rw [hbl] at CI
        clear hbl
        go_wp2_with (go_at_call 44; refine (CI.out _).mono ?_; rintro e w9 ⟨rfl, hw9⟩; have hw9 := hw9.symm; subst hw9)
        go_roundw
        case rel =>
          refine ⟨k + 1, m, cur, _, by go_num, rfl, rfl, by omega, by omega, ?_, ?_, HRx.out, HKx.out, HKr.out, HBx.out⟩
          · show _ = _
            rw [moved_step _ HLk.out, ← HX.out.2.1, ← HX.out.2.2.2, HBl.out, Bool.or_false]; exact HM.out
          · show lsOf cur = _
            have e : moveL f.data.toList t.data.toList l = l := by unfold moveL; rw [← HX.out.2.1, ← HX.out.2.2.2, HBl.out]; rfl
            rw [move_step _ _ HLk.out, e, set_same ((move_at _ _ hkL).trans HLk.out)]
            exact HC.out
        case measure => simp [intOf]; omega
      | true =>
        have hfp : f.size ≤ p.size := HBel.out hbl
        have hfp1 : (f.size : Int) ≤ (p.size : Int) := by omega
        have hfp0 : (0 : Int) ≤ (f.size : Int) := by omega
        have hcat : ¬ (9223372036854775807 < t.size + (p.size - f.size)) := by omega
        have hfp2 : ((f.size : Int)).toNat = f.size := by simp
        have HBl := hid hbl
        rw [hbl] at CI
        clear hbl
        have HRs := hid ((HRx.out.below ((Below.refl _ _).drew)).cellset (j := 0) (e := 2) (x := x) (y := { x with l := moveL f.data.toList t.data.toList x.l }) (u := .string (t ++ p.extract f.size p.size)) lcells_len lrows_len HX.out.1 (by omega)
          (by
            have e : (moveL f.data.toList t.data.toList x.l) = { x.l with nm := t.data.toList ++ x.l.nm.drop f.data.toList.length } := by unfold moveL; rw [← HX.out.2.2.2, HBl.out]; rfl
            rw [e]
            show [txt _, _, _, _, _, _] = _
            rw [← HX.out.2.2.2, move_txt]; rfl)
          (by
            have e : (moveL f.data.toList t.data.toList x.l) = { x.l with nm := t.data.toList ++ x.l.nm.drop f.data.toList.length } := by unfold moveL; rw [← HX.out.2.2.2, HBl.out]; rfl
            rw [e]; rfl))
        have o2 : wr.drew.cell? ⟨g, k * 6, none⟩ = some (.string p) := o1
        have o2f : wr.drew.frozen? ⟨g, k * 6, none⟩ = false := o1f
        go_wp2_with (go_at_call 44; refine (CI.out _).mono ?_; rintro e w9 ⟨rfl, hw9⟩; have hw9 := hw9.symm; subst hw9)
        refine wp_region_held_drew (S := (fun w' : World => w'.cell? ⟨w4.heap.size, 0, none⟩ = some (.slice (some ⟨g, 0, none⟩) n c) ∧ w4.heap.size < w'.heap.size)) (by kernel_rfl) ⟨d0, HKx.out.1⟩ (fun hS => ?_)
        refine wpAnyH_take (i := 0) (oi := ?oi101) (v := ?v101) ?hi101 (by kernel_rfl) ?hf101 ?hr101 ?hQ101 (Or.inl ⟨?hw101, ?hy101⟩) (by assumption) ?rest101
        case hi101 => simp only [List.getElem?_toArray, List.getElem?_cons_succ, List.getElem?_cons_zero]; rfl
        case hf101 => kernel_rfl
        case hr101 => kernel_rfl
        case hw101 => rfl
        case hy101 => (intro w hSw; (try dsimp only at hSw); go_simp; all_goals (first | done | with_reducible rfl))
        case hQ101 => exact fun _ _ _ h => h
        simp only [Act.put, List.setIfInBounds_toArray, List.set_cons_zero, List.set_cons_succ]
        refine wpAnyH_take (i := 1) (oi := ?oi102) (v := ?v102) ?hi102 (by kernel_rfl) ?hf102 ?hr102 ?hQ102 (Or.inl ⟨?hw102, ?hy102⟩) (by assumption) ?rest102
        case hi102 => simp only [List.getElem?_toArray, List.getElem?_cons_succ, List.getElem?_cons_zero]; rfl
        case hf102 => kernel_rfl
        case hr102 => kernel_rfl
        case hw102 => rfl
        case hy102 => (intro w hSw; (try dsimp only at hSw); go_simp; all_goals (first | done | with_reducible rfl))
        case hQ102 => exact fun _ _ _ h => h
        simp only [Act.put, List.setIfInBounds_toArray, List.set_cons_zero, List.set_cons_succ]
        refine wpAnyH_take (i := 2) (oi := ?oi103) (v := ?v103) ?hi103 (by kernel_rfl) ?hf103 ?hr103 ?hQ103 (Or.inl ⟨?hw103, ?hy103⟩) (by assumption) ?rest103
        case hi103 => simp only [List.getElem?_toArray, List.getElem?_cons_succ, List.getElem?_cons_zero]; rfl
        case hf103 => kernel_rfl
        case hr103 => kernel_rfl
        case hw103 => rfl
        case hy103 => (intro w hSw; (try dsimp only at hSw); go_simp; all_goals (first | done | with_reducible rfl))
        case hQ103 => exact fun _ _ _ h => h
        simp only [Act.put, List.setIfInBounds_toArray, List.set_cons_zero, List.set_cons_succ]
        refine wpAnyH_take (i := 3) (oi := ?oi104) (v := ?v104) ?hi104 (by kernel_rfl) ?hf104 ?hr104 ?hQ104 (Or.inl ⟨?hw104, ?hy104⟩) (by assumption) ?rest104
        case hi104 => simp only [List.getElem?_toArray, List.getElem?_cons_succ, List.getElem?_cons_zero]; rfl
        case hf104 => kernel_rfl
        case hr104 => kernel_rfl
        case hw104 => rfl
        case hy104 => (intro w hSw; (try dsimp only at hSw); go_simp; all_goals (first | done | with_reducible rfl))
        case hQ104 => exact fun _ _ _ h => h
        simp only [Act.put, List.setIfInBounds_toArray, List.set_cons_zero, List.set_cons_succ]
        refine wpAnyH_take (i := 4) (oi := ?oi105) (v := ?v105) ?hi105 (by kernel_rfl) ?hf105 ?hr105 ?hQ105 (Or.inl ⟨?hw105, ?hy105⟩) (by assumption) ?rest105
        case hi105 => simp only [List.getElem?_toArray, List.getElem?_cons_succ, List.getElem?_cons_zero]; rfl
        case hf105 => kernel_rfl
        case hr105 => kernel_rfl
        case hw105 => rfl
        case hy105 => (intro w hSw; (try dsimp only at hSw); go_simp; all_goals (first | done | with_reducible rfl))
        case hQ105 => exact fun _ _ _ h => h
        simp only [Act.put, List.setIfInBounds_toArray, List.set_cons_zero, List.set_cons_succ]
        refine wpAnyH_take (i := 5) (oi := ?oi106) (v := ?v106) ?hi106 (by kernel_rfl) ?hf106 ?hr106 ?hQ106 (Or.inl ⟨?hw106, ?hy106⟩) (by assumption) ?rest106
        case hi106 => simp only [List.getElem?_toArray, List.getElem?_cons_succ, List.getElem?_cons_zero]; rfl
        case hf106 => kernel_rfl
        case hr106 => kernel_rfl
        case hw106 => rfl
        case hy106 => (intro w hSw; (try dsimp only at hSw); go_simp; all_goals (first | done | with_reducible rfl))
        case hQ106 => exact fun _ _ _ h => h
        simp only [Act.put, List.setIfInBounds_toArray, List.set_cons_zero, List.set_cons_succ]
        refine wpAnyH_take (i := 6) (oi := ?oi107) (v := ?v107) ?hi107 (by kernel_rfl) ?hf107 ?hr107 ?hQ107 (Or.inl ⟨?hw107, ?hy107⟩) (by assumption) ?rest107
        case hi107 => simp only [List.getElem?_toArray, List.getElem?_cons_succ, List.getElem?_cons_zero]; rfl
        case hf107 => kernel_rfl
        case hr107 => kernel_rfl
        case hw107 => rfl
        case hy107 => (intro w hSw; (try dsimp only at hSw); go_simp; all_goals (first | done | with_reducible rfl))
        case hQ107 => exact fun _ _ _ h => h
        simp only [Act.put, List.setIfInBounds_toArray, List.set_cons_zero, List.set_cons_succ]
        refine wpAnyH_take (i := 7) (oi := ?oi108) (v := ?v108) ?hi108 (by kernel_rfl) ?hf108 ?hr108 ?hQ108 (Or.inl ⟨?hw108, ?hy108⟩) (by assumption) ?rest108
        case hi108 => simp only [List.getElem?_toArray, List.getElem?_cons_succ, List.getElem?_cons_zero]; rfl
        case hf108 => kernel_rfl
        case hr108 => kernel_rfl
        case hw108 => rfl
        case hy108 => (intro w hSw; (try dsimp only at hSw); go_simp; all_goals (first | done | with_reducible rfl))
        case hQ108 => exact fun _ _ _ h => h
        simp only [Act.put, List.setIfInBounds_toArray, List.set_cons_zero, List.set_cons_succ]
        refine wpAnyH_take (i := 8) (oi := ?oi109) (v := ?v109) ?hi109 (by kernel_rfl) ?hf109 ?hr109 ?hQ109 (Or.inl ⟨?hw109, ?hy109⟩) (by assumption) ?rest109
        case hi109 => simp only [List.getElem?_toArray, List.getElem?_cons_succ, List.getElem?_cons_zero]; rfl
        case hf109 => kernel_rfl
        case hr109 => kernel_rfl
        case hw109 => rfl
        case hy109 => (intro w hSw; (try dsimp only at hSw); go_simp; all_goals (first | done | with_reducible rfl))
        case hQ109 => exact fun _ _ _ h => h
        simp only [Act.put, List.setIfInBounds_toArray, List.set_cons_zero, List.set_cons_succ]
        refine wpAnyH_take (i := 9) (oi := ?oi110) (v := ?v110) ?hi110 (by kernel_rfl) ?hf110 ?hr110 ?hQ110 (Or.inl ⟨?hw110, ?hy110⟩) (by assumption) ?rest110
        case hi110 => simp only [List.getElem?_toArray, List.getElem?_cons_succ, List.getElem?_cons_zero]; rfl
        case hf110 => kernel_rfl
        case hr110 => kernel_rfl
        case hw110 => rfl
        case hy110 => (intro w hSw; (try dsimp only at hSw); go_simp; all_goals (first | done | with_reducible rfl))
        case hQ110 => exact fun _ _ _ h => h
        simp only [Act.put, List.setIfInBounds_toArray, List.set_cons_zero, List.set_cons_succ]
        refine wpAnyH_take (i := 10) (oi := ?oi111) (v := ?v111) ?hi111 (by kernel_rfl) ?hf111 ?hr111 ?hQ111 (Or.inl ⟨?hw111, ?hy111⟩) (by assumption) ?rest111
        case hi111 => simp only [List.getElem?_toArray, List.getElem?_cons_succ, List.getElem?_cons_zero]; rfl
        case hf111 => kernel_rfl
        case hr111 => kernel_rfl
        case hw111 => rfl
        case hy111 => (intro w hSw; (try dsimp only at hSw); go_simp; all_goals (first | done | with_reducible rfl))
        case hQ111 => exact fun _ _ _ h => h
        simp only [Act.put, List.setIfInBounds_toArray, List.set_cons_zero, List.set_cons_succ]
        refine wpAnyH_ready (rs := [11]) (by kernel_rfl) (by simp) ?_
        refine AllReadyH.cons (o := ?oi112) ?hi112 (fun K hK => ?step112) AllReadyH.nil
        case hi112 => simp only [List.getElem?_toArray, List.getElem?_cons_succ, List.getElem?_cons_zero]; rfl
        rw [if_pos (by rfl)]
        go_simp
        refine hK.out _ _ ⟨(World.cell?_setCell_far _ _ _ _ HNe.out.1).trans hS.1, by simp; exact hS.2⟩ (fun _ => ?_)
        refine wpAnyH_done (by kernel_rfl) ?_ _
        go_wp2_with fail
        go_roundw
        case rel =>
          refine ⟨k + 1, m + 1, cur.set k { x with l := moveL f.data.toList t.data.toList x.l }, _, by go_num, by go_num, rfl, by omega, by omega, ?_, ?_, HRs.out, ((HKx.out.dr 1).apart ⟨g, _, none⟩ _ HNe.out.1), ((HKr.out.dr 1).apart ⟨g, _, none⟩ _ HNe.out.2), (HBx.out.drew).setCell (show w.heap.size ≤ g by omega) _⟩
          · show _ = _
            rw [moved_step _ HLk.out, ← HX.out.2.1, ← HX.out.2.2.2, HBl.out, Bool.or_true]; simp
          · show lsOf (cur.set k _) = _
            rw [move_step _ _ HLk.out, ← HC.out]
            unfold lsOf
            rw [List.map_set, HX.out.2.1]
        case measure => simp [intOf]; omega
    · obtain rfl : k = n := by omega
      have hkL := HLn.out
      have e0 : L.take k = L := List.take_of_length_le (by omega)
      have e1' : L.drop k = [] := List.drop_eq_nil_of_le (by omega)
      rw [e0, e1', List.append_nil] at HC
      rw [e0] at HM
      have hcl : cur.length = k := by have h := congrArg List.length HC.out; simp [lsOf, moveT] at h; omega
      have HR2 := hid (show Rows wr w3.heap.size (treeRows cur.length (.slice (some ⟨g, 0, none⟩) k c) cur hs'.length (.slice A4 hs'.length c4) hs') by rw [treeRows_eq, hcl]; simpa using HRx.out)
      have HS2 := hid (show TreeS (treeRows cur.length (.slice (some ⟨g, 0, none⟩) k c) cur hs'.length (.slice A4 hs'.length c4) hs') (.agg #[.slice (some ⟨g, 0, none⟩) k c, .slice A4 hs'.length c4, .int .i64 q]) (moveT L f.data.toList t.data.toList) H q from ⟨_, _, cur, hs', rfl, HC.out, HH.out, rfl⟩)
      have CV := hid (specChecked_c (HS2.out.at_ HR2.out HD2.out) (Nat.le_refl _))
      have b1 := (HKx.out.2 1 _ rfl).1
      have b2 := (HKx.out.2 2 _ rfl).1
      have hsz1 : w.heap.size + 2 ≤ w3.heap.size := by omega
      have hww1 := hww3
      clear hcl e0 e1' hkL
      by_cases hm0 : m = 0
      · subst hm0
        have hmv : movedB L f.data.toList = false := by have := HM.out; simpa using this
        have HN := hid (show moveX L H q f.data.toList t.data.toList = none by rw [HE.out, hmv]; rfl)
        obtain ⟨q0c, q0f⟩ := HKr.out.2 0 _ rfl
        obtain ⟨q1c, q1f⟩ := HKr.out.2 1 _ rfl
        obtain ⟨q2c, q2f⟩ := HKr.out.2 2 _ rfl
        clear hmv
        go_wp2_with fail
        have RB := ((HKr.out.set 0 (.slice none 0 0)).set 1 (.slice none 0 0)).set 2 (.int .i64 0)
        have f0 := (RB.2 0 _ rfl).1
        have f1 := (RB.2 1 _ rfl).1
        have f2 := (RB.2 2 _ rfl).1
        refine bodyPost_ret (v := .tuple #[.agg #[.slice none 0 0, .slice none 0 0, .int .i64 0], .bool false]) (by simp [results, Try.results34, go_sem, f0, f1, f2]) rfl ?_
        refine postO_none HN.out rfl ?_
        iterate 3 refine Below.setCell ?_ (by simp) _
        exact HBx.out
      · have hmv : movedB L f.data.toList = true := by have := HM.out; rw [decide_eq_false hm0] at this; simpa using this.symm
        have HE2 := hid (show moveX L H q f.data.toList t.data.toList = ifOk (moveT L f.data.toList t.data.toList) H q by rw [HE.out, hmv]; rfl)
        replace HE := HE2
        have HK3 := HKr
        have HB3 := HBx
        have hmz : ¬ ((m : Int) = 0) := by omega
        clear hmv HE2
        cases hy : treeOk (moveT L f.data.toList t.data.toList) H q with
        | false =>
          rw [hy] at CV
          have HN := hid (show moveX L H q f.data.toList t.data.toList = none by rw [HE.out]; unfold ifOk; rw [hy]; rfl)
          clear hy
          go_wp2_with fail
          refine (CV.out).mono ?_
          rintro e w8 ⟨rfl, hb8⟩
          have HK4 := hid (HK3.out.to hb8)
          have HB4 := hid (HB3.out.trans (hb8.mono HB3.out.size))
          have HR4 := hid (HR2.out.below hb8)
          obtain ⟨q0c, q0f⟩ := HK4.out.2 0 _ rfl
          obtain ⟨q1c, q1f⟩ := HK4.out.2 1 _ rfl
          obtain ⟨q2c, q2f⟩ := HK4.out.2 2 _ rfl
          clear hb8
          go_wp2_with fail
          have RB := ((HK4.out.set 0 (.slice none 0 0)).set 1 (.slice none 0 0)).set 2 (.int .i64 0)
          have f0 := (RB.2 0 _ rfl).1
          have f1 := (RB.2 1 _ rfl).1
          have f2 := (RB.2 2 _ rfl).1
          refine bodyPost_ret (v := .tuple #[.agg #[.slice none 0 0, .slice none 0 0, .int .i64 0], .bool false]) (by simp [results, Try.results34, go_sem, f0, f1, f2]) rfl ?_
          refine postO_none HN.out rfl ?_
          iterate 3 refine Below.setCell ?_ (by simp) _
          exact HB4.out
        | true =>
          rw [hy] at CV
          have HN := hid (show moveX L H q f.data.toList t.data.toList = some (moveT L f.data.toList t.data.toList, H, q) by rw [HE.out]; unfold ifOk; rw [hy]; rfl)
          clear hy
          go_wp2_with fail
          refine (CV.out).mono ?_
          rintro e w8 ⟨rfl, hb8⟩
          have HK4 := hid (HK3.out.to hb8)
          have HB4 := hid (HB3.out.trans (hb8.mono HB3.out.size))
          have HR4 := hid (HR2.out.below hb8)
          obtain ⟨q0c, q0f⟩ := HK4.out.2 0 _ rfl
          obtain ⟨q1c, q1f⟩ := HK4.out.2 1 _ rfl
          obtain ⟨q2c, q2f⟩ := HK4.out.2 2 _ rfl
          clear hb8
          go_wp2_with fail
          have RB := ((HK4.out.set 0 (.slice (some ⟨g, 0, none⟩) k c)).set 1 (.slice A4 hs'.length c4)).set 2 (.int .i64 q)
          have f0 := (RB.2 0 _ rfl).1
          have f1 := (RB.2 1 _ rfl).1
          have f2 := (RB.2 2 _ rfl).1
          refine bodyPost_ret (v := .tuple #[.agg #[.slice (some ⟨g, 0, none⟩) k c, .slice A4 hs'.length c4, .int .i64 q], .bool true]) (by simp [results, Try.results34, go_sem, f0, f1, f2]) rfl ?_
          rw [HN.out]
          refine ⟨_, _, rfl, HS2.out, ?_, ?_⟩
          · refine Rows.base ?_ hww1
            iterate 3 refine Rows.low ?_ (by omega)
            exact HR4.out
          · iterate 3 refine Below.setCell ?_ (by simp) _
            exact HB4.out
end Go.Proofs.Ytcgcbgbmofooiaa
