/-
  TREES changed: the model's AddLogger. By gen_c12.py.
-/
import Derived.Test.YtpfnjkmkenaipaaC11
namespace Go.Proofs.Ytpfnjkmkenaipaa
open Go.RowKit Nm
set_option linter.unusedSimpArgs false
set_option linter.unusedVariables false

set_option maxHeartbeats 8000000 in
set_option maxRecDepth 100000 in
theorem specAddLogger_c {w : World} {B : Nat} {v : Value} {L : List Lgr} {H : List Hnd} {q : Int} (s : ByteArray) (h : TreeIn w B v L H q) (hB : B ≤ w.heap.size) (hsz : s.size ≤ maxTxt) :
    Calls Try.prog 36 #[v, .string s] w (TreePostO w (addX L H q s.data.toList)) := by
  have C := hid (fun (W : World) (hW : Below w.heap.size w W) => specTreeX_c (h.below hW hB) (Nat.le_trans hB hW.size))
  obtain ⟨A1, n1, k1, A2, n2, k2, rfl⟩ := h.form
  cases hz : treeOk L H q with
  | false =>
    have HE := hid (show addX L H q s.data.toList = none by unfold addX changedO; rw [hz]; rfl)
    rw [hz] at C
    clear h hz
    go_enter Try.func36, Try.ntmps36
    go_wp2_with fail
    refine (C.out _ ?_).mono ?_
    case refine_1 => go_grown
    rintro e w1 ⟨rfl, hb1⟩
    have K1 := ((Blk.new _ _ _).to hb1)
    simp only [World.size_alloc] at K1
    have HK1 := hid K1
    have HB1 := hid (Below.trans (by go_grown) (hb1.mono (by simp; try omega)) : Below w.heap.size w w1)
    obtain ⟨q0c, q0f⟩ := HK1.out.2 0 _ rfl
    obtain ⟨q1c, q1f⟩ := HK1.out.2 1 _ rfl
    obtain ⟨q2c, q2f⟩ := HK1.out.2 2 _ rfl
    clear hb1 K1
    go_wp2_with fail
    have RB := ((HK1.out.set 0 (.slice none 0 0)).set 1 (.slice none 0 0)).set 2 (.int .i64 0)
    have f0 := (RB.2 0 _ rfl).1
    have f1 := (RB.2 1 _ rfl).1
    have f2 := (RB.2 2 _ rfl).1
    refine bodyPost_ret (v := .tuple #[.agg #[.slice none 0 0, .slice none 0 0, .int .i64 0], .bool false]) (by simp [results, Try.results36, go_sem, f0, f1, f2]) rfl ?_
    refine postO_none HE.out rfl ?_
    iterate 3 refine Below.setCell ?_ (by simp) _
    exact HB1.out
  | true =>
    have HD := hid (fit_ok hz)
    have hd2 := fit_ok hz
    obtain ⟨_, _, _, h8, _, _⟩ := tree_names hz
    have HD2 := hid (add_fit s hd2 h8 hsz)
    have CC := hid (fun (W : World) (hW : Below w.heap.size w W) => specCopy_c (h.below hW hB) hz (Nat.le_trans hB hW.size))
    have HE := hid (show addX L H q s.data.toList = ifOk (addT L s.data.toList) H q by unfold addX changedO; rw [hz]; rfl)
    rw [hz] at C
    obtain ⟨iL, hLi, hLz0, hLz1, hLz2⟩ := info_parts Try.infoLogger
    clear h hz hd2
    go_enter Try.func36, Try.ntmps36
    go_wp2_with fail
    refine (C.out _ ?_).mono ?_
    case refine_1 => go_grown
    rintro e w1 ⟨rfl, hb1⟩
    have K0 := (((Blk.new _ _ _).alloc _).to hb1)
    have K1 := ((Blk.new _ _ _).to hb1)
    simp only [World.size_alloc] at K0 K1
    have HK0 := hid K0
    have HK1 := hid K1
    have HB1 := hid (Below.trans (by go_grown) (hb1.mono (by simp; try omega)) : Below w.heap.size w w1)
    have hsz1 : w.heap.size + 2 ≤ w1.heap.size := by have := hb1.size; simp at this; omega
    have d0 := (HK0.out.2 0 _ rfl).1
    have d1 := (HK0.out.2 1 _ rfl).1
    have d2 := (HK0.out.2 2 _ rfl).1
    clear hb1 K0 K1
    go_wp2_with fail
    refine (CC.out _ HB1.out).mono ?_
    rintro e w2 ⟨v', rs, rfl, hs, hr, hb2⟩
    obtain ⟨lx, hlx, hlxL⟩ : ∃ lx, (∃ A n c A4 n4 c4, v' = .agg #[.slice A n c, .slice A4 n4 c4, .int .i64 q] ∧ Ls w2 w2.heap.size n (.slice A n c) lx) ∧ lsOf lx = L := by
      have hin := hs.at_ hr HD.out
      obtain ⟨A, n, c, A4, n4, c4, rfl⟩ := hin.form
      obtain ⟨lx, a, b⟩ := hin.loggers
      exact ⟨lx, ⟨A, n, c, A4, n4, c4, rfl, a⟩, b⟩
    obtain ⟨A, n, c, A4, n4, c4, rfl, hlx⟩ := hlx
    have hN : lnames lx = namesOf L := by rw [← hlxL, namesOf_ls]
    have HBA := hid (show Below w2.heap.size w2 (w2.alloc (.cells #[.slice A n c, .slice A4 n4 c4, .int .i64 q] 32)) from (Below.refl _ _).alloc (Nat.le_refl _) _)
    have AT := loggerAt_c (.slice A n c) n w2.heap.size lx s _ (hlx.below HBA.out (Nat.le_refl _))
    rw [hN] at AT
    obtain ⟨u1, u2, ls, hs', e, h1, h2, rfl⟩ := hs
    have e' : Value.slice A n c = u1 ∧ Value.slice A4 n4 c4 = u2 := by simpa using e
    obtain ⟨rfl, rfl⟩ := e'
    have hnl : n = ls.length := by have := hlx.count; have h3 := congrArg List.length (hlxL.trans h1.symm); simp [lsOf] at h3; omega
    have hn8 : n ≤ 8 := by rw [← h1] at h8; simp [lsOf] at h8; omega
    have HB2 := hid (HB1.out.trans (hb2.mono HB1.out.size))
    have hsz12 : w1.heap.size ≤ w2.heap.size := hb2.size
    have hww1 : w.heap.size ≤ w1.heap.size := HB1.out.size
    have HK2 := hid ((HK1.out.to hb2).to HBA.out)
    have HRA := hid (hr.below HBA.out)
    have KB := Blk.new w2 #[.slice A n c, .slice A4 n4 c4, .int .i64 q] 32
    have b0 := (KB.2 0 _ rfl).1
    have b0f := (KB.2 0 _ rfl).2
    have b1 := (KB.2 1 _ rfl).1
    have b2 := (KB.2 2 _ rfl).1
    have HKB := hid KB
    have HLH := hid (And.intro h1 h2)
    have HOff := hid (rows_below hr)
    have HNl := hid hnl
    have hsza : (w2.alloc (.cells #[.slice A n c, .slice A4 n4 c4, .int .i64 q] 32)).heap.size = w2.heap.size + 1 := by simp
    have HSa := hid hsza
    clear hlx hlxL hN hr hb2 KB d0 d1 d2 e h1 h2 hnl h8
    by_cases hneg : idxL (namesOf L) s.data.toList < 0
    · have HT := hid (show addT L s.data.toList = L ++ [mkL s.data.toList] by unfold addT; rw [if_pos hneg])
      generalize idxL (namesOf L) s.data.toList = z at AT hneg
      replace AT := hid AT
      have HTop := hid (show (w2.alloc (.cells #[.slice A n c, .slice A4 n4 c4, .int .i64 q] 32)).ownsRow w1.heap.size 47 6 (.slice A n c) n (ls.flatMap lcells) from HRA.out.1 ⟨47, 6, n, .slice A n c, ls.flatMap lcells⟩ (by rw [treeRows_eq, ← HNl.out]; simp [two]))
      go_wp2_with (first | (go_at_call 58; refine (AT.out).mono ?_; rintro e w3 ⟨rfl, hw3⟩; have hw3 := hw3.symm; subst hw3) | (at_builtin; refine wpList_app1L _ rfl (.tmp 19) (.tmp 22) 29 rfl w1.heap.size 47 iL _ 6 80 Try.underlying29 hLi hLz0 hLz1 hLz2 rfl (by decide) _ n _ (by rfl) HTop.out (newCells s) 1 _ (by rw [hsza]; rfl) rfl (new_one s) (by unfold maxLen; omega) (by omega) (by rw [hsza]; omega) ?_))
      intro v5 w5 ho5 hg5 hloc
      obtain ⟨A5, c5, rfl, _, _⟩ := (Sl.of_own ho5).form
      obtain ⟨hR5, hoff⟩ := tree_app HNl.out HRA.out s ho5 hg5 (by rw [hsza]; exact hloc) (by rw [hsza]; omega)
      have hlo5 : ∀ z, (Value.slice A n c).ownBlock = some z → w1.heap.size ≤ z := own_lt HTop.out
      have hne : ∀ b, b < w1.heap.size → some b ≠ (Value.slice A n c).ownBlock := fun b hb e => by have := hlo5 b e.symm; omega
      have hneb : some w2.heap.size ≠ (Value.slice A n c).ownBlock := fun e => HOff.out ⟨47, 6, n, .slice A n c, ls.flatMap lcells⟩ (by rw [treeRows_eq, ← HNl.out]; simp [two]) e.symm
      have hKB5 := HKB.out.kept hg5 hneb
      have hBA : Below w.heap.size w (w2.alloc (.cells #[.slice A n c, .slice A4 n4 c4, .int .i64 q] 32)) := HB2.out.trans (HBA.out.mono HB2.out.size)
      have HB3 := hid ((hBA.grown hg5 hBA.size (fun z hz => by have := hlo5 z hz; omega)).setCell (p := ⟨w2.heap.size, 0, none⟩) (show w.heap.size ≤ w2.heap.size by omega) (.slice A5 (n + 1) c5))
      have HK3 := hid ((HK2.out.kept hg5 (hne _ (by omega))).apart ⟨w2.heap.size, 0, none⟩ (.slice A5 (n + 1) c5) (show w2.heap.size ≠ w.heap.size + 1 by omega))
      have HR2 := hid (hR5.off (j := 0) (u := .slice A5 (n + 1) c5) (hoff w2.heap.size HOff.out (by rw [hsza]; omega)))
      have HS2 := hid (show TreeS (treeRows (ls ++ [mkV s.data.toList]).length (.slice A5 (n + 1) c5) (ls ++ [mkV s.data.toList]) hs'.length (.slice A4 n4 c4) hs') (.agg #[.slice A5 (n + 1) c5, .slice A4 n4 c4, .int .i64 q]) (addT L s.data.toList) H q from ⟨_, _, ls ++ [mkV s.data.toList], hs', rfl, by rw [HT.out, ← HLH.out.1]; simp [lsOf, mkV], HLH.out.2, rfl⟩)
      have CV := hid (specChecked_c (HS2.out.at_ HR2.out HD2.out) (Nat.le_refl _))
      have y0 := (hKB5.2 0 _ rfl).1
      have y0f := (hKB5.2 0 _ rfl).2
      have hKB6 := hKB5.set 0 (.slice A5 (n + 1) c5)
      have x0 := (hKB6.2 0 _ rfl).1
      have x1 := (hKB6.2 1 _ rfl).1
      have x2 := (hKB6.2 2 _ rfl).1
      clear ho5 hg5 hloc hR5 hoff hlo5 hne hneb hKB5 hKB6 hBA b0 b0f b1 b2 hsza
      cases hy : treeOk (addT L s.data.toList) H q with
      | false =>
        rw [hy] at CV
        have HN := hid (show addX L H q s.data.toList = none by rw [HE.out]; unfold ifOk; rw [hy]; rfl)
        clear hy
        go_wp2_with fail
        refine (CV.out).mono ?_
        rintro e w4 ⟨rfl, hb4⟩
        have HK4 := hid (HK3.out.to hb4)
        have HB4 := hid (HB3.out.trans (hb4.mono HB3.out.size))
        have HR4 := hid (HR2.out.below hb4)
        obtain ⟨q0c, q0f⟩ := HK4.out.2 0 _ rfl
        obtain ⟨q1c, q1f⟩ := HK4.out.2 1 _ rfl
        obtain ⟨q2c, q2f⟩ := HK4.out.2 2 _ rfl
        clear hb4
        go_wp2_with fail
        have RB := ((HK4.out.set 0 (.slice none 0 0)).set 1 (.slice none 0 0)).set 2 (.int .i64 0)
        have f0 := (RB.2 0 _ rfl).1
        have f1 := (RB.2 1 _ rfl).1
        have f2 := (RB.2 2 _ rfl).1
        refine bodyPost_ret (v := .tuple #[.agg #[.slice none 0 0, .slice none 0 0, .int .i64 0], .bool false]) (by simp [results, Try.results36, go_sem, f0, f1, f2]) rfl ?_
        refine postO_none HN.out rfl ?_
        iterate 3 refine Below.setCell ?_ (by simp) _
        exact HB4.out
      | true =>
        rw [hy] at CV
        have HN := hid (show addX L H q s.data.toList = some (addT L s.data.toList, H, q) by rw [HE.out]; unfold ifOk; rw [hy]; rfl)
        clear hy
        go_wp2_with fail
        refine (CV.out).mono ?_
        rintro e w4 ⟨rfl, hb4⟩
        have HK4 := hid (HK3.out.to hb4)
        have HB4 := hid (HB3.out.trans (hb4.mono HB3.out.size))
        have HR4 := hid (HR2.out.below hb4)
        obtain ⟨q0c, q0f⟩ := HK4.out.2 0 _ rfl
        obtain ⟨q1c, q1f⟩ := HK4.out.2 1 _ rfl
        obtain ⟨q2c, q2f⟩ := HK4.out.2 2 _ rfl
        clear hb4
        go_wp2_with fail
        have RB := ((HK4.out.set 0 (.slice A5 (n + 1) c5)).set 1 (.slice A4 n4 c4)).set 2 (.int .i64 q)
        have f0 := (RB.2 0 _ rfl).1
        have f1 := (RB.2 1 _ rfl).1
        have f2 := (RB.2 2 _ rfl).1
        refine bodyPost_ret (v := .tuple #[.agg #[.slice A5 (n + 1) c5, .slice A4 n4 c4, .int .i64 q], .bool true]) (by simp [results, Try.results36, go_sem, f0, f1, f2]) rfl ?_
        rw [HN.out]
        refine ⟨_, _, rfl, HS2.out, ?_, ?_⟩
        · refine Rows.base ?_ hww1
          iterate 3 refine Rows.low ?_ (by omega)
          exact HR4.out
        · iterate 3 refine Below.setCell ?_ (by simp) _
          exact HB4.out
    · have HT := hid (show addT L s.data.toList = L by unfold addT; rw [if_neg hneg])
      generalize idxL (namesOf L) s.data.toList = z at AT hneg
      replace AT := hid AT
      have HB3 := hid (HB2.out.trans (HBA.out.mono HB2.out.size))
      have HK3 := HK2
      have HR2 := HRA
      have HS2 := hid (show TreeS (treeRows ls.length (.slice A n c) ls hs'.length (.slice A4 n4 c4) hs') (.agg #[.slice A n c, .slice A4 n4 c4, .int .i64 q]) (addT L s.data.toList) H q from ⟨_, _, ls, hs', rfl, by rw [HT.out]; exact HLH.out.1, HLH.out.2, rfl⟩)
      have CV := hid (specChecked_c (HS2.out.at_ HR2.out HD2.out) (Nat.le_refl _))
      clear hsza
      go_wp2_with (go_at_call 58; refine (AT.out).mono ?_; rintro e w3 ⟨rfl, hw3⟩; have hw3 := hw3.symm; subst hw3)
      cases hy : treeOk (addT L s.data.toList) H q with
      | false =>
        rw [hy] at CV
        have HN := hid (show addX L H q s.data.toList = none by rw [HE.out]; unfold ifOk; rw [hy]; rfl)
        clear hy
        refine (CV.out).mono ?_
        rintro e w4 ⟨rfl, hb4⟩
        have HK4 := hid (HK3.out.to hb4)
        have HB4 := hid (HB3.out.trans (hb4.mono HB3.out.size))
        have HR4 := hid (HR2.out.below hb4)
        obtain ⟨q0c, q0f⟩ := HK4.out.2 0 _ rfl
        obtain ⟨q1c, q1f⟩ := HK4.out.2 1 _ rfl
        obtain ⟨q2c, q2f⟩ := HK4.out.2 2 _ rfl
        clear hb4
        go_wp2_with fail
        have RB := ((HK4.out.set 0 (.slice none 0 0)).set 1 (.slice none 0 0)).set 2 (.int .i64 0)
        have f0 := (RB.2 0 _ rfl).1
        have f1 := (RB.2 1 _ rfl).1
        have f2 := (RB.2 2 _ rfl).1
        refine bodyPost_ret (v := .tuple #[.agg #[.slice none 0 0, .slice none 0 0, .int .i64 0], .bool false]) (by simp [results, Try.results36, go_sem, f0, f1, f2]) rfl ?_
        refine postO_none HN.out rfl ?_
        iterate 3 refine Below.setCell ?_ (by simp) _
        exact HB4.out
      | true =>
        rw [hy] at CV
        have HN := hid (show addX L H q s.data.toList = some (addT L s.data.toList, H, q) by rw [HE.out]; unfold ifOk; rw [hy]; rfl)
        clear hy
        refine (CV.out).mono ?_
        rintro e w4 ⟨rfl, hb4⟩
        have HK4 := hid (HK3.out.to hb4)
        have HB4 := hid (HB3.out.trans (hb4.mono HB3.out.size))
        have HR4 := hid (HR2.out.below hb4)
        obtain ⟨q0c, q0f⟩ := HK4.out.2 0 _ rfl
        obtain ⟨q1c, q1f⟩ := HK4.out.2 1 _ rfl
        obtain ⟨q2c, q2f⟩ := HK4.out.2 2 _ rfl
        clear hb4
        go_wp2_with fail
        have RB := ((HK4.out.set 0 (.slice A n c)).set 1 (.slice A4 n4 c4)).set 2 (.int .i64 q)
        have f0 := (RB.2 0 _ rfl).1
        have f1 := (RB.2 1 _ rfl).1
        have f2 := (RB.2 2 _ rfl).1
        refine bodyPost_ret (v := .tuple #[.agg #[.slice A n c, .slice A4 n4 c4, .int .i64 q], .bool true]) (by simp [results, Try.results36, go_sem, f0, f1, f2]) rfl ?_
        rw [HN.out]
        refine ⟨_, _, rfl, HS2.out, ?_, ?_⟩
        · refine Rows.base ?_ hww1
          iterate 3 refine Rows.low ?_ (by omega)
          exact HR4.out
        · iterate 3 refine Below.setCell ?_ (by simp) _
          exact HB4.out
end Go.Proofs.Ytpfnjkmkenaipaa
