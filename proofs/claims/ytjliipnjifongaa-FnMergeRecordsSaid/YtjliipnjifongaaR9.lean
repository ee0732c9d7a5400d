/-
  RECORDS: MergeRecords of the program.
-/
import Derived.Test.YtjliipnjifongaaR8
namespace Go.Proofs.Ytjliipnjifongaa
open Go.RowKit Nm
set_option linter.unusedSimpArgs false
set_option linter.unusedVariables false

theorem Rs.rest {w : World} {B n c b o : Nat} {l : List Rec} (h : Rs w B n (.slice (some ⟨b, o, none⟩) n c) l) (hn : 0 < n) :
    Rs w B (n - 1) (.slice (some ⟨b, o + 4, none⟩) (n - 1) (c - 1)) (l.drop 1) := by
  refine ⟨?_, fun x hx => h.2 x (List.mem_of_mem_drop hx)⟩
  have h1 := h.1.from_ (k := 1) hn
  rw [flat_drop _ _ rcells_len] at h1
  simpa using h1
/-- .. that keeps its address where nothing can follow -/
theorem Rs.rest0 {w : World} {B n c b o : Nat} {l : List Rec} (h : Rs w B n (.slice (some ⟨b, o, none⟩) n c) l) (hn : 0 < n) (hc : c ≤ 1) :
    Rs w B (n - 1) (.slice (some ⟨b, o, none⟩) (n - 1) 0) (l.drop 1) := by
  have h1 := h.rest hn
  have hn1 := h.1.cap
  refine ⟨⟨h1.1.1, _, _, rfl, by omega, by omega, fun h => absurd h (by omega)⟩, h1.2⟩
theorem own_snocs {α : Type} {f : α → List Value} {w : World} {base d : Nat} {T : TypeId} {v : Value} {l m : List α} (h : w.ownsRow base T d v (l.length + m.length) (l.flatMap f ++ m.flatMap f)) :
    w.ownsRow base T d v (l ++ m).length ((l ++ m).flatMap f) := by simpa using h
theorem rs_head {x : Rec} {l : List Rec} (h : l[0]? = some x) : l = x :: l.drop 1 := by have := drop_at h; simpa using this

set_option maxHeartbeats 4000000 in
set_option maxRecDepth 100000 in
theorem implMerge_c (v1 v2 : Value) (n1 n2 B : Nat) (l1 l2 : List Rec) (w : World) (h1 : Rs w B n1 v1 l1) (h2 : Rs w B n2 v2 l2) (hB : B ≤ w.heap.size) (hn1 : n1 ≤ maxTxt) (hn2 : n2 ≤ maxTxt) :
    Calls Try.prog 22 #[v1, v2] w (MergePost w l1 l2) := by
  have hl1 := h1.count
  have hl2 := h2.count
  obtain ⟨A1, c1, rfl, hnc1, hcm1⟩ := h1.1.form
  obtain ⟨A2, c2, rfl, hnc2, hcm2⟩ := h2.1.form
  have C1 := hid (fun W (hW : Below w.heap.size w W) => implValidRecords_c _ n1 B l1 W (h1.below hW hB) (Nat.le_trans hB hW.size))
  have C2 := hid (fun W (hW : Below w.heap.size w W) => implValidRecords_c _ n2 B l2 W (h2.below hW hB) (Nat.le_trans hB hW.size))
  unfold maxLen at hcm1 hcm2
  unfold maxTxt at hn1 hn2
  have HV := hid (And.intro (And.intro h1 hl1) (And.intro h2 hl2))
  have HB := hid (Below.refl w.heap.size w)
  clear h1 h2 hl1 hl2
  generalize hr1 : recsOk l1 = r1 at C1
  generalize hr2 : recsOk l2 = r2 at C2
  have HM := hid (show mergeOk l1 l2 = (r1 && (r2 && decide ((n1 : Int) + (n2 : Int) ≤ 12))) by
    unfold mergeOk; rw [hr1, hr2, decide_eq_decide.2 (show l1.length + l2.length ≤ 12 ↔ (n1 : Int) + (n2 : Int) ≤ 12 by have := HV.out.1.2; have := HV.out.2.2; omega)])
  clear hr1 hr2
  go_enter Try.func22, Try.ntmps22
  go_wp2_with (go_at_call 20; first | ((with_reducible refine (C1.out _ HB.out).mono ?_); rintro e w1 ⟨rfl, hb⟩; replace HB := hid (HB.out.trans (hb.mono HB.out.size)); clear hb) | ((with_reducible refine (C2.out _ HB.out).mono ?_); rintro e w1 ⟨rfl, hb⟩; replace HB := hid (HB.out.trans (hb.mono HB.out.size)); clear hb))
  all_goals first
    | (go_ret2
       exact merge_no (by rw [HM.out]; simp_all <;> omega) HB.out)
    | skip
  have HK := hid (show mergeOk l1 l2 = true by rw [HM.out]; simp_all)
  have hsum : (n1 : Int) + (n2 : Int) ≤ 12 := by assumption
  obtain ⟨w3, rfl⟩ : ∃ w3 : World, w3 = w1 := ⟨_, rfl⟩
  go_loopg [0, 1, 6] (n1 + n2) (fun g av bv v wr => ∃ (p q : Nat) (z r s : List Rec) (Aa Ab : Option Addr) (ca cb : Nat), av = .slice Aa p ca ∧ bv = .slice Ab q cb ∧ p ≤ 12 ∧ q ≤ 12 ∧ z.length ≤ 12 ∧ p + q = g ∧ Hid (z.length + p + q = n1 + n2) ∧ Hid (z ++ mergeR r s = mergeR l1 l2) ∧ Hid (Rs wr w.heap.size p (.slice Aa p ca) r ∧ Rs wr w.heap.size q (.slice Ab q cb) s) ∧ wr.ownsRow w.heap.size 32 4 v z.length (z.flatMap rcells) ∧ Hid (Below w.heap.size w wr))
  case atStart => exact ⟨n1, n2, [], l1, l2, A1, A2, c1, c2, rfl, rfl, by omega, by omega, by simp, rfl, by simp [Hid], by simp [Hid], ⟨(HV.out.1.1.below HB.out hB).more hB, (HV.out.2.1.below HB.out hB).more hB⟩, World.ownsRow_nil _ _ _ _, HB⟩
  case round =>
    obtain ⟨p, q, z, r, s, Aa, Ab, ca, cb, rfl, rfl, hp, hq, hz, hg, HS, HE, HR, hown, HBx⟩ := hrel
    obtain ⟨Ax, cx, rfl, _, _⟩ := (Sl.of_own hown).form
    have HO := hid hown
    have ka := HR.out.1.1.cap
    have kb := HR.out.2.1.cap
    unfold maxLen at ka kb
    have HG := hid hg
    clear hown HB hg
    by_cases hp0 : 0 < p
    · by_cases hq0 : 0 < q
      · obtain ⟨b, o, nm, lv, tx, sq, rfl, hbB, hx, c0, c1', c2', c3⟩ := rcells_at HR.out.1.1 hp0
        obtain ⟨b2, o2, nm2, lv2, tx2, sq2, rfl, hbB2, hy, d0, d1, d2, d3⟩ := rcells_at HR.out.2.1 hq0
        simp only [Nat.zero_mul, Nat.add_zero] at c0 c1' c2' c3 d0 d1 d2 d3
        have ip : (0 : Int) < (p : Int) := by omega
        have iq : (0 : Int) < (q : Int) := by omega
        have HX := hid (And.intro hx hy)
        clear hx hy
        by_cases hle : sq ≤ sq2
        · have hm := HE.out
          rw [rs_head HX.out.1, rs_head HX.out.2, mergeR_left hle, ← rs_head HX.out.2] at hm
          have HM2 := hid (show (z ++ [(⟨nm.data.toList, lv, tx.data.toList, sq⟩ : Rec)]) ++ mergeR (r.drop 1) s = mergeR l1 l2 by simpa using hm)
          clear hm
          go_wp2_with fail
          go_quiet (fail)
          go_wp2_with (at_builtin; refine appRecord _ rfl (.tmp 40) (.tmp 44) rfl w.heap.size _ z (by rfl) (own_dr HO.out _) nm lv tx sq _ _ _ (by rfl) (by simp) (by omega) (below_dr HBx.out _).size ?_; intro v' w4 ho4 hb4; have HO4 := hid (And.intro ho4 (And.intro ((below_dr HBx.out _).trans hb4) (And.intro ((HR.out.1.below (below_dr (Below.refl _ _) _) (Nat.le_refl _)).below hb4 (Nat.le_refl _)) ((HR.out.2.below (below_dr (Below.refl _ _) _) (Nat.le_refl _)).below hb4 (Nat.le_refl _))))); clear ho4 hb4)
          all_goals go_roundg (gk - 1)
          all_goals first
            | (case rel => exact ⟨p - 1, q, _, _, _, _, _, _, _, rfl, rfl, by omega, by omega, by have := HS.out; rw [List.length_append]; show z.length + 1 ≤ _; omega, by have := HG.out; omega, by have := HS.out; rw [List.length_append]; show z.length + 1 + _ + _ = _; omega, HM2.out, ⟨by first | exact HO4.out.2.2.1.rest hp0 | exact HO4.out.2.2.1.rest0 hp0 (by omega), HO4.out.2.2.2⟩, HO4.out.1, HO4.out.2.1⟩)
            | (case measure => have := HG.out; omega)
        · have hm := HE.out
          rw [rs_head HX.out.1, rs_head HX.out.2, mergeR_right hle, ← rs_head HX.out.1] at hm
          have HM2 := hid (show (z ++ [(⟨nm2.data.toList, lv2, tx2.data.toList, sq2⟩ : Rec)]) ++ mergeR r (s.drop 1) = mergeR l1 l2 by simpa using hm)
          have hgt : sq2 < sq := by omega
          clear hm hle
          go_wp2_with fail
          go_quiet (fail)
          go_wp2_with (at_builtin; refine appRecord _ rfl (.tmp 48) (.tmp 52) rfl w.heap.size _ z (by rfl) (own_dr HO.out _) nm2 lv2 tx2 sq2 _ _ _ (by rfl) (by simp) (by omega) (below_dr HBx.out _).size ?_; intro v' w4 ho4 hb4; have HO4 := hid (And.intro ho4 (And.intro ((below_dr HBx.out _).trans hb4) (And.intro ((HR.out.1.below (below_dr (Below.refl _ _) _) (Nat.le_refl _)).below hb4 (Nat.le_refl _)) ((HR.out.2.below (below_dr (Below.refl _ _) _) (Nat.le_refl _)).below hb4 (Nat.le_refl _))))); clear ho4 hb4)
          all_goals go_roundg (gk - 1)
          all_goals first
            | (case rel => exact ⟨p, q - 1, _, _, _, _, _, _, _, rfl, rfl, by omega, by omega, by have := HS.out; rw [List.length_append]; show z.length + 1 ≤ _; omega, by have := HG.out; omega, by have := HS.out; rw [List.length_append]; show z.length + 1 + _ + _ = _; omega, HM2.out, ⟨HO4.out.2.2.1, by first | exact HO4.out.2.2.2.rest hq0 | exact HO4.out.2.2.2.rest0 hq0 (by omega)⟩, HO4.out.1, HO4.out.2.1⟩)
            | (case measure => have := HG.out; omega)
      · have hq1 : q = 0 := by omega
        subst hq1
        have hs0 : s = [] := List.eq_nil_of_length_eq_zero HR.out.2.count
        subst hs0
        have HF := hid (show z ++ r = mergeR l1 l2 by have := HE.out; rwa [mergeR_none] at this)
        have ip : (0 : Int) < (p : Int) := by omega
        go_wp2_with (at_builtin; refine appRecordS _ rfl (.tmp 56) (.tmp 57) rfl w.heap.size _ z r (by rfl) HO.out w.heap.size _ (by rfl) (by rw [HR.out.1.count]; exact HR.out.1.1) (by have := HR.out.1.count; omega) HBx.out.size ?_)
        intro v' w4 ho4 hb4
        have ho4' := own_snocs ho4
        have HO4 := hid (And.intro ho4' (HBx.out.trans hb4))
        have HR4 := hid (HR.out.2.below hb4 (Nat.le_refl _))
        obtain ⟨Ax4, cx4, rfl, _, _⟩ := (Sl.of_own ho4').form
        clear ho4 ho4' hb4
        go_wp2_with (at_builtin; refine appRecordS _ rfl (.tmp 59) (.tmp 60) rfl w.heap.size _ (z ++ r) [] (by rfl) HO4.out.1 w.heap.size _ (by rfl) HR4.out.1 (by rw [List.length_append]; have := HR.out.1.count; show z.length + r.length + 0 ≤ _; omega) HO4.out.2.size ?_)
        intro v5 w5 ho5 hb5
        have HO5 := hid (And.intro (own_snocs ho5) (HO4.out.2.trans hb5))
        clear ho5 hb5
        go_wp2_with fail
        go_ret2
        exact merge_yes HK.out HF.out (by simpa using HO5.out.1) HO5.out.2
    · have hp1 : p = 0 := by omega
      subst hp1
      have hr0 : r = [] := List.eq_nil_of_length_eq_zero HR.out.1.count
      subst hr0
      have HF := hid (show z ++ s = mergeR l1 l2 by have := HE.out; rwa [mergeR_nil] at this)
      go_wp2_with (at_builtin; refine appRecordS _ rfl (.tmp 56) (.tmp 57) rfl w.heap.size _ z [] (by rfl) HO.out w.heap.size _ (by rfl) HR.out.1.1 (by show z.length + 0 ≤ _; omega) HBx.out.size ?_)
      intro v' w4 ho4 hb4
      have ho4' := ho4
      have HO4 := hid (And.intro ho4' (HBx.out.trans hb4))
      have HR4 := hid (HR.out.2.below hb4 (Nat.le_refl _))
      obtain ⟨Ax4, cx4, rfl, _, _⟩ := (Sl.of_own ho4').form
      clear ho4 ho4' hb4
      go_wp2_with (at_builtin; refine appRecordS _ rfl (.tmp 59) (.tmp 60) rfl w.heap.size _ z s (by rfl) HO4.out.1 w.heap.size _ (by rfl) (by rw [HR.out.2.count]; exact HR4.out.1) (by have := HR.out.2.count; omega) HO4.out.2.size ?_)
      intro v5 w5 ho5 hb5
      have HO5 := hid (And.intro (own_snocs ho5) (HO4.out.2.trans hb5))
      clear ho5 hb5
      go_wp2_with fail
      go_ret2
      exact merge_yes HK.out HF.out (by simpa using HO5.out.1) HO5.out.2

def mergeX (a b : List Rec) : List Rec := if mergeOk a b then mergeR a b else []
theorem mergeR_len (a b : List Rec) : (mergeR a b).length = a.length + b.length := by
  induction a, b using mergeR.induct with
  | case1 b => simp [mergeR_nil]
  | case2 x a => simp [mergeR_none]
  | case3 x a y b h ih => rw [mergeR_left h]; simp only [List.length_cons] at ih ⊢; omega
  | case4 x a y b h ih => rw [mergeR_right h]; simp only [List.length_cons] at ih ⊢; omega
theorem mergeX_len (a b : List Rec) : (mergeX a b).length ≤ 12 := by
  unfold mergeX
  split
  · rename_i h
    unfold mergeOk at h; simp only [Bool.and_eq_true, decide_eq_true_eq] at h
    rw [mergeR_len]; omega
  · simp
theorem merge_post {w w' : World} {a b : List Rec} {e : Ending} (h : MergePost w a b e w') : RowPost2 w 32 4 (mergeX a b).length ((mergeX a b).flatMap rcells) (mergeOk a b) e w' := by
  obtain ⟨v, he, ⟨z, hz, ho⟩, hb⟩ := h
  exact ⟨v, he, by rw [show mergeX a b = z from hz.symm]; exact ho, hb⟩
theorem specMergeX_c (v1 v2 : Value) (n1 n2 B : Nat) (l1 l2 : List Rec) (w : World) (h1 : Rs w B n1 v1 l1) (h2 : Rs w B n2 v2 l2) (hB : B ≤ w.heap.size) (hn1 : n1 ≤ maxTxt) (hn2 : n2 ≤ maxTxt) :
    Calls Try.prog 23 #[v1, v2] w (RowPost2 w 32 4 (mergeX l1 l2).length ((mergeX l1 l2).flatMap rcells) (mergeOk l1 l2)) := (specMerge_c v1 v2 n1 n2 B l1 l2 w h1 h2 hB hn1 hn2).mono fun _ _ h => merge_post h
theorem implMergeX_c (v1 v2 : Value) (n1 n2 B : Nat) (l1 l2 : List Rec) (w : World) (h1 : Rs w B n1 v1 l1) (h2 : Rs w B n2 v2 l2) (hB : B ≤ w.heap.size) (hn1 : n1 ≤ maxTxt) (hn2 : n2 ≤ maxTxt) :
    Calls Try.prog 22 #[v1, v2] w (RowPost2 w 32 4 (mergeX l1 l2).length ((mergeX l1 l2).flatMap rcells) (mergeOk l1 l2)) := (implMerge_c v1 v2 n1 n2 B l1 l2 w h1 h2 hB hn1 hn2).mono fun _ _ h => merge_post h
end Go.Proofs.Ytjliipnjifongaa
