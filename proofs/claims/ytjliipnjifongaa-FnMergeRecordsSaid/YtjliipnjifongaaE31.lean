/-
  SAMPLES: the draw of the law; plain: what is kept. By gen_samp.py.
-/
import Derived.Test.YtjliipnjifongaaDM
import Derived.Test.YtjliipnjifongaaEqRecord
import Derived.Test.YtjliipnjifongaaR7
namespace Go.Proofs.Ytjliipnjifongaa
open Go.RowKit Nm
set_option linter.unusedSimpArgs false
set_option linter.unusedVariables false

def sampTexts : List (List UInt8) := [[120], [120], [110, 111]]
/-- drawn: records and two numbers -/
def DrawSamp (w : World) (e : Ending) (w2 : World) : Prop :=
  ∃ (A : Option Addr) (c n : Nat) (l : List Rec) (z1 z2 : Int), e = .returned (.tuple #[.slice A n c, .int .i64 z1, .int .i64 z2]) ∧ w2.ownsRow w.heap.size 32 4 (.slice A n c) n (l.flatMap rcells) ∧ Below w.heap.size w w2 ∧ fit20 l ∧ l.length = n ∧ n ≤ 25 ∧ -1 ≤ z1 ∧ z1 ≤ 13 ∧ 0 ≤ z2 ∧ z2 ≤ 13
set_option maxHeartbeats 4000000 in
set_option maxRecDepth 100000 in
theorem drawSampleRecords_c (a : Option Addr) (len cap : Nat) (z : List Int) (w : World) (h : IsRow .u8 w a len cap z) :
    Calls Try.prog 17 #[.slice a len cap] w (DrawSamp w) := by
  have C := hid (newReader_c a len cap z w h)
  clear h
  go_enter Try.func17, Try.ntmps17
  go_wp2_with fail
  refine C.out.mono ?_
  rintro e w1 ⟨rfl, hr1, hb1⟩
  have HB1 := hid hb1
  have hltw : w.heap.size < w1.heap.size := hr1.lt
  have C1 := hid (someRecords_c w.heap.size 0 w1 hr1 (by omega))
  clear hr1 hb1 C
  generalize hR : w.heap.size = R at C1
  have hlt : R < w1.heap.size := by omega
  replace hR := hid hR
  go_wp2_with fail
  try simp only [hR.out]
  refine C1.out.mono ?_
  rintro e w2 ⟨v, l, p2, rfl, hl, hf, ho2, hp2, hr2, hg2⟩
  obtain ⟨A, c, rfl, hnc, hcm⟩ := (Sl.of_own ho2).form
  unfold maxLen at hcm
  generalize hln : l.length = n at *
  replace hln := hid hln
  have O2 := hid ho2
  have G2 := hid hg2
  have F2 := hid hf
  have C2 := hid (pick_c R p2 2 w2 hr2 (by omega) (by omega))
  clear ho2 hr2 hg2 hf C1
  go_wp2_with fail
  refine C2.out.mono ?_
  rintro e w3 ⟨k0, rfl, _, _, hr3, hg3⟩
  have HG := hid (grown_tr G2.out hg3)
  have HO := hid (own_off O2.out hg3 hlt)
  have HR := hid hr3
  have HF := F2
  clear hr3 hg3 C2 G2 O2
  rcases Nat.eq_zero_or_pos k0 with hk0 | hk0
  · subst hk0
    go_wp2_with fail
    go_loopw [7] (fun iv wr => ∃ (k p : Nat) (l' : List Rec), iv = .int .i64 k ∧ k ≤ n ∧ Hid (l'.length = n) ∧ Hid (fit20 l') ∧ p ≤ 201 + k ∧ Hid (wr.ownsRow w1.heap.size 32 4 (.slice A n c) n (l'.flatMap rcells)) ∧ Hid (Rdr wr R p) ∧ Hid (w1.grownBy wr (some R))) (fun iv _ => n - (intOf iv).toNat)
    case atStart => exact ⟨0, p2 + 1, l, rfl, by omega, hln, HF, by omega, HO, HR, HG⟩
    case round =>
      clear HO HR HG HF hln
      obtain ⟨k, p, l', rfl, hk, hln, HF, hp, HO, HR, HG⟩ := hrel
      by_cases hkn : k < n
      · have C5 := hid (of_lit R p 3 20 sampTexts wr HR.out (by omega) rfl (by omega) (by omega) (by decide))
        have t0 : (0 : Int) ≤ (k : Int) := by omega
        have t1 : (k : Int) < (n : Int) := by omega
        have t2 : ((k : Int)).toNat = k := by simp
        obtain ⟨g, rfl, hglt⟩ := own_some HO.out (by omega)
        have hgb : w1.heap.size ≤ g := (HO.out.lt g rfl).1
        have hgR : R < g := by omega
        obtain ⟨x, hx⟩ : ∃ x, l'[k]? = some x := ⟨_, List.getElem?_eq_getElem (by rw [hln.out]; exact hkn)⟩
        have HX := hid hx
        have HFx := hid (HF.out x (List.mem_of_getElem? hx))
        clear hx
        go_wp2_with fail
        refine C5.out.mono ?_
        rintro e w5 ⟨tx, p5, htx, rfl, hp5, hr5, hg5⟩
        have G5 := hid (grown_tr HG.out hg5)
        have O5 := hid (own_off HO.out hg5 hlt)
        have R5 := hid hr5
        clear hr5 hg5 C5 HR HG HO
        obtain ⟨_, c0⟩ := own_cell O5.out (j := k * 4 + 2) (by omega)
        have f0 := O5.out.frozenAt (k * 4 + 2)
        have e4 := hid (show (l'.flatMap rcells).set (k * 4 + 2) (.string tx) = (l'.set k ⟨x.nm, x.lv, tx.data.toList, x.sq⟩).flatMap rcells from flat_set rcells 4 rcells_len l' k 2 x ⟨x.nm, x.lv, tx.data.toList, x.sq⟩ (.string tx) HX.out (by omega) (by simp [rcells, txt_data]))
        have O6 := hid (O5.out.stored (k * 4 + 2) (.string tx)).1
        rw [e4.out] at O6
        have R6 := hid (R5.out.set (j := k * 4 + 2) (u := .string tx) hgR)
        have G6 := hid (grown_at (j := k * 4 + 2) (u := .string tx) G5.out hgb)
        have hl6 := hid (show (l'.set k ⟨x.nm, x.lv, tx.data.toList, x.sq⟩).length = n by rw [List.length_set]; exact hln.out)
        have F6 := hid (fit_set (k := k) HF.out (x := ⟨x.nm, x.lv, tx.data.toList, x.sq⟩) (by refine ⟨HFx.out.1, ?_⟩; rw [← Lib.size_eq]; exact htx))
        clear e4 O5 R5 G5 HF hln
        go_wp2_with fail
        go_roundw
        case rel => exact ⟨k + 1, p5, _, by go_num, by omega, hl6, F6, by omega, O6, R6, G6⟩
        case measure => simp [intOf]; omega
      · have T1 := hid (one_lit R (p) 6 [1, 0, 2, 3, -1, 13] _ HR.out (by omega) rfl (by omega) (by omega) (-1) 13 (by decide))
        go_wp2_with fail
        refine T1.out.mono ?_
        rintro e wa ⟨z1, hz1, rfl, hra, hga⟩
        have GA := hid (grown_tr HG.out hga)
        have OA := hid (own_off HO.out hga hlt)
        have T2 := hid (one_lit R ((p) + 1) 6 [2, 1, 3, 12, 0, 13] wa hra (by omega) rfl (by omega) (by omega) 0 13 (by decide))
        clear hra hga T1
        go_wp2_with fail
        refine T2.out.mono ?_
        rintro e wb ⟨z2, hz2, rfl, hrb, hgb⟩
        have GB := hid (grown_tr GA.out hgb)
        have OB := hid (own_off OA.out hgb hlt)
        clear hrb hgb T2
        go_wp2_with fail
        refine bodyPost_ret (v := .tuple #[.slice A n c, .int .i64 z1, .int .i64 z2]) (by simp [results, Try.results17, go_sem]) rfl ?_
        exact ⟨A, c, n, l', z1, z2, rfl, own_base OB.out (Nat.le_of_lt hltw), HB1.out.trans (below_own GB.out HB1.out.size (by rw [hR.out]; exact Nat.le_refl _)), HF.out, hln.out, hl, hz1.1, hz1.2, hz2.1, hz2.2⟩
  · have q0 : ((k0 : Int) == 0) = false := by simp; omega
    have T1 := hid (one_lit R (p2 + 1) 6 [1, 0, 2, 3, -1, 13] _ HR.out (by omega) rfl (by omega) (by omega) (-1) 13 (by decide))
    go_wp2_with fail
    refine T1.out.mono ?_
    rintro e wa ⟨z1, hz1, rfl, hra, hga⟩
    have GA := hid (grown_tr HG.out hga)
    have OA := hid (own_off HO.out hga hlt)
    have T2 := hid (one_lit R ((p2 + 1) + 1) 6 [2, 1, 3, 12, 0, 13] wa hra (by omega) rfl (by omega) (by omega) 0 13 (by decide))
    clear hra hga T1
    go_wp2_with fail
    refine T2.out.mono ?_
    rintro e wb ⟨z2, hz2, rfl, hrb, hgb⟩
    have GB := hid (grown_tr GA.out hgb)
    have OB := hid (own_off OA.out hgb hlt)
    clear hrb hgb T2
    go_wp2_with fail
    refine bodyPost_ret (v := .tuple #[.slice A n c, .int .i64 z1, .int .i64 z2]) (by simp [results, Try.results17, go_sem]) rfl ?_
    exact ⟨A, c, n, l, z1, z2, rfl, own_base OB.out (Nat.le_of_lt hltw), HB1.out.trans (below_own GB.out HB1.out.size (by rw [hR.out]; exact Nat.le_refl _)), HF.out, hln.out, hl, hz1.1, hz1.2, hz2.1, hz2.2⟩

theorem sampOk_parts {l : List Rec} {a b : Int} (h : sampOk l a b = true) : recsOk l = true ∧ l.length ≤ 12 ∧ 0 ≤ a ∧ a ≤ 12 ∧ 1 ≤ b ∧ b ≤ 12 := by
  unfold sampOk at h
  simp only [Bool.and_eq_true, decide_eq_true_eq] at h
  refine ⟨h.1, ?_, h.2.1.1, h.2.1.2, h.2.2.1, h.2.2.2⟩
  have h9 := h.1
  unfold recsOk at h9
  simp only [Bool.and_eq_true, decide_eq_true_eq] at h9
  omega
theorem sampOk_of {l : List Rec} {a b : Int} (h : recsOk l = true) (h1 : 0 ≤ a) (h2 : a ≤ 12) (h3 : 1 ≤ b) (h4 : b ≤ 12) : sampOk l a b = true := by
  unfold sampOk
  simp only [Bool.and_eq_true, decide_eq_true_eq]
  exact ⟨h, ⟨h1, h2⟩, h3, h4⟩
theorem rounds_all {l : List Rec} {p : Nat → Rec → Bool} (h : ∀ (k : Nat) (x : Rec), l[k]? = some x → p k x = true) {k : Nat} (hk : k ≤ l.length) : rounds (pickIf l p) k = l.take k := by
  induction k with
  | zero => rfl
  | succ k ih =>
    obtain ⟨x, hx⟩ : ∃ x, l[k]? = some x := ⟨_, List.getElem?_eq_getElem (by omega)⟩
    rw [rounds_hit (pickIf_hit hx (h k x hx)), ih (by omega), List.take_add_one, hx]
    rfl
theorem samp_one {l : List Rec} {a : Int} (h : sampOk l a 1 = true) : sampleL l a 1 = l := by
  unfold sampleL
  rw [if_pos h, rounds_all _ (Nat.le_refl _), List.take_length]
  intro k x hx
  unfold keepS
  simp [Int.emod_one]
theorem samp_most {l : List Rec} {b : Int} (h : sampOk l 12 b = true) : sampleL l 12 b = l := by
  have h12 := (sampOk_parts h).2.1
  unfold sampleL
  rw [if_pos h, rounds_all _ (Nat.le_refl _), List.take_length]
  intro k x hx
  have hk := (List.getElem?_eq_some_iff.1 hx).1
  have h9 := cntT_le l (k + 1) x.tx
  unfold keepS
  simp only [Bool.or_eq_true, decide_eq_true_eq]
  left; omega
def sampK (l : List Rec) (a b : Int) (k : Nat) : Nat := (rounds (pickIf l (keepS l a b)) k).length
theorem rounds_pre {α : Type} (f : Nat → List α) {k n : Nat} (h : k ≤ n) : rounds f k <+: rounds f n := by
  induction n with
  | zero => obtain rfl : k = 0 := by omega
            exact List.prefix_refl _
  | succ n ih =>
    by_cases e : k = n + 1
    · subst e; exact List.prefix_refl _
    · rw [rounds_succ']
      exact (ih (by omega)).trans (List.prefix_append _ _)
theorem sampK_le (l : List Rec) (a b : Int) (k : Nat) : sampK l a b k ≤ sampK l a b (k + 1) := (rounds_pre _ (Nat.le_succ k)).length_le
theorem samp_len {l : List Rec} {a b : Int} : (sampleL l a b).length ≤ l.length := by
  unfold sampleL
  split
  · exact rounds_len _ (fun i => pickIf_len _ _ i) _
  · simp
/-- the first record of a text is kept, behind what was kept ahead of it -/
theorem samp_first {l : List Rec} {a b : Int} (h : sampOk l a b = true) (ha : 0 < a) {k : Nat} {x : Rec} (hx : l[k]? = some x) (hn : ∀ y ∈ l.take k, y.tx ≠ x.tx) : sampK l a b k < (sampleL l a b).length ∧ (sampleL l a b)[sampK l a b k]? = some x := by
  have hk := (List.getElem?_eq_some_iff.1 hx).1
  have hc : cntT l (k + 1) x.tx = 1 := by
    rw [cntT_succ l k x.tx x hx, if_pos rfl]
    have h0 : cntT l k x.tx = 0 := by
      unfold cntT
      rw [List.length_eq_zero_iff, List.filter_eq_nil_iff]
      intro y hy
      simpa using hn y hy
    rw [h0]
  have hp : keepS l a b k x = true := by
    unfold keepS
    rw [hc]
    simp only [Bool.or_eq_true, decide_eq_true_eq]
    left; omega
  have h1 := rounds_hit (pickIf_hit (p := keepS l a b) hx hp)
  have h2 := rounds_pre (pickIf l (keepS l a b)) (show k + 1 ≤ l.length by omega)
  rw [h1] at h2
  have h3 : (sampleL l a b) = rounds (pickIf l (keepS l a b)) l.length := by unfold sampleL; rw [if_pos h]
  rw [h3]
  obtain ⟨t, ht⟩ := h2
  unfold sampK
  rw [← ht]
  constructor
  · simp only [List.length_append, List.length_cons, List.length_nil]; omega
  · rw [List.append_assoc, List.getElem?_append_right (Nat.le_refl _), Nat.sub_self]
    rfl
end Go.Proofs.Ytjliipnjifongaa
