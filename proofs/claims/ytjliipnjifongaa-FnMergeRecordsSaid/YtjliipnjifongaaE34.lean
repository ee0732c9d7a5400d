/-
  DRAWS: two lists of records for merges. By gen_merge.py.
-/
import Derived.Test.YtjliipnjifongaaE33
import Derived.Test.YtjliipnjifongaaE32
namespace Go.Proofs.Ytjliipnjifongaa
open Go.RowKit Nm
set_option linter.unusedSimpArgs false
set_option linter.unusedVariables false
theorem ordK_next {l : List Rec} {k : Nat} {x y : Rec} (hk : 1 ≤ k) (h : ordK l k) (hx : l[k - 1]? = some x) (hy : l[k]? = some y) (hs : x.sq ≤ y.sq) : ordK l (k + 1) := by
  obtain ⟨j, rfl⟩ : ∃ j, k = j + 1 := ⟨k - 1, by omega⟩
  rw [Nat.add_sub_cancel] at hx
  exact ordK_step h hx hy hs
theorem ord_prev {l : List Rec} (h : sqOrd l) {k : Nat} {x y : Rec} (hk : 1 ≤ k) (hx : l[k - 1]? = some x) (hy : l[k]? = some y) : x.sq ≤ y.sq := by
  obtain ⟨j, rfl⟩ : ∃ j, k = j + 1 := ⟨k - 1, by omega⟩
  rw [Nat.add_sub_cancel] at hx
  exact ord_at h hx hy

/-- drawn: two lists of records -/
def DrawMrg (w : World) (e : Ending) (w2 : World) : Prop :=
  ∃ (A1 : Option Addr) (c1 n1 : Nat) (l1 : List Rec) (A2 : Option Addr) (c2 n2 : Nat) (l2 : List Rec), e = .returned (.tuple #[.slice A1 n1 c1, .slice A2 n2 c2]) ∧ Sl w2 w2.heap.size 4 n1 (.slice A1 n1 c1) (l1.flatMap rcells) ∧ fit20 l1 ∧ l1.length = n1 ∧ n1 ≤ 25 ∧ Sl w2 w2.heap.size 4 n2 (.slice A2 n2 c2) (l2.flatMap rcells) ∧ fit20 l2 ∧ l2.length = n2 ∧ n2 ≤ 25 ∧ Below w.heap.size w w2
set_option maxHeartbeats 4000000 in
set_option maxRecDepth 100000 in
theorem drawMergeRecords_c (a : Option Addr) (len cap : Nat) (z : List Int) (w : World) (h : IsRow .u8 w a len cap z) :
    Calls Try.prog 21 #[.slice a len cap] w (DrawMrg w) := by
  have C := hid (newReader_c a len cap z w h)
  clear h
  go_enter Try.func21, Try.ntmps21
  go_wp2_with fail
  refine C.out.mono ?_
  rintro e w1 ⟨rfl, hr1, hb1⟩
  have HB1 := hid hb1
  have hltw : w.heap.size < w1.heap.size := hr1.lt
  have C1 := hid (someRecords_c w.heap.size 0 w1 hr1 (by omega))
  clear hr1 hb1 C
  go_wp2_with fail
  refine C1.out.mono ?_
  rintro e w2 ⟨v, l1, p2, rfl, hl1, hf1, ho2, hp2, hr2, hg2⟩
  obtain ⟨A1, c1, rfl, _, _⟩ := (Sl.of_own ho2).form
  generalize hln1 : l1.length = n1 at *
  replace hln1 := hid hln1
  have O2 := hid ho2
  have G2 := hid hg2
  have F1 := hid hf1
  have hs2 : w1.heap.size ≤ w2.heap.size := hg2.size
  have C2 := hid (someRecords_c w.heap.size p2 w2 hr2 (by omega))
  clear ho2 hr2 hg2 hf1 C1
  go_wp2_with fail
  refine C2.out.mono ?_
  rintro e w3 ⟨v, l2, p3, rfl, hl2, hf2, ho3, hp3, hr3, hg3⟩
  obtain ⟨A2, c2, rfl, _, _⟩ := (Sl.of_own ho3).form
  generalize hln2 : l2.length = n2 at *
  replace hln2 := hid hln2
  have G3 := hid (grown_tr G2.out hg3)
  have O3 := hid (own_off O2.out hg3 hltw)
  have P3 := hid ho3
  have F2 := hid hf2
  have C3 := hid (pick_c w.heap.size p3 4 w3 hr3 (by omega) (by omega))
  clear ho3 hr3 hg3 hf2 C2 O2 G2
  go_wp2_with fail
  refine C3.out.mono ?_
  rintro e w4 ⟨k0, rfl, _, _, hr4, hg4⟩
  have G4 := hid (grown_tr G3.out hg4)
  have O4 := hid (Sl.of_own (own_off O3.out hg4 hltw))
  have P4 := hid (Sl.of_own (own_off P3.out hg4 (show w.heap.size < w2.heap.size by omega)))
  have HB4 := hid (HB1.out.trans (below_own G4.out HB1.out.size (Nat.le_refl _)))
  clear hr4 hg4 C3 O3 P3 G3 G4
  rcases Nat.eq_zero_or_pos k0 with hk0 | hk0
  · subst hk0
    go_wp2_with fail
    refine bodyPost_ret (v := .tuple #[.slice A1 n1 c1, .slice A2 n2 c2]) (by simp [results, Try.results21, go_sem]) rfl ?_
    exact ⟨A1, c1, n1, l1, A2, c2, n2, l2, rfl, O4.out, F1.out, hln1.out, hl1, P4.out, F2.out, hln2.out, hl2, HB4.out⟩
  · have q0 : (0 : Int) < (k0 : Int) := by omega
    have S1 := hid (sorted_c A1 n1 c1 w4.heap.size l1 w4 O4.out (Nat.le_refl _) F1.out hl1)
    have S2 := hid (fun (W : World) (hW : Below w4.heap.size w4 W) => sorted_c A2 n2 c2 w4.heap.size l2 W (P4.out.below hW (Nat.le_refl _)) hW.size F2.out hl2)
    clear O4 P4
    go_wp2_with fail
    refine S1.out.mono ?_
    rintro e w5 ⟨A5, c5, l5, rfl, hln5, hf5, ho5, hb5⟩
    have HB5 := hid hb5
    have O5 := hid (Sl.of_own ho5)
    have F5 := hid hf5
    replace hln5 := hid hln5
    clear ho5 hb5 hf5 S1
    go_wp2_with fail
    refine (S2.out _ HB5.out).mono ?_
    rintro e w6 ⟨A6, c6, l6, rfl, hln6, hf6, ho6, hb6⟩
    have O6 := hid (Sl.of_own ho6)
    have O7 := hid ((O5.out.below hb6 (Nat.le_refl _)).more hb6.size)
    have F6 := hid hf6
    replace hln6 := hid hln6
    have HB6 := hid (HB4.out.trans ((HB5.out.trans (hb6.mono HB5.out.size)).mono HB4.out.size))
    clear ho6 hb6 hf6 S2
    go_wp2_with fail
    refine bodyPost_ret (v := .tuple #[.slice A5 n1 c5, .slice A6 n2 c6]) (by simp [results, Try.results21, go_sem]) rfl ?_
    exact ⟨A5, c5, n1, l5, A6, c6, n2, l6, rfl, O7.out, F5.out, hln5.out, hl1, O6.out, F6.out, hln6.out, hl2, HB6.out⟩
end Go.Proofs.Ytjliipnjifongaa
