/-
  FILES: validFiles of both.
-/
import Derived.Test.YtoiagfdhanhnkaaF1
import Derived.Test.YtoiagfdhanhnkaaKFil
namespace Go.Proofs.Ytoiagfdhanhnkaa
open Go.RowKit Nm
set_option linter.unusedSimpArgs false
set_option linter.unusedVariables false

theorem within_c (a lo hi : Int) (w : World) :
    Calls Try.prog 62 #[.int .i64 a, .int .i64 lo, .int .i64 hi] w fun e w' => e = .returned (.bool (decide (lo ≤ a) && decide (a ≤ hi))) ∧ w = w' := by
  go_enter Try.func62, Try.ntmps62
  go_wp2_with fail
  all_goals go_ret
  all_goals exact ⟨ret_bool (by first | (simp_all; done) | (simp_all <;> intros <;> omega)), rfl⟩

def itemOk (mo : Int) (i : Nat) (l : TxtL) : Bool := linesOk l && (!(decide ((1 : Int) < (l.length : Int)) && decide (mo < (sizeL l : Int))) && !(decide (0 < i) && ((l.length : Int) == 0)))
def itemsOk (mo : Int) (L : StrssD) : Bool := (List.range L.length).all fun i => itemOk mo i (L.getD i [])
def filOk (d : Fil) : Bool := itemsOk d.mo d.li && ((decide (1 ≤ d.mo) && decide (d.mo ≤ 120)) && ((decide (1 ≤ d.ke) && decide (d.ke ≤ 3)) && (decide ((1 : Int) ≤ (d.li.length : Int)) && decide ((d.li.length : Int) ≤ d.ke + 1))))
theorem getD_atF {α : Type} {L : List α} {i : Nat} {l d : α} (h : L[i]? = some l) : L.getD i d = l := by rw [List.getD_eq_getElem?_getD, h]; rfl
theorem items_bad {mo : Int} {L : StrssD} {i : Nat} {l : TxtL} (hl : L[i]? = some l) (h : itemOk mo i l = false) : itemsOk mo L = false := by
  cases hw : itemsOk mo L with
  | false => rfl
  | true =>
    unfold itemsOk at hw
    rw [List.all_eq_true] at hw
    have := hw i (List.mem_range.2 (List.getElem?_eq_some_iff.1 hl).1)
    rw [getD_atF hl, h] at this
    cases this
theorem items_good {mo : Int} {L : StrssD} (h : ∀ j, j < L.length → itemOk mo j (L.getD j []) = true) : itemsOk mo L = true := by
  unfold itemsOk
  rw [List.all_eq_true]
  intro i hi
  exact h i (List.mem_range.1 hi)
theorem items_next {mo : Int} {L : StrssD} {i : Nat} {l : TxtL} (h : ∀ j, j < i → itemOk mo j (L.getD j []) = true) (hl : L[i]? = some l) (h1 : itemOk mo i l = true) : ∀ j, j < i + 1 → itemOk mo j (L.getD j []) = true := by
  intro j hj
  by_cases e : j = i
  · subst e; rw [getD_atF hl]; exact h1
  · exact h j (by omega)
theorem items_at {mo : Int} {L : StrssD} (h : itemsOk mo L = true) {i : Nat} {l : TxtL} (hl : L[i]? = some l) : itemOk mo i l = true := by
  cases hw : itemOk mo i l with
  | true => rfl
  | false => rw [items_bad hl hw] at h; cases h
theorem item_lines {mo : Int} {i : Nat} {l : TxtL} (h : itemOk mo i l = true) : linesOk l = true := by
  unfold itemOk at h; simp only [Bool.and_eq_true] at h; exact h.1
theorem fil_parts {d : Fil} (h : filOk d = true) : itemsOk d.mo d.li = true ∧ 1 ≤ d.mo ∧ d.mo ≤ 120 ∧ 1 ≤ d.ke ∧ d.ke ≤ 3 ∧ 1 ≤ d.li.length ∧ (d.li.length : Int) ≤ d.ke + 1 := by
  unfold filOk at h; simp only [Bool.and_eq_true, decide_eq_true_eq] at h; exact ⟨h.1, by omega, by omega, by omega, by omega, by omega, by omega⟩
theorem fil_lines {d : Fil} (h : filOk d = true) : ∀ l ∈ d.li, linesOk l = true := by
  intro l hl
  obtain ⟨i, hi⟩ := List.getElem?_of_mem hl
  exact item_lines (items_at (fil_parts h).1 hi)
theorem StrssIn.elem {w : World} {B n c k : Nat} {A : Option Addr} {L : StrssD} (h : StrssIn w B (.slice A n c) L) (hk : k < n) :
    ∃ (b o : Nat) (u : Value) (l : TxtL), A = some ⟨b, o, none⟩ ∧ b < B ∧ L[k]? = some l ∧ w.cell? ⟨b, o + k, none⟩ = some u ∧ StrsIn w B u l := NestIn.elem h.1 hk

set_option maxHeartbeats 8000000 in
set_option maxRecDepth 100000 in
theorem specValidFiles0_c {v : Value} {B : Nat} {d : Fil} {w : World} (h : FilIn w B v d) (hB : B ≤ w.heap.size) :
    Calls Try.prog 45 #[v] w (BoolPost w (filOk d)) := by
  obtain ⟨u, rfl, hu⟩ := h
  obtain ⟨mo, ke, L⟩ := d
  have hl20 := hu.2
  unfold maxTxt at hl20
  obtain ⟨A, c, rfl, hnc, hcm⟩ := hu.1.form
  unfold maxLen at hcm
  replace hu : StrssIn w B (.slice A L.length c) L := hu
  have HE := hid (show filOk ⟨mo, ke, L⟩ = (itemsOk mo L && ((decide (1 ≤ mo) && decide (mo ≤ 120)) && ((decide (1 ≤ ke) && decide (ke ≤ 3)) && (decide ((1 : Int) ≤ (L.length : Int)) && decide ((L.length : Int) ≤ ke + 1))))) from rfl)
  generalize hnn : L.length = n at *
  have HU := hid (And.intro hu hnn)
  have HB0 := hid (show Below w.heap.size w (w.alloc (.cells #[.int .i64 mo, .int .i64 ke, .slice A n c] 26)) from (Below.refl _ _).alloc (Nat.le_refl _) _)
  have K0 := Blk.new w #[.int .i64 mo, .int .i64 ke, .slice A n c] 26
  have hbw := K0.1
  have HC := hid (And.intro (K0.2 0 _ rfl).1 (And.intro (K0.2 1 _ rfl).1 (K0.2 2 _ rfl).1))
  clear hu hnn K0
  generalize filOk ⟨mo, ke, L⟩ = z at HE ⊢
  show Calls Try.prog 45 #[.agg #[.int .i64 mo, .int .i64 ke, .slice A n c]] w (BoolPost w z)
  go_enter Try.func45, Try.ntmps45
  go_wp2_with fail
  generalize w.alloc (.cells #[.int .i64 mo, .int .i64 ke, .slice A n c] 26) = w0 at *
  go_loopw [3] (fun iv wr => ∃ (i : Nat), iv = .int .i64 i ∧ i ≤ n ∧ Hid (∀ j, j < i → itemOk mo j (L.getD j []) = true) ∧ Hid (Below w0.heap.size w0 wr)) (fun iv _ => n - (intOf iv).toNat)
  case atStart => exact ⟨0, rfl, Nat.zero_le _, fun j hj => by omega, Below.refl _ _⟩
  case round =>
    obtain ⟨i, rfl, hi, HI, HB⟩ := hrel
    have c0 := (HB.out.cell (p := ⟨w.heap.size, 0, none⟩) hbw).trans HC.out.1
    have c1 := (HB.out.cell (p := ⟨w.heap.size, 1, none⟩) hbw).trans HC.out.2.1
    have c2 := (HB.out.cell (p := ⟨w.heap.size, 2, none⟩) hbw).trans HC.out.2.2
    have HBw := hid (HB0.out.trans (HB.out.mono HB0.out.size))
    by_cases hlt : i < n
    · obtain ⟨b, o, u, l, rfl, hbB, hx, c3, hin⟩ := (HU.out.1.below HBw.out hB).elem hlt
      obtain ⟨A', c', rfl, hnc', hcm'⟩ := hin.1.form
      have hl2 := hin.2.1
      unfold maxLen at hcm'
      unfold maxTxt at hl2
      have C1 := hid (fun (W : World) (hW : Below wr.heap.size wr W) => validLines_c (hin.below hW (Nat.le_trans hB HBw.out.size)))
      have C2 := hid (fun (hz : linesOk l = true) (W : World) (hW : Below wr.heap.size wr W) => sizeOf_c (hin.below hW (Nat.le_trans hB HBw.out.size)) hz)
      have HD := hid (show itemOk mo i l = (linesOk l && (!(decide ((1 : Int) < (l.length : Int)) && decide (mo < (sizeL l : Int))) && !(decide (0 < i) && ((l.length : Int) == 0)))) from rfl)
      have HBAD := hid (fun h : itemOk mo i l = false => items_bad hx h)
      have HNX := hid (fun h : itemOk mo i l = true => items_next HI.out hx h)
      have HSZ := hid (fun h : linesOk l = true => size_small h)
      generalize itemOk mo i l = it at *
      generalize l.length = nl at *
      generalize sizeL l = sl at *
      generalize linesOk l = q at *
      clear hx hin
      cases q with
      | false =>
        clear C2 HSZ
        have HO := hid (HBAD.out (by rw [HD.out]; simp only [Bool.and_false, Bool.false_and, Bool.and_true, Bool.true_and, Bool.not_true, Bool.not_false]))
        clear HD HBAD HNX
        go_wp2_with fail
        go_quiet ((first | (go_at_call 58; exact Calls.quiet_of_same (C1.out _ (below_dr (Below.refl _ _) _))) | (go_at_call 67; exact Calls.quiet_of_same (C2.out _ (below_dr (Below.refl _ _) _)))))
        go_wp2_with fail
        go_ret
        exact ⟨ret_bool (by rw [HE.out, HO.out, Bool.false_and]), below_dr HBw.out _⟩
      | true =>
        have hsl := HSZ.out rfl
        replace C2 := hid (C2.out rfl)
        clear HSZ
        cases g1 : decide ((1 : Int) < (nl : Int)) with
        | true =>
          cases g2 : decide (mo < (sl : Int)) with
          | true =>
            have HO := hid (HBAD.out (by rw [HD.out]; simp only [g1, g2, Bool.and_false, Bool.false_and, Bool.and_true, Bool.true_and, Bool.not_true, Bool.not_false]))
            clear HD HBAD HNX
            go_wp2_with fail
            go_quiet ((first | (go_at_call 58; exact Calls.quiet_of_same (C1.out _ (below_dr (Below.refl _ _) _))) | (go_at_call 67; exact Calls.quiet_of_same (C2.out _ (below_dr (Below.refl _ _) _)))))
            go_wp2_with fail
            go_ret
            exact ⟨ret_bool (by rw [HE.out, HO.out, Bool.false_and]), below_dr HBw.out _⟩
          | false =>
            cases g3 : decide (0 < i) with
            | true =>
              cases g4 : ((nl : Int) == 0) with
              | true =>
                have HO := hid (HBAD.out (by rw [HD.out]; simp only [g1, g2, g3, g4, Bool.and_false, Bool.false_and, Bool.and_true, Bool.true_and, Bool.not_true, Bool.not_false]))
                clear HD HBAD HNX
                go_wp2_with fail
                go_quiet ((first | (go_at_call 58; exact Calls.quiet_of_same (C1.out _ (below_dr (Below.refl _ _) _))) | (go_at_call 67; exact Calls.quiet_of_same (C2.out _ (below_dr (Below.refl _ _) _)))))
                go_wp2_with fail
                go_ret
                exact ⟨ret_bool (by rw [HE.out, HO.out, Bool.false_and]), below_dr HBw.out _⟩
              | false =>
                have HO := hid (HNX.out (by rw [HD.out]; simp only [g1, g2, g3, g4, Bool.and_false, Bool.false_and, Bool.and_true, Bool.true_and, Bool.not_true, Bool.not_false]))
                clear HD HBAD HNX
                go_wp2_with fail
                go_quiet ((first | (go_at_call 58; exact Calls.quiet_of_same (C1.out _ (below_dr (Below.refl _ _) _))) | (go_at_call 67; exact Calls.quiet_of_same (C2.out _ (below_dr (Below.refl _ _) _)))))
                go_wp2_with fail
                go_roundw
                case rel => exact ⟨i + 1, by go_num, by omega, HO.out, below_dr HB.out _⟩
                case measure => simp [intOf]; omega
            | false =>
              have HO := hid (HNX.out (by rw [HD.out]; simp only [g1, g2, g3, Bool.and_false, Bool.false_and, Bool.and_true, Bool.true_and, Bool.not_true, Bool.not_false]))
              clear HD HBAD HNX
              go_wp2_with fail
              go_quiet ((first | (go_at_call 58; exact Calls.quiet_of_same (C1.out _ (below_dr (Below.refl _ _) _))) | (go_at_call 67; exact Calls.quiet_of_same (C2.out _ (below_dr (Below.refl _ _) _)))))
              go_wp2_with fail
              go_roundw
              case rel => exact ⟨i + 1, by go_num, by omega, HO.out, below_dr HB.out _⟩
              case measure => simp [intOf]; omega
        | false =>
          cases g3 : decide (0 < i) with
          | true =>
            cases g4 : ((nl : Int) == 0) with
            | true =>
              have HO := hid (HBAD.out (by rw [HD.out]; simp only [g1, g3, g4, Bool.and_false, Bool.false_and, Bool.and_true, Bool.true_and, Bool.not_true, Bool.not_false]))
              clear HD HBAD HNX
              go_wp2_with fail
              go_quiet ((first | (go_at_call 58; exact Calls.quiet_of_same (C1.out _ (below_dr (Below.refl _ _) _))) | (go_at_call 67; exact Calls.quiet_of_same (C2.out _ (below_dr (Below.refl _ _) _)))))
              go_wp2_with fail
              go_ret
              exact ⟨ret_bool (by rw [HE.out, HO.out, Bool.false_and]), below_dr HBw.out _⟩
            | false =>
              have HO := hid (HNX.out (by rw [HD.out]; simp only [g1, g3, g4, Bool.and_false, Bool.false_and, Bool.and_true, Bool.true_and, Bool.not_true, Bool.not_false]))
              clear HD HBAD HNX
              go_wp2_with fail
              go_quiet ((first | (go_at_call 58; exact Calls.quiet_of_same (C1.out _ (below_dr (Below.refl _ _) _))) | (go_at_call 67; exact Calls.quiet_of_same (C2.out _ (below_dr (Below.refl _ _) _)))))
              go_wp2_with fail
              go_roundw
              case rel => exact ⟨i + 1, by go_num, by omega, HO.out, below_dr HB.out _⟩
              case measure => simp [intOf]; omega
          | false =>
            have HO := hid (HNX.out (by rw [HD.out]; simp only [g1, g3, Bool.and_false, Bool.false_and, Bool.and_true, Bool.true_and, Bool.not_true, Bool.not_false]))
            clear HD HBAD HNX
            go_wp2_with fail
            go_quiet ((first | (go_at_call 58; exact Calls.quiet_of_same (C1.out _ (below_dr (Below.refl _ _) _))) | (go_at_call 67; exact Calls.quiet_of_same (C2.out _ (below_dr (Below.refl _ _) _)))))
            go_wp2_with fail
            go_roundw
            case rel => exact ⟨i + 1, by go_num, by omega, HO.out, below_dr HB.out _⟩
            case measure => simp [intOf]; omega
    · obtain rfl : i = n := by omega
      have HG := hid (items_good (mo := mo) (L := L) (fun j hj => HI.out j (by rw [HU.out.2] at hj; exact hj)))
      clear c0 c1 c2
      have c0 := (HB.out.cell (p := ⟨w.heap.size, 0, none⟩) hbw).trans HC.out.1
      have c1 := (HB.out.cell (p := ⟨w.heap.size, 1, none⟩) hbw).trans HC.out.2.1
      have c2 := (HB.out.cell (p := ⟨w.heap.size, 2, none⟩) hbw).trans HC.out.2.2
      go_wp2_with (go_at_call 68; refine (inRange_c _ _ _ _).mono ?_; rintro e w2 ⟨rfl, rfl⟩)
      all_goals go_ret
      all_goals exact ⟨ret_bool (by rw [HE.out, HG.out]; simp_all; try (intros; omega)), HBw.out⟩

set_option maxHeartbeats 400000 in
set_option maxRecDepth 100000 in
theorem specValidFiles_c {v : Value} {B : Nat} {d : Fil} {w : World} (h : FilIn w B v d) (hB : B ≤ w.heap.size) :
    Calls Try.prog 29 #[v] w (BoolPost w (filOk d)) := by
  obtain ⟨A, n, c, hv⟩ := h.form
  have C := hid (fun (w1 : World) (hb : Below w.heap.size w w1) => specValidFiles0_c (h.below hb hB) (Nat.le_trans hB hb.size))
  clear h
  generalize filOk d = z at *
  obtain ⟨mo, ke, L⟩ := d
  subst hv
  go_enter Try.func29, Try.ntmps29
  go_wp2_with fail
  refine (C.out _ (by go_grown)).mono ?_
  rintro e w1 ⟨rfl, hb⟩
  have HB := hid (Below.mono hb (by simp) : Below w.heap.size _ w1)
  clear hb
  go_wp2_with fail
  go_ret
  exact ⟨rfl, Below.trans (by go_grown) HB.out⟩

set_option maxHeartbeats 8000000 in
set_option maxRecDepth 100000 in
theorem implValidFiles_c {v : Value} {B : Nat} {d : Fil} {w : World} (h : FilIn w B v d) (hB : B ≤ w.heap.size) :
    Calls Try.prog 28 #[v] w (BoolPost w (filOk d)) := by
  obtain ⟨u, rfl, hu⟩ := h
  obtain ⟨mo, ke, L⟩ := d
  have hl20 := hu.2
  unfold maxTxt at hl20
  obtain ⟨A, c, rfl, hnc, hcm⟩ := hu.1.form
  unfold maxLen at hcm
  replace hu : StrssIn w B (.slice A L.length c) L := hu
  have HE := hid (show filOk ⟨mo, ke, L⟩ = (itemsOk mo L && ((decide (1 ≤ mo) && decide (mo ≤ 120)) && ((decide (1 ≤ ke) && decide (ke ≤ 3)) && (decide ((1 : Int) ≤ (L.length : Int)) && decide ((L.length : Int) ≤ ke + 1))))) from rfl)
  generalize hnn : L.length = n at *
  have HU := hid (And.intro hu hnn)
  have HB0 := hid (show Below w.heap.size w (w.alloc (.cells #[.int .i64 mo, .int .i64 ke, .slice A n c] 26)) from (Below.refl _ _).alloc (Nat.le_refl _) _)
  have K0 := Blk.new w #[.int .i64 mo, .int .i64 ke, .slice A n c] 26
  have hbw := K0.1
  have HC := hid (And.intro (K0.2 0 _ rfl).1 (And.intro (K0.2 1 _ rfl).1 (K0.2 2 _ rfl).1))
  clear hu hnn K0
  generalize filOk ⟨mo, ke, L⟩ = z at HE ⊢
  show Calls Try.prog 28 #[.agg #[.int .i64 mo, .int .i64 ke, .slice A n c]] w (BoolPost w z)
  have CW := hid (fun (a lo hi : Int) (W : World) => within_c a lo hi W)
  have hke := hid (show (decide (1 ≤ ke) && decide (ke ≤ 3)) = true → 1 ≤ ke ∧ ke ≤ 3 from fun h => by simp only [Bool.and_eq_true, decide_eq_true_eq] at h; exact h)
  obtain ⟨b0, hb0⟩ : ∃ b, Hid ((decide (1 ≤ mo) && decide (mo ≤ 120)) = b) := ⟨_, rfl⟩
  obtain ⟨b1, hb1⟩ : ∃ b, Hid ((decide (1 ≤ ke) && decide (ke ≤ 3)) = b) := ⟨_, rfl⟩
  obtain ⟨b2, hb2⟩ : ∃ b, Hid ((decide ((1 : Int) ≤ (n : Int)) && decide ((n : Int) ≤ ke + 1)) = b) := ⟨_, rfl⟩
  replace HE := hid (show z = (itemsOk mo L && (b0 && (b1 && b2))) by rw [HE.out, hb0.out, hb1.out, hb2.out])
  cases b0 with
  | false =>
    go_enter Try.func28, Try.ntmps28
    go_wp2_with (first | (go_at_call 62; refine (CW.out _ _ _ _).mono ?_; rintro e w2 ⟨rfl, rfl⟩; first | rw [hb0.out] | rw [hb1.out] | rw [hb2.out]))
    go_ret
    exact ⟨ret_bool (by rw [HE.out]; simp), HB0.out⟩
  | true =>
  cases b1 with
  | false =>
    go_enter Try.func28, Try.ntmps28
    go_wp2_with (first | (go_at_call 62; refine (CW.out _ _ _ _).mono ?_; rintro e w2 ⟨rfl, rfl⟩; first | rw [hb0.out] | rw [hb1.out] | rw [hb2.out]))
    go_ret
    exact ⟨ret_bool (by rw [HE.out]; simp), HB0.out⟩
  | true =>
  obtain ⟨hk1, hk2⟩ := hke.out hb1.out
  clear hke
  cases b2 with
  | false =>
    go_enter Try.func28, Try.ntmps28
    go_wp2_with (first | (go_at_call 62; refine (CW.out _ _ _ _).mono ?_; rintro e w2 ⟨rfl, rfl⟩; first | rw [hb0.out] | rw [hb1.out] | rw [hb2.out]))
    go_ret
    exact ⟨ret_bool (by rw [HE.out]; simp), HB0.out⟩
  | true =>
  go_enter Try.func28, Try.ntmps28
  go_wp2_with (first | (go_at_call 62; refine (CW.out _ _ _ _).mono ?_; rintro e w2 ⟨rfl, rfl⟩; first | rw [hb0.out] | rw [hb1.out] | rw [hb2.out]))
  generalize w.alloc (.cells #[.int .i64 mo, .int .i64 ke, .slice A n c] 26) = w0 at *
  go_loopw [29] (fun iv wr => ∃ (i : Nat), iv = .int .i64 i ∧ i ≤ n ∧ Hid (∀ j, j < i → itemOk mo j (L.getD j []) = true) ∧ Hid (Below w0.heap.size w0 wr)) (fun iv _ => n - (intOf iv).toNat)
  case atStart => exact ⟨0, rfl, Nat.zero_le _, fun j hj => by omega, Below.refl _ _⟩
  case round =>
    obtain ⟨i, rfl, hi, HI, HB⟩ := hrel
    have c0 := (HB.out.cell (p := ⟨w.heap.size, 0, none⟩) hbw).trans HC.out.1
    have c1 := (HB.out.cell (p := ⟨w.heap.size, 1, none⟩) hbw).trans HC.out.2.1
    have c2 := (HB.out.cell (p := ⟨w.heap.size, 2, none⟩) hbw).trans HC.out.2.2
    have HBw := hid (HB0.out.trans (HB.out.mono HB0.out.size))
    by_cases hlt : i < n
    · obtain ⟨b, o, u, l, rfl, hbB, hx, c3, hin⟩ := (HU.out.1.below HBw.out hB).elem hlt
      obtain ⟨A', c', rfl, hnc', hcm'⟩ := hin.1.form
      have hl2 := hin.2.1
      unfold maxLen at hcm'
      unfold maxTxt at hl2
      have C1 := hid (implSizeOf_c hin (Nat.le_trans hB HBw.out.size))
      have HD := hid (show itemOk mo i l = (linesOk l && (!(decide ((1 : Int) < (l.length : Int)) && decide (mo < (sizeL l : Int))) && !(decide (0 < i) && ((l.length : Int) == 0)))) from rfl)
      have HBAD := hid (fun h : itemOk mo i l = false => items_bad hx h)
      have HNX := hid (fun h : itemOk mo i l = true => items_next HI.out hx h)
      have HSZ := hid (fun h : linesOk l = true => size_small h)
      have HSX := hid (show sizeX l = if linesOk l then (sizeL l : Int) else -1 from rfl)
      generalize itemOk mo i l = it at *
      generalize sizeX l = sx at *
      generalize l.length = nl at *
      generalize sizeL l = sl at *
      generalize linesOk l = q at *
      clear hx hin
      cases q with
      | false =>
        obtain rfl : sx = -1 := HSX.out
        have HO := hid (HBAD.out (by rw [HD.out]; simp only [Bool.and_false, Bool.false_and, Bool.and_true, Bool.true_and, Bool.not_true, Bool.not_false]))
        clear HD HBAD HNX
        go_wp2_with fail
        refine (C1.out).mono ?_
        rintro e w2 ⟨rfl, hb⟩
        have HB2 := hid (HB.out.trans (hb.mono HB.out.size))
        have HBw2 := hid (HBw.out.trans (hb.mono HBw.out.size))
        clear c0 c1 c2 c3 hb
        have c0 := (HB2.out.cell (p := ⟨w.heap.size, 0, none⟩) hbw).trans HC.out.1
        have c1 := (HB2.out.cell (p := ⟨w.heap.size, 1, none⟩) hbw).trans HC.out.2.1
        have c2 := (HB2.out.cell (p := ⟨w.heap.size, 2, none⟩) hbw).trans HC.out.2.2
        go_wp2_with fail
        go_ret
        exact ⟨ret_bool (by rw [HE.out, HO.out, Bool.false_and]), HBw2.out⟩
      | true =>
        obtain rfl : sx = (sl : Int) := HSX.out
        have hsl := HSZ.out rfl
        clear HSZ HSX
        cases g1 : decide ((1 : Int) < (nl : Int)) with
        | true =>
          cases g2 : decide (mo < (sl : Int)) with
          | true =>
            have HO := hid (HBAD.out (by rw [HD.out]; simp only [g1, g2, Bool.and_false, Bool.false_and, Bool.and_true, Bool.true_and, Bool.not_true, Bool.not_false]))
            clear HD HBAD HNX
            go_wp2_with fail
            refine (C1.out).mono ?_
            rintro e w2 ⟨rfl, hb⟩
            have HB2 := hid (HB.out.trans (hb.mono HB.out.size))
            have HBw2 := hid (HBw.out.trans (hb.mono HBw.out.size))
            clear c0 c1 c2 c3 hb
            have c0 := (HB2.out.cell (p := ⟨w.heap.size, 0, none⟩) hbw).trans HC.out.1
            have c1 := (HB2.out.cell (p := ⟨w.heap.size, 1, none⟩) hbw).trans HC.out.2.1
            have c2 := (HB2.out.cell (p := ⟨w.heap.size, 2, none⟩) hbw).trans HC.out.2.2
            go_wp2_with fail
            go_ret
            exact ⟨ret_bool (by rw [HE.out, HO.out, Bool.false_and]), HBw2.out⟩
          | false =>
            cases g4 : ((nl : Int) == 0) with
            | true =>
              cases g3 : decide (0 < i) with
              | true =>
                have HO := hid (HBAD.out (by rw [HD.out]; simp only [g1, g2, g3, g4, Bool.and_false, Bool.false_and, Bool.and_true, Bool.true_and, Bool.not_true, Bool.not_false]))
                clear HD HBAD HNX
                go_wp2_with fail
                refine (C1.out).mono ?_
                rintro e w2 ⟨rfl, hb⟩
                have HB2 := hid (HB.out.trans (hb.mono HB.out.size))
                have HBw2 := hid (HBw.out.trans (hb.mono HBw.out.size))
                clear c0 c1 c2 c3 hb
                have c0 := (HB2.out.cell (p := ⟨w.heap.size, 0, none⟩) hbw).trans HC.out.1
                have c1 := (HB2.out.cell (p := ⟨w.heap.size, 1, none⟩) hbw).trans HC.out.2.1
                have c2 := (HB2.out.cell (p := ⟨w.heap.size, 2, none⟩) hbw).trans HC.out.2.2
                go_wp2_with fail
                go_ret
                exact ⟨ret_bool (by rw [HE.out, HO.out, Bool.false_and]), HBw2.out⟩
              | false =>
                have HO := hid (HNX.out (by rw [HD.out]; simp only [g1, g2, g3, g4, Bool.and_false, Bool.false_and, Bool.and_true, Bool.true_and, Bool.not_true, Bool.not_false]))
                clear HD HBAD HNX
                go_wp2_with fail
                refine (C1.out).mono ?_
                rintro e w2 ⟨rfl, hb⟩
                have HB2 := hid (HB.out.trans (hb.mono HB.out.size))
                have HBw2 := hid (HBw.out.trans (hb.mono HBw.out.size))
                clear c0 c1 c2 c3 hb
                have c0 := (HB2.out.cell (p := ⟨w.heap.size, 0, none⟩) hbw).trans HC.out.1
                have c1 := (HB2.out.cell (p := ⟨w.heap.size, 1, none⟩) hbw).trans HC.out.2.1
                have c2 := (HB2.out.cell (p := ⟨w.heap.size, 2, none⟩) hbw).trans HC.out.2.2
                go_wp2_with fail
                go_roundw
                case rel => exact ⟨i + 1, by go_num, by omega, HO.out, HB2.out⟩
                case measure => simp [intOf]; omega
            | false =>
              have HO := hid (HNX.out (by rw [HD.out]; simp only [g1, g2, g4, Bool.and_false, Bool.false_and, Bool.and_true, Bool.true_and, Bool.not_true, Bool.not_false]))
              clear HD HBAD HNX
              go_wp2_with fail
              refine (C1.out).mono ?_
              rintro e w2 ⟨rfl, hb⟩
              have HB2 := hid (HB.out.trans (hb.mono HB.out.size))
              have HBw2 := hid (HBw.out.trans (hb.mono HBw.out.size))
              clear c0 c1 c2 c3 hb
              have c0 := (HB2.out.cell (p := ⟨w.heap.size, 0, none⟩) hbw).trans HC.out.1
              have c1 := (HB2.out.cell (p := ⟨w.heap.size, 1, none⟩) hbw).trans HC.out.2.1
              have c2 := (HB2.out.cell (p := ⟨w.heap.size, 2, none⟩) hbw).trans HC.out.2.2
              go_wp2_with fail
              go_roundw
              case rel => exact ⟨i + 1, by go_num, by omega, HO.out, HB2.out⟩
              case measure => simp [intOf]; omega
        | false =>
          cases g4 : ((nl : Int) == 0) with
          | true =>
            cases g3 : decide (0 < i) with
            | true =>
              have HO := hid (HBAD.out (by rw [HD.out]; simp only [g1, g3, g4, Bool.and_false, Bool.false_and, Bool.and_true, Bool.true_and, Bool.not_true, Bool.not_false]))
              clear HD HBAD HNX
              go_wp2_with fail
              refine (C1.out).mono ?_
              rintro e w2 ⟨rfl, hb⟩
              have HB2 := hid (HB.out.trans (hb.mono HB.out.size))
              have HBw2 := hid (HBw.out.trans (hb.mono HBw.out.size))
              clear c0 c1 c2 c3 hb
              have c0 := (HB2.out.cell (p := ⟨w.heap.size, 0, none⟩) hbw).trans HC.out.1
              have c1 := (HB2.out.cell (p := ⟨w.heap.size, 1, none⟩) hbw).trans HC.out.2.1
              have c2 := (HB2.out.cell (p := ⟨w.heap.size, 2, none⟩) hbw).trans HC.out.2.2
              go_wp2_with fail
              go_ret
              exact ⟨ret_bool (by rw [HE.out, HO.out, Bool.false_and]), HBw2.out⟩
            | false =>
              have HO := hid (HNX.out (by rw [HD.out]; simp only [g1, g3, g4, Bool.and_false, Bool.false_and, Bool.and_true, Bool.true_and, Bool.not_true, Bool.not_false]))
              clear HD HBAD HNX
              go_wp2_with fail
              refine (C1.out).mono ?_
              rintro e w2 ⟨rfl, hb⟩
              have HB2 := hid (HB.out.trans (hb.mono HB.out.size))
              have HBw2 := hid (HBw.out.trans (hb.mono HBw.out.size))
              clear c0 c1 c2 c3 hb
              have c0 := (HB2.out.cell (p := ⟨w.heap.size, 0, none⟩) hbw).trans HC.out.1
              have c1 := (HB2.out.cell (p := ⟨w.heap.size, 1, none⟩) hbw).trans HC.out.2.1
              have c2 := (HB2.out.cell (p := ⟨w.heap.size, 2, none⟩) hbw).trans HC.out.2.2
              go_wp2_with fail
              go_roundw
              case rel => exact ⟨i + 1, by go_num, by omega, HO.out, HB2.out⟩
              case measure => simp [intOf]; omega
          | false =>
            have HO := hid (HNX.out (by rw [HD.out]; simp only [g1, g4, Bool.and_false, Bool.false_and, Bool.and_true, Bool.true_and, Bool.not_true, Bool.not_false]))
            clear HD HBAD HNX
            go_wp2_with fail
            refine (C1.out).mono ?_
            rintro e w2 ⟨rfl, hb⟩
            have HB2 := hid (HB.out.trans (hb.mono HB.out.size))
            have HBw2 := hid (HBw.out.trans (hb.mono HBw.out.size))
            clear c0 c1 c2 c3 hb
            have c0 := (HB2.out.cell (p := ⟨w.heap.size, 0, none⟩) hbw).trans HC.out.1
            have c1 := (HB2.out.cell (p := ⟨w.heap.size, 1, none⟩) hbw).trans HC.out.2.1
            have c2 := (HB2.out.cell (p := ⟨w.heap.size, 2, none⟩) hbw).trans HC.out.2.2
            go_wp2_with fail
            go_roundw
            case rel => exact ⟨i + 1, by go_num, by omega, HO.out, HB2.out⟩
            case measure => simp [intOf]; omega
    · obtain rfl : i = n := by omega
      have HG := hid (items_good (mo := mo) (L := L) (fun j hj => HI.out j (by rw [HU.out.2] at hj; exact hj)))
      go_wp2_with fail
      go_ret
      exact ⟨ret_bool (by rw [HE.out, HG.out]; rfl), HBw.out⟩
end Go.Proofs.Ytoiagfdhanhnkaa
