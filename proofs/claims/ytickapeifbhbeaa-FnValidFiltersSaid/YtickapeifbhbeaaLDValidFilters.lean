/-
  WALK: the law FnValidFilters.
-/
import Derived.Test.YtickapeifbhbeaaE1
namespace Go.Proofs.Ytickapeifbhbeaa
open Go.RowKit Nm
set_option linter.unusedSimpArgs false
set_option linter.unusedVariables false

theorem IsRow.le {k : IntKind} {w : World} {a : Option Addr} {len cap : Nat} {z : List Int} (h : IsRow k w a len cap z) : len ≤ 9223372036854775807 := by
  rcases h with ⟨_, h, _, _⟩ | ⟨x, _, h1, h2, _⟩
  · omega
  · unfold maxLen at h2; omega
theorem flts_sub {l m : List Flt} (h : filtersOk l = true) (hs : ∀ x ∈ m, x ∈ l) (hl : m.length ≤ l.length) : filtersOk m = true := by
  unfold filtersOk at h ⊢
  simp only [Bool.and_eq_true, List.all_eq_true, decide_eq_true_eq] at h ⊢
  exact ⟨fun x hx => h.1 x (hs x hx), by omega⟩
theorem fs_take (l : List Flt) (k : Nat) : (fsCells l).take (k * 3) = fsCells (l.take k) := by
  unfold fsCells
  induction l generalizing k with
  | nil => simp
  | cons a t ih =>
    cases k with
    | zero => simp
    | succ k => rw [List.flatMap_cons, List.take_succ_cons, List.flatMap_cons, List.take_append, List.take_of_length_le (by show 3 ≤ _; omega), show (k + 1) * 3 - (fcells a).length = k * 3 by show (k + 1) * 3 - 3 = _; omega, ih]
theorem fs_tail (l : List Flt) : (fsCells l).drop 3 = fsCells (l.drop 1) := by
  unfold fsCells
  cases l with
  | nil => rfl
  | cons a t => rw [List.flatMap_cons, List.drop_append]; rfl
theorem Sl.cut3 {w : World} {B n c : Nat} {A : Option Addr} {xs : List Value} (h : Sl w B 3 n (.slice A n c) xs) {k : Nat} (hk : k ≤ n) : Sl w B 3 k (.slice A k c) (xs.take (k * 3)) := by
  obtain ⟨A', c', he, h2, h3, hl, h4⟩ := h.parts_
  obtain ⟨rfl, -, rfl⟩ : A = A' ∧ n = n ∧ c = c' := by simpa using he
  refine ⟨by simp; omega, A, c, rfl, by omega, h3, fun hk0 => ?_⟩
  obtain ⟨b, o, e, hb, hc⟩ := h4 (by omega)
  refine ⟨b, o, e, hb, fun j u hu => hc j u ?_⟩
  rw [List.getElem?_take] at hu
  split at hu
  · exact hu
  · cases hu

set_option maxHeartbeats 4000000 in
set_option maxRecDepth 100000 in
theorem walk_FnValidFilters (a0 : Option Addr) (len0 cap0 : Nat) (z0 : List Int) (w : World) (w0 : IsRow .u8 w a0 len0 cap0 z0) :
    Calls Try.prog 3 #[.slice a0 len0 cap0] w (BoolPost w true) := by
  have hb0 := w0.le
  by_cases h1 : (1048576 : Int) < (len0 : Int)
  · go_enter Try.func3, Try.ntmps3
    go_wp2_with fail
    go_ret
    exact ⟨rfl, Below.refl _ _⟩
  have DR := hid (drawValidFilters_c a0 len0 cap0 z0 w w0)
  clear w0
  go_enter Try.func3, Try.ntmps3
  go_wp2_with fail
  refine DR.out.mono ?_
  rintro e w1 ⟨v, l, n, rfl, ho, hb, hf, hln, hn⟩
  obtain ⟨A, c, rfl, hnc, hcm⟩ := (Sl.of_own ho).form
  unfold maxLen at hcm
  have hf2 : ∀ f ∈ l, f.nm.length ≤ 1048576 := fun f h => Nat.le_trans (hf f h) (by omega)
  have SL := hid (And.intro (Sl.of_own ho) hf2)
  have HB := hid hb
  have C1 := hid (fun (W : World) (hW : Below w1.heap.size w1 W) => implValidFilters_c (.slice A n c) n w1.heap.size l W ⟨SL.out.1.below hW (Nat.le_refl _), hf2⟩ hW.size)
  have C2 := hid (fun (W : World) (hW : Below w1.heap.size w1 W) => specValidFilters_c (.slice A n c) n w1.heap.size l W ⟨SL.out.1.below hW (Nat.le_refl _), hf2⟩ hW.size)
  have K1 := hid (fun (hq : filtersOk l = true) (hn0 : 0 < n) (W : World) (hW : Below w1.heap.size w1 W) => (show Calls Try.prog 12 #[.slice A (n - 1) c] W (BoolPost W true) by
    have h9 := implValidFilters_c (.slice A (n - 1) c) (n - 1) w1.heap.size (l.take (n - 1)) W ⟨by rw [← fs_take]; exact (SL.out.1.below hW (Nat.le_refl _)).cut3 (by omega), fun f h => hf2 f (List.mem_of_mem_take h)⟩ hW.size
    rwa [flts_sub hq (fun x h => List.mem_of_mem_take h) (by rw [List.length_take]; omega)] at h9))
  have K2 := hid (fun (hq : filtersOk l = true) (hn0 : 0 < n) (b o : Nat) (hA : A = some ⟨b, o, none⟩) (W : World) (hW : Below w1.heap.size w1 W) => (show Calls Try.prog 12 #[.slice (some ⟨b, o + 1 * 3, none⟩) (n - 1) (c - 1)] W (BoolPost W true) by
    subst hA
    have h9 := implValidFilters_c (.slice (some ⟨b, o + 1 * 3, none⟩) (n - 1) (c - 1)) (n - 1) w1.heap.size (l.drop 1) W ⟨by rw [← fs_tail]; exact (SL.out.1.below hW (Nat.le_refl _)).from_ (k := 1) (by omega), fun f h => hf2 f (List.mem_of_mem_drop h)⟩ hW.size
    rwa [flts_sub hq (fun x h => List.mem_of_mem_drop h) (by rw [List.length_drop]; omega)] at h9))
  have KE := hid (fun (A9 : Option Addr) (c9 : Nat) (h9 : c9 ≤ maxLen) (W : World) => (show Calls Try.prog 12 #[.slice A9 0 c9] W (BoolPost W true) from
    implValidFilters_c (.slice A9 0 c9) 0 W.heap.size [] W ⟨⟨rfl, A9, c9, rfl, Nat.zero_le _, h9, fun h => by omega⟩, fun f h => by cases h⟩ (Nat.le_refl _)))
  have HA : 0 < n → ∃ b o, A = some ⟨b, o, none⟩ := fun h => by obtain ⟨b, o, e, _⟩ := sl_elem SL.out.1 h; exact ⟨b, o, e⟩
  generalize filtersOk l = q at *
  clear ho hb hf hln hf2 DR
  go_wp2_with fail
  refine (C1.out _ (Below.refl _ _)).mono ?_
  rintro e w2 ⟨rfl, hb⟩
  have H2 := hid hb
  have b0 : (q != q) = false := by simp
  have b1 : (q == q) = true := by simp
  clear hb
  go_wp2_with fail
  refine (C2.out _ H2.out).mono ?_
  rintro e w3 ⟨rfl, hb⟩
  have H3 := hid (H2.out.trans (hb.mono H2.out.size))
  clear hb H2
  cases q with
  | false =>
    go_wp2_with fail
    refine (C2.out _ H3.out).mono ?_
    rintro e w4 ⟨rfl, hb⟩
    have H4 := hid (HB.out.trans ((H3.out.trans (hb.mono H3.out.size)).mono HB.out.size))
    clear hb
    go_wp2_with fail
    go_ret
    exact ⟨rfl, H4.out⟩
  | true =>
    rcases Nat.eq_zero_or_pos n with hz | hz
    · subst hz
      have H4 := hid (HB.out.trans (H3.out.mono HB.out.size))
      go_wp2_with fail
      go_ret
      exact ⟨rfl, H4.out⟩
    · have q0 : ((n : Int) == 0) = false := by simp; omega
      have q1 : IntKind.i64.wrap ((n : Int) - 1) = (n : Int) - 1 := by rw [IntKind.wrap_i64]; omega
      have q2 : (0 : Int) ≤ (n : Int) - 1 := by omega
      have q3 : ((n : Int) - 1).toNat = n - 1 := by omega
      have q4 : (n : Int) - 1 ≤ (c : Int) := by omega
      obtain ⟨b, o, hA⟩ := HA hz
      replace K1 := hid (K1.out rfl hz)
      replace K2 := hid (K2.out rfl hz b o hA)
      subst hA
      clear HA
      go_wp2_with fail
      refine (K1.out _ H3.out).mono ?_
      rintro e w4 ⟨rfl, hb⟩
      have H4 := hid (H3.out.trans (hb.mono H3.out.size))
      clear hb H3
      have q5 : (1 : Int) ≤ (n : Int) := by omega
      by_cases hc : c = 1
      · obtain rfl : n = 1 := by omega
        subst hc
        go_wp2_with fail
        refine (KE.out _ _ (by unfold maxLen; omega) _).mono ?_
        rintro e w5 ⟨rfl, hb⟩
        have H5 := hid (HB.out.trans ((H4.out.trans (hb.mono H4.out.size)).mono HB.out.size))
        clear hb
        go_wp2_with fail
        go_ret
        exact ⟨rfl, H5.out⟩
      · go_wp2_with fail
        refine (K2.out _ H4.out).mono ?_
        rintro e w5 ⟨rfl, hb⟩
        have H5 := hid (HB.out.trans ((H4.out.trans (hb.mono H4.out.size)).mono HB.out.size))
        clear hb
        go_wp2_with fail
        go_ret
        exact ⟨rfl, H5.out⟩
end Go.Proofs.Ytickapeifbhbeaa
