/-
  WALK: the law FnValidRules. By gen_valid2.py.
-/
import Derived.Test.YtecfdooibejemaaD14
import Derived.Test.YtecfdooibejemaaR10
import Derived.Test.YtecfdooibejemaaR11
namespace Go.Proofs.Ytecfdooibejemaa
open Go.RowKit Nm
set_option linter.unusedSimpArgs false
set_option linter.unusedVariables false

theorem IsRow.leV {k : IntKind} {w : World} {a : Option Addr} {len cap : Nat} {z : List Int} (h : IsRow k w a len cap z) : len ≤ 9223372036854775807 := by
  rcases h with ⟨_, h, _, _⟩ | ⟨x, _, h1, h2, _⟩
  · omega
  · unfold maxLen at h2; omega
theorem rulsOk_take {l : List Rul} {k : Nat} (h : rulsOk l = true) : rulsOk (l.take k) = true := by
  unfold rulsOk at h ⊢
  simp only [Bool.and_eq_true, List.all_eq_true, decide_eq_true_eq] at h ⊢
  exact ⟨fun x hx => h.1 x (List.mem_of_mem_take hx), by rw [List.length_take]; omega⟩
theorem rulsOk_drop {l : List Rul} {k : Nat} (h : rulsOk l = true) : rulsOk (l.drop k) = true := by
  unfold rulsOk at h ⊢
  simp only [Bool.and_eq_true, List.all_eq_true, decide_eq_true_eq] at h ⊢
  exact ⟨fun x hx => h.1 x (List.mem_of_mem_drop hx), by rw [List.length_drop]; omega⟩
theorem Ruls.take {w : World} {B n c : Nat} {A : Option Addr} {l : List Rul} (h : Ruls w B n (.slice A n c) l) {k : Nat} (hk : k ≤ n) : Ruls w B k (.slice A k c) (l.take k) :=
  ⟨by rw [← flat_takeK rucells 4 rucells_len]; exact h.1.cutK hk, fun x hx => h.2 x (List.mem_of_mem_take hx)⟩
theorem Ruls.tail {w : World} {B n c b o : Nat} {l : List Rul} (h : Ruls w B n (.slice (some ⟨b, o, none⟩) n c) l) (hk : 1 ≤ n) : Ruls w B (n - 1) (.slice (some ⟨b, o + 1 * 4, none⟩) (n - 1) (c - 1)) (l.drop 1) :=
  ⟨by rw [← flat_drop rucells 4 rucells_len]; exact h.1.from_ (k := 1) hk, fun x hx => h.2 x (List.mem_of_mem_drop hx)⟩

set_option maxHeartbeats 4000000 in
set_option maxRecDepth 100000 in
theorem walk_FnValidRules (a0 : Option Addr) (len0 cap0 : Nat) (z0 : List Int) (w : World) (w0 : IsRow .u8 w a0 len0 cap0 z0) :
    Calls Try.prog 8 #[.slice a0 len0 cap0] w (BoolPost w true) := by
  have hb0 := w0.leV
  by_cases h1 : (1048576 : Int) < (len0 : Int)
  · go_enter Try.func8, Try.ntmps8
    go_wp2_with fail
    go_ret
    exact ⟨rfl, Below.refl _ _⟩
  have DR := hid (drawValidRules_c a0 len0 cap0 z0 w w0)
  clear w0
  go_enter Try.func8, Try.ntmps8
  go_wp2_with fail
  refine DR.out.mono ?_
  rintro e w1 ⟨v, l, n, rfl, ho, hb, hf, hln, hn⟩
  obtain ⟨A, c, rfl, hnc, hcm⟩ := (Sl.of_own ho).form
  unfold maxLen at hcm
  have SL := hid (show Ruls w1 w1.heap.size n (.slice A n c) l from ⟨Sl.of_own ho, fun x hx => by have h := hf x hx; unfold rucellsFit maxTxt; omega⟩)
  have HB := hid hb
  have C1 := hid (fun (W : World) (hW : Below w1.heap.size w1 W) => implValidRules_c (.slice A n c) n w1.heap.size l W (SL.out.below hW (Nat.le_refl _)) hW.size)
  have C2 := hid (fun (W : World) (hW : Below w1.heap.size w1 W) => specValidRulesX_c (.slice A n c) n w1.heap.size l W (SL.out.below hW (Nat.le_refl _)) hW.size)
  have K1 := hid (fun (hq : rulsOk l = true) (hn0 : 0 < n) (W : World) (hW : Below w1.heap.size w1 W) => (show Calls Try.prog 13 #[.slice A (n - 1) c] W (BoolPost W true) by
    have h9 := implValidRules_c (.slice A (n - 1) c) (n - 1) w1.heap.size (l.take (n - 1)) W ((SL.out.below hW (Nat.le_refl _)).take (by omega)) hW.size
    rwa [rulsOk_take hq] at h9))
  have K2 := hid (fun (hq : rulsOk l = true) (hn0 : 0 < n) (b o : Nat) (hA : A = some ⟨b, o, none⟩) (W : World) (hW : Below w1.heap.size w1 W) => (show Calls Try.prog 13 #[.slice (some ⟨b, o + 1 * 4, none⟩) (n - 1) (c - 1)] W (BoolPost W true) by
    subst hA
    have h9 := implValidRules_c (.slice (some ⟨b, o + 1 * 4, none⟩) (n - 1) (c - 1)) (n - 1) w1.heap.size (l.drop 1) W ((SL.out.below hW (Nat.le_refl _)).tail (by omega)) hW.size
    rwa [rulsOk_drop hq] at h9))
  have KE := hid (fun (A9 : Option Addr) (c9 : Nat) (h9 : c9 ≤ maxLen) (W : World) => (show Calls Try.prog 13 #[.slice A9 0 c9] W (BoolPost W true) from
    implValidRules_c (.slice A9 0 c9) 0 W.heap.size [] W ⟨⟨rfl, A9, c9, rfl, Nat.zero_le _, h9, fun h => by omega⟩, fun f h => by cases h⟩ (Nat.le_refl _)))
  have HA : 0 < n → ∃ b o, A = some ⟨b, o, none⟩ := fun h => by obtain ⟨b, o, e, _⟩ := sl_elem SL.out.1 h; exact ⟨b, o, e⟩
  generalize rulsOk l = q at *
  clear ho hb hf hln DR
  go_wp2_with fail
  refine (C1.out _ (Below.refl _ _)).mono ?_
  rintro e w2 ⟨rfl, hb⟩
  have H2 := hid hb
  have b0 : (q != q) = false := by simp
  have b1 : (q == q) = true := by simp
  clear hb
  go_wp2_with fail
  refine (C2.out _ H2.out).mono ?_
  rintro e w3 ⟨rfl, hb⟩
  have H3 := hid (H2.out.trans (hb.mono H2.out.size))
  clear hb H2
  cases q with
  | false =>
    go_wp2_with fail
    refine (C2.out _ H3.out).mono ?_
    rintro e w4 ⟨rfl, hb⟩
    have H4 := hid (HB.out.trans ((H3.out.trans (hb.mono H3.out.size)).mono HB.out.size))
    clear hb
    go_wp2_with fail
    go_ret
    exact ⟨rfl, H4.out⟩
  | true =>
    rcases Nat.eq_zero_or_pos n with hz | hz
    · subst hz
      have H4 := hid (HB.out.trans (H3.out.mono HB.out.size))
      go_wp2_with fail
      go_ret
      exact ⟨rfl, H4.out⟩
    · have q0 : ((n : Int) == 0) = false := by simp; omega
      have q1 : IntKind.i64.wrap ((n : Int) - 1) = (n : Int) - 1 := by rw [IntKind.wrap_i64]; omega
      have q2 : (0 : Int) ≤ (n : Int) - 1 := by omega
      have q3 : ((n : Int) - 1).toNat = n - 1 := by omega
      have q4 : (n : Int) - 1 ≤ (c : Int) := by omega
      obtain ⟨b, o, hA⟩ := HA hz
      replace K1 := hid (K1.out rfl hz)
      replace K2 := hid (K2.out rfl hz b o hA)
      subst hA
      clear HA
      go_wp2_with fail
      refine (K1.out _ H3.out).mono ?_
      rintro e w4 ⟨rfl, hb⟩
      have H4 := hid (H3.out.trans (hb.mono H3.out.size))
      clear hb H3
      have q5 : (1 : Int) ≤ (n : Int) := by omega
      by_cases hc : c = 1
      · obtain rfl : n = 1 := by omega
        subst hc
        go_wp2_with fail
        refine (KE.out _ _ (by unfold maxLen; omega) _).mono ?_
        rintro e w5 ⟨rfl, hb⟩
        have H5 := hid (HB.out.trans ((H4.out.trans (hb.mono H4.out.size)).mono HB.out.size))
        clear hb
        go_wp2_with fail
        go_ret
        exact ⟨rfl, H5.out⟩
      · go_wp2_with fail
        refine (K2.out _ H4.out).mono ?_
        rintro e w5 ⟨rfl, hb⟩
        have H5 := hid (HB.out.trans ((H4.out.trans (hb.mono H4.out.size)).mono HB.out.size))
        clear hb
        go_wp2_with fail
        go_ret
        exact ⟨rfl, H5.out⟩
end Go.Proofs.Ytecfdooibejemaa
