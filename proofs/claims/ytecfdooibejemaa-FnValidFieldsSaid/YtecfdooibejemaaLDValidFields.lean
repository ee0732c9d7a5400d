/-
  WALK: the law FnValidFields. By gen_valid2.py.
-/
import Derived.Test.YtecfdooibejemaaD15
import Derived.Test.YtecfdooibejemaaR11
import Derived.Test.YtecfdooibejemaaR12
namespace Go.Proofs.Ytecfdooibejemaa
open Go.RowKit Nm
set_option linter.unusedSimpArgs false
set_option linter.unusedVariables false

theorem IsRow.leV {k : IntKind} {w : World} {a : Option Addr} {len cap : Nat} {z : List Int} (h : IsRow k w a len cap z) : len ≤ 9223372036854775807 := by
  rcases h with ⟨_, h, _, _⟩ | ⟨x, _, h1, h2, _⟩
  · omega
  · unfold maxLen at h2; omega
theorem fldsOk_iff {l : List Fld} : fldsOk l = true ↔ (∀ f ∈ l, wordOk f.ky = true ∧ wordOk f.vl = true) ∧ (keysOf l).Nodup ∧ l.length ≤ 5 := by
  unfold fldsOk allAt
  simp only [Bool.and_eq_true, List.all_eq_true, List.mem_range, decide_eq_true_eq]
  constructor
  · rintro ⟨h, h5⟩
    refine ⟨fun f hf => ?_, ?_, h5⟩
    · obtain ⟨i, hi, e⟩ := List.getElem_of_mem hf
      have h1 := h i hi
      rw [fitem_eq (show l[i]? = some f by rw [List.getElem?_eq_getElem hi, e])] at h1
      simp only [Bool.and_eq_true] at h1
      exact ⟨h1.1, h1.2.1⟩
    · refine List.pairwise_iff_getElem.2 fun i j hi hj hij e => ?_
      have hjl : j < l.length := by simpa [keysOf] using hj
      have h1 := h j hjl
      rw [fitem_eq (List.getElem?_eq_getElem hjl)] at h1
      simp only [Bool.and_eq_true, Bool.not_eq_true', decide_eq_false_iff_not] at h1
      refine h1.2.2 ?_
      have e2 : (keysOf l)[j]? = some (l[j]).ky := keysOf_at (List.getElem?_eq_getElem hjl)
      rw [List.getElem?_eq_getElem hj] at e2
      exact List.mem_of_getElem? (show ((keysOf l).take j)[i]? = some _ by rw [List.getElem?_take_of_lt hij, List.getElem?_eq_getElem hi, e]; exact e2)
  · rintro ⟨h, hn, h5⟩
    refine ⟨fun i hi => ?_, h5⟩
    rw [fitem_eq (List.getElem?_eq_getElem hi)]
    have h1 := h _ (List.getElem_mem hi)
    simp only [Bool.and_eq_true, Bool.not_eq_true', decide_eq_false_iff_not]
    refine ⟨h1.1, h1.2, fun hm => ?_⟩
    obtain ⟨j, hj⟩ := List.mem_iff_getElem?.1 hm
    rw [List.getElem?_take] at hj
    split at hj
    · rename_i hji
      have hil : i < (keysOf l).length := by simpa [keysOf] using hi
      have hjl : j < (keysOf l).length := by omega
      refine List.pairwise_iff_getElem.1 hn j i hjl hil hji ?_
      have e1 := keysOf_at (List.getElem?_eq_getElem hi)
      rw [List.getElem?_eq_getElem hil] at e1
      rw [List.getElem?_eq_getElem hjl] at hj
      rw [Option.some.inj hj, Option.some.inj e1]
    · cases hj
theorem fldsOk_take {l : List Fld} {k : Nat} (h : fldsOk l = true) : fldsOk (l.take k) = true := by
  rw [fldsOk_iff] at h ⊢
  exact ⟨fun f hf => h.1 f (List.mem_of_mem_take hf), by unfold keysOf; rw [List.map_take]; exact h.2.1.sublist (List.take_sublist _ _), by rw [List.length_take]; omega⟩
theorem fldsOk_drop {l : List Fld} {k : Nat} (h : fldsOk l = true) : fldsOk (l.drop k) = true := by
  rw [fldsOk_iff] at h ⊢
  exact ⟨fun f hf => h.1 f (List.mem_of_mem_drop hf), by unfold keysOf; rw [List.map_drop]; exact h.2.1.sublist (List.drop_sublist _ _), by rw [List.length_drop]; omega⟩
theorem Flds.take {w : World} {B n c : Nat} {A : Option Addr} {l : List Fld} (h : Flds w B n (.slice A n c) l) {k : Nat} (hk : k ≤ n) : Flds w B k (.slice A k c) (l.take k) :=
  ⟨by rw [← flat_takeK fdcells 2 fdcells_len]; exact h.1.cutK hk, fun x hx => h.2 x (List.mem_of_mem_take hx)⟩
theorem Flds.tail {w : World} {B n c b o : Nat} {l : List Fld} (h : Flds w B n (.slice (some ⟨b, o, none⟩) n c) l) (hk : 1 ≤ n) : Flds w B (n - 1) (.slice (some ⟨b, o + 1 * 2, none⟩) (n - 1) (c - 1)) (l.drop 1) :=
  ⟨by rw [← flat_drop fdcells 2 fdcells_len]; exact h.1.from_ (k := 1) hk, fun x hx => h.2 x (List.mem_of_mem_drop hx)⟩

set_option maxHeartbeats 4000000 in
set_option maxRecDepth 100000 in
theorem walk_FnValidFields (a0 : Option Addr) (len0 cap0 : Nat) (z0 : List Int) (w : World) (w0 : IsRow .u8 w a0 len0 cap0 z0) :
    Calls Try.prog 9 #[.slice a0 len0 cap0] w (BoolPost w true) := by
  have hb0 := w0.leV
  by_cases h1 : (1048576 : Int) < (len0 : Int)
  · go_enter Try.func9, Try.ntmps9
    go_wp2_with fail
    go_ret
    exact ⟨rfl, Below.refl _ _⟩
  have DR := hid (drawValidFields_c a0 len0 cap0 z0 w w0)
  clear w0
  go_enter Try.func9, Try.ntmps9
  go_wp2_with fail
  refine DR.out.mono ?_
  rintro e w1 ⟨v, l, n, rfl, ho, hb, hf, hln, hn⟩
  obtain ⟨A, c, rfl, hnc, hcm⟩ := (Sl.of_own ho).form
  unfold maxLen at hcm
  have SL := hid (show Flds w1 w1.heap.size n (.slice A n c) l from ⟨Sl.of_own ho, fun x hx => by have h := hf x hx; unfold fdcellsFit maxTxt; omega⟩)
  have HB := hid hb
  have C1 := hid (fun (W : World) (hW : Below w1.heap.size w1 W) => implValidFields_c (.slice A n c) n w1.heap.size l W (SL.out.below hW (Nat.le_refl _)) hW.size)
  have C2 := hid (fun (W : World) (hW : Below w1.heap.size w1 W) => specValidFieldsX_c (.slice A n c) n w1.heap.size l W (SL.out.below hW (Nat.le_refl _)) hW.size)
  have K1 := hid (fun (hq : fldsOk l = true) (hn0 : 0 < n) (W : World) (hW : Below w1.heap.size w1 W) => (show Calls Try.prog 23 #[.slice A (n - 1) c] W (BoolPost W true) by
    have h9 := implValidFields_c (.slice A (n - 1) c) (n - 1) w1.heap.size (l.take (n - 1)) W ((SL.out.below hW (Nat.le_refl _)).take (by omega)) hW.size
    rwa [fldsOk_take hq] at h9))
  have K2 := hid (fun (hq : fldsOk l = true) (hn0 : 0 < n) (b o : Nat) (hA : A = some ⟨b, o, none⟩) (W : World) (hW : Below w1.heap.size w1 W) => (show Calls Try.prog 23 #[.slice (some ⟨b, o + 1 * 2, none⟩) (n - 1) (c - 1)] W (BoolPost W true) by
    subst hA
    have h9 := implValidFields_c (.slice (some ⟨b, o + 1 * 2, none⟩) (n - 1) (c - 1)) (n - 1) w1.heap.size (l.drop 1) W ((SL.out.below hW (Nat.le_refl _)).tail (by omega)) hW.size
    rwa [fldsOk_drop hq] at h9))
  have KE := hid (fun (A9 : Option Addr) (c9 : Nat) (h9 : c9 ≤ maxLen) (W : World) => (show Calls Try.prog 23 #[.slice A9 0 c9] W (BoolPost W true) from
    implValidFields_c (.slice A9 0 c9) 0 W.heap.size [] W ⟨⟨rfl, A9, c9, rfl, Nat.zero_le _, h9, fun h => by omega⟩, fun f h => by cases h⟩ (Nat.le_refl _)))
  have HA : 0 < n → ∃ b o, A = some ⟨b, o, none⟩ := fun h => by obtain ⟨b, o, e, _⟩ := sl_elem SL.out.1 h; exact ⟨b, o, e⟩
  generalize fldsOk l = q at *
  clear ho hb hf hln DR
  go_wp2_with fail
  refine (C1.out _ (Below.refl _ _)).mono ?_
  rintro e w2 ⟨rfl, hb⟩
  have H2 := hid hb
  have b0 : (q != q) = false := by simp
  have b1 : (q == q) = true := by simp
  clear hb
  go_wp2_with fail
  refine (C2.out _ H2.out).mono ?_
  rintro e w3 ⟨rfl, hb⟩
  have H3 := hid (H2.out.trans (hb.mono H2.out.size))
  clear hb H2
  cases q with
  | false =>
    go_wp2_with fail
    refine (C2.out _ H3.out).mono ?_
    rintro e w4 ⟨rfl, hb⟩
    have H4 := hid (HB.out.trans ((H3.out.trans (hb.mono H3.out.size)).mono HB.out.size))
    clear hb
    go_wp2_with fail
    go_ret
    exact ⟨rfl, H4.out⟩
  | true =>
    rcases Nat.eq_zero_or_pos n with hz | hz
    · subst hz
      have H4 := hid (HB.out.trans (H3.out.mono HB.out.size))
      go_wp2_with fail
      go_ret
      exact ⟨rfl, H4.out⟩
    · have q0 : ((n : Int) == 0) = false := by simp; omega
      have q1 : IntKind.i64.wrap ((n : Int) - 1) = (n : Int) - 1 := by rw [IntKind.wrap_i64]; omega
      have q2 : (0 : Int) ≤ (n : Int) - 1 := by omega
      have q3 : ((n : Int) - 1).toNat = n - 1 := by omega
      have q4 : (n : Int) - 1 ≤ (c : Int) := by omega
      obtain ⟨b, o, hA⟩ := HA hz
      replace K1 := hid (K1.out rfl hz)
      replace K2 := hid (K2.out rfl hz b o hA)
      subst hA
      clear HA
      go_wp2_with fail
      refine (K1.out _ H3.out).mono ?_
      rintro e w4 ⟨rfl, hb⟩
      have H4 := hid (H3.out.trans (hb.mono H3.out.size))
      clear hb H3
      have q5 : (1 : Int) ≤ (n : Int) := by omega
      by_cases hc : c = 1
      · obtain rfl : n = 1 := by omega
        subst hc
        go_wp2_with fail
        refine (KE.out _ _ (by unfold maxLen; omega) _).mono ?_
        rintro e w5 ⟨rfl, hb⟩
        have H5 := hid (HB.out.trans ((H4.out.trans (hb.mono H4.out.size)).mono HB.out.size))
        clear hb
        go_wp2_with fail
        go_ret
        exact ⟨rfl, H5.out⟩
      · go_wp2_with fail
        refine (K2.out _ H4.out).mono ?_
        rintro e w5 ⟨rfl, hb⟩
        have H5 := hid (HB.out.trans ((H4.out.trans (hb.mono H4.out.size)).mono HB.out.size))
        clear hb
        go_wp2_with fail
        go_ret
        exact ⟨rfl, H5.out⟩
end Go.Proofs.Ytecfdooibejemaa
