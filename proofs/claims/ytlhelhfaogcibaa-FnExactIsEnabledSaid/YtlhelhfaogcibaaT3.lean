/-
  WALKS: differentHandlers, validHandlers, validLoggers, ValidTree of the program.
-/
import Derived.Test.YtlhelhfaogcibaaT2
namespace Go.Proofs.Ytlhelhfaogcibaa
open Go.RowKit Nm
set_option linter.unusedSimpArgs false
set_option linter.unusedVariables false

theorem set_congr {w : World} {b n : Nat} {f g : List UInt8 → Bool} (h : SetM w b n f) (e : ∀ l, f l = g l) : SetM w b n g := by
  have : f = g := funext e
  rwa [← this]
theorem take_mem (ns : List (List UInt8)) (k : Nat) (x y : List UInt8) (h : ns[k]? = some x) : (y ∈ ns.take (k + 1)) ↔ (y = x ∨ y ∈ ns.take k) := by
  rw [List.take_add_one, h]
  simp only [List.mem_append]
  constructor
  · rintro (h | h)
    · exact .inr h
    · exact .inl (by simpa using h)
  · rintro (h | h)
    · exact .inr (by simpa using h)
    · exact .inl h
theorem nodup_step (ns : List (List UInt8)) (k : Nat) (x : List UInt8) (hx : ns[k]? = some x) (h : (ns.take k).Nodup) (hn : x ∉ ns.take k) : (ns.take (k + 1)).Nodup := by
  rw [List.take_add_one, hx]
  exact List.nodup_append.2 ⟨h, by simp, by intro a ha b hb e; simp at hb; subst hb; subst e; exact hn ha⟩
theorem drop_cons' (l : List (List UInt8)) (p : Nat) (c : List UInt8) (h : l[p]? = some c) : l.drop p = c :: l.drop (p + 1) := by
  obtain ⟨hl, rfl⟩ := List.getElem?_eq_some_iff.1 h
  exact List.drop_eq_getElem_cons hl
theorem not_nodup (ns : List (List UInt8)) (k : Nat) (x : List UInt8) (hx : ns[k]? = some x) (h : x ∈ ns.take k) : ¬ ns.Nodup := by
  intro hn
  have e : ns = ns.take k ++ ns.drop k := (List.take_append_drop k ns).symm
  rw [e, List.nodup_append] at hn
  exact hn.2.2 x h x (by rw [drop_cons' ns k x hx]; simp) rfl

set_option maxHeartbeats 4000000 in
set_option maxRecDepth 100000 in
theorem different_c (v1 v2 : Value) (n1 n2 B : Nat) (l : List (List UInt8)) (hs : List HndV) (w : World) (h1 : Txts w B n1 v1 l) (h2 : Hs w B n2 v2 hs) (hB : B ≤ w.heap.size) (hb1 : n1 ≤ 1048576) (hb2 : n2 ≤ 1048576) :
    Calls Try.prog 94 #[v1, v2] w (BoolPost w (l.all (fun x => decide (x ∈ hnames hs)) && decide l.Nodup)) := by
  have c1 := h1.count
  have c2 := h2.count
  obtain ⟨A1, k1, rfl, _, _⟩ := h1.1.form
  obtain ⟨A2, k2, rfl, _, _⟩ := h2.1.form
  have HV := hid (And.intro h1 (And.intro h2 (And.intro c1 c2)))
  clear h1 h2 c1 c2
  have hmm := @run_makeMap Try.prog
  go_enter Try.func94, Try.ntmps94
  go_wp2_with fail
  clear hmm
  go_loopw [13] (fun iv wr => ∃ k : Nat, iv = .int .i64 k ∧ k ≤ n2 ∧ SetM wr w.heap.size k (fun x => decide (x ∈ (hnames hs).take k)) ∧ Below w.heap.size w wr) (fun iv _ => n2 - (intOf iv).toNat)
  case atStart => exact ⟨0, rfl, by omega, set_congr (SetM.made w) (by simp), (Below.refl _ _).alloc (Nat.le_refl _) _⟩
  case round =>
    obtain ⟨k, rfl, hk, hM, hW⟩ := hrel
    by_cases hlt : k < n2
    · obtain ⟨b, o, x, t, rfl, hb, hx, ht, hts, hF, g0, g1, g2⟩ := HV.out.2.1.at_ hlt
      obtain ⟨A3, k3, hfv, _, _⟩ := hF.1.form
      rw [hfv] at g2
      have c0 : wr.cell? ⟨b, o + k * 3, none⟩ = some (.string t) := (hW.cell (p := ⟨b, o + k * 3, none⟩) (by show b < _; omega)).trans g0
      have c1 : wr.cell? ⟨b, o + k * 3 + 1, none⟩ = some (.int .i64 x.h.lv) := (hW.cell (p := ⟨b, o + k * 3 + 1, none⟩) (by show b < _; omega)).trans g1
      have c2 : wr.cell? ⟨b, o + k * 3 + 2, none⟩ = some (.slice A3 x.fn k3) := (hW.cell (p := ⟨b, o + k * 3 + 2, none⟩) (by show b < _; omega)).trans g2
      have hxn : (hnames hs)[k]? = some t.data.toList := by unfold hnames; rw [List.getElem?_map, hx, ht]; rfl
      have HX := hid hxn
      have hM2 := hid (hM.kept (World.grownBy_alloc wr (.cells #[.string t, .int .i64 x.h.lv, .slice A3 x.fn k3] 91) none) (by simp))
      have HW := hid hW
      have hmt : t.size ≤ maxLen := by unfold maxTxt at hts; unfold maxLen; omega
      clear hx ht hxn g0 g1 g2 hF hfv hM hW
      go_wp2_with (at_mapUpdate; refine wpList_setM _ hM2.out rfl _ _ _ rfl rfl (by unfold maxLen; omega) t hmt true rfl rfl ?_)
      intro w1 hM3 hg1
      have HM3 := hid (set_congr hM3 (g := fun y => decide (y ∈ (hnames hs).take (k + 1))) (by intro y; rw [Bool.eq_iff_iff]; simp only [take_mem _ _ _ _ HX.out]; by_cases e : y = t.data.toList <;> simp [e]))
      have HW1 := hid ((HW.out.alloc HW.out.size (.cells #[.string t, .int .i64 x.h.lv, .slice A3 x.fn k3] 91)).grown hg1 (by have := HW.out.size; simp; omega) (by intro q hq; cases hq; exact Nat.le_refl _))
      clear hM3 hg1 c0 c1 c2
      go_wp2_with fail
      go_roundw
      case rel => exact ⟨k + 1, by go_num, by omega, HM3.out, HW1.out⟩
      case measure => simp [intOf]; omega
    · have hk2 : k = n2 := by omega
      have HM := hid (set_congr hM (g := fun y => decide (y ∈ hnames hs)) (by intro y; rw [List.take_of_length_le (by unfold hnames; simp; have := HV.out.2.2.2; omega)]))
      have HW := hid hW
      clear hM hW
      subst hk2
      obtain ⟨wo, rfl⟩ : ∃ wo : World, wo = wr := ⟨_, rfl⟩
      go_wp2_with fail
      go_loopw [23] (fun iv wx => ∃ i : Nat, iv = .int .i64 i ∧ i ≤ n1 ∧ Hid ((l.take i).all (fun x => decide (x ∈ hnames hs)) = true ∧ (l.take i).Nodup) ∧ SetM wx w.heap.size (k + i) (fun y => decide (y ∈ hnames hs) && !decide (y ∈ l.take i)) ∧ Below w.heap.size w wx) (fun iv _ => n1 - (intOf iv).toNat)
      case atStart => exact ⟨0, rfl, by omega, ⟨by simp, by simp⟩, set_congr HM.out (by simp), HW.out⟩
      case round =>
        obtain ⟨i, rfl, hi, HA, hM, hW⟩ := hrel
        by_cases hlt2 : i < n1
        · obtain ⟨b, o, t, rfl, hb, hxn, hts, g0⟩ := HV.out.1.text hlt2
          have c0 : wr.cell? ⟨b, o + i, none⟩ = some (.string t) := (hW.cell (p := ⟨b, o + i, none⟩) (by show b < _; omega)).trans g0
          have hmt : t.size ≤ maxLen := by unfold maxTxt at hts; unfold maxLen; omega
          have hlook := hM.look t hmt
          have HX := hid hxn
          have HMx := hid hM
          have HWx := hid hW
          clear hxn g0 hM hW hb
          cases hf : (decide (t.data.toList ∈ hnames hs) && !decide (t.data.toList ∈ l.take i)) with
          | false =>
            rw [hf] at hlook
            have HF := hid (show (l.all (fun x => decide (x ∈ hnames hs)) && decide l.Nodup) = false by
              cases ha : (l.all (fun x => decide (x ∈ hnames hs)) && decide l.Nodup) with
              | false => rfl
              | true =>
                simp only [Bool.and_eq_true, List.all_eq_true, decide_eq_true_eq] at ha
                have h1 := ha.1 _ (List.mem_of_getElem? HX.out)
                rw [decide_eq_true h1, Bool.true_and, Bool.not_eq_false', decide_eq_true_eq] at hf
                exact absurd ha.2 (not_nodup l i _ HX.out hf))
            clear hf
            go_wp2_with fail
            go_ret
            exact ⟨ret_bool HF.out.symm, HWx.out⟩
          | true =>
            rw [hf] at hlook
            simp only [Bool.and_eq_true, decide_eq_true_eq, Bool.not_eq_true', decide_eq_false_iff_not] at hf
            have HF := hid hf
            clear hf
            go_wp2_with (at_mapUpdate; refine wpList_setM _ HMx.out rfl _ _ _ rfl rfl (by unfold maxLen; omega) t hmt false rfl rfl ?_)
            intro w1 hM3 hg1
            have HM3 := hid (set_congr hM3 (g := fun y => decide (y ∈ hnames hs) && !decide (y ∈ l.take (i + 1))) (by intro y; rw [Bool.eq_iff_iff]; by_cases e : y = t.data.toList <;> simp [take_mem _ _ _ _ HX.out, e]))
            have HW1 := hid (HWx.out.grown hg1 HWx.out.size (by intro q hq; cases hq; exact Nat.le_refl _))
            clear hM3 hg1 hlook c0
            go_wp2_with fail
            go_roundw
            case rel =>
              refine ⟨i + 1, by go_num, by omega, ⟨?_, nodup_step l i _ HX.out HA.out.2 HF.out.2⟩, HM3.out, HW1.out⟩
              rw [List.take_add_one, HX.out]
              simp only [List.all_append, HA.out.1, Bool.true_and]
              simp [HF.out.1]
            case measure => simp [intOf]; omega
        · have hi2 : i = n1 := by omega
          have HF := hid (show (l.all (fun x => decide (x ∈ hnames hs)) && decide l.Nodup) = true by
            have h1 := HA.out
            rw [List.take_of_length_le (by have := HV.out.2.2.1; omega)] at h1
            rw [h1.1, decide_eq_true h1.2]; rfl)
          have HWx := hid hW
          clear hM hW
          go_wp2_with fail
          go_ret
          exact ⟨ret_bool HF.out.symm, HWx.out⟩
end Go.Proofs.Ytlhelhfaogcibaa
