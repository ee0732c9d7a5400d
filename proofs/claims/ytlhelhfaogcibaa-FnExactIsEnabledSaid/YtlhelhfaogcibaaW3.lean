/-
  WALKS: a name by the model (spec.validName, ValidName, PartsOf); to be below, by both; HasPrefix.
-/
import Derived.Test.YtlhelhfaogcibaaW2
namespace Go.Proofs.Ytlhelhfaogcibaa
open Go.RowKit Nm
set_option linter.unusedSimpArgs false
set_option linter.unusedVariables false

theorem nameOk_end (l : List UInt8) (h : (partsL l).all wordOk = true) : nameOk l = decide (((partsL l).length : Int) ≤ 4) := by
  unfold nameOk; rw [h, Bool.true_and]; apply decide_eq_decide.2; omega
theorem nameOk_no (l : List UInt8) (k : Nat) (x : List UInt8) (h : (partsL l)[k]? = some x) (hx : wordOk x = false) : nameOk l = false := by
  cases hn : nameOk l with
  | false => rfl
  | true => have := ((nameOk_iff l).1 hn).1 x (List.mem_of_getElem? h); rw [hx] at this; cases this
theorem parts_len (l : List UInt8) : (partsL l).length ≤ l.length + 1 := by have := total_parts l; omega
theorem all_snoc (f : List UInt8 → Bool) (l : List (List UInt8)) (k : Nat) (x : List UInt8) (h : (l.take k).all f = true) (hx : l[k]? = some x) (hf : f x = true) : (l.take (k + 1)).all f = true := by
  rw [List.take_add_one, hx]; simp [List.all_append, h, hf]
theorem txt_at (ws : List (List UInt8)) (k : Nat) (h : k < ws.length) : ∃ x : ByteArray, ws[k]? = some x.data.toList ∧ (ws.map txt)[k]? = some (.string x) := by
  refine ⟨⟨(ws[k]'h).toArray⟩, by simp, ?_⟩
  rw [List.getElem?_map, List.getElem?_eq_getElem h]; rfl
theorem len_le_total (ws : List (List UInt8)) (x : List UInt8) (h : x ∈ ws) : x.length ≤ total ws := by
  induction ws with
  | nil => cases h
  | cons a r ih =>
    simp only [total, List.map_cons, List.sum_cons]
    rcases List.mem_cons.1 h with rfl | h
    · omega
    · have := ih h; simp only [total] at this; omega
theorem word_size (l : List UInt8) (k : Nat) (x : List UInt8) (h : (partsL l)[k]? = some x) : x.length ≤ l.length + 1 := by
  have h1 := total_parts l
  have h2 : x.length ≤ total (partsL l) := by
    have hm := List.mem_of_getElem? h
    exact len_le_total _ _ hm
  omega

set_option maxHeartbeats 1000000 in
set_option maxRecDepth 100000 in
theorem validName_c (s : ByteArray) (w : World) (hs : s.size ≤ 1048576) :
    Calls Try.prog 40 #[.string s] w (BoolPost w (nameOk s.data.toList)) := by
  have hpl := parts_len s.data.toList
  rw [← Lib.size_eq] at hpl
  go_enter Try.func40, Try.ntmps40
  go_wp2_with fail
  refine (parts_c s w hs).mono ?_
  rintro e w1 ⟨v, rfl, ho, hb⟩
  obtain ⟨hl, A, c, rfl, hnc, hcm, hA⟩ := Sl.of_own ho
  have HA := hid hA
  have HB := hid hb
  clear ho hl hA hb
  go_wp2_with fail
  go_loop [4] (fun i => ∃ k : Nat, i = .int .i64 k ∧ k ≤ (partsL s.data.toList).length ∧ Hid (((partsL s.data.toList).take k).all wordOk = true)) (fun i => (partsL s.data.toList).length - (intOf i).toNat)
  case atStart => exact ⟨0, rfl, by omega, by simp [Hid]⟩
  case round =>
    obtain ⟨k, rfl, hk, HL⟩ := hrel
    by_cases hlt : k < (partsL s.data.toList).length
    · obtain ⟨b, o, rfl, hbB, hcell⟩ := HA.out (by omega)
      obtain ⟨x, hx1, hx2⟩ := txt_at _ k hlt
      have hcx := hcell k _ hx2
      have hxs := word_size _ _ _ hx1
      rw [← Lib.size_eq, ← Lib.size_eq] at hxs
      cases hw : wordOk x.data.toList with
      | true =>
        have hcall := validWord_c x w1 (by unfold maxLen; omega)
        rw [hw] at hcall
        have HW := hid (And.intro hx1 hw)
        clear hx1 hx2 hw hcell HA
        go_wp2_with fail
        refine hcall.mono ?_
        rintro e w2 ⟨rfl, rfl⟩
        go_wp2_with fail
        refine ⟨⟨k + 1, by go_num, by omega, all_snoc _ _ _ _ HL.out HW.out.1 HW.out.2⟩, by simp [intOf]; omega⟩
      | false =>
        have hcall := validWord_c x w1 (by unfold maxLen; omega)
        rw [hw] at hcall
        have HW := hid (And.intro hx1 hw)
        clear hx1 hx2 hw hcell HA
        go_wp2_with fail
        refine hcall.mono ?_
        rintro e w2 ⟨rfl, rfl⟩
        go_wp2_with fail
        go_ret
        exact ⟨ret_bool (nameOk_no _ k _ HW.out.1 HW.out.2).symm, HB.out⟩
    · have HE := hid (show nameOk s.data.toList = decide (((partsL s.data.toList).length : Int) ≤ 4) from nameOk_end _ (by have := HL.out; rwa [List.take_of_length_le (by omega)] at this))
      go_wp2_with fail
      go_ret
      exact ⟨ret_bool HE.out.symm, HB.out⟩

end Go.Proofs.Ytlhelhfaogcibaa
