/-
  A HANDLER TAKEN AWAY FROM A LOGGER: slices.DeleteFunc over texts, detach; the model's without.
-/
import Derived.Test.YtioegkcekbkblaaGreatDL1
import Derived.Test.YtioegkcekbkblaaGreatDL2
import Derived.Test.YtioegkcekbkblaaGreatUM
namespace Go.Proofs.YtioegkcekbkblaaGreat
open Go.RowKit Nm
set_option linter.unusedSimpArgs false
set_option linter.unusedVariables false

theorem Rows.app2 {w w' : World} {lo : Nat} {r r' : Row} {pre post : List Row} (h : Rows w lo (pre ++ r :: post)) (hg : w.grownBy w' r.v.ownBlock) (ho : r'.own w' lo) (hloc : ∀ z, r'.v.ownBlock = some z → r.v.ownBlock = some z ∨ w.heap.size ≤ z) :
    Rows w' lo (pre ++ r' :: post) := by
  have hp := List.pairwise_append.1 h.2
  have hp2 := List.pairwise_cons.1 hp.2.1
  have ap : ∀ x : Row, x.apart r → x.own w lo → x.apart r' := fun x hx hxo => by
    constructor
    · cases hq : x.v.ownBlock with
      | none => exact .inl rfl
      | some g =>
        right; intro e2
        rcases hloc g e2.symm with e | e
        · rcases hx.1 with h0 | h0
          · rw [hq] at h0; cases h0
          · exact h0 (hq.trans e.symm)
        · have := (hxo.lt g hq).2; omega
    · cases hq : r'.v.ownBlock with
      | none => exact .inl rfl
      | some g =>
        right; intro e2
        rcases hloc g hq with e | e
        · rcases hx.2 with h0 | h0
          · rw [e] at h0; cases h0
          · exact h0 (e.trans e2)
        · have := (hxo.lt g e2.symm).2; omega
  have own1 : ∀ x ∈ pre, x.own w lo := fun x hx => h.1 x (by simp [hx])
  have own2 : ∀ x ∈ post, x.own w lo := fun x hx => h.1 x (by simp [hx])
  refine ⟨fun x hx => ?_, ?_⟩
  · rcases List.mem_append.1 hx with hx | hx
    · exact (own1 x hx).kept hg (hp.2.2 x hx r (by simp)).1
    · rcases List.mem_cons.1 hx with rfl | hx
      · exact ho
      · exact (own2 x hx).kept hg (hp2.1 x hx).2
  · refine List.pairwise_append.2 ⟨hp.1, List.pairwise_cons.2 ⟨fun b hb => ?_, hp2.2⟩, fun a ha b hb => ?_⟩
    · exact (ap b (hp2.1 b hb).symm (own2 b hb)).symm
    · rcases List.mem_cons.1 hb with rfl | hb
      · exact ap a (hp.2.2 a ha r (by simp)) (own1 a ha)
      · exact hp.2.2 a ha b (by simp [hb])
/-- an element's inner row is another one, and one of its cells is set -/
theorem Rows.rowcell {α : Type} {w w' : World} {lo d e n g c i j q : Nat} {T : TypeId} {fc : α → List Value} {fr : α → List Row} {l : List α} {pre post : List Row} {x y : α} {r r' : Row} {u : Value} (hfc : ∀ x, (fc x).length = d) (hfr : ∀ x, (fr x).length = e)
    (h : Rows w lo (pre ++ two T d n (.slice (some ⟨g, 0, none⟩) n c) fc fr l ++ post)) (hx : l[i]? = some x) (hj : j < e) (hr : (fr x)[j]? = some r) (hg : w.grownBy w' r.v.ownBlock) (ho : r'.own w' lo) (hloc : ∀ z, r'.v.ownBlock = some z → r.v.ownBlock = some z ∨ w.heap.size ≤ z)
    (hq : q < d) (hc : fc y = (fc x).set q u) (hry : fr y = (fr x).set j r') : Rows (w'.setCell ⟨g, i * d + q, none⟩ u) lo (pre ++ two T d n (.slice (some ⟨g, 0, none⟩) n c) fc fr (l.set i y) ++ post) := by
  have hin : i * e + j < (l.flatMap fr).length := by
    have := flat_get fr e hfr l i j x hx hj
    rw [hr] at this
    exact (List.getElem?_eq_some_iff.1 this).1
  have hJ : (pre ++ two T d n (.slice (some ⟨g, 0, none⟩) n c) fc fr l ++ post)[pre.length + (1 + (i * e + j))]? = some r := by
    rw [two, List.append_assoc, List.getElem?_append_right (by omega), show pre.length + (1 + (i * e + j)) - pre.length = (i * e + j) + 1 by omega, List.cons_append, List.getElem?_cons_succ, List.getElem?_append_left hin, flat_get fr e hfr l i j x hx hj, hr]
  have hl := (List.getElem?_eq_some_iff.1 hJ).1
  generalize hrs : pre ++ two T d n (.slice (some ⟨g, 0, none⟩) n c) fc fr l ++ post = rs at *
  have e0 : rs = rs.take (pre.length + (1 + (i * e + j))) ++ r :: rs.drop (pre.length + (1 + (i * e + j)) + 1) := by
    have := (List.getElem?_eq_some_iff.1 hJ).2
    rw [← this, ← List.drop_eq_getElem_cons hl, List.take_append_drop]
  rw [e0] at h
  have h1 := h.app2 hg ho hloc
  have e9 : rs.take (pre.length + (1 + (i * e + j))) ++ r' :: rs.drop (pre.length + (1 + (i * e + j)) + 1) = rs.set (pre.length + (1 + (i * e + j))) r' := by rw [List.set_eq_take_append_cons_drop, if_pos hl]
  rw [e9] at h1
  have e1 : rs.set (pre.length + (1 + (i * e + j))) r' = pre ++ (⟨T, d, n, .slice (some ⟨g, 0, none⟩) n c, l.flatMap fc⟩ :: (l.set i y).flatMap fr) ++ post := by
    rw [← hrs, two, List.append_assoc, List.set_append_right _ _ (by omega), show pre.length + (1 + (i * e + j)) - pre.length = (i * e + j) + 1 by omega, List.cons_append, List.set_cons_succ, List.set_append_left _ _ hin, flat_set fr e hfr l i j x y _ hx hj hry]
    simp
  rw [e1] at h1
  have hs := (show w'.ownsRow lo T d (.slice (some ⟨g, 0, none⟩) n c) n (l.flatMap fc) from h1.1 ⟨T, d, n, .slice (some ⟨g, 0, none⟩) n c, l.flatMap fc⟩ (by simp)).stored (i * d + q) u
  have h2 := h1.put (j := pre.length) (r := ⟨T, d, n, .slice (some ⟨g, 0, none⟩) n c, l.flatMap fc⟩) (by rw [List.append_assoc, List.getElem?_append_right (Nat.le_refl _), Nat.sub_self]; simp) hs.2 hs.1
  rw [flat_set fc d hfc l i q x y u hx hq hc] at h2
  have e2 : (pre ++ (⟨T, d, n, .slice (some ⟨g, 0, none⟩) n c, l.flatMap fc⟩ :: (l.set i y).flatMap fr) ++ post).set pre.length ⟨T, d, n, .slice (some ⟨g, 0, none⟩) n c, (l.set i y).flatMap fc⟩ = pre ++ two T d n (.slice (some ⟨g, 0, none⟩) n c) fc fr (l.set i y) ++ post := by
    rw [List.append_assoc, List.set_append_right _ _ (Nat.le_refl _), Nat.sub_self, two]
    simp
  rw [e2] at h2
  exact h2

set_option maxHeartbeats 1000000 in
set_option maxRecDepth 100000 in
theorem detachFn_c (a s : ByteArray) (bx : Nat) (w : World) (hc : w.cell? ⟨bx, 0, none⟩ = some (.string s)) :
    Calls Tryz.prog 119 #[.string a, .pointer (some ⟨bx, 0, none⟩)] w (BoolPost w (decide (a.data.toList = s.data.toList))) := by
  have e0 := beq_txt a s
  go_enter Tryz.func119, Tryz.ntmps119
  go_wp2_with fail
  go_ret
  exact ⟨ret_bool (decide_eq_decide.2 Array.toList_inj.symm), by go_grown⟩

set_option maxHeartbeats 4000000 in
set_option maxRecDepth 100000 in
theorem indexTxtFn_c (v : Value) (n B bx : Nat) (l : List Name) (s : ByteArray) (w : World) (hv : Sl w B 1 n v (l.map txt)) (hB : B ≤ w.heap.size) (hc : w.cell? ⟨bx, 0, none⟩ = some (.string s)) :
    Calls Tryz.prog 139 #[v, .func (.func 119) #[] #[.pointer (some ⟨bx, 0, none⟩)]] w
      (fun e w' => e = .returned (.int .i64 (idxL l s.data.toList)) ∧ Below w.heap.size w w') := by
  have hlt0 : bx < w.heap.size := World.block_lt_of_cell? w _ hc
  have hln : l.length = n := by have := hv.1; simpa using this
  obtain ⟨A, c, rfl, hnc, hcm⟩ := hv.form
  unfold maxLen at hcm
  have HV := hid (And.intro hv hln)
  have HC := hid (And.intro hc hlt0)
  clear hv hln hc hlt0
  go_enter Tryz.func139, Tryz.ntmps139
  go_wp2_with fail
  go_loopw [5, 8] (fun av iv wr => ∃ (k : Nat) (u : Value), iv = .int .i64 k ∧ av = u ∧ k ≤ n ∧ Hid (¬ s.data.toList ∈ l.take k) ∧ Hid (Below w.heap.size w wr)) (fun _ iv _ => n - (intOf iv).toNat)
  case atStart => exact ⟨0, _, rfl, rfl, by omega, by simp [Hid], Below.refl _ _⟩
  case round =>
    obtain ⟨k, u, rfl, rfl, hk, HN, HB⟩ := hrel
    by_cases hlt : k < n
    · obtain ⟨b, o, a, rfl, hbB, hx, c0⟩ := (HV.out.1.below HB.out hB).text hlt
      have E := hid (detachFn_c a s bx wr ((HB.out.cell (p := ⟨bx, 0, none⟩) HC.out.2).trans HC.out.1))
      have HX := hid hx
      cases hz : decide (a.data.toList = s.data.toList) with
      | true =>
        rw [hz] at E
        have HZ := hid hz
        clear hx hz
        go_wp2_with (go_at_call 119; refine (E.out).mono ?_; rintro e w2 ⟨rfl, hb⟩)
        go_ret
        refine ⟨ret_int ?_, HB.out.trans (hb.mono HB.out.size)⟩
        have h := of_decide_eq_true HZ.out
        rw [idx_hit _ _ k (by rw [HX.out, h]) HN.out]
      | false =>
        rw [hz] at E
        have HZ := hid hz
        clear hx hz
        go_wp2_with (go_at_call 119; refine (E.out).mono ?_; rintro e w2 ⟨rfl, hb⟩)
        go_roundw
        case rel => exact ⟨k + 1, _, by go_num, rfl, by omega, not_take_succ _ _ _ _ HN.out HX.out (of_decide_eq_false HZ.out), HB.out.trans (hb.mono HB.out.size)⟩
        case measure => simp [intOf]; omega
    · have HE := hid (show ¬ s.data.toList ∈ l by
        have h := HN.out
        rwa [List.take_of_length_le (by have := HV.out.2; omega)] at h)
      go_wp2_with fail
      go_ret
      exact ⟨ret_int (by rw [idx_miss _ _ HE.out]), HB.out⟩
end Go.Proofs.YtioegkcekbkblaaGreat
