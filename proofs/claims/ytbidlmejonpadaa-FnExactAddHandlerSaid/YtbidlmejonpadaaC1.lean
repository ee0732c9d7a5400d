/-
  TREES copied: the program's freshList, copyTree.
-/
import Derived.Test.YtbidlmejonpadaaMarks
namespace Go.Proofs.Ytbidlmejonpadaa
open Go.RowKit Nm
set_option linter.unusedSimpArgs false
set_option linter.unusedVariables false

theorem txts_one (l : List (List UInt8)) : ∀ u ∈ l.map txt, u.oneCell' = true := by
  intro u hu; obtain ⟨x, _, rfl⟩ := List.mem_map.1 hu; rfl
theorem flts_one (l : List Flt) : ∀ u ∈ fsCells l, u.oneCell' = true := by
  intro u hu
  obtain ⟨x, _, hx⟩ := List.mem_flatMap.1 hu
  simp only [fcells, List.mem_cons, List.not_mem_nil, or_false] at hx
  rcases hx with rfl | rfl | rfl <;> rfl
def sliceV (v : Value) : Prop := ∃ A n c, v = .slice A n c
theorem lgrs_one (l : List LgrV) (h : ∀ x ∈ l, sliceV x.hv ∧ sliceV x.fv) : ∀ u ∈ l.flatMap lcells, u.oneCell' = true := by
  intro u hu
  obtain ⟨x, hxm, hx⟩ := List.mem_flatMap.1 hu
  obtain ⟨⟨A, n, c, e1⟩, ⟨A', n', c', e2⟩⟩ := h x hxm
  simp only [lcells, List.mem_cons, List.not_mem_nil, or_false] at hx
  rcases hx with rfl | rfl | rfl | rfl | rfl | rfl <;> first | rfl | (rw [e1]; rfl) | (rw [e2]; rfl)
theorem hnds_one (l : List HndV) (h : ∀ x ∈ l, sliceV x.fv) : ∀ u ∈ l.flatMap hcells, u.oneCell' = true := by
  intro u hu
  obtain ⟨x, hxm, hx⟩ := List.mem_flatMap.1 hu
  obtain ⟨A', n', c', e2⟩ := h x hxm
  simp only [hcells, List.mem_cons, List.not_mem_nil, or_false] at hx
  rcases hx with rfl | rfl | rfl <;> first | rfl | (rw [e2]; rfl)

set_option maxHeartbeats 1000000 in
set_option maxRecDepth 100000 in
theorem freshText_c (v : Value) (n B : Nat) (l : List (List UInt8)) (w : World) (hv : Sl w B 1 n v (l.map txt)) (hn : n ≤ 1048576) :
    Calls Try.prog 114 #[v] w (RowPost w 9 1 n (l.map txt)) := by
  obtain ⟨A, c, rfl, hnc, hcm⟩ := hv.form
  obtain ⟨i0, hi, hz0, hz1, hz2⟩ := info_parts Try.infoStr
  have HV := hid hv
  clear hv
  go_enter Try.func114, Try.ntmps114
  go_wp2_with (at_builtin; refine wpList_appSl _ rfl _ _ 27 rfl w.heap.size 9 i0 _ 1 16 Try.underlying27 hi hz0 hz1 hz2 rfl (by decide) (.slice none 0 0) 0 [] (by rfl) (World.ownsRow_nil _ _ _ _) B n _ _ (by rfl) HV.out (txts_one l) (by unfold maxLen; omega) (by omega) (Nat.le_refl _) ?_)
  intro v' w' ho hb
  have HO := hid (show w'.ownsRow w.heap.size 9 1 v' n (l.map txt) by simpa using ho)
  have HB := hid hb
  clear ho hb
  go_wp2_with fail
  go_ret
  exact ⟨v', rfl, HO.out, HB.out⟩
set_option maxHeartbeats 1000000 in
set_option maxRecDepth 100000 in
theorem freshFlt_c (v : Value) (n B : Nat) (l : List Flt) (w : World) (hv : Sl w B 3 n v (fsCells l)) (hn : n ≤ 1048576) :
    Calls Try.prog 58 #[v] w (RowPost w 83 3 n (fsCells l)) := by
  obtain ⟨A, c, rfl, hnc, hcm⟩ := hv.form
  obtain ⟨i0, hi, hz0, hz1, hz2⟩ := info_parts Try.infoFlt
  have HV := hid hv
  clear hv
  go_enter Try.func58, Try.ntmps58
  go_wp2_with (at_builtin; refine wpList_appSl _ rfl _ _ 47 rfl w.heap.size 83 i0 _ 3 32 Try.underlying47 hi hz0 hz1 hz2 rfl (by decide) (.slice none 0 0) 0 [] (by rfl) (World.ownsRow_nil _ _ _ _) B n _ _ (by rfl) HV.out (flts_one l) (by unfold maxLen; omega) (by omega) (Nat.le_refl _) ?_)
  intro v' w' ho hb
  have HO := hid (show w'.ownsRow w.heap.size 83 3 v' n (fsCells l) by simpa using ho)
  have HB := hid hb
  clear ho hb
  go_wp2_with fail
  go_ret
  exact ⟨v', rfl, HO.out, HB.out⟩
set_option maxHeartbeats 1000000 in
set_option maxRecDepth 100000 in
theorem freshLgr_c (v : Value) (n B : Nat) (l : List LgrV) (w : World) (hv : Sl w B 6 n v (l.flatMap lcells)) (hs : ∀ x ∈ l, sliceV x.hv ∧ sliceV x.fv) (hn : n ≤ 1048576) :
    Calls Try.prog 113 #[v] w (RowPost w 65 6 n (l.flatMap lcells)) := by
  obtain ⟨A, c, rfl, hnc, hcm⟩ := hv.form
  obtain ⟨i0, hi, hz0, hz1, hz2⟩ := info_parts Try.infoLogger
  have HV := hid hv
  have HS := hid (lgrs_one l hs)
  clear hv hs
  go_enter Try.func113, Try.ntmps113
  go_wp2_with (at_builtin; refine wpList_appSl _ rfl _ _ 29 rfl w.heap.size 65 i0 _ 6 80 Try.underlying29 hi hz0 hz1 hz2 rfl (by decide) (.slice none 0 0) 0 [] (by rfl) (World.ownsRow_nil _ _ _ _) B n _ _ (by rfl) HV.out HS.out (by unfold maxLen; omega) (by omega) (Nat.le_refl _) ?_)
  intro v' w' ho hb
  have HO := hid (show w'.ownsRow w.heap.size 65 6 v' n (l.flatMap lcells) by simpa using ho)
  have HB := hid hb
  clear ho hb
  go_wp2_with fail
  go_ret
  exact ⟨v', rfl, HO.out, HB.out⟩
set_option maxHeartbeats 1000000 in
set_option maxRecDepth 100000 in
theorem freshHnd_c (v : Value) (n B : Nat) (l : List HndV) (w : World) (hv : Sl w B 3 n v (l.flatMap hcells)) (hs : ∀ x ∈ l, sliceV x.fv) (hn : n ≤ 1048576) :
    Calls Try.prog 115 #[v] w (RowPost w 49 3 n (l.flatMap hcells)) := by
  obtain ⟨A, c, rfl, hnc, hcm⟩ := hv.form
  obtain ⟨i0, hi, hz0, hz1, hz2⟩ := info_parts Try.infoHandler
  have HV := hid hv
  have HS := hid (hnds_one l hs)
  clear hv hs
  go_enter Try.func115, Try.ntmps115
  go_wp2_with (at_builtin; refine wpList_appSl _ rfl _ _ 30 rfl w.heap.size 49 i0 _ 3 48 Try.underlying30 hi hz0 hz1 hz2 rfl (by decide) (.slice none 0 0) 0 [] (by rfl) (World.ownsRow_nil _ _ _ _) B n _ _ (by rfl) HV.out HS.out (by unfold maxLen; omega) (by omega) (Nat.le_refl _) ?_)
  intro v' w' ho hb
  have HO := hid (show w'.ownsRow w.heap.size 49 3 v' n (l.flatMap hcells) by simpa using ho)
  have HB := hid hb
  clear ho hb
  go_wp2_with fail
  go_ret
  exact ⟨v', rfl, HO.out, HB.out⟩
theorem Ls.slices {w : World} {B n : Nat} {v : Value} {l : List LgrV} (h : Ls w B n v l) : ∀ x ∈ l, sliceV x.hv ∧ sliceV x.fv := fun x hx => by
  obtain ⟨_, h2, h3⟩ := h.2 x hx
  obtain ⟨A, c, e, _, _⟩ := h2.1.form
  obtain ⟨A', c', e', _, _⟩ := h3.1.form
  exact ⟨⟨A, _, c, e⟩, ⟨A', _, c', e'⟩⟩
theorem Hs.slices {w : World} {B n : Nat} {v : Value} {l : List HndV} (h : Hs w B n v l) : ∀ x ∈ l, sliceV x.fv := fun x hx => by
  obtain ⟨_, h3⟩ := h.2 x hx
  obtain ⟨A', c', e', _, _⟩ := h3.1.form
  exact ⟨A', _, c', e'⟩
end Go.Proofs.Ytbidlmejonpadaa
