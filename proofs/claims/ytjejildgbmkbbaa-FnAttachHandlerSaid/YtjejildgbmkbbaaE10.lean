/-
  DRAWS: a tree and the name of a handler. By gen_e10.py.
-/
import Derived.Test.YtjejildgbmkbbaaE6
namespace Go.Proofs.Ytjejildgbmkbbaa
open Go.RowKit Nm
set_option linter.unusedSimpArgs false
set_option linter.unusedVariables false

def hWords : List (List UInt8) := [[104], [110, 111], [108, 97, 115, 116], []]
theorem cellOfH {w : World} {lo g n2 c2 j : Nat} {u : Value} {rs : List Row} {a b : List HndV} {x : HndV} (h : Rows w lo rs) (hm : hsRow n2 (.slice (some ⟨g, 0, none⟩) n2 c2) (a ++ x :: b) ∈ rs) (hj : j < 3) (hu : (hcells x)[j]? = some u) :
    w.cell? ⟨g, a.length * 3 + j, none⟩ = some u ∧ g < w.heap.size ∧ lo ≤ g := by
  have ho : w.ownsRow lo 59 3 (.slice (some ⟨g, 0, none⟩) n2 c2) n2 ((a ++ x :: b).flatMap hcells) := h.1 _ hm
  have hlen := Sl.count hcells_len (Sl.of_own ho) (by omega)
  simp only [List.length_append, List.length_cons] at hlen
  have hx : (a ++ x :: b)[a.length]? = some x := by simp
  have hc := ho.cellAt (a.length * 3 + j) (by omega)
  rw [flat_get hcells 3 hcells_len _ _ _ _ hx hj, hu] at hc
  exact ⟨hc, (ho.lt g rfl).2, (ho.lt g rfl).1⟩

set_option maxHeartbeats 16000000 in
set_option maxRecDepth 100000 in
theorem treeHandler_c (R p : Nat) (w : World) (hr : Rdr w R p) (hp : p ≤ 300000) :
    Calls Try.prog 13 #[.pointer (some ⟨R, 0, none⟩)] w (NamedDraw R p 460 w) := by
  have hlt := hr.lt
  have HZ := hid (show Rows (w.alloc (.cells #[.slice none 0 0, .slice none 0 0, .int .i64 0] 26)) w.heap.size [bxRow 26 3 w.heap.size [.slice none 0 0, .slice none 0 0, .int .i64 0]] from Rows.box w #[.slice none 0 0, .slice none 0 0, .int .i64 0] 26 3 rfl)
  have C := hid (someTree_c R p (w.alloc (.cells #[.slice none 0 0, .slice none 0 0, .int .i64 0] 26)) (hr.below ((Below.refl _ _).alloc (Nat.le_refl _) _)) (by omega))
  have G0 := hid (show w.grownBy (w.alloc (.cells #[.slice none 0 0, .slice none 0 0, .int .i64 0] 26)) (some R) from World.grownBy_alloc w _ _)
  clear hr
  go_enter Try.func13, Try.ntmps13
  go_wp2_with fail
  refine C.out.mono ?_
  rintro e w1 ⟨_, _, L, H, q, p1, rfl, ⟨v1, v2, ls, hs, rfl, rfl, rfl, rfl⟩, hsm, hR1, hp1, hr1, hg1⟩
  have hlen : (lsOf ls).length = ls.length := by simp [lsOf]
  have hL1 := hsm.1
  have hL8 := hsm.2.1.1
  have hFn := hsm.2.2.2
  have hH9 := hsm.2.2.1
  have HSm := hid hsm
  have HFn := hid (show ∀ x ∈ hs, x.h.nm.length ≤ 20 from fun x hx => (hFn x.h (List.mem_map.2 ⟨x, hx, rfl⟩)).1)
  rw [hlen] at hL1 hL8
  have hlenh : (hsOf hs).length = hs.length := by simp [hsOf]
  rw [hlenh] at hH9
  clear hlen hsm hFn hlenh
  obtain ⟨A1, c1, rfl, _, _⟩ := (Sl.of_own (show w1.ownsRow _ 48 6 v1 ls.length (ls.flatMap lcells) from hR1.left.head)).form
  obtain ⟨A2, c2, rfl, _, _⟩ := (Sl.of_own (show w1.ownsRow _ 59 3 v2 hs.length (hs.flatMap hcells) from hR1.right.head)).form
  obtain ⟨g, rfl, hgl⟩ := own_some (show w1.ownsRow _ 48 6 (.slice A1 ls.length c1) ls.length (ls.flatMap lcells) from hR1.left.head) hL1
  have hs0 : w.heap.size < w1.heap.size := by have := hg1.size; simp at this; omega
  have hOH := (show w1.ownsRow _ 59 3 (.slice A2 hs.length c2) hs.length (hs.flatMap hcells) from hR1.right.head)
  have HA2 := hid (fun (h1 : 1 ≤ hs.length) => (show ∃ g2, A2 = some ⟨g2, 0, none⟩ ∧ w.heap.size + 1 ≤ g2 from by
    obtain ⟨g2, e2, hl2⟩ := own_some hOH h1
    subst e2
    exact ⟨g2, rfl, by have := own_lt hOH g2 rfl; simpa using this⟩))
  clear hOH
  have X1 := HZ.out.newerR hg1 hlt hR1 (by simp)
  have X2 := (X1.newer ((Below.refl w1.heap.size w1).alloc (Nat.le_refl _) (.cells #[.slice (some ⟨g, 0, none⟩) ls.length c1, .slice A2 hs.length c2, .int .i64 q] 26)) (Rows.box w1 #[.slice (some ⟨g, 0, none⟩) ls.length c1, .slice A2 hs.length c2, .int .i64 q] 26 3 rfl) (Nat.le_of_lt hs0)).perm (List.Perm.append_left _ List.perm_append_comm)
  have G2 := hid (grown_new (grown_tr G0.out hg1) ((Below.refl w1.heap.size w1).alloc (Nat.le_refl _) (.cells #[.slice (some ⟨g, 0, none⟩) ls.length c1, .slice A2 hs.length c2, .int .i64 q] 26)))
  have D2 := (hr1.below ((Below.refl _ _).alloc (Nat.le_refl _) (.cells #[.slice (some ⟨g, 0, none⟩) ls.length c1, .slice A2 hs.length c2, .int .i64 q] 26)))
  generalize hln : ls.length = ln at *
  generalize hkn : hs.length = n2 at *
  replace hln := hid hln
  replace hkn := hid hkn
  have C2 := hid (pick_c R p1 4 _ D2 (by omega) (by omega))
  have hs2 : w1.heap.size < (w1.alloc (.cells #[.slice (some ⟨g, 0, none⟩) ln c1, .slice A2 n2 c2, .int .i64 q] 26)).heap.size := by simp
  replace X2 := hid X2
  replace D2 := hid D2
  clear hR1 hr1 hg1 X1 HZ G0 C
  rcases Nat.eq_zero_or_pos n2 with hz | hz
  · subst hz
    go_wp2_with fail
    generalize hbb : w1.heap.size = bb at *
    generalize hrb : w.heap.size = rb at *
    replace hrb := hid hrb
    generalize w1.alloc (.cells #[.slice (some ⟨g, 0, none⟩) ln c1, .slice A2 0 c2, .int .i64 q] 26) = w2 at *
    clear hbb
    have hsw2 := hs2
    have C5 := hid (of_lit R (p1) 4 20 hWords w2.drew (D2.out.below (Below.refl _ _).drew) (by omega) rfl (by omega) (by omega) (by decide))
    simp only [hWords, List.map_cons, List.map_nil, txt] at C5
    have sb : w2.drew.cell? ⟨bb, 0, none⟩ = some (.slice (some ⟨g, 0, none⟩) ln c1) ∧ w2.drew.cell? ⟨bb, 1, none⟩ = some (.slice A2 0 c2) ∧ w2.drew.cell? ⟨bb, 2, none⟩ = some (.int .i64 q) := ⟨(Rows.bcell2 (pre := []) (q := 0) X2.out rfl).1, (Rows.bcell2 (pre := []) (q := 1) X2.out rfl).1, (Rows.bcell2 (pre := []) (q := 2) X2.out rfl).1⟩
    have hw2 : bb < w2.drew.heap.size := by first | exact hsw2 | simpa using hsw2
    have sa := hid (fun (o : Obj) => (show (w2.drew.alloc o).cell? ⟨bb, 0, none⟩ = some (.slice (some ⟨g, 0, none⟩) ln c1) ∧ (w2.drew.alloc o).cell? ⟨bb, 1, none⟩ = some (.slice A2 0 c2) ∧ (w2.drew.alloc o).cell? ⟨bb, 2, none⟩ = some (.int .i64 q) from ⟨(World.cell?_alloc_past _ _ _ hw2).trans sb.1, (World.cell?_alloc_past _ _ _ hw2).trans sb.2.1, (World.cell?_alloc_past _ _ _ hw2).trans sb.2.2⟩))
    replace sb := hid sb
    go_wp2_with fail
    refine wp_region_held_drew (S := (fun w' : World => w'.cell? ⟨bb, 0, none⟩ = some (.slice (some ⟨g, 0, none⟩) ln c1) ∧ w'.cell? ⟨bb, 1, none⟩ = some (.slice A2 0 c2) ∧ w'.cell? ⟨bb, 2, none⟩ = some (.int .i64 q))) (by kernel_rfl) sb.out (fun hS => ?_)
    refine wpAnyH_take (i := 0) (oi := ?oi101) (v := ?v101) ?hi101 (by kernel_rfl) ?hf101 ?hr101 ?hQ101 (Or.inl ⟨?hw101, ?hy101⟩) (by assumption) ?rest101
    case hi101 => simp only [List.getElem?_toArray, List.getElem?_cons_succ, List.getElem?_cons_zero]; rfl
    case hf101 => kernel_rfl
    case hr101 => kernel_rfl
    case hw101 => rfl
    case hy101 => (intro w hSw; (try dsimp only at hSw); go_simp; all_goals (first | done | with_reducible rfl))
    case hQ101 => exact fun _ _ _ h => h
    simp only [Act.put, List.setIfInBounds_toArray, List.set_cons_zero, List.set_cons_succ]
    refine wpAnyH_take (i := 1) (oi := ?oi102) (v := ?v102) ?hi102 (by kernel_rfl) ?hf102 ?hr102 ?hQ102 (Or.inl ⟨?hw102, ?hy102⟩) (by assumption) ?rest102
    case hi102 => simp only [List.getElem?_toArray, List.getElem?_cons_succ, List.getElem?_cons_zero]; rfl
    case hf102 => kernel_rfl
    case hr102 => kernel_rfl
    case hw102 => rfl
    case hy102 => (intro w hSw; (try dsimp only at hSw); go_simp; all_goals (first | done | with_reducible rfl))
    case hQ102 => exact fun _ _ _ h => h
    simp only [Act.put, List.setIfInBounds_toArray, List.set_cons_zero, List.set_cons_succ]
    refine wpAnyH_ready (rs := [2]) (by kernel_rfl) (by simp) ?_
    refine AllReadyH.cons (o := ?oi103) ?hi103 (fun K hK => ?step103) AllReadyH.nil
    case hi103 => simp only [List.getElem?_toArray, List.getElem?_cons_succ, List.getElem?_cons_zero]; rfl
    rw [if_pos (by rfl)]
    go_simp
    refine hK.out _ _ (sa.out _) (fun hS => ?_)
    refine wpAnyH_ready (rs := [3]) (by kernel_rfl) (by simp) ?_
    refine AllReadyH.cons (o := ?oi104) ?hi104 (fun K hK => ?step104) AllReadyH.nil
    case hi104 => simp only [List.getElem?_toArray, List.getElem?_cons_succ, List.getElem?_cons_zero]; rfl
    rw [if_pos (by rfl)]
    go_simp
    go_at_call 31
    refine C5.out.mono ?_
    rintro e w5 ⟨nm, p5, hnx, rfl, hp5, hr5, hg5⟩
    have X5 := hid (X2.out.dr.offR hg5 hlt)
    have D5 := hid hr5
    have G5 := hid (grown_tr (grown_drN G2.out 1) hg5)
    have s5 : w5.cell? ⟨bb, 0, none⟩ = some (.slice (some ⟨g, 0, none⟩) ln c1) ∧ w5.cell? ⟨bb, 1, none⟩ = some (.slice A2 0 c2) ∧ w5.cell? ⟨bb, 2, none⟩ = some (.int .i64 q) := ⟨(Rows.bcell2 (pre := []) (q := 0) X5.out rfl).1, (Rows.bcell2 (pre := []) (q := 1) X5.out rfl).1, (Rows.bcell2 (pre := []) (q := 2) X5.out rfl).1⟩
    obtain ⟨l0, h0, _⟩ := Rows.bcell2 (pre := [_]) (q := 0) X5.out rfl
    obtain ⟨l1, h1, _⟩ := Rows.bcell2 (pre := [_]) (q := 1) X5.out rfl
    obtain ⟨l2, h2, _⟩ := Rows.bcell2 (pre := [_]) (q := 2) X5.out rfl
    have hnb : rb ≠ bb := by omega
    have S7 := hid (three_set (u0 := .slice (some ⟨g, 0, none⟩) ln c1) (u1 := .slice A2 0 c2) (u2 := .int .i64 q) hnb s5)
    clear hr5 hg5 C5
    refine hK.out _ _ s5 (fun hS => ?_)
    refine wpAnyH_ready (rs := [4]) (by kernel_rfl) (by simp) ?_
    refine AllReadyH.cons (o := ?oi105) ?hi105 (fun K hK => ?step105) AllReadyH.nil
    case hi105 => simp only [List.getElem?_toArray, List.getElem?_cons_succ, List.getElem?_cons_zero]; rfl
    rw [if_pos (by rfl)]
    go_simp
    refine hK.out _ _ S7.out (fun hS => ?_)
    refine wpAnyH_take (i := 5) (oi := ?oi106) (v := ?v106) ?hi106 (by kernel_rfl) ?hf106 ?hr106 ?hQ106 (Or.inl ⟨?hw106, ?hy106⟩) (by assumption) ?rest106
    case hi106 => simp only [List.getElem?_toArray, List.getElem?_cons_succ, List.getElem?_cons_zero]; rfl
    case hf106 => kernel_rfl
    case hr106 => kernel_rfl
    case hw106 => rfl
    case hy106 => (intro w hSw; (try dsimp only at hSw); go_simp; all_goals (first | done | with_reducible rfl))
    case hQ106 => exact fun _ _ _ h => h
    simp only [Act.put, List.setIfInBounds_toArray, List.set_cons_zero, List.set_cons_succ]
    refine wpAnyH_done (by kernel_rfl) ?_ _
    clear l0 l1 l2 h0 h1 h2 s5
    go_wp2_with fail
    have Y1 := Rows.boxset (pre := [_]) (j := 0) (u := .slice (some ⟨g, 0, none⟩) ln c1) X5.out
    have Y2 := Rows.boxset (pre := [_]) (j := 1) (u := .slice A2 0 c2) Y1
    have Y3 := Rows.boxset (pre := [_]) (j := 2) (u := .int .i64 q) Y2
    have f0 := (Rows.bcell2 (pre := [_]) (q := 0) Y3 rfl).1
    have f1 := (Rows.bcell2 (pre := [_]) (q := 1) Y3 rfl).1
    have f2 := (Rows.bcell2 (pre := [_]) (q := 2) Y3 rfl).1
    refine bodyPost_ret (v := .tuple #[.agg #[.slice (some ⟨g, 0, none⟩) ln c1, .slice A2 0 c2, .int .i64 q], .string nm]) (by simp [results, Try.results13, go_sem, f0, f1, f2]) rfl ?_
    refine ⟨_, treeRows ls.length (.slice (some ⟨g, 0, none⟩) ln c1) ls hs.length (.slice A2 0 c2) hs, lsOf ls, hsOf hs, _, nm, p5, rfl, ⟨_, _, ls, hs, rfl, rfl, rfl, rfl⟩, HSm.out, by omega, ?_, by omega, ((D5.out.set (b := rb) (j := 0) (u := .slice (some ⟨g, 0, none⟩) ln c1) hlt).set (b := rb) (j := 1) (u := .slice A2 0 c2) hlt).set (b := rb) (j := 2) (u := .int .i64 q) hlt, grown_at (b := rb) (j := 2) (u := .int .i64 q) (grown_at (b := rb) (j := 1) (u := .slice A2 0 c2) (grown_at (b := rb) (j := 0) (u := .slice (some ⟨g, 0, none⟩) ln c1) G5.out (by rw [hrb.out]; exact Nat.le_refl _)) (by rw [hrb.out]; exact Nat.le_refl _)) (by rw [hrb.out]; exact Nat.le_refl _)⟩
    rw [hrb.out, hln.out, hkn.out]
    exact Y3.sub (List.Sublist.cons _ (List.Sublist.cons _ (List.Sublist.refl _)))
  · have hzi : decide ((0 : Int) < (n2 : Int)) = true := by simp; omega
    obtain ⟨g2, rfl, hg2b⟩ := HA2.out hz
    clear HA2
    go_wp2_with fail
    generalize hbb : w1.heap.size = bb at *
    generalize hrb : w.heap.size = rb at *
    replace hrb := hid hrb
    generalize w1.alloc (.cells #[.slice (some ⟨g, 0, none⟩) ln c1, .slice (some ⟨g2, 0, none⟩) n2 c2, .int .i64 q] 26) = w2 at *
    clear hbb
    refine C2.out.mono ?_
    rintro e w3 ⟨k3, rfl, _, _, hr3, hg3⟩
    have X3 := hid (X2.out.offR hg3 hlt)
    have D3 := hid hr3
    have G3 := hid (grown_tr G2.out hg3)
    have hsw3 : bb < w3.heap.size := Nat.lt_of_lt_of_le hs2 hg3.size
    clear hr3 hg3 X2 G2 C2 hs2 D2
    by_cases hk3 : 0 < k3
    · have hk3i : decide ((0 : Int) < (k3 : Int)) = true := by simp; omega
      have sb : w3.drew.cell? ⟨bb, 0, none⟩ = some (.slice (some ⟨g, 0, none⟩) ln c1) ∧ w3.drew.cell? ⟨bb, 1, none⟩ = some (.slice (some ⟨g2, 0, none⟩) n2 c2) ∧ w3.drew.cell? ⟨bb, 2, none⟩ = some (.int .i64 q) := ⟨(Rows.bcell2 (pre := []) (q := 0) X3.out rfl).1, (Rows.bcell2 (pre := []) (q := 1) X3.out rfl).1, (Rows.bcell2 (pre := []) (q := 2) X3.out rfl).1⟩
      have C5 := hid (pick_c R (p1 + 1) n2 w3.drew (D3.out.below (Below.refl _ _).drew) (by omega) (by omega))
      replace sb := hid sb
      go_wp2_with fail
      refine wp_region_held_drew (S := (fun w' : World => w'.cell? ⟨bb, 0, none⟩ = some (.slice (some ⟨g, 0, none⟩) ln c1) ∧ w'.cell? ⟨bb, 1, none⟩ = some (.slice (some ⟨g2, 0, none⟩) n2 c2) ∧ w'.cell? ⟨bb, 2, none⟩ = some (.int .i64 q))) (by kernel_rfl) sb.out (fun hS => ?_)
      refine wpAnyH_take (i := 0) (oi := ?oi107) (v := ?v107) ?hi107 (by kernel_rfl) ?hf107 ?hr107 ?hQ107 (Or.inl ⟨?hw107, ?hy107⟩) (by assumption) ?rest107
      case hi107 => simp only [List.getElem?_toArray, List.getElem?_cons_succ, List.getElem?_cons_zero]; rfl
      case hf107 => kernel_rfl
      case hr107 => kernel_rfl
      case hw107 => rfl
      case hy107 => (intro w hSw; (try dsimp only at hSw); go_simp; all_goals (first | done | with_reducible rfl))
      case hQ107 => exact fun _ _ _ h => h
      simp only [Act.put, List.setIfInBounds_toArray, List.set_cons_zero, List.set_cons_succ]
      refine wpAnyH_take (i := 1) (oi := ?oi108) (v := ?v108) ?hi108 (by kernel_rfl) ?hf108 ?hr108 ?hQ108 (Or.inl ⟨?hw108, ?hy108⟩) (by assumption) ?rest108
      case hi108 => simp only [List.getElem?_toArray, List.getElem?_cons_succ, List.getElem?_cons_zero]; rfl
      case hf108 => kernel_rfl
      case hr108 => kernel_rfl
      case hw108 => rfl
      case hy108 => (intro w hSw; (try dsimp only at hSw); go_simp; all_goals (first | done | with_reducible rfl))
      case hQ108 => exact fun _ _ _ h => h
      simp only [Act.put, List.setIfInBounds_toArray, List.set_cons_zero, List.set_cons_succ]
      refine wpAnyH_take (i := 2) (oi := ?oi109) (v := ?v109) ?hi109 (by kernel_rfl) ?hf109 ?hr109 ?hQ109 (Or.inl ⟨?hw109, ?hy109⟩) (by assumption) ?rest109
      case hi109 => simp only [List.getElem?_toArray, List.getElem?_cons_succ, List.getElem?_cons_zero]; rfl
      case hf109 => kernel_rfl
      case hr109 => kernel_rfl
      case hw109 => rfl
      case hy109 => (intro w hSw; (try dsimp only at hSw); go_simp; all_goals (first | done | with_reducible rfl))
      case hQ109 => exact fun _ _ _ h => h
      simp only [Act.put, List.setIfInBounds_toArray, List.set_cons_zero, List.set_cons_succ]
      refine wpAnyH_take (i := 3) (oi := ?oi110) (v := ?v110) ?hi110 (by kernel_rfl) ?hf110 ?hr110 ?hQ110 (Or.inl ⟨?hw110, ?hy110⟩) (by assumption) ?rest110
      case hi110 => simp only [List.getElem?_toArray, List.getElem?_cons_succ, List.getElem?_cons_zero]; rfl
      case hf110 => kernel_rfl
      case hr110 => kernel_rfl
      case hw110 => rfl
      case hy110 => (intro w hSw; (try dsimp only at hSw); go_simp; all_goals (first | done | with_reducible rfl))
      case hQ110 => exact fun _ _ _ h => h
      simp only [Act.put, List.setIfInBounds_toArray, List.set_cons_zero, List.set_cons_succ]
      refine wpAnyH_take (i := 4) (oi := ?oi111) (v := ?v111) ?hi111 (by kernel_rfl) ?hf111 ?hr111 ?hQ111 (Or.inl ⟨?hw111, ?hy111⟩) (by assumption) ?rest111
      case hi111 => simp only [List.getElem?_toArray, List.getElem?_cons_succ, List.getElem?_cons_zero]; rfl
      case hf111 => kernel_rfl
      case hr111 => kernel_rfl
      case hw111 => rfl
      case hy111 => (intro w hSw; (try dsimp only at hSw); go_simp; all_goals (first | done | with_reducible rfl))
      case hQ111 => exact fun _ _ _ h => h
      simp only [Act.put, List.setIfInBounds_toArray, List.set_cons_zero, List.set_cons_succ]
      refine wpAnyH_take (i := 5) (oi := ?oi112) (v := ?v112) ?hi112 (by kernel_rfl) ?hf112 ?hr112 ?hQ112 (Or.inl ⟨?hw112, ?hy112⟩) (by assumption) ?rest112
      case hi112 => simp only [List.getElem?_toArray, List.getElem?_cons_succ, List.getElem?_cons_zero]; rfl
      case hf112 => kernel_rfl
      case hr112 => kernel_rfl
      case hw112 => rfl
      case hy112 => (intro w hSw; (try dsimp only at hSw); go_simp; all_goals (first | done | with_reducible rfl))
      case hQ112 => exact fun _ _ _ h => h
      simp only [Act.put, List.setIfInBounds_toArray, List.set_cons_zero, List.set_cons_succ]
      refine wpAnyH_take (i := 6) (oi := ?oi113) (v := ?v113) ?hi113 (by kernel_rfl) ?hf113 ?hr113 ?hQ113 (Or.inl ⟨?hw113, ?hy113⟩) (by assumption) ?rest113
      case hi113 => simp only [List.getElem?_toArray, List.getElem?_cons_succ, List.getElem?_cons_zero]; rfl
      case hf113 => kernel_rfl
      case hr113 => kernel_rfl
      case hw113 => rfl
      case hy113 => (intro w hSw; (try dsimp only at hSw); go_simp; all_goals (first | done | with_reducible rfl))
      case hQ113 => exact fun _ _ _ h => h
      simp only [Act.put, List.setIfInBounds_toArray, List.set_cons_zero, List.set_cons_succ]
      refine wpAnyH_ready (rs := [7]) (by kernel_rfl) (by simp) ?_
      refine AllReadyH.cons (o := ?oi114) ?hi114 (fun K hK => ?step114) AllReadyH.nil
      case hi114 => simp only [List.getElem?_toArray, List.getElem?_cons_succ, List.getElem?_cons_zero]; rfl
      rw [if_pos (by rfl)]
      go_simp
      go_at_call 14
      refine C5.out.mono ?_
      rintro e w5 ⟨k, rfl, hk1, _, hr5, hg5⟩
      have hk : k < n2 := by have := hk1 (by omega); omega
      have X5 := hid (X3.out.dr.offR hg5 hlt)
      have D5 := hid hr5
      have G5 := hid (grown_tr (grown_drN G3.out 1) hg5)
      obtain ⟨a, x, b, rfl, hak⟩ := split_at hs k (by rw [hkn.out]; exact hk)
      have hm5 : hsRow n2 (.slice (some ⟨g2, 0, none⟩) n2 c2) (a ++ x :: b) ∈ ([bxRow 26 3 bb [.slice (some ⟨g, 0, none⟩) ln c1, .slice (some ⟨g2, 0, none⟩) n2 c2, .int .i64 q]] ++ ([bxRow 26 3 rb [.slice none 0 0, .slice none 0 0, .int .i64 0]] ++ treeRows ln (.slice (some ⟨g, 0, none⟩) ln c1) ls n2 (.slice (some ⟨g2, 0, none⟩) n2 c2) (a ++ x :: b))) := by simp [treeRows]
      obtain ⟨nm, hnm, hnx⟩ : ∃ nm : ByteArray, txt x.h.nm = .string nm ∧ nm.size ≤ 20 := ⟨⟨x.h.nm.toArray⟩, rfl, by rw [Lib.size_eq]; simpa using HFn.out x (by simp)⟩
      obtain ⟨u0, hgl5, _⟩ := cellOfH (j := 0) X5.out hm5 (by omega) (show (hcells x)[0]? = some (.string nm) by rw [← hnm]; rfl)
      simp only [hak, Nat.add_zero] at u0
      have s5 : w5.cell? ⟨bb, 0, none⟩ = some (.slice (some ⟨g, 0, none⟩) ln c1) ∧ w5.cell? ⟨bb, 1, none⟩ = some (.slice (some ⟨g2, 0, none⟩) n2 c2) ∧ w5.cell? ⟨bb, 2, none⟩ = some (.int .i64 q) := ⟨(Rows.bcell2 (pre := []) (q := 0) X5.out rfl).1, (Rows.bcell2 (pre := []) (q := 1) X5.out rfl).1, (Rows.bcell2 (pre := []) (q := 2) X5.out rfl).1⟩
      obtain ⟨l0, h0, _⟩ := Rows.bcell2 (pre := [_]) (q := 0) X5.out rfl
      obtain ⟨l1, h1, _⟩ := Rows.bcell2 (pre := [_]) (q := 1) X5.out rfl
      obtain ⟨l2, h2, _⟩ := Rows.bcell2 (pre := [_]) (q := 2) X5.out rfl
      have HU := hid u0
      have s0 : (0 : Int) ≤ (k : Int) := by omega
      have s1 : (k : Int) < (n2 : Int) := by omega
      have s2 : ((k : Int)).toNat = k := by simp
      have hnb : rb ≠ bb := by omega
      have hng : rb ≠ g2 := by omega
      have S7 := hid (And.intro (three_set (u0 := .slice (some ⟨g, 0, none⟩) ln c1) (u1 := .slice (some ⟨g2, 0, none⟩) n2 c2) (u2 := .int .i64 q) hnb s5) (one_set (u0 := .slice (some ⟨g, 0, none⟩) ln c1) (u1 := .slice (some ⟨g2, 0, none⟩) n2 c2) (u2 := .int .i64 q) hng u0))
      clear hr5 hg5 C5 hk1
      refine hK.out _ _ s5 (fun hS => ?_)
      refine wpAnyH_mono (S' := fun w' : World => (w'.cell? ⟨bb, 0, none⟩ = some (.slice (some ⟨g, 0, none⟩) ln c1) ∧ w'.cell? ⟨bb, 1, none⟩ = some (.slice (some ⟨g2, 0, none⟩) n2 c2) ∧ w'.cell? ⟨bb, 2, none⟩ = some (.int .i64 q)) ∧ w'.cell? ⟨g2, k * 3, none⟩ = some (.string nm)) (fun _ h => h.1) _ _ _ _ ?_
      have hS2 : (fun w' : World => (w'.cell? ⟨bb, 0, none⟩ = some (.slice (some ⟨g, 0, none⟩) ln c1) ∧ w'.cell? ⟨bb, 1, none⟩ = some (.slice (some ⟨g2, 0, none⟩) n2 c2) ∧ w'.cell? ⟨bb, 2, none⟩ = some (.int .i64 q)) ∧ w'.cell? ⟨g2, k * 3, none⟩ = some (.string nm)) w5 := ⟨s5, u0⟩
      clear hS
      refine wpAnyH_take (i := 8) (oi := ?oi115) (v := ?v115) ?hi115 (by kernel_rfl) ?hf115 ?hr115 ?hQ115 (Or.inl ⟨?hw115, ?hy115⟩) (by assumption) ?rest115
      case hi115 => simp only [List.getElem?_toArray, List.getElem?_cons_succ, List.getElem?_cons_zero]; rfl
      case hf115 => kernel_rfl
      case hr115 => kernel_rfl
      case hw115 => rfl
      case hy115 => (intro w hSw; (try dsimp only at hSw); go_simp; all_goals (first | done | with_reducible rfl))
      case hQ115 => exact fun _ _ _ h => h
      simp only [Act.put, List.setIfInBounds_toArray, List.set_cons_zero, List.set_cons_succ]
      refine wpAnyH_take (i := 9) (oi := ?oi116) (v := ?v116) ?hi116 (by kernel_rfl) ?hf116 ?hr116 ?hQ116 (Or.inl ⟨?hw116, ?hy116⟩) (by assumption) ?rest116
      case hi116 => simp only [List.getElem?_toArray, List.getElem?_cons_succ, List.getElem?_cons_zero]; rfl
      case hf116 => kernel_rfl
      case hr116 => kernel_rfl
      case hw116 => rfl
      case hy116 => (intro w hSw; (try dsimp only at hSw); go_simp; all_goals (first | done | with_reducible rfl))
      case hQ116 => exact fun _ _ _ h => h
      simp only [Act.put, List.setIfInBounds_toArray, List.set_cons_zero, List.set_cons_succ]
      refine wpAnyH_take (i := 10) (oi := ?oi117) (v := ?v117) ?hi117 (by kernel_rfl) ?hf117 ?hr117 ?hQ117 (Or.inl ⟨?hw117, ?hy117⟩) (by assumption) ?rest117
      case hi117 => simp only [List.getElem?_toArray, List.getElem?_cons_succ, List.getElem?_cons_zero]; rfl
      case hf117 => kernel_rfl
      case hr117 => kernel_rfl
      case hw117 => rfl
      case hy117 => (intro w hSw; (try dsimp only at hSw); go_simp; all_goals (first | done | with_reducible rfl))
      case hQ117 => exact fun _ _ _ h => h
      simp only [Act.put, List.setIfInBounds_toArray, List.set_cons_zero, List.set_cons_succ]
      refine wpAnyH_ready (rs := [11]) (by kernel_rfl) (by simp) ?_
      refine AllReadyH.cons (o := ?oi118) ?hi118 (fun K hK => ?step118) AllReadyH.nil
      case hi118 => simp only [List.getElem?_toArray, List.getElem?_cons_succ, List.getElem?_cons_zero]; rfl
      rw [if_pos (by rfl)]
      go_simp
      refine hK.out _ _ S7.out (fun hS => ?_)
      refine wpAnyH_take (i := 12) (oi := ?oi119) (v := ?v119) ?hi119 (by kernel_rfl) ?hf119 ?hr119 ?hQ119 (Or.inl ⟨?hw119, ?hy119⟩) (by assumption) ?rest119
      case hi119 => simp only [List.getElem?_toArray, List.getElem?_cons_succ, List.getElem?_cons_zero]; rfl
      case hf119 => kernel_rfl
      case hr119 => kernel_rfl
      case hw119 => rfl
      case hy119 => (intro w hSw; (try dsimp only at hSw); go_simp; all_goals (first | done | with_reducible rfl))
      case hQ119 => exact fun _ _ _ h => h
      simp only [Act.put, List.setIfInBounds_toArray, List.set_cons_zero, List.set_cons_succ]
      refine wpAnyH_done (by kernel_rfl) ?_ _
      clear l0 l1 l2 h0 h1 h2 u0 s5
      go_wp2_with fail
      have Y1 := Rows.boxset (pre := [_]) (j := 0) (u := .slice (some ⟨g, 0, none⟩) ln c1) X5.out
      have Y2 := Rows.boxset (pre := [_]) (j := 1) (u := .slice (some ⟨g2, 0, none⟩) n2 c2) Y1
      have Y3 := Rows.boxset (pre := [_]) (j := 2) (u := .int .i64 q) Y2
      have f0 := (Rows.bcell2 (pre := [_]) (q := 0) Y3 rfl).1
      have f1 := (Rows.bcell2 (pre := [_]) (q := 1) Y3 rfl).1
      have f2 := (Rows.bcell2 (pre := [_]) (q := 2) Y3 rfl).1
      refine bodyPost_ret (v := .tuple #[.agg #[.slice (some ⟨g, 0, none⟩) ln c1, .slice (some ⟨g2, 0, none⟩) n2 c2, .int .i64 q], .string nm]) (by simp [results, Try.results13, go_sem, f0, f1, f2]) rfl ?_
      refine ⟨_, treeRows ls.length (.slice (some ⟨g, 0, none⟩) ln c1) ls (a ++ x :: b).length (.slice (some ⟨g2, 0, none⟩) n2 c2) (a ++ x :: b), lsOf ls, hsOf (a ++ x :: b), _, nm, (p1 + 1 + 1), rfl, ⟨_, _, ls, a ++ x :: b, rfl, rfl, rfl, rfl⟩, HSm.out, hnx, ?_, by omega, ((D5.out.set (b := rb) (j := 0) (u := .slice (some ⟨g, 0, none⟩) ln c1) hlt).set (b := rb) (j := 1) (u := .slice (some ⟨g2, 0, none⟩) n2 c2) hlt).set (b := rb) (j := 2) (u := .int .i64 q) hlt, grown_at (b := rb) (j := 2) (u := .int .i64 q) (grown_at (b := rb) (j := 1) (u := .slice (some ⟨g2, 0, none⟩) n2 c2) (grown_at (b := rb) (j := 0) (u := .slice (some ⟨g, 0, none⟩) ln c1) G5.out (by rw [hrb.out]; exact Nat.le_refl _)) (by rw [hrb.out]; exact Nat.le_refl _)) (by rw [hrb.out]; exact Nat.le_refl _)⟩
      rw [hrb.out, hln.out, hkn.out]
      exact Y3.sub (List.Sublist.cons _ (List.Sublist.cons _ (List.Sublist.refl _)))
    · have hk0 : k3 = 0 := by omega
      subst hk0
      have C5 := hid (of_lit R (p1 + 1) 4 20 hWords w3.drew (D3.out.below (Below.refl _ _).drew) (by omega) rfl (by omega) (by omega) (by decide))
      simp only [hWords, List.map_cons, List.map_nil, txt] at C5
      have sb : w3.drew.cell? ⟨bb, 0, none⟩ = some (.slice (some ⟨g, 0, none⟩) ln c1) ∧ w3.drew.cell? ⟨bb, 1, none⟩ = some (.slice (some ⟨g2, 0, none⟩) n2 c2) ∧ w3.drew.cell? ⟨bb, 2, none⟩ = some (.int .i64 q) := ⟨(Rows.bcell2 (pre := []) (q := 0) X3.out rfl).1, (Rows.bcell2 (pre := []) (q := 1) X3.out rfl).1, (Rows.bcell2 (pre := []) (q := 2) X3.out rfl).1⟩
      have hw3 : bb < w3.drew.heap.size := by first | exact hsw3 | simpa using hsw3
      have sa := hid (fun (o : Obj) => (show (w3.drew.alloc o).cell? ⟨bb, 0, none⟩ = some (.slice (some ⟨g, 0, none⟩) ln c1) ∧ (w3.drew.alloc o).cell? ⟨bb, 1, none⟩ = some (.slice (some ⟨g2, 0, none⟩) n2 c2) ∧ (w3.drew.alloc o).cell? ⟨bb, 2, none⟩ = some (.int .i64 q) from ⟨(World.cell?_alloc_past _ _ _ hw3).trans sb.1, (World.cell?_alloc_past _ _ _ hw3).trans sb.2.1, (World.cell?_alloc_past _ _ _ hw3).trans sb.2.2⟩))
      replace sb := hid sb
      go_wp2_with fail
      refine wp_region_held_drew (S := (fun w' : World => w'.cell? ⟨bb, 0, none⟩ = some (.slice (some ⟨g, 0, none⟩) ln c1) ∧ w'.cell? ⟨bb, 1, none⟩ = some (.slice (some ⟨g2, 0, none⟩) n2 c2) ∧ w'.cell? ⟨bb, 2, none⟩ = some (.int .i64 q))) (by kernel_rfl) sb.out (fun hS => ?_)
      refine wpAnyH_take (i := 0) (oi := ?oi120) (v := ?v120) ?hi120 (by kernel_rfl) ?hf120 ?hr120 ?hQ120 (Or.inl ⟨?hw120, ?hy120⟩) (by assumption) ?rest120
      case hi120 => simp only [List.getElem?_toArray, List.getElem?_cons_succ, List.getElem?_cons_zero]; rfl
      case hf120 => kernel_rfl
      case hr120 => kernel_rfl
      case hw120 => rfl
      case hy120 => (intro w hSw; (try dsimp only at hSw); go_simp; all_goals (first | done | with_reducible rfl))
      case hQ120 => exact fun _ _ _ h => h
      simp only [Act.put, List.setIfInBounds_toArray, List.set_cons_zero, List.set_cons_succ]
      refine wpAnyH_take (i := 1) (oi := ?oi121) (v := ?v121) ?hi121 (by kernel_rfl) ?hf121 ?hr121 ?hQ121 (Or.inl ⟨?hw121, ?hy121⟩) (by assumption) ?rest121
      case hi121 => simp only [List.getElem?_toArray, List.getElem?_cons_succ, List.getElem?_cons_zero]; rfl
      case hf121 => kernel_rfl
      case hr121 => kernel_rfl
      case hw121 => rfl
      case hy121 => (intro w hSw; (try dsimp only at hSw); go_simp; all_goals (first | done | with_reducible rfl))
      case hQ121 => exact fun _ _ _ h => h
      simp only [Act.put, List.setIfInBounds_toArray, List.set_cons_zero, List.set_cons_succ]
      refine wpAnyH_ready (rs := [2]) (by kernel_rfl) (by simp) ?_
      refine AllReadyH.cons (o := ?oi122) ?hi122 (fun K hK => ?step122) AllReadyH.nil
      case hi122 => simp only [List.getElem?_toArray, List.getElem?_cons_succ, List.getElem?_cons_zero]; rfl
      rw [if_pos (by rfl)]
      go_simp
      refine hK.out _ _ (sa.out _) (fun hS => ?_)
      refine wpAnyH_ready (rs := [3]) (by kernel_rfl) (by simp) ?_
      refine AllReadyH.cons (o := ?oi123) ?hi123 (fun K hK => ?step123) AllReadyH.nil
      case hi123 => simp only [List.getElem?_toArray, List.getElem?_cons_succ, List.getElem?_cons_zero]; rfl
      rw [if_pos (by rfl)]
      go_simp
      go_at_call 31
      refine C5.out.mono ?_
      rintro e w5 ⟨nm, p5, hnx, rfl, hp5, hr5, hg5⟩
      have X5 := hid (X3.out.dr.offR hg5 hlt)
      have D5 := hid hr5
      have G5 := hid (grown_tr (grown_drN G3.out 1) hg5)
      have s5 : w5.cell? ⟨bb, 0, none⟩ = some (.slice (some ⟨g, 0, none⟩) ln c1) ∧ w5.cell? ⟨bb, 1, none⟩ = some (.slice (some ⟨g2, 0, none⟩) n2 c2) ∧ w5.cell? ⟨bb, 2, none⟩ = some (.int .i64 q) := ⟨(Rows.bcell2 (pre := []) (q := 0) X5.out rfl).1, (Rows.bcell2 (pre := []) (q := 1) X5.out rfl).1, (Rows.bcell2 (pre := []) (q := 2) X5.out rfl).1⟩
      obtain ⟨l0, h0, _⟩ := Rows.bcell2 (pre := [_]) (q := 0) X5.out rfl
      obtain ⟨l1, h1, _⟩ := Rows.bcell2 (pre := [_]) (q := 1) X5.out rfl
      obtain ⟨l2, h2, _⟩ := Rows.bcell2 (pre := [_]) (q := 2) X5.out rfl
      have hnb : rb ≠ bb := by omega
      have S7 := hid (three_set (u0 := .slice (some ⟨g, 0, none⟩) ln c1) (u1 := .slice (some ⟨g2, 0, none⟩) n2 c2) (u2 := .int .i64 q) hnb s5)
      clear hr5 hg5 C5
      refine hK.out _ _ s5 (fun hS => ?_)
      refine wpAnyH_ready (rs := [4]) (by kernel_rfl) (by simp) ?_
      refine AllReadyH.cons (o := ?oi124) ?hi124 (fun K hK => ?step124) AllReadyH.nil
      case hi124 => simp only [List.getElem?_toArray, List.getElem?_cons_succ, List.getElem?_cons_zero]; rfl
      rw [if_pos (by rfl)]
      go_simp
      refine hK.out _ _ S7.out (fun hS => ?_)
      refine wpAnyH_take (i := 5) (oi := ?oi125) (v := ?v125) ?hi125 (by kernel_rfl) ?hf125 ?hr125 ?hQ125 (Or.inl ⟨?hw125, ?hy125⟩) (by assumption) ?rest125
      case hi125 => simp only [List.getElem?_toArray, List.getElem?_cons_succ, List.getElem?_cons_zero]; rfl
      case hf125 => kernel_rfl
      case hr125 => kernel_rfl
      case hw125 => rfl
      case hy125 => (intro w hSw; (try dsimp only at hSw); go_simp; all_goals (first | done | with_reducible rfl))
      case hQ125 => exact fun _ _ _ h => h
      simp only [Act.put, List.setIfInBounds_toArray, List.set_cons_zero, List.set_cons_succ]
      refine wpAnyH_done (by kernel_rfl) ?_ _
      clear l0 l1 l2 h0 h1 h2 s5
      go_wp2_with fail
      have Y1 := Rows.boxset (pre := [_]) (j := 0) (u := .slice (some ⟨g, 0, none⟩) ln c1) X5.out
      have Y2 := Rows.boxset (pre := [_]) (j := 1) (u := .slice (some ⟨g2, 0, none⟩) n2 c2) Y1
      have Y3 := Rows.boxset (pre := [_]) (j := 2) (u := .int .i64 q) Y2
      have f0 := (Rows.bcell2 (pre := [_]) (q := 0) Y3 rfl).1
      have f1 := (Rows.bcell2 (pre := [_]) (q := 1) Y3 rfl).1
      have f2 := (Rows.bcell2 (pre := [_]) (q := 2) Y3 rfl).1
      refine bodyPost_ret (v := .tuple #[.agg #[.slice (some ⟨g, 0, none⟩) ln c1, .slice (some ⟨g2, 0, none⟩) n2 c2, .int .i64 q], .string nm]) (by simp [results, Try.results13, go_sem, f0, f1, f2]) rfl ?_
      refine ⟨_, treeRows ls.length (.slice (some ⟨g, 0, none⟩) ln c1) ls hs.length (.slice (some ⟨g2, 0, none⟩) n2 c2) hs, lsOf ls, hsOf hs, _, nm, p5, rfl, ⟨_, _, ls, hs, rfl, rfl, rfl, rfl⟩, HSm.out, by omega, ?_, by omega, ((D5.out.set (b := rb) (j := 0) (u := .slice (some ⟨g, 0, none⟩) ln c1) hlt).set (b := rb) (j := 1) (u := .slice (some ⟨g2, 0, none⟩) n2 c2) hlt).set (b := rb) (j := 2) (u := .int .i64 q) hlt, grown_at (b := rb) (j := 2) (u := .int .i64 q) (grown_at (b := rb) (j := 1) (u := .slice (some ⟨g2, 0, none⟩) n2 c2) (grown_at (b := rb) (j := 0) (u := .slice (some ⟨g, 0, none⟩) ln c1) G5.out (by rw [hrb.out]; exact Nat.le_refl _)) (by rw [hrb.out]; exact Nat.le_refl _)) (by rw [hrb.out]; exact Nat.le_refl _)⟩
      rw [hrb.out, hln.out, hkn.out]
      exact Y3.sub (List.Sublist.cons _ (List.Sublist.cons _ (List.Sublist.refl _)))

end Go.Proofs.Ytjejildgbmkbbaa
