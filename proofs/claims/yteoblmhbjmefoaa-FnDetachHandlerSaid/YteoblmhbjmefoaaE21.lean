/-
  DRAWS: a tree, a logger's name and a handler's. By gen_dethd.py.
-/
import Derived.Test.YteoblmhbjmefoaaE20
import Derived.Test.YteoblmhbjmefoaaE13
namespace Go.Proofs.Yteoblmhbjmefoaa
open Go.RowKit Nm
set_option linter.unusedSimpArgs false
set_option linter.unusedVariables false

theorem own_topE {w : World} {lo n1 n2 : Nat} {v1 v2 : Value} {ls : List LgrV} {hs : List HndV} (h : Rows w lo (treeRows n1 v1 ls n2 v2 hs)) : w.ownsRow lo 49 6 v1 n1 (ls.flatMap lcells) := h.1 ⟨49, 6, n1, v1, ls.flatMap lcells⟩ (by rw [treeRows_eq]; simp [two])
theorem own_cellE {w : World} {lo n m c g : Nat} {cur : List LgrV} (ho : w.ownsRow lo 49 6 (.slice (some ⟨g, 0, none⟩) m c) n (cur.flatMap lcells)) {k d : Nat} {x : LgrV} {u : Value} (hx : cur[k]? = some x) (hu : (lcells x)[d]? = some u) :
    w.cell? ⟨g, k * 6 + d, none⟩ = some u := by
  have hm : m = n := by obtain ⟨A, c', e, _⟩ := (Sl.of_own ho).form; simp at e; exact e.2.1
  subst hm
  have hj := (List.getElem?_eq_some_iff.1 hu).1
  rw [lcells_len] at hj
  have e := flat_get lcells 6 lcells_len cur k d x hx hj
  rw [hu] at e
  have hlt := (List.getElem?_eq_some_iff.1 e).1
  exact (ho.cellAt (k * 6 + d) (by have := ho.1; omega)).trans e

set_option maxHeartbeats 4000000 in
set_option maxRecDepth 100000 in
theorem drawDetachHandler_c (a : Option Addr) (len cap : Nat) (z : List Int) (w : World) (h : IsRow .u8 w a len cap z) :
    Calls Try.prog 42 #[.slice a len cap] w (DrawNamedS w) := by
  have K0 := hid (Blk.new w #[.slice none 0 0, .slice none 0 0, .int .i64 0] 30)
  have HB0 := hid (show Below w.heap.size w (w.alloc (.cells #[.slice none 0 0, .slice none 0 0, .int .i64 0] 30)) from (Below.refl _ _).alloc (Nat.le_refl _) _)
  have C := hid (newReader_c a len cap z _ (h.belowT HB0.out))
  simp only [World.size_alloc] at C
  clear h
  go_enter Try.func42, Try.ntmps42
  go_wp2_with fail
  refine C.out.mono ?_
  rintro e w1 ⟨rfl, hr1, hb1⟩
  have K1 := hid (K0.out.below hb1 (by omega))
  have HB1 := hid (HB0.out.trans (hb1.mono (by omega)))
  have hlt := hr1.lt
  have C1 := hid (treeHandler_c _ 0 w1 hr1 (by omega))
  clear hr1 hb1 C K0 HB0
  go_wp2_with fail
  refine C1.out.mono ?_
  rintro e w2 ⟨v, rs, L, H, q, nm, p2, rfl, hs, hsm, hnm, hr, hp2, hrd2, hg2⟩
  obtain ⟨A1, n1, k1, A2, n2, k2, rfl, -, -⟩ := hs.form_ hr
  have hbx : Below w2.heap.size w2 (w2.alloc (.cells #[.slice A1 n1 k1, .slice A2 n2 k2, .int .i64 q] 30)) := (Below.refl _ _).alloc (Nat.le_refl _) _
  have K2 := hid ((K1.out.kept hg2 (by simp)).to hbx)
  have KT := hid (Blk.new w2 #[.slice A1 n1 k1, .slice A2 n2 k2, .int .i64 q] 30)
  have HX := hid (And.intro hs (And.intro (hr.below hbx) hsm))
  have HB2 := hid ((HB1.out.trans (below_own hg2 HB1.out.size (by omega))).trans (hbx.mono (Nat.le_trans HB1.out.size hg2.size)))
  have hs1 : w.heap.size < w1.heap.size := K1.out.1
  have hrb : w.heap.size < w2.heap.size := Nat.lt_of_lt_of_le hs1 hg2.size
  have hs2 : w2.heap.size < (w2.alloc (.cells #[.slice A1 n1 k1, .slice A2 n2 k2, .int .i64 q] 30)).heap.size := by simp
  have D3 := hid (hrd2.below hbx)
  have hRb : w.heap.size + 1 < w2.heap.size := by have := hg2.size; have := hlt; simp at *; omega
  clear hs hr hsm hrd2 hg2 C1 K1 hbx
  go_wp2_with fail
  generalize hbb : w2.heap.size = bb at *
  generalize w2.alloc (.cells #[.slice A1 n1 k1, .slice A2 n2 k2, .int .i64 q] 30) = w3 at *
  clear hbb
  obtain ⟨u1, u2, ls, hs', e0, hL, hH, hrs⟩ := HX.out.1
  obtain ⟨rfl, rfl⟩ : (.slice A1 n1 k1 : Value) = u1 ∧ (.slice A2 n2 k2 : Value) = u2 := by simpa using e0
  subst hrs
  have X3 := hid HX.out.2.1
  have HSM := hid HX.out.2.2
  have HLH := hid (And.intro hL hH)
  have hown3 : w3.ownsRow w1.heap.size 49 6 (.slice A1 n1 k1) ls.length (ls.flatMap lcells) := own_topE X3.out
  have hnl : n1 = ls.length := by obtain ⟨A, c, e, _⟩ := (Sl.of_own hown3).form; simp at e; exact e.2.1
  have hll : ls.length = L.length := by rw [← hL]; simp [lsOf]
  have h1n : 1 ≤ n1 := by have := HSM.out.1; omega
  have hn8 : n1 ≤ 8 := by have := HSM.out.2.1.1; omega
  rw [← hnl] at hown3
  obtain ⟨g, rfl, hgl⟩ := own_some hown3 (by omega)
  have hgb : w1.heap.size ≤ g := (hown3.lt g rfl).1
  have HNL := hid hnl
  have HLT := hid hlt
  have hR1 : w.heap.size + 1 < w1.heap.size := hlt
  have K3 := K2
  have KT3 := KT
  have HB3 := HB2
  have C5 := hid (pick_c (w.heap.size + 1) p2 n1 w3 D3.out (by omega) (by omega))
  have d0 := (KT3.out.2 0 _ rfl).1
  have HP2 := hid hp2
  clear e0 hL hH hown3 hnl hll HX hlt K2 KT HB2
  go_wp2_with fail
  refine C5.out.mono ?_
  rintro e w4 ⟨k, rfl, hk1, _, hr4, hg4⟩
  have hkn : k < n1 := by have := hk1 (by omega); omega
  clear d0 hk1 C5
  have K4 := hid (K3.out.kept hg4 (by simp))
  have KT4 := hid (KT3.out.kept hg4 (by simp; omega))
  have X4 := hid (X3.out.offR hg4 HLT.out)
  have HB4 := hid (HB3.out.trans (below_own hg4 HB3.out.size (by omega)))
  have D4 := hid hr4
  clear hr4 hg4
  obtain ⟨x, hx⟩ : ∃ x, ls[k]? = some x := ⟨_, List.getElem?_eq_getElem (by have := HNL.out; omega)⟩
  have hxm := List.mem_of_getElem? hx
  have hsml : lgrSm 9 x.l := HSM.out.2.1.2 x.l (by rw [← HLH.out.1]; exact List.mem_map.2 ⟨x, hxm, rfl⟩)
  obtain ⟨p, hp, hp2'⟩ := txt_mk x.l.nm
  have HP := hid (show p.size ≤ 20 by rw [Lib.size_eq, hp2']; exact hsml.1)
  obtain ⟨A5, c5, hv5, hhc, hcm⟩ := (X4.out.lsIn.1.2 x hxm).1.form
  have hlen5 : x.hn = x.l.hs.length := by have h9 := (X4.out.lsIn.1.2 x hxm).1.1; simpa using h9.symm
  have hh9 : x.hn ≤ 9 := by rw [hlen5]; exact hsml.2.1.1
  have HCELL := hid (fun (W : World) (hr : Rows W w1.heap.size (treeRows ls.length (.slice (some ⟨g, 0, none⟩) n1 k1) ls hs'.length (.slice A2 n2 k2) hs')) => (show W.cell? ⟨g, k * 6, none⟩ = some (.string p) ∧ W.cell? ⟨g, k * 6 + 2, none⟩ = some (.slice A5 x.hn c5) ∧
      (∀ j, j < x.hn → ∃ (bt ot : Nat) (s : ByteArray), A5 = some ⟨bt, ot, none⟩ ∧ W.cell? ⟨bt, ot + j, none⟩ = some (.string s) ∧ s.size ≤ 20) from by
    refine ⟨own_cellE (d := 0) (own_topE hr) hx (by unfold lcells; rw [hp]; rfl), own_cellE (d := 2) (own_topE hr) hx (by unfold lcells; rw [hv5]; rfl), fun j hj => ?_⟩
    have hT := (hr.lsIn.1.2 x hxm).1
    rw [hv5] at hT
    obtain ⟨bt, ot, s, rfl, _, hxt, gt⟩ := hT.text hj
    exact ⟨bt, ot, s, rfl, gt, by rw [Lib.size_eq]; exact hsml.2.1.2 _ (List.mem_of_getElem? hxt)⟩))
  generalize x.hn = hn at *
  clear hx hxm hsml hp hp2' hv5 hlen5
  have s0 : (0 : Int) ≤ (k : Int) := by omega
  have s1 : (k : Int) < (n1 : Int) := by omega
  have s2 : ((k : Int)).toNat = k := by simp
  have HNM := hid hnm
  by_cases h0 : 0 < hn
  · have z0 : decide ((0 : Int) < (hn : Int)) = true := by simp; omega
    have C6 := hid (pick_c (w.heap.size + 1) (p2 + 1) 4 w4 D4.out (by omega) (by omega))
    have d0 := (KT4.out.2 0 _ rfl).1
    obtain ⟨_, x2, _⟩ := HCELL.out w4 X4.out
    go_wp2_with fail
    refine C6.out.mono ?_
    rintro e w5 ⟨k3, rfl, _, _, hr5, hg5⟩
    clear d0 x2 C6
    have K5 := hid (K4.out.kept hg5 (by simp))
    have KT5 := hid (KT4.out.kept hg5 (by simp; omega))
    have X5 := hid (X4.out.offR hg5 HLT.out)
    have HB5 := hid (HB4.out.trans (below_own hg5 HB4.out.size (by omega)))
    have D5 := hid hr5
    clear hr5 hg5
    by_cases hk3 : 0 < k3
    · have z1 : decide ((0 : Int) < (k3 : Int)) = true := by simp; omega
      have C7 := hid (pick_c (w.heap.size + 1) (p2 + 1 + 1) hn w5.drew (D5.out.below (Below.refl _ _).drew) (by omega) (by omega))
      have KTd := KT5.out.dr 1
      have xd := HCELL.out w5.drew X5.out.dr
      have sb : (fun w' : World => (w'.cell? ⟨bb, 0, none⟩ = some (.slice (some ⟨g, 0, none⟩) n1 k1)) ∧ w'.cell? ⟨g, k * 6 + 2, none⟩ = some (.slice A5 hn c5)) w5.drew := ⟨(KTd.2 0 _ rfl).1, xd.2.1⟩
      replace sb := hid sb
      clear KTd xd
      go_wp2_with fail
      refine wp_region_held_drew (S := (fun w' : World => (w'.cell? ⟨bb, 0, none⟩ = some (.slice (some ⟨g, 0, none⟩) n1 k1)) ∧ w'.cell? ⟨g, k * 6 + 2, none⟩ = some (.slice A5 hn c5))) (by kernel_rfl) sb.out (fun hS => ?_)
      refine wpAnyH_take (i := 0) (oi := ?oi101) (v := ?v101) ?hi101 (by kernel_rfl) ?hf101 ?hr101 ?hQ101 (Or.inl ⟨?hw101, ?hy101⟩) (by assumption) ?rest101
      case hi101 => simp only [List.getElem?_toArray, List.getElem?_cons_succ, List.getElem?_cons_zero]; rfl
      case hf101 => kernel_rfl
      case hr101 => kernel_rfl
      case hw101 => rfl
      case hy101 => (intro w hSw; (try dsimp only at hSw); go_simp; all_goals (first | done | with_reducible rfl))
      case hQ101 => exact fun _ _ _ h => h
      simp only [Act.put, List.setIfInBounds_toArray, List.set_cons_zero, List.set_cons_succ]
      refine wpAnyH_take (i := 1) (oi := ?oi102) (v := ?v102) ?hi102 (by kernel_rfl) ?hf102 ?hr102 ?hQ102 (Or.inl ⟨?hw102, ?hy102⟩) (by assumption) ?rest102
      case hi102 => simp only [List.getElem?_toArray, List.getElem?_cons_succ, List.getElem?_cons_zero]; rfl
      case hf102 => kernel_rfl
      case hr102 => kernel_rfl
      case hw102 => rfl
      case hy102 => (intro w hSw; (try dsimp only at hSw); go_simp; all_goals (first | done | with_reducible rfl))
      case hQ102 => exact fun _ _ _ h => h
      simp only [Act.put, List.setIfInBounds_toArray, List.set_cons_zero, List.set_cons_succ]
      refine wpAnyH_take (i := 2) (oi := ?oi103) (v := ?v103) ?hi103 (by kernel_rfl) ?hf103 ?hr103 ?hQ103 (Or.inl ⟨?hw103, ?hy103⟩) (by assumption) ?rest103
      case hi103 => simp only [List.getElem?_toArray, List.getElem?_cons_succ, List.getElem?_cons_zero]; rfl
      case hf103 => kernel_rfl
      case hr103 => kernel_rfl
      case hw103 => rfl
      case hy103 => (intro w hSw; (try dsimp only at hSw); go_simp; all_goals (first | done | with_reducible rfl))
      case hQ103 => exact fun _ _ _ h => h
      simp only [Act.put, List.setIfInBounds_toArray, List.set_cons_zero, List.set_cons_succ]
      refine wpAnyH_take (i := 3) (oi := ?oi104) (v := ?v104) ?hi104 (by kernel_rfl) ?hf104 ?hr104 ?hQ104 (Or.inl ⟨?hw104, ?hy104⟩) (by assumption) ?rest104
      case hi104 => simp only [List.getElem?_toArray, List.getElem?_cons_succ, List.getElem?_cons_zero]; rfl
      case hf104 => kernel_rfl
      case hr104 => kernel_rfl
      case hw104 => rfl
      case hy104 => (intro w hSw; (try dsimp only at hSw); go_simp; all_goals (first | done | with_reducible rfl))
      case hQ104 => exact fun _ _ _ h => h
      simp only [Act.put, List.setIfInBounds_toArray, List.set_cons_zero, List.set_cons_succ]
      refine wpAnyH_take (i := 4) (oi := ?oi105) (v := ?v105) ?hi105 (by kernel_rfl) ?hf105 ?hr105 ?hQ105 (Or.inl ⟨?hw105, ?hy105⟩) (by assumption) ?rest105
      case hi105 => simp only [List.getElem?_toArray, List.getElem?_cons_succ, List.getElem?_cons_zero]; rfl
      case hf105 => kernel_rfl
      case hr105 => kernel_rfl
      case hw105 => rfl
      case hy105 => (intro w hSw; (try dsimp only at hSw); go_simp; all_goals (first | done | with_reducible rfl))
      case hQ105 => exact fun _ _ _ h => h
      simp only [Act.put, List.setIfInBounds_toArray, List.set_cons_zero, List.set_cons_succ]
      refine wpAnyH_take (i := 5) (oi := ?oi106) (v := ?v106) ?hi106 (by kernel_rfl) ?hf106 ?hr106 ?hQ106 (Or.inl ⟨?hw106, ?hy106⟩) (by assumption) ?rest106
      case hi106 => simp only [List.getElem?_toArray, List.getElem?_cons_succ, List.getElem?_cons_zero]; rfl
      case hf106 => kernel_rfl
      case hr106 => kernel_rfl
      case hw106 => rfl
      case hy106 => (intro w hSw; (try dsimp only at hSw); go_simp; all_goals (first | done | with_reducible rfl))
      case hQ106 => exact fun _ _ _ h => h
      simp only [Act.put, List.setIfInBounds_toArray, List.set_cons_zero, List.set_cons_succ]
      refine wpAnyH_take (i := 6) (oi := ?oi107) (v := ?v107) ?hi107 (by kernel_rfl) ?hf107 ?hr107 ?hQ107 (Or.inl ⟨?hw107, ?hy107⟩) (by assumption) ?rest107
      case hi107 => simp only [List.getElem?_toArray, List.getElem?_cons_succ, List.getElem?_cons_zero]; rfl
      case hf107 => kernel_rfl
      case hr107 => kernel_rfl
      case hw107 => rfl
      case hy107 => (intro w hSw; (try dsimp only at hSw); go_simp; all_goals (first | done | with_reducible rfl))
      case hQ107 => exact fun _ _ _ h => h
      simp only [Act.put, List.setIfInBounds_toArray, List.set_cons_zero, List.set_cons_succ]
      refine wpAnyH_take (i := 7) (oi := ?oi108) (v := ?v108) ?hi108 (by kernel_rfl) ?hf108 ?hr108 ?hQ108 (Or.inl ⟨?hw108, ?hy108⟩) (by assumption) ?rest108
      case hi108 => simp only [List.getElem?_toArray, List.getElem?_cons_succ, List.getElem?_cons_zero]; rfl
      case hf108 => kernel_rfl
      case hr108 => kernel_rfl
      case hw108 => rfl
      case hy108 => (intro w hSw; (try dsimp only at hSw); go_simp; all_goals (first | done | with_reducible rfl))
      case hQ108 => exact fun _ _ _ h => h
      simp only [Act.put, List.setIfInBounds_toArray, List.set_cons_zero, List.set_cons_succ]
      refine wpAnyH_take (i := 8) (oi := ?oi109) (v := ?v109) ?hi109 (by kernel_rfl) ?hf109 ?hr109 ?hQ109 (Or.inl ⟨?hw109, ?hy109⟩) (by assumption) ?rest109
      case hi109 => simp only [List.getElem?_toArray, List.getElem?_cons_succ, List.getElem?_cons_zero]; rfl
      case hf109 => kernel_rfl
      case hr109 => kernel_rfl
      case hw109 => rfl
      case hy109 => (intro w hSw; (try dsimp only at hSw); go_simp; all_goals (first | done | with_reducible rfl))
      case hQ109 => exact fun _ _ _ h => h
      simp only [Act.put, List.setIfInBounds_toArray, List.set_cons_zero, List.set_cons_succ]
      refine wpAnyH_take (i := 9) (oi := ?oi110) (v := ?v110) ?hi110 (by kernel_rfl) ?hf110 ?hr110 ?hQ110 (Or.inl ⟨?hw110, ?hy110⟩) (by assumption) ?rest110
      case hi110 => simp only [List.getElem?_toArray, List.getElem?_cons_succ, List.getElem?_cons_zero]; rfl
      case hf110 => kernel_rfl
      case hr110 => kernel_rfl
      case hw110 => rfl
      case hy110 => (intro w hSw; (try dsimp only at hSw); go_simp; all_goals (first | done | with_reducible rfl))
      case hQ110 => exact fun _ _ _ h => h
      simp only [Act.put, List.setIfInBounds_toArray, List.set_cons_zero, List.set_cons_succ]
      refine wpAnyH_take (i := 10) (oi := ?oi111) (v := ?v111) ?hi111 (by kernel_rfl) ?hf111 ?hr111 ?hQ111 (Or.inl ⟨?hw111, ?hy111⟩) (by assumption) ?rest111
      case hi111 => simp only [List.getElem?_toArray, List.getElem?_cons_succ, List.getElem?_cons_zero]; rfl
      case hf111 => kernel_rfl
      case hr111 => kernel_rfl
      case hw111 => rfl
      case hy111 => (intro w hSw; (try dsimp only at hSw); go_simp; all_goals (first | done | with_reducible rfl))
      case hQ111 => exact fun _ _ _ h => h
      simp only [Act.put, List.setIfInBounds_toArray, List.set_cons_zero, List.set_cons_succ]
      refine wpAnyH_take (i := 11) (oi := ?oi112) (v := ?v112) ?hi112 (by kernel_rfl) ?hf112 ?hr112 ?hQ112 (Or.inl ⟨?hw112, ?hy112⟩) (by assumption) ?rest112
      case hi112 => simp only [List.getElem?_toArray, List.getElem?_cons_succ, List.getElem?_cons_zero]; rfl
      case hf112 => kernel_rfl
      case hr112 => kernel_rfl
      case hw112 => rfl
      case hy112 => (intro w hSw; (try dsimp only at hSw); go_simp; all_goals (first | done | with_reducible rfl))
      case hQ112 => exact fun _ _ _ h => h
      simp only [Act.put, List.setIfInBounds_toArray, List.set_cons_zero, List.set_cons_succ]
      refine wpAnyH_take (i := 12) (oi := ?oi113) (v := ?v113) ?hi113 (by kernel_rfl) ?hf113 ?hr113 ?hQ113 (Or.inl ⟨?hw113, ?hy113⟩) (by assumption) ?rest113
      case hi113 => simp only [List.getElem?_toArray, List.getElem?_cons_succ, List.getElem?_cons_zero]; rfl
      case hf113 => kernel_rfl
      case hr113 => kernel_rfl
      case hw113 => rfl
      case hy113 => (intro w hSw; (try dsimp only at hSw); go_simp; all_goals (first | done | with_reducible rfl))
      case hQ113 => exact fun _ _ _ h => h
      simp only [Act.put, List.setIfInBounds_toArray, List.set_cons_zero, List.set_cons_succ]
      refine wpAnyH_take (i := 13) (oi := ?oi114) (v := ?v114) ?hi114 (by kernel_rfl) ?hf114 ?hr114 ?hQ114 (Or.inl ⟨?hw114, ?hy114⟩) (by assumption) ?rest114
      case hi114 => simp only [List.getElem?_toArray, List.getElem?_cons_succ, List.getElem?_cons_zero]; rfl
      case hf114 => kernel_rfl
      case hr114 => kernel_rfl
      case hw114 => rfl
      case hy114 => (intro w hSw; (try dsimp only at hSw); go_simp; all_goals (first | done | with_reducible rfl))
      case hQ114 => exact fun _ _ _ h => h
      simp only [Act.put, List.setIfInBounds_toArray, List.set_cons_zero, List.set_cons_succ]
      refine wpAnyH_ready (rs := [14]) (by kernel_rfl) (by simp) ?_
      refine AllReadyH.cons (o := ?oi115) ?hi115 (fun K hK => ?step115) AllReadyH.nil
      case hi115 => simp only [List.getElem?_toArray, List.getElem?_cons_succ, List.getElem?_cons_zero]; rfl
      rw [if_pos (by rfl)]
      go_simp
      go_at_call 90
      refine C7.out.mono ?_
      rintro e w6 ⟨j, rfl, hj1, _, hr6, hg6⟩
      have hjn : j < hn := by have := hj1 (by omega); omega
      replace hg6 : w5.grownBy w6 (some (w.heap.size + 1)) := grown_tr (grown_drN (World.grownBy.refl w5 _) 1) hg6
      clear hj1 C7
      have K6 := hid (K5.out.kept hg6 (by simp))
      have KT6 := hid (KT5.out.kept hg6 (by simp; omega))
      have X6 := hid (X5.out.offR hg6 HLT.out)
      have HB6 := hid (HB5.out.trans (below_own hg6 HB5.out.size (by omega)))
      have D6 := hid hr6
      clear hr6 hg6
      obtain ⟨_, x2, hxt⟩ := HCELL.out w6 X6.out
      obtain ⟨bt, ot, s, rfl, gt, hsz⟩ := hxt j hjn
      have y0 := (KT6.out.2 0 _ rfl).1
      have t0 : (0 : Int) ≤ (j : Int) := by omega
      have t1 : (j : Int) < (hn : Int) := by omega
      have t2 : ((j : Int)).toNat = j := by simp
      clear hxt
      refine hK.out _ _ ⟨y0, x2⟩ (fun hS => ?_)
      refine wpAnyH_mono (S' := fun w' : World => ((w'.cell? ⟨bb, 0, none⟩ = some (.slice (some ⟨g, 0, none⟩) n1 k1)) ∧ w'.cell? ⟨g, k * 6 + 2, none⟩ = some (.slice (some ⟨bt, ot, none⟩) hn c5)) ∧ w'.cell? ⟨bt, ot + j, none⟩ = some (.string s)) (fun _ h => h.1) _ _ _ _ ?_
      have hS2 : (fun w' : World => ((w'.cell? ⟨bb, 0, none⟩ = some (.slice (some ⟨g, 0, none⟩) n1 k1)) ∧ w'.cell? ⟨g, k * 6 + 2, none⟩ = some (.slice (some ⟨bt, ot, none⟩) hn c5)) ∧ w'.cell? ⟨bt, ot + j, none⟩ = some (.string s)) w6 := ⟨⟨y0, x2⟩, gt⟩
      clear hS
      refine wpAnyH_take (i := 15) (oi := ?oi116) (v := ?v116) ?hi116 (by kernel_rfl) ?hf116 ?hr116 ?hQ116 (Or.inl ⟨?hw116, ?hy116⟩) (by assumption) ?rest116
      case hi116 => simp only [List.getElem?_toArray, List.getElem?_cons_succ, List.getElem?_cons_zero]; rfl
      case hf116 => kernel_rfl
      case hr116 => kernel_rfl
      case hw116 => rfl
      case hy116 => (intro w hSw; (try dsimp only at hSw); go_simp; all_goals (first | done | with_reducible rfl))
      case hQ116 => exact fun _ _ _ h => h
      simp only [Act.put, List.setIfInBounds_toArray, List.set_cons_zero, List.set_cons_succ]
      refine wpAnyH_take (i := 16) (oi := ?oi117) (v := ?v117) ?hi117 (by kernel_rfl) ?hf117 ?hr117 ?hQ117 (Or.inl ⟨?hw117, ?hy117⟩) (by assumption) ?rest117
      case hi117 => simp only [List.getElem?_toArray, List.getElem?_cons_succ, List.getElem?_cons_zero]; rfl
      case hf117 => kernel_rfl
      case hr117 => kernel_rfl
      case hw117 => rfl
      case hy117 => (intro w hSw; (try dsimp only at hSw); go_simp; all_goals (first | done | with_reducible rfl))
      case hQ117 => exact fun _ _ _ h => h
      simp only [Act.put, List.setIfInBounds_toArray, List.set_cons_zero, List.set_cons_succ]
      refine wpAnyH_take (i := 17) (oi := ?oi118) (v := ?v118) ?hi118 (by kernel_rfl) ?hf118 ?hr118 ?hQ118 (Or.inl ⟨?hw118, ?hy118⟩) (by assumption) ?rest118
      case hi118 => simp only [List.getElem?_toArray, List.getElem?_cons_succ, List.getElem?_cons_zero]; rfl
      case hf118 => kernel_rfl
      case hr118 => kernel_rfl
      case hw118 => rfl
      case hy118 => (intro w hSw; (try dsimp only at hSw); go_simp; all_goals (first | done | with_reducible rfl))
      case hQ118 => exact fun _ _ _ h => h
      simp only [Act.put, List.setIfInBounds_toArray, List.set_cons_zero, List.set_cons_succ]
      refine wpAnyH_done (by kernel_rfl) ?_ _
      clear hS2 y0 x2 gt
      obtain ⟨x0, _, _⟩ := HCELL.out w6 X6.out
      have xd := HCELL.out w6.drew X6.out.dr
      have sb : (fun w' : World => (w'.cell? ⟨bb, 0, none⟩ = some (.slice (some ⟨g, 0, none⟩) n1 k1) ∧ w'.cell? ⟨bb, 1, none⟩ = some (.slice A2 n2 k2) ∧ w'.cell? ⟨bb, 2, none⟩ = some (.int .i64 q)) ∧ w'.cell? ⟨g, k * 6, none⟩ = some (.string p)) w6.drew := ⟨⟨((KT6.out.dr 1).2 0 _ rfl).1, ((KT6.out.dr 1).2 1 _ rfl).1, ((KT6.out.dr 1).2 2 _ rfl).1⟩, xd.1⟩
      have S7 := hid (And.intro (three_set (rb := w.heap.size) (u0 := .slice (some ⟨g, 0, none⟩) n1 k1) (u1 := .slice A2 n2 k2) (u2 := .int .i64 q) (by omega) sb.1) (one_set (rb := w.heap.size) (u0 := .slice (some ⟨g, 0, none⟩) n1 k1) (u1 := .slice A2 n2 k2) (u2 := .int .i64 q) (by omega) sb.2))
      have KD := hid (show Blk w6.drew w.heap.size [.slice none 0 0, .slice none 0 0, .int .i64 0] from K6.out.dr 1)
      obtain ⟨q0c, q0f⟩ := KD.out.2 0 _ rfl
      obtain ⟨q1c, q1f⟩ := KD.out.2 1 _ rfl
      obtain ⟨q2c, q2f⟩ := KD.out.2 2 _ rfl
      obtain ⟨r0c, r0f⟩ := K6.out.2 0 _ rfl
      obtain ⟨r1c, r1f⟩ := K6.out.2 1 _ rfl
      obtain ⟨r2c, r2f⟩ := K6.out.2 2 _ rfl
      clear x0 xd
      replace sb := hid sb
      go_wp2_with fail
      refine wp_region_held_drew (S := (fun w' : World => (w'.cell? ⟨bb, 0, none⟩ = some (.slice (some ⟨g, 0, none⟩) n1 k1) ∧ w'.cell? ⟨bb, 1, none⟩ = some (.slice A2 n2 k2) ∧ w'.cell? ⟨bb, 2, none⟩ = some (.int .i64 q)) ∧ w'.cell? ⟨g, k * 6, none⟩ = some (.string p))) (by kernel_rfl) sb.out (fun hS => ?_)
      refine wpAnyH_take (i := 0) (oi := ?oi119) (v := ?v119) ?hi119 (by kernel_rfl) ?hf119 ?hr119 ?hQ119 (Or.inl ⟨?hw119, ?hy119⟩) (by assumption) ?rest119
      case hi119 => simp only [List.getElem?_toArray, List.getElem?_cons_succ, List.getElem?_cons_zero]; rfl
      case hf119 => kernel_rfl
      case hr119 => kernel_rfl
      case hw119 => rfl
      case hy119 => (intro w hSw; (try dsimp only at hSw); go_simp; all_goals (first | done | with_reducible rfl))
      case hQ119 => exact fun _ _ _ h => h
      simp only [Act.put, List.setIfInBounds_toArray, List.set_cons_zero, List.set_cons_succ]
      refine wpAnyH_take (i := 1) (oi := ?oi120) (v := ?v120) ?hi120 (by kernel_rfl) ?hf120 ?hr120 ?hQ120 (Or.inl ⟨?hw120, ?hy120⟩) (by assumption) ?rest120
      case hi120 => simp only [List.getElem?_toArray, List.getElem?_cons_succ, List.getElem?_cons_zero]; rfl
      case hf120 => kernel_rfl
      case hr120 => kernel_rfl
      case hw120 => rfl
      case hy120 => (intro w hSw; (try dsimp only at hSw); go_simp; all_goals (first | done | with_reducible rfl))
      case hQ120 => exact fun _ _ _ h => h
      simp only [Act.put, List.setIfInBounds_toArray, List.set_cons_zero, List.set_cons_succ]
      refine wpAnyH_take (i := 2) (oi := ?oi121) (v := ?v121) ?hi121 (by kernel_rfl) ?hf121 ?hr121 ?hQ121 (Or.inl ⟨?hw121, ?hy121⟩) (by assumption) ?rest121
      case hi121 => simp only [List.getElem?_toArray, List.getElem?_cons_succ, List.getElem?_cons_zero]; rfl
      case hf121 => kernel_rfl
      case hr121 => kernel_rfl
      case hw121 => rfl
      case hy121 => (intro w hSw; (try dsimp only at hSw); go_simp; all_goals (first | done | with_reducible rfl))
      case hQ121 => exact fun _ _ _ h => h
      simp only [Act.put, List.setIfInBounds_toArray, List.set_cons_zero, List.set_cons_succ]
      refine wpAnyH_take (i := 3) (oi := ?oi122) (v := ?v122) ?hi122 (by kernel_rfl) ?hf122 ?hr122 ?hQ122 (Or.inl ⟨?hw122, ?hy122⟩) (by assumption) ?rest122
      case hi122 => simp only [List.getElem?_toArray, List.getElem?_cons_succ, List.getElem?_cons_zero]; rfl
      case hf122 => kernel_rfl
      case hr122 => kernel_rfl
      case hw122 => rfl
      case hy122 => (intro w hSw; (try dsimp only at hSw); go_simp; all_goals (first | done | with_reducible rfl))
      case hQ122 => exact fun _ _ _ h => h
      simp only [Act.put, List.setIfInBounds_toArray, List.set_cons_zero, List.set_cons_succ]
      refine wpAnyH_take (i := 4) (oi := ?oi123) (v := ?v123) ?hi123 (by kernel_rfl) ?hf123 ?hr123 ?hQ123 (Or.inl ⟨?hw123, ?hy123⟩) (by assumption) ?rest123
      case hi123 => simp only [List.getElem?_toArray, List.getElem?_cons_succ, List.getElem?_cons_zero]; rfl
      case hf123 => kernel_rfl
      case hr123 => kernel_rfl
      case hw123 => rfl
      case hy123 => (intro w hSw; (try dsimp only at hSw); go_simp; all_goals (first | done | with_reducible rfl))
      case hQ123 => exact fun _ _ _ h => h
      simp only [Act.put, List.setIfInBounds_toArray, List.set_cons_zero, List.set_cons_succ]
      refine wpAnyH_take (i := 5) (oi := ?oi124) (v := ?v124) ?hi124 (by kernel_rfl) ?hf124 ?hr124 ?hQ124 (Or.inl ⟨?hw124, ?hy124⟩) (by assumption) ?rest124
      case hi124 => simp only [List.getElem?_toArray, List.getElem?_cons_succ, List.getElem?_cons_zero]; rfl
      case hf124 => kernel_rfl
      case hr124 => kernel_rfl
      case hw124 => rfl
      case hy124 => (intro w hSw; (try dsimp only at hSw); go_simp; all_goals (first | done | with_reducible rfl))
      case hQ124 => exact fun _ _ _ h => h
      simp only [Act.put, List.setIfInBounds_toArray, List.set_cons_zero, List.set_cons_succ]
      refine wpAnyH_take (i := 6) (oi := ?oi125) (v := ?v125) ?hi125 (by kernel_rfl) ?hf125 ?hr125 ?hQ125 (Or.inl ⟨?hw125, ?hy125⟩) (by assumption) ?rest125
      case hi125 => simp only [List.getElem?_toArray, List.getElem?_cons_succ, List.getElem?_cons_zero]; rfl
      case hf125 => kernel_rfl
      case hr125 => kernel_rfl
      case hw125 => rfl
      case hy125 => (intro w hSw; (try dsimp only at hSw); go_simp; all_goals (first | done | with_reducible rfl))
      case hQ125 => exact fun _ _ _ h => h
      simp only [Act.put, List.setIfInBounds_toArray, List.set_cons_zero, List.set_cons_succ]
      refine wpAnyH_take (i := 7) (oi := ?oi126) (v := ?v126) ?hi126 (by kernel_rfl) ?hf126 ?hr126 ?hQ126 (Or.inl ⟨?hw126, ?hy126⟩) (by assumption) ?rest126
      case hi126 => simp only [List.getElem?_toArray, List.getElem?_cons_succ, List.getElem?_cons_zero]; rfl
      case hf126 => kernel_rfl
      case hr126 => kernel_rfl
      case hw126 => rfl
      case hy126 => (intro w hSw; (try dsimp only at hSw); go_simp; all_goals (first | done | with_reducible rfl))
      case hQ126 => exact fun _ _ _ h => h
      simp only [Act.put, List.setIfInBounds_toArray, List.set_cons_zero, List.set_cons_succ]
      refine wpAnyH_ready (rs := [8]) (by kernel_rfl) (by simp) ?_
      refine AllReadyH.cons (o := ?oi127) ?hi127 (fun K hK => ?step127) AllReadyH.nil
      case hi127 => simp only [List.getElem?_toArray, List.getElem?_cons_succ, List.getElem?_cons_zero]; rfl
      rw [if_pos (by rfl)]
      go_simp
      refine hK.out _ _ S7.out (fun hS => ?_)
      refine wpAnyH_take (i := 9) (oi := ?oi128) (v := ?v128) ?hi128 (by kernel_rfl) ?hf128 ?hr128 ?hQ128 (Or.inl ⟨?hw128, ?hy128⟩) (by assumption) ?rest128
      case hi128 => simp only [List.getElem?_toArray, List.getElem?_cons_succ, List.getElem?_cons_zero]; rfl
      case hf128 => kernel_rfl
      case hr128 => kernel_rfl
      case hw128 => rfl
      case hy128 => (intro w hSw; (try dsimp only at hSw); go_simp; all_goals (first | done | with_reducible rfl))
      case hQ128 => exact fun _ _ _ h => h
      simp only [Act.put, List.setIfInBounds_toArray, List.set_cons_zero, List.set_cons_succ]
      refine wpAnyH_take (i := 10) (oi := ?oi129) (v := ?v129) ?hi129 (by kernel_rfl) ?hf129 ?hr129 ?hQ129 (Or.inl ⟨?hw129, ?hy129⟩) (by assumption) ?rest129
      case hi129 => simp only [List.getElem?_toArray, List.getElem?_cons_succ, List.getElem?_cons_zero]; rfl
      case hf129 => kernel_rfl
      case hr129 => kernel_rfl
      case hw129 => rfl
      case hy129 => (intro w hSw; (try dsimp only at hSw); go_simp; all_goals (first | done | with_reducible rfl))
      case hQ129 => exact fun _ _ _ h => h
      simp only [Act.put, List.setIfInBounds_toArray, List.set_cons_zero, List.set_cons_succ]
      refine wpAnyH_done (by kernel_rfl) ?_ _
      clear q0c q0f q1c q1f q2c q2f r0c r0f r1c r1f r2c r2f
      go_wp2_with fail
      have RB := ((K6.out.set 0 (.slice (some ⟨g, 0, none⟩) n1 k1)).set 1 (.slice A2 n2 k2)).set 2 (.int .i64 q)
      have f0 := (RB.2 0 _ rfl).1
      have f1 := (RB.2 1 _ rfl).1
      have f2 := (RB.2 2 _ rfl).1
      refine bodyPost_ret (v := .tuple #[.agg #[.slice (some ⟨g, 0, none⟩) n1 k1, .slice A2 n2 k2, .int .i64 q], .string p, .string s]) (by simp [results, Try.results42, go_sem, f0, f1, f2]) rfl ?_
      refine ⟨_, treeRows ls.length (.slice (some ⟨g, 0, none⟩) n1 k1) ls hs'.length (.slice A2 n2 k2) hs', L, H, q, p, s, rfl, ⟨_, _, ls, hs', rfl, HLH.out.1, HLH.out.2, rfl⟩, HSM.out, HP.out, hsz, Rows.base (lo := w1.heap.size) ?_ (by omega), ?_⟩
      · refine Rows.dr ?_
        iterate 3 refine Rows.low ?_ (by omega)
        exact X6.out
      · refine Below.drew ?_
        iterate 3 refine Below.setCell ?_ (by simp) _
        exact HB6.out
    · have z1 : decide ((0 : Int) < (k3 : Int)) = false := by simp; omega
      obtain ⟨x0, _, _⟩ := HCELL.out w5 X5.out
      have xd := HCELL.out w5.drew X5.out.dr
      have sb : (fun w' : World => (w'.cell? ⟨bb, 0, none⟩ = some (.slice (some ⟨g, 0, none⟩) n1 k1) ∧ w'.cell? ⟨bb, 1, none⟩ = some (.slice A2 n2 k2) ∧ w'.cell? ⟨bb, 2, none⟩ = some (.int .i64 q)) ∧ w'.cell? ⟨g, k * 6, none⟩ = some (.string p)) w5.drew := ⟨⟨((KT5.out.dr 1).2 0 _ rfl).1, ((KT5.out.dr 1).2 1 _ rfl).1, ((KT5.out.dr 1).2 2 _ rfl).1⟩, xd.1⟩
      have S7 := hid (And.intro (three_set (rb := w.heap.size) (u0 := .slice (some ⟨g, 0, none⟩) n1 k1) (u1 := .slice A2 n2 k2) (u2 := .int .i64 q) (by omega) sb.1) (one_set (rb := w.heap.size) (u0 := .slice (some ⟨g, 0, none⟩) n1 k1) (u1 := .slice A2 n2 k2) (u2 := .int .i64 q) (by omega) sb.2))
      have KD := hid (show Blk w5.drew w.heap.size [.slice none 0 0, .slice none 0 0, .int .i64 0] from K5.out.dr 1)
      obtain ⟨q0c, q0f⟩ := KD.out.2 0 _ rfl
      obtain ⟨q1c, q1f⟩ := KD.out.2 1 _ rfl
      obtain ⟨q2c, q2f⟩ := KD.out.2 2 _ rfl
      obtain ⟨r0c, r0f⟩ := K5.out.2 0 _ rfl
      obtain ⟨r1c, r1f⟩ := K5.out.2 1 _ rfl
      obtain ⟨r2c, r2f⟩ := K5.out.2 2 _ rfl
      clear x0 xd
      replace sb := hid sb
      go_wp2_with fail
      refine wp_region_held_drew (S := (fun w' : World => (w'.cell? ⟨bb, 0, none⟩ = some (.slice (some ⟨g, 0, none⟩) n1 k1) ∧ w'.cell? ⟨bb, 1, none⟩ = some (.slice A2 n2 k2) ∧ w'.cell? ⟨bb, 2, none⟩ = some (.int .i64 q)) ∧ w'.cell? ⟨g, k * 6, none⟩ = some (.string p))) (by kernel_rfl) sb.out (fun hS => ?_)
      refine wpAnyH_take (i := 0) (oi := ?oi130) (v := ?v130) ?hi130 (by kernel_rfl) ?hf130 ?hr130 ?hQ130 (Or.inl ⟨?hw130, ?hy130⟩) (by assumption) ?rest130
      case hi130 => simp only [List.getElem?_toArray, List.getElem?_cons_succ, List.getElem?_cons_zero]; rfl
      case hf130 => kernel_rfl
      case hr130 => kernel_rfl
      case hw130 => rfl
      case hy130 => (intro w hSw; (try dsimp only at hSw); go_simp; all_goals (first | done | with_reducible rfl))
      case hQ130 => exact fun _ _ _ h => h
      simp only [Act.put, List.setIfInBounds_toArray, List.set_cons_zero, List.set_cons_succ]
      refine wpAnyH_take (i := 1) (oi := ?oi131) (v := ?v131) ?hi131 (by kernel_rfl) ?hf131 ?hr131 ?hQ131 (Or.inl ⟨?hw131, ?hy131⟩) (by assumption) ?rest131
      case hi131 => simp only [List.getElem?_toArray, List.getElem?_cons_succ, List.getElem?_cons_zero]; rfl
      case hf131 => kernel_rfl
      case hr131 => kernel_rfl
      case hw131 => rfl
      case hy131 => (intro w hSw; (try dsimp only at hSw); go_simp; all_goals (first | done | with_reducible rfl))
      case hQ131 => exact fun _ _ _ h => h
      simp only [Act.put, List.setIfInBounds_toArray, List.set_cons_zero, List.set_cons_succ]
      refine wpAnyH_take (i := 2) (oi := ?oi132) (v := ?v132) ?hi132 (by kernel_rfl) ?hf132 ?hr132 ?hQ132 (Or.inl ⟨?hw132, ?hy132⟩) (by assumption) ?rest132
      case hi132 => simp only [List.getElem?_toArray, List.getElem?_cons_succ, List.getElem?_cons_zero]; rfl
      case hf132 => kernel_rfl
      case hr132 => kernel_rfl
      case hw132 => rfl
      case hy132 => (intro w hSw; (try dsimp only at hSw); go_simp; all_goals (first | done | with_reducible rfl))
      case hQ132 => exact fun _ _ _ h => h
      simp only [Act.put, List.setIfInBounds_toArray, List.set_cons_zero, List.set_cons_succ]
      refine wpAnyH_take (i := 3) (oi := ?oi133) (v := ?v133) ?hi133 (by kernel_rfl) ?hf133 ?hr133 ?hQ133 (Or.inl ⟨?hw133, ?hy133⟩) (by assumption) ?rest133
      case hi133 => simp only [List.getElem?_toArray, List.getElem?_cons_succ, List.getElem?_cons_zero]; rfl
      case hf133 => kernel_rfl
      case hr133 => kernel_rfl
      case hw133 => rfl
      case hy133 => (intro w hSw; (try dsimp only at hSw); go_simp; all_goals (first | done | with_reducible rfl))
      case hQ133 => exact fun _ _ _ h => h
      simp only [Act.put, List.setIfInBounds_toArray, List.set_cons_zero, List.set_cons_succ]
      refine wpAnyH_take (i := 4) (oi := ?oi134) (v := ?v134) ?hi134 (by kernel_rfl) ?hf134 ?hr134 ?hQ134 (Or.inl ⟨?hw134, ?hy134⟩) (by assumption) ?rest134
      case hi134 => simp only [List.getElem?_toArray, List.getElem?_cons_succ, List.getElem?_cons_zero]; rfl
      case hf134 => kernel_rfl
      case hr134 => kernel_rfl
      case hw134 => rfl
      case hy134 => (intro w hSw; (try dsimp only at hSw); go_simp; all_goals (first | done | with_reducible rfl))
      case hQ134 => exact fun _ _ _ h => h
      simp only [Act.put, List.setIfInBounds_toArray, List.set_cons_zero, List.set_cons_succ]
      refine wpAnyH_take (i := 5) (oi := ?oi135) (v := ?v135) ?hi135 (by kernel_rfl) ?hf135 ?hr135 ?hQ135 (Or.inl ⟨?hw135, ?hy135⟩) (by assumption) ?rest135
      case hi135 => simp only [List.getElem?_toArray, List.getElem?_cons_succ, List.getElem?_cons_zero]; rfl
      case hf135 => kernel_rfl
      case hr135 => kernel_rfl
      case hw135 => rfl
      case hy135 => (intro w hSw; (try dsimp only at hSw); go_simp; all_goals (first | done | with_reducible rfl))
      case hQ135 => exact fun _ _ _ h => h
      simp only [Act.put, List.setIfInBounds_toArray, List.set_cons_zero, List.set_cons_succ]
      refine wpAnyH_take (i := 6) (oi := ?oi136) (v := ?v136) ?hi136 (by kernel_rfl) ?hf136 ?hr136 ?hQ136 (Or.inl ⟨?hw136, ?hy136⟩) (by assumption) ?rest136
      case hi136 => simp only [List.getElem?_toArray, List.getElem?_cons_succ, List.getElem?_cons_zero]; rfl
      case hf136 => kernel_rfl
      case hr136 => kernel_rfl
      case hw136 => rfl
      case hy136 => (intro w hSw; (try dsimp only at hSw); go_simp; all_goals (first | done | with_reducible rfl))
      case hQ136 => exact fun _ _ _ h => h
      simp only [Act.put, List.setIfInBounds_toArray, List.set_cons_zero, List.set_cons_succ]
      refine wpAnyH_take (i := 7) (oi := ?oi137) (v := ?v137) ?hi137 (by kernel_rfl) ?hf137 ?hr137 ?hQ137 (Or.inl ⟨?hw137, ?hy137⟩) (by assumption) ?rest137
      case hi137 => simp only [List.getElem?_toArray, List.getElem?_cons_succ, List.getElem?_cons_zero]; rfl
      case hf137 => kernel_rfl
      case hr137 => kernel_rfl
      case hw137 => rfl
      case hy137 => (intro w hSw; (try dsimp only at hSw); go_simp; all_goals (first | done | with_reducible rfl))
      case hQ137 => exact fun _ _ _ h => h
      simp only [Act.put, List.setIfInBounds_toArray, List.set_cons_zero, List.set_cons_succ]
      refine wpAnyH_ready (rs := [8]) (by kernel_rfl) (by simp) ?_
      refine AllReadyH.cons (o := ?oi138) ?hi138 (fun K hK => ?step138) AllReadyH.nil
      case hi138 => simp only [List.getElem?_toArray, List.getElem?_cons_succ, List.getElem?_cons_zero]; rfl
      rw [if_pos (by rfl)]
      go_simp
      refine hK.out _ _ S7.out (fun hS => ?_)
      refine wpAnyH_take (i := 9) (oi := ?oi139) (v := ?v139) ?hi139 (by kernel_rfl) ?hf139 ?hr139 ?hQ139 (Or.inl ⟨?hw139, ?hy139⟩) (by assumption) ?rest139
      case hi139 => simp only [List.getElem?_toArray, List.getElem?_cons_succ, List.getElem?_cons_zero]; rfl
      case hf139 => kernel_rfl
      case hr139 => kernel_rfl
      case hw139 => rfl
      case hy139 => (intro w hSw; (try dsimp only at hSw); go_simp; all_goals (first | done | with_reducible rfl))
      case hQ139 => exact fun _ _ _ h => h
      simp only [Act.put, List.setIfInBounds_toArray, List.set_cons_zero, List.set_cons_succ]
      refine wpAnyH_take (i := 10) (oi := ?oi140) (v := ?v140) ?hi140 (by kernel_rfl) ?hf140 ?hr140 ?hQ140 (Or.inl ⟨?hw140, ?hy140⟩) (by assumption) ?rest140
      case hi140 => simp only [List.getElem?_toArray, List.getElem?_cons_succ, List.getElem?_cons_zero]; rfl
      case hf140 => kernel_rfl
      case hr140 => kernel_rfl
      case hw140 => rfl
      case hy140 => (intro w hSw; (try dsimp only at hSw); go_simp; all_goals (first | done | with_reducible rfl))
      case hQ140 => exact fun _ _ _ h => h
      simp only [Act.put, List.setIfInBounds_toArray, List.set_cons_zero, List.set_cons_succ]
      refine wpAnyH_done (by kernel_rfl) ?_ _
      clear q0c q0f q1c q1f q2c q2f r0c r0f r1c r1f r2c r2f
      go_wp2_with fail
      have RB := ((K5.out.set 0 (.slice (some ⟨g, 0, none⟩) n1 k1)).set 1 (.slice A2 n2 k2)).set 2 (.int .i64 q)
      have f0 := (RB.2 0 _ rfl).1
      have f1 := (RB.2 1 _ rfl).1
      have f2 := (RB.2 2 _ rfl).1
      refine bodyPost_ret (v := .tuple #[.agg #[.slice (some ⟨g, 0, none⟩) n1 k1, .slice A2 n2 k2, .int .i64 q], .string p, .string nm]) (by simp [results, Try.results42, go_sem, f0, f1, f2]) rfl ?_
      refine ⟨_, treeRows ls.length (.slice (some ⟨g, 0, none⟩) n1 k1) ls hs'.length (.slice A2 n2 k2) hs', L, H, q, p, nm, rfl, ⟨_, _, ls, hs', rfl, HLH.out.1, HLH.out.2, rfl⟩, HSM.out, HP.out, HNM.out, Rows.base (lo := w1.heap.size) ?_ (by omega), ?_⟩
      · refine Rows.dr ?_
        iterate 3 refine Rows.low ?_ (by omega)
        exact X5.out
      · refine Below.drew ?_
        iterate 3 refine Below.setCell ?_ (by simp) _
        exact HB5.out
  · have z0 : decide ((0 : Int) < (hn : Int)) = false := by simp; omega
    have d0 := (KT4.out.2 0 _ rfl).1
    obtain ⟨_, x2, _⟩ := HCELL.out w4 X4.out
    go_wp2_with fail
    clear d0 x2
    obtain ⟨x0, _, _⟩ := HCELL.out w4 X4.out
    have xd := HCELL.out w4.drew X4.out.dr
    have sb : (fun w' : World => (w'.cell? ⟨bb, 0, none⟩ = some (.slice (some ⟨g, 0, none⟩) n1 k1) ∧ w'.cell? ⟨bb, 1, none⟩ = some (.slice A2 n2 k2) ∧ w'.cell? ⟨bb, 2, none⟩ = some (.int .i64 q)) ∧ w'.cell? ⟨g, k * 6, none⟩ = some (.string p)) w4.drew := ⟨⟨((KT4.out.dr 1).2 0 _ rfl).1, ((KT4.out.dr 1).2 1 _ rfl).1, ((KT4.out.dr 1).2 2 _ rfl).1⟩, xd.1⟩
    have S7 := hid (And.intro (three_set (rb := w.heap.size) (u0 := .slice (some ⟨g, 0, none⟩) n1 k1) (u1 := .slice A2 n2 k2) (u2 := .int .i64 q) (by omega) sb.1) (one_set (rb := w.heap.size) (u0 := .slice (some ⟨g, 0, none⟩) n1 k1) (u1 := .slice A2 n2 k2) (u2 := .int .i64 q) (by omega) sb.2))
    have KD := hid (show Blk w4.drew w.heap.size [.slice none 0 0, .slice none 0 0, .int .i64 0] from K4.out.dr 1)
    obtain ⟨q0c, q0f⟩ := KD.out.2 0 _ rfl
    obtain ⟨q1c, q1f⟩ := KD.out.2 1 _ rfl
    obtain ⟨q2c, q2f⟩ := KD.out.2 2 _ rfl
    obtain ⟨r0c, r0f⟩ := K4.out.2 0 _ rfl
    obtain ⟨r1c, r1f⟩ := K4.out.2 1 _ rfl
    obtain ⟨r2c, r2f⟩ := K4.out.2 2 _ rfl
    clear x0 xd
    replace sb := hid sb
    go_wp2_with fail
    refine wp_region_held_drew (S := (fun w' : World => (w'.cell? ⟨bb, 0, none⟩ = some (.slice (some ⟨g, 0, none⟩) n1 k1) ∧ w'.cell? ⟨bb, 1, none⟩ = some (.slice A2 n2 k2) ∧ w'.cell? ⟨bb, 2, none⟩ = some (.int .i64 q)) ∧ w'.cell? ⟨g, k * 6, none⟩ = some (.string p))) (by kernel_rfl) sb.out (fun hS => ?_)
    refine wpAnyH_take (i := 0) (oi := ?oi141) (v := ?v141) ?hi141 (by kernel_rfl) ?hf141 ?hr141 ?hQ141 (Or.inl ⟨?hw141, ?hy141⟩) (by assumption) ?rest141
    case hi141 => simp only [List.getElem?_toArray, List.getElem?_cons_succ, List.getElem?_cons_zero]; rfl
    case hf141 => kernel_rfl
    case hr141 => kernel_rfl
    case hw141 => rfl
    case hy141 => (intro w hSw; (try dsimp only at hSw); go_simp; all_goals (first | done | with_reducible rfl))
    case hQ141 => exact fun _ _ _ h => h
    simp only [Act.put, List.setIfInBounds_toArray, List.set_cons_zero, List.set_cons_succ]
    refine wpAnyH_take (i := 1) (oi := ?oi142) (v := ?v142) ?hi142 (by kernel_rfl) ?hf142 ?hr142 ?hQ142 (Or.inl ⟨?hw142, ?hy142⟩) (by assumption) ?rest142
    case hi142 => simp only [List.getElem?_toArray, List.getElem?_cons_succ, List.getElem?_cons_zero]; rfl
    case hf142 => kernel_rfl
    case hr142 => kernel_rfl
    case hw142 => rfl
    case hy142 => (intro w hSw; (try dsimp only at hSw); go_simp; all_goals (first | done | with_reducible rfl))
    case hQ142 => exact fun _ _ _ h => h
    simp only [Act.put, List.setIfInBounds_toArray, List.set_cons_zero, List.set_cons_succ]
    refine wpAnyH_take (i := 2) (oi := ?oi143) (v := ?v143) ?hi143 (by kernel_rfl) ?hf143 ?hr143 ?hQ143 (Or.inl ⟨?hw143, ?hy143⟩) (by assumption) ?rest143
    case hi143 => simp only [List.getElem?_toArray, List.getElem?_cons_succ, List.getElem?_cons_zero]; rfl
    case hf143 => kernel_rfl
    case hr143 => kernel_rfl
    case hw143 => rfl
    case hy143 => (intro w hSw; (try dsimp only at hSw); go_simp; all_goals (first | done | with_reducible rfl))
    case hQ143 => exact fun _ _ _ h => h
    simp only [Act.put, List.setIfInBounds_toArray, List.set_cons_zero, List.set_cons_succ]
    refine wpAnyH_take (i := 3) (oi := ?oi144) (v := ?v144) ?hi144 (by kernel_rfl) ?hf144 ?hr144 ?hQ144 (Or.inl ⟨?hw144, ?hy144⟩) (by assumption) ?rest144
    case hi144 => simp only [List.getElem?_toArray, List.getElem?_cons_succ, List.getElem?_cons_zero]; rfl
    case hf144 => kernel_rfl
    case hr144 => kernel_rfl
    case hw144 => rfl
    case hy144 => (intro w hSw; (try dsimp only at hSw); go_simp; all_goals (first | done | with_reducible rfl))
    case hQ144 => exact fun _ _ _ h => h
    simp only [Act.put, List.setIfInBounds_toArray, List.set_cons_zero, List.set_cons_succ]
    refine wpAnyH_take (i := 4) (oi := ?oi145) (v := ?v145) ?hi145 (by kernel_rfl) ?hf145 ?hr145 ?hQ145 (Or.inl ⟨?hw145, ?hy145⟩) (by assumption) ?rest145
    case hi145 => simp only [List.getElem?_toArray, List.getElem?_cons_succ, List.getElem?_cons_zero]; rfl
    case hf145 => kernel_rfl
    case hr145 => kernel_rfl
    case hw145 => rfl
    case hy145 => (intro w hSw; (try dsimp only at hSw); go_simp; all_goals (first | done | with_reducible rfl))
    case hQ145 => exact fun _ _ _ h => h
    simp only [Act.put, List.setIfInBounds_toArray, List.set_cons_zero, List.set_cons_succ]
    refine wpAnyH_take (i := 5) (oi := ?oi146) (v := ?v146) ?hi146 (by kernel_rfl) ?hf146 ?hr146 ?hQ146 (Or.inl ⟨?hw146, ?hy146⟩) (by assumption) ?rest146
    case hi146 => simp only [List.getElem?_toArray, List.getElem?_cons_succ, List.getElem?_cons_zero]; rfl
    case hf146 => kernel_rfl
    case hr146 => kernel_rfl
    case hw146 => rfl
    case hy146 => (intro w hSw; (try dsimp only at hSw); go_simp; all_goals (first | done | with_reducible rfl))
    case hQ146 => exact fun _ _ _ h => h
    simp only [Act.put, List.setIfInBounds_toArray, List.set_cons_zero, List.set_cons_succ]
    refine wpAnyH_take (i := 6) (oi := ?oi147) (v := ?v147) ?hi147 (by kernel_rfl) ?hf147 ?hr147 ?hQ147 (Or.inl ⟨?hw147, ?hy147⟩) (by assumption) ?rest147
    case hi147 => simp only [List.getElem?_toArray, List.getElem?_cons_succ, List.getElem?_cons_zero]; rfl
    case hf147 => kernel_rfl
    case hr147 => kernel_rfl
    case hw147 => rfl
    case hy147 => (intro w hSw; (try dsimp only at hSw); go_simp; all_goals (first | done | with_reducible rfl))
    case hQ147 => exact fun _ _ _ h => h
    simp only [Act.put, List.setIfInBounds_toArray, List.set_cons_zero, List.set_cons_succ]
    refine wpAnyH_take (i := 7) (oi := ?oi148) (v := ?v148) ?hi148 (by kernel_rfl) ?hf148 ?hr148 ?hQ148 (Or.inl ⟨?hw148, ?hy148⟩) (by assumption) ?rest148
    case hi148 => simp only [List.getElem?_toArray, List.getElem?_cons_succ, List.getElem?_cons_zero]; rfl
    case hf148 => kernel_rfl
    case hr148 => kernel_rfl
    case hw148 => rfl
    case hy148 => (intro w hSw; (try dsimp only at hSw); go_simp; all_goals (first | done | with_reducible rfl))
    case hQ148 => exact fun _ _ _ h => h
    simp only [Act.put, List.setIfInBounds_toArray, List.set_cons_zero, List.set_cons_succ]
    refine wpAnyH_ready (rs := [8]) (by kernel_rfl) (by simp) ?_
    refine AllReadyH.cons (o := ?oi149) ?hi149 (fun K hK => ?step149) AllReadyH.nil
    case hi149 => simp only [List.getElem?_toArray, List.getElem?_cons_succ, List.getElem?_cons_zero]; rfl
    rw [if_pos (by rfl)]
    go_simp
    refine hK.out _ _ S7.out (fun hS => ?_)
    refine wpAnyH_take (i := 9) (oi := ?oi150) (v := ?v150) ?hi150 (by kernel_rfl) ?hf150 ?hr150 ?hQ150 (Or.inl ⟨?hw150, ?hy150⟩) (by assumption) ?rest150
    case hi150 => simp only [List.getElem?_toArray, List.getElem?_cons_succ, List.getElem?_cons_zero]; rfl
    case hf150 => kernel_rfl
    case hr150 => kernel_rfl
    case hw150 => rfl
    case hy150 => (intro w hSw; (try dsimp only at hSw); go_simp; all_goals (first | done | with_reducible rfl))
    case hQ150 => exact fun _ _ _ h => h
    simp only [Act.put, List.setIfInBounds_toArray, List.set_cons_zero, List.set_cons_succ]
    refine wpAnyH_take (i := 10) (oi := ?oi151) (v := ?v151) ?hi151 (by kernel_rfl) ?hf151 ?hr151 ?hQ151 (Or.inl ⟨?hw151, ?hy151⟩) (by assumption) ?rest151
    case hi151 => simp only [List.getElem?_toArray, List.getElem?_cons_succ, List.getElem?_cons_zero]; rfl
    case hf151 => kernel_rfl
    case hr151 => kernel_rfl
    case hw151 => rfl
    case hy151 => (intro w hSw; (try dsimp only at hSw); go_simp; all_goals (first | done | with_reducible rfl))
    case hQ151 => exact fun _ _ _ h => h
    simp only [Act.put, List.setIfInBounds_toArray, List.set_cons_zero, List.set_cons_succ]
    refine wpAnyH_done (by kernel_rfl) ?_ _
    clear q0c q0f q1c q1f q2c q2f r0c r0f r1c r1f r2c r2f
    go_wp2_with fail
    have RB := ((K4.out.set 0 (.slice (some ⟨g, 0, none⟩) n1 k1)).set 1 (.slice A2 n2 k2)).set 2 (.int .i64 q)
    have f0 := (RB.2 0 _ rfl).1
    have f1 := (RB.2 1 _ rfl).1
    have f2 := (RB.2 2 _ rfl).1
    refine bodyPost_ret (v := .tuple #[.agg #[.slice (some ⟨g, 0, none⟩) n1 k1, .slice A2 n2 k2, .int .i64 q], .string p, .string nm]) (by simp [results, Try.results42, go_sem, f0, f1, f2]) rfl ?_
    refine ⟨_, treeRows ls.length (.slice (some ⟨g, 0, none⟩) n1 k1) ls hs'.length (.slice A2 n2 k2) hs', L, H, q, p, nm, rfl, ⟨_, _, ls, hs', rfl, HLH.out.1, HLH.out.2, rfl⟩, HSM.out, HP.out, HNM.out, Rows.base (lo := w1.heap.size) ?_ (by omega), ?_⟩
    · refine Rows.dr ?_
      iterate 3 refine Rows.low ?_ (by omega)
      exact X4.out
    · refine Below.drew ?_
      iterate 3 refine Below.setCell ?_ (by simp) _
      exact HB4.out
end Go.Proofs.Yteoblmhbjmefoaa
