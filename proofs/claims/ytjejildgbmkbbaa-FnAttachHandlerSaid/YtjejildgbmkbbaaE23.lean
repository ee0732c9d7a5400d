/-
  DRAWS: a tree, a name and a handler's. By gen_attd.py.
-/
import Derived.Test.YtjejildgbmkbbaaE10
import Derived.Test.YtjejildgbmkbbaaE18
namespace Go.Proofs.Ytjejildgbmkbbaa
open Go.RowKit Nm
set_option linter.unusedSimpArgs false
set_option linter.unusedVariables false

theorem own_topF {w : World} {lo n1 n2 : Nat} {v1 v2 : Value} {ls : List LgrV} {hs : List HndV} (h : Rows w lo (treeRows n1 v1 ls n2 v2 hs)) : w.ownsRow lo 48 6 v1 n1 (ls.flatMap lcells) := h.1 ⟨48, 6, n1, v1, ls.flatMap lcells⟩ (by rw [treeRows_eq]; simp [two])
theorem own_cellF {w : World} {lo n m c g : Nat} {cur : List LgrV} (ho : w.ownsRow lo 48 6 (.slice (some ⟨g, 0, none⟩) m c) n (cur.flatMap lcells)) {k d : Nat} {x : LgrV} {u : Value} (hx : cur[k]? = some x) (hu : (lcells x)[d]? = some u) :
    w.cell? ⟨g, k * 6 + d, none⟩ = some u := by
  have hm : m = n := by obtain ⟨A, c', e, _⟩ := (Sl.of_own ho).form; simp at e; exact e.2.1
  subst hm
  have hj := (List.getElem?_eq_some_iff.1 hu).1
  rw [lcells_len] at hj
  have e := flat_get lcells 6 lcells_len cur k d x hx hj
  rw [hu] at e
  have hlt := (List.getElem?_eq_some_iff.1 e).1
  exact (ho.cellAt (k * 6 + d) (by have := ho.1; omega)).trans e

set_option maxHeartbeats 4000000 in
set_option maxRecDepth 100000 in
theorem drawAttachHandler_c (a : Option Addr) (len cap : Nat) (z : List Int) (w : World) (h : IsRow .u8 w a len cap z) :
    Calls Try.prog 4 #[.slice a len cap] w (DrawNamedS w) := by
  have K0 := hid (Blk.new w #[.slice none 0 0, .slice none 0 0, .int .i64 0] 26)
  have HB0 := hid (show Below w.heap.size w (w.alloc (.cells #[.slice none 0 0, .slice none 0 0, .int .i64 0] 26)) from (Below.refl _ _).alloc (Nat.le_refl _) _)
  have C := hid (newReader_c a len cap z _ (h.belowT HB0.out))
  simp only [World.size_alloc] at C
  clear h
  go_enter Try.func4, Try.ntmps4
  go_wp2_with fail
  refine C.out.mono ?_
  rintro e w1 ⟨rfl, hr1, hb1⟩
  have K1 := hid (K0.out.below hb1 (by omega))
  have HB1 := hid (HB0.out.trans (hb1.mono (by omega)))
  have hlt := hr1.lt
  have C1 := hid (treeHandler_c _ 0 w1 hr1 (by omega))
  clear hr1 hb1 C K0 HB0
  go_wp2_with fail
  refine C1.out.mono ?_
  rintro e w2 ⟨v, rs, L, H, q, nm, p2, rfl, hs, hsm, hnm, hr, hp2, hrd2, hg2⟩
  obtain ⟨A1, n1, k1, A2, n2, k2, rfl, -, -⟩ := hs.form_ hr
  have hbx : Below w2.heap.size w2 (w2.alloc (.cells #[.slice A1 n1 k1, .slice A2 n2 k2, .int .i64 q] 26)) := (Below.refl _ _).alloc (Nat.le_refl _) _
  have K2 := hid ((K1.out.kept hg2 (by simp)).to hbx)
  have KT := hid (Blk.new w2 #[.slice A1 n1 k1, .slice A2 n2 k2, .int .i64 q] 26)
  have HX := hid (And.intro hs (And.intro (hr.below hbx) hsm))
  have HB2 := hid ((HB1.out.trans (below_own hg2 HB1.out.size (by omega))).trans (hbx.mono (Nat.le_trans HB1.out.size hg2.size)))
  have hs1 : w.heap.size < w1.heap.size := K1.out.1
  have hrb : w.heap.size < w2.heap.size := Nat.lt_of_lt_of_le hs1 hg2.size
  have hs2 : w2.heap.size < (w2.alloc (.cells #[.slice A1 n1 k1, .slice A2 n2 k2, .int .i64 q] 26)).heap.size := by simp
  have D3 := hid (hrd2.below hbx)
  have hRb : w.heap.size + 1 < w2.heap.size := by have := hg2.size; have := hlt; simp at *; omega
  clear hs hr hsm hrd2 hg2 C1 K1 hbx
  go_wp2_with fail
  generalize hbb : w2.heap.size = bb at *
  generalize w2.alloc (.cells #[.slice A1 n1 k1, .slice A2 n2 k2, .int .i64 q] 26) = w3 at *
  clear hbb
  obtain ⟨u1, u2, ls, hs', e0, hL, hH, hrs⟩ := HX.out.1
  obtain ⟨rfl, rfl⟩ : (.slice A1 n1 k1 : Value) = u1 ∧ (.slice A2 n2 k2 : Value) = u2 := by simpa using e0
  subst hrs
  have X3 := hid HX.out.2.1
  have HSM := hid HX.out.2.2
  have HLH := hid (And.intro hL hH)
  have hown3 : w3.ownsRow w1.heap.size 48 6 (.slice A1 n1 k1) ls.length (ls.flatMap lcells) := own_topF X3.out
  have hnl : n1 = ls.length := by obtain ⟨A, c, e, _⟩ := (Sl.of_own hown3).form; simp at e; exact e.2.1
  have hll : ls.length = L.length := by rw [← hL]; simp [lsOf]
  have h1n : 1 ≤ n1 := by have := HSM.out.1; omega
  have hn8 : n1 ≤ 8 := by have := HSM.out.2.1.1; omega
  rw [← hnl] at hown3
  obtain ⟨g, rfl, hgl⟩ := own_some hown3 (by omega)
  have hgb : w1.heap.size ≤ g := (hown3.lt g rfl).1
  have HNL := hid hnl
  have HLT := hid hlt
  have hR1 : w.heap.size + 1 < w1.heap.size := hlt
  have K3 := K2
  have KT3 := KT
  have HB3 := HB2
  have C5 := hid (pick_c (w.heap.size + 1) p2 4 w3 D3.out (by omega) (by omega))
  have HP2 := hid hp2
  have HNM := hid hnm
  clear e0 hL hH hown3 hnl hll HX hlt K2 KT HB2
  go_wp2_with fail
  refine C5.out.mono ?_
  rintro e w4 ⟨k3, rfl, _, _, hr4, hg4⟩
  clear C5
  have K4 := hid (K3.out.kept hg4 (by simp))
  have KT4 := hid (KT3.out.kept hg4 (by simp; omega))
  have X4 := hid (X3.out.offR hg4 HLT.out)
  have HB4 := hid (HB3.out.trans (below_own hg4 HB3.out.size (by omega)))
  have D4 := hid hr4
  clear hr4 hg4
  have sb : (fun w' : World => w'.cell? ⟨bb, 0, none⟩ = some (.slice (some ⟨g, 0, none⟩) n1 k1) ∧ w'.cell? ⟨bb, 1, none⟩ = some (.slice A2 n2 k2) ∧ w'.cell? ⟨bb, 2, none⟩ = some (.int .i64 q)) w4.drew := ⟨((KT4.out.dr 1).2 0 _ rfl).1, ((KT4.out.dr 1).2 1 _ rfl).1, ((KT4.out.dr 1).2 2 _ rfl).1⟩
  replace sb := hid sb
  by_cases hk3 : k3 = 0
  · have z0 : ((k3 : Int) == 0) = true := by simp; omega
    have C6 := hid (anyName_c (w.heap.size + 1) (p2 + 1) w4.drew (D4.out.below (Below.refl _ _).drew) (by omega))
    clear hk3
    go_wp2_with fail
    refine wp_region_held_drew (S := (fun w' : World => w'.cell? ⟨bb, 0, none⟩ = some (.slice (some ⟨g, 0, none⟩) n1 k1) ∧ w'.cell? ⟨bb, 1, none⟩ = some (.slice A2 n2 k2) ∧ w'.cell? ⟨bb, 2, none⟩ = some (.int .i64 q))) (by kernel_rfl) sb.out (fun hS => ?_)
    refine wpAnyH_take (i := 0) (oi := ?oi101) (v := ?v101) ?hi101 (by kernel_rfl) ?hf101 ?hr101 ?hQ101 (Or.inl ⟨?hw101, ?hy101⟩) (by assumption) ?rest101
    case hi101 => simp only [List.getElem?_toArray, List.getElem?_cons_succ, List.getElem?_cons_zero]; rfl
    case hf101 => kernel_rfl
    case hr101 => kernel_rfl
    case hw101 => rfl
    case hy101 => (intro w hSw; (try dsimp only at hSw); go_simp; all_goals (first | done | with_reducible rfl))
    case hQ101 => exact fun _ _ _ h => h
    simp only [Act.put, List.setIfInBounds_toArray, List.set_cons_zero, List.set_cons_succ]
    refine wpAnyH_take (i := 1) (oi := ?oi102) (v := ?v102) ?hi102 (by kernel_rfl) ?hf102 ?hr102 ?hQ102 (Or.inl ⟨?hw102, ?hy102⟩) (by assumption) ?rest102
    case hi102 => simp only [List.getElem?_toArray, List.getElem?_cons_succ, List.getElem?_cons_zero]; rfl
    case hf102 => kernel_rfl
    case hr102 => kernel_rfl
    case hw102 => rfl
    case hy102 => (intro w hSw; (try dsimp only at hSw); go_simp; all_goals (first | done | with_reducible rfl))
    case hQ102 => exact fun _ _ _ h => h
    simp only [Act.put, List.setIfInBounds_toArray, List.set_cons_zero, List.set_cons_succ]
    refine wpAnyH_take (i := 3) (oi := ?oi103) (v := ?v103) ?hi103 (by kernel_rfl) ?hf103 ?hr103 ?hQ103 (Or.inl ⟨?hw103, ?hy103⟩) (by assumption) ?rest103
    case hi103 => simp only [List.getElem?_toArray, List.getElem?_cons_succ, List.getElem?_cons_zero]; rfl
    case hf103 => kernel_rfl
    case hr103 => kernel_rfl
    case hw103 => rfl
    case hy103 => (intro w hSw; (try dsimp only at hSw); go_simp; all_goals (first | done | with_reducible rfl))
    case hQ103 => exact fun _ _ _ h => h
    simp only [Act.put, List.setIfInBounds_toArray, List.set_cons_zero, List.set_cons_succ]
    refine wpAnyH_ready (rs := [2]) (by kernel_rfl) (by simp) ?_
    refine AllReadyH.cons (o := ?oi104) ?hi104 (fun K hK => ?step104) AllReadyH.nil
    case hi104 => simp only [List.getElem?_toArray, List.getElem?_cons_succ, List.getElem?_cons_zero]; rfl
    rw [if_pos (by rfl)]
    go_simp
    go_at_call 15
    refine C6.out.mono ?_
    rintro e w5 ⟨nm2, p5, hnx, rfl, hp5, hr5, hg5⟩
    replace hg5 : w4.grownBy w5 (some (w.heap.size + 1)) := grown_tr (grown_drN (World.grownBy.refl w4 _) 1) hg5
    have K5 := hid (K4.out.kept hg5 (by simp))
    have KT5 := hid (KT4.out.kept hg5 (by simp; omega))
    have X5 := hid (X4.out.offR hg5 HLT.out)
    have HB5 := hid (HB4.out.trans (below_own hg5 HB4.out.size (by omega)))
    have D5 := hid hr5
    clear hr5 hg5
    have s5 : (fun w' : World => w'.cell? ⟨bb, 0, none⟩ = some (.slice (some ⟨g, 0, none⟩) n1 k1) ∧ w'.cell? ⟨bb, 1, none⟩ = some (.slice A2 n2 k2) ∧ w'.cell? ⟨bb, 2, none⟩ = some (.int .i64 q)) w5 := ⟨(KT5.out.2 0 _ rfl).1, (KT5.out.2 1 _ rfl).1, (KT5.out.2 2 _ rfl).1⟩
    have S7 := hid (three_set (rb := w.heap.size) (u0 := .slice (some ⟨g, 0, none⟩) n1 k1) (u1 := .slice A2 n2 k2) (u2 := .int .i64 q) (by omega) s5)
    obtain ⟨q0c, q0f⟩ := K5.out.2 0 _ rfl
    obtain ⟨q1c, q1f⟩ := K5.out.2 1 _ rfl
    obtain ⟨q2c, q2f⟩ := K5.out.2 2 _ rfl
    have HNX := hid (show nm2.size ≤ 20 by omega)
    clear C6
    refine hK.out _ _ s5 (fun hS => ?_)
    refine wpAnyH_ready (rs := [4]) (by kernel_rfl) (by simp) ?_
    refine AllReadyH.cons (o := ?oi105) ?hi105 (fun K hK => ?step105) AllReadyH.nil
    case hi105 => simp only [List.getElem?_toArray, List.getElem?_cons_succ, List.getElem?_cons_zero]; rfl
    rw [if_pos (by rfl)]
    go_simp
    refine hK.out _ _ S7.out (fun hS => ?_)
    refine wpAnyH_take (i := 5) (oi := ?oi106) (v := ?v106) ?hi106 (by kernel_rfl) ?hf106 ?hr106 ?hQ106 (Or.inl ⟨?hw106, ?hy106⟩) (by assumption) ?rest106
    case hi106 => simp only [List.getElem?_toArray, List.getElem?_cons_succ, List.getElem?_cons_zero]; rfl
    case hf106 => kernel_rfl
    case hr106 => kernel_rfl
    case hw106 => rfl
    case hy106 => (intro w hSw; (try dsimp only at hSw); go_simp; all_goals (first | done | with_reducible rfl))
    case hQ106 => exact fun _ _ _ h => h
    simp only [Act.put, List.setIfInBounds_toArray, List.set_cons_zero, List.set_cons_succ]
    refine wpAnyH_take (i := 6) (oi := ?oi107) (v := ?v107) ?hi107 (by kernel_rfl) ?hf107 ?hr107 ?hQ107 (Or.inl ⟨?hw107, ?hy107⟩) (by assumption) ?rest107
    case hi107 => simp only [List.getElem?_toArray, List.getElem?_cons_succ, List.getElem?_cons_zero]; rfl
    case hf107 => kernel_rfl
    case hr107 => kernel_rfl
    case hw107 => rfl
    case hy107 => (intro w hSw; (try dsimp only at hSw); go_simp; all_goals (first | done | with_reducible rfl))
    case hQ107 => exact fun _ _ _ h => h
    simp only [Act.put, List.setIfInBounds_toArray, List.set_cons_zero, List.set_cons_succ]
    refine wpAnyH_done (by kernel_rfl) ?_ _
    clear q0c q0f q1c q1f q2c q2f s5
    go_wp2_with fail
    have RB := ((K5.out.set 0 (.slice (some ⟨g, 0, none⟩) n1 k1)).set 1 (.slice A2 n2 k2)).set 2 (.int .i64 q)
    have f0 := (RB.2 0 _ rfl).1
    have f1 := (RB.2 1 _ rfl).1
    have f2 := (RB.2 2 _ rfl).1
    refine bodyPost_ret (v := .tuple #[.agg #[.slice (some ⟨g, 0, none⟩) n1 k1, .slice A2 n2 k2, .int .i64 q], .string nm2, .string nm]) (by simp [results, Try.results4, go_sem, f0, f1, f2]) rfl ?_
    refine ⟨_, treeRows ls.length (.slice (some ⟨g, 0, none⟩) n1 k1) ls hs'.length (.slice A2 n2 k2) hs', L, H, q, nm2, nm, rfl, ⟨_, _, ls, hs', rfl, HLH.out.1, HLH.out.2, rfl⟩, HSM.out, HNX.out, HNM.out, Rows.base (lo := w1.heap.size) ?_ (by omega), ?_⟩
    · iterate 3 refine Rows.low ?_ (by omega)
      exact X5.out
    · iterate 3 refine Below.setCell ?_ (by simp) _
      exact HB5.out
  · have z0 : ((k3 : Int) == 0) = false := by simp; omega
    have C6 := hid (pick_c (w.heap.size + 1) (p2 + 1) n1 w4.drew (D4.out.below (Below.refl _ _).drew) (by omega) (by omega))
    clear hk3
    go_wp2_with fail
    refine wp_region_held_drew (S := (fun w' : World => w'.cell? ⟨bb, 0, none⟩ = some (.slice (some ⟨g, 0, none⟩) n1 k1) ∧ w'.cell? ⟨bb, 1, none⟩ = some (.slice A2 n2 k2) ∧ w'.cell? ⟨bb, 2, none⟩ = some (.int .i64 q))) (by kernel_rfl) sb.out (fun hS => ?_)
    refine wpAnyH_take (i := 0) (oi := ?oi108) (v := ?v108) ?hi108 (by kernel_rfl) ?hf108 ?hr108 ?hQ108 (Or.inl ⟨?hw108, ?hy108⟩) (by assumption) ?rest108
    case hi108 => simp only [List.getElem?_toArray, List.getElem?_cons_succ, List.getElem?_cons_zero]; rfl
    case hf108 => kernel_rfl
    case hr108 => kernel_rfl
    case hw108 => rfl
    case hy108 => (intro w hSw; (try dsimp only at hSw); go_simp; all_goals (first | done | with_reducible rfl))
    case hQ108 => exact fun _ _ _ h => h
    simp only [Act.put, List.setIfInBounds_toArray, List.set_cons_zero, List.set_cons_succ]
    refine wpAnyH_take (i := 1) (oi := ?oi109) (v := ?v109) ?hi109 (by kernel_rfl) ?hf109 ?hr109 ?hQ109 (Or.inl ⟨?hw109, ?hy109⟩) (by assumption) ?rest109
    case hi109 => simp only [List.getElem?_toArray, List.getElem?_cons_succ, List.getElem?_cons_zero]; rfl
    case hf109 => kernel_rfl
    case hr109 => kernel_rfl
    case hw109 => rfl
    case hy109 => (intro w hSw; (try dsimp only at hSw); go_simp; all_goals (first | done | with_reducible rfl))
    case hQ109 => exact fun _ _ _ h => h
    simp only [Act.put, List.setIfInBounds_toArray, List.set_cons_zero, List.set_cons_succ]
    refine wpAnyH_take (i := 2) (oi := ?oi110) (v := ?v110) ?hi110 (by kernel_rfl) ?hf110 ?hr110 ?hQ110 (Or.inl ⟨?hw110, ?hy110⟩) (by assumption) ?rest110
    case hi110 => simp only [List.getElem?_toArray, List.getElem?_cons_succ, List.getElem?_cons_zero]; rfl
    case hf110 => kernel_rfl
    case hr110 => kernel_rfl
    case hw110 => rfl
    case hy110 => (intro w hSw; (try dsimp only at hSw); go_simp; all_goals (first | done | with_reducible rfl))
    case hQ110 => exact fun _ _ _ h => h
    simp only [Act.put, List.setIfInBounds_toArray, List.set_cons_zero, List.set_cons_succ]
    refine wpAnyH_take (i := 3) (oi := ?oi111) (v := ?v111) ?hi111 (by kernel_rfl) ?hf111 ?hr111 ?hQ111 (Or.inl ⟨?hw111, ?hy111⟩) (by assumption) ?rest111
    case hi111 => simp only [List.getElem?_toArray, List.getElem?_cons_succ, List.getElem?_cons_zero]; rfl
    case hf111 => kernel_rfl
    case hr111 => kernel_rfl
    case hw111 => rfl
    case hy111 => (intro w hSw; (try dsimp only at hSw); go_simp; all_goals (first | done | with_reducible rfl))
    case hQ111 => exact fun _ _ _ h => h
    simp only [Act.put, List.setIfInBounds_toArray, List.set_cons_zero, List.set_cons_succ]
    refine wpAnyH_take (i := 4) (oi := ?oi112) (v := ?v112) ?hi112 (by kernel_rfl) ?hf112 ?hr112 ?hQ112 (Or.inl ⟨?hw112, ?hy112⟩) (by assumption) ?rest112
    case hi112 => simp only [List.getElem?_toArray, List.getElem?_cons_succ, List.getElem?_cons_zero]; rfl
    case hf112 => kernel_rfl
    case hr112 => kernel_rfl
    case hw112 => rfl
    case hy112 => (intro w hSw; (try dsimp only at hSw); go_simp; all_goals (first | done | with_reducible rfl))
    case hQ112 => exact fun _ _ _ h => h
    simp only [Act.put, List.setIfInBounds_toArray, List.set_cons_zero, List.set_cons_succ]
    refine wpAnyH_take (i := 5) (oi := ?oi113) (v := ?v113) ?hi113 (by kernel_rfl) ?hf113 ?hr113 ?hQ113 (Or.inl ⟨?hw113, ?hy113⟩) (by assumption) ?rest113
    case hi113 => simp only [List.getElem?_toArray, List.getElem?_cons_succ, List.getElem?_cons_zero]; rfl
    case hf113 => kernel_rfl
    case hr113 => kernel_rfl
    case hw113 => rfl
    case hy113 => (intro w hSw; (try dsimp only at hSw); go_simp; all_goals (first | done | with_reducible rfl))
    case hQ113 => exact fun _ _ _ h => h
    simp only [Act.put, List.setIfInBounds_toArray, List.set_cons_zero, List.set_cons_succ]
    refine wpAnyH_take (i := 6) (oi := ?oi114) (v := ?v114) ?hi114 (by kernel_rfl) ?hf114 ?hr114 ?hQ114 (Or.inl ⟨?hw114, ?hy114⟩) (by assumption) ?rest114
    case hi114 => simp only [List.getElem?_toArray, List.getElem?_cons_succ, List.getElem?_cons_zero]; rfl
    case hf114 => kernel_rfl
    case hr114 => kernel_rfl
    case hw114 => rfl
    case hy114 => (intro w hSw; (try dsimp only at hSw); go_simp; all_goals (first | done | with_reducible rfl))
    case hQ114 => exact fun _ _ _ h => h
    simp only [Act.put, List.setIfInBounds_toArray, List.set_cons_zero, List.set_cons_succ]
    refine wpAnyH_take (i := 11) (oi := ?oi115) (v := ?v115) ?hi115 (by kernel_rfl) ?hf115 ?hr115 ?hQ115 (Or.inl ⟨?hw115, ?hy115⟩) (by assumption) ?rest115
    case hi115 => simp only [List.getElem?_toArray, List.getElem?_cons_succ, List.getElem?_cons_zero]; rfl
    case hf115 => kernel_rfl
    case hr115 => kernel_rfl
    case hw115 => rfl
    case hy115 => (intro w hSw; (try dsimp only at hSw); go_simp; all_goals (first | done | with_reducible rfl))
    case hQ115 => exact fun _ _ _ h => h
    simp only [Act.put, List.setIfInBounds_toArray, List.set_cons_zero, List.set_cons_succ]
    refine wpAnyH_ready (rs := [7]) (by kernel_rfl) (by simp) ?_
    refine AllReadyH.cons (o := ?oi116) ?hi116 (fun K hK => ?step116) AllReadyH.nil
    case hi116 => simp only [List.getElem?_toArray, List.getElem?_cons_succ, List.getElem?_cons_zero]; rfl
    rw [if_pos (by rfl)]
    go_simp
    go_at_call 14
    refine C6.out.mono ?_
    rintro e w5 ⟨k, rfl, hk1, _, hr5, hg5⟩
    have hkn : k < n1 := by have := hk1 (by omega); omega
    replace hg5 : w4.grownBy w5 (some (w.heap.size + 1)) := grown_tr (grown_drN (World.grownBy.refl w4 _) 1) hg5
    have K5 := hid (K4.out.kept hg5 (by simp))
    have KT5 := hid (KT4.out.kept hg5 (by simp; omega))
    have X5 := hid (X4.out.offR hg5 HLT.out)
    have HB5 := hid (HB4.out.trans (below_own hg5 HB4.out.size (by omega)))
    have D5 := hid hr5
    clear hr5 hg5
    obtain ⟨x, hx⟩ : ∃ x, ls[k]? = some x := ⟨_, List.getElem?_eq_getElem (by have := HNL.out; omega)⟩
    have hxm := List.mem_of_getElem? hx
    have hsml : lgrSm 9 x.l := HSM.out.2.1.2 x.l (by rw [← HLH.out.1]; exact List.mem_map.2 ⟨x, hxm, rfl⟩)
    obtain ⟨p, hp, hp2'⟩ := txt_mk x.l.nm
    have HP := hid (show p.size ≤ 20 by rw [Lib.size_eq, hp2']; exact hsml.1)
    have u0 : w5.cell? ⟨g, k * 6, none⟩ = some (.string p) := own_cellF (d := 0) (own_topF X5.out) hx (by unfold lcells; rw [hp]; rfl)
    have s5 : (fun w' : World => w'.cell? ⟨bb, 0, none⟩ = some (.slice (some ⟨g, 0, none⟩) n1 k1) ∧ w'.cell? ⟨bb, 1, none⟩ = some (.slice A2 n2 k2) ∧ w'.cell? ⟨bb, 2, none⟩ = some (.int .i64 q)) w5 := ⟨(KT5.out.2 0 _ rfl).1, (KT5.out.2 1 _ rfl).1, (KT5.out.2 2 _ rfl).1⟩
    have S7 := hid (And.intro (three_set (rb := w.heap.size) (u0 := .slice (some ⟨g, 0, none⟩) n1 k1) (u1 := .slice A2 n2 k2) (u2 := .int .i64 q) (by omega) s5) (one_set (rb := w.heap.size) (u0 := .slice (some ⟨g, 0, none⟩) n1 k1) (u1 := .slice A2 n2 k2) (u2 := .int .i64 q) (by omega) u0))
    obtain ⟨q0c, q0f⟩ := K5.out.2 0 _ rfl
    obtain ⟨q1c, q1f⟩ := K5.out.2 1 _ rfl
    obtain ⟨q2c, q2f⟩ := K5.out.2 2 _ rfl
    have s0 : (0 : Int) ≤ (k : Int) := by omega
    have s1 : (k : Int) < (n1 : Int) := by omega
    have s2 : ((k : Int)).toNat = k := by simp
    clear C6 hk1 hx hxm hsml hp hp2'
    refine hK.out _ _ s5 (fun hS => ?_)
    refine wpAnyH_mono (S' := fun w' : World => (w'.cell? ⟨bb, 0, none⟩ = some (.slice (some ⟨g, 0, none⟩) n1 k1) ∧ w'.cell? ⟨bb, 1, none⟩ = some (.slice A2 n2 k2) ∧ w'.cell? ⟨bb, 2, none⟩ = some (.int .i64 q)) ∧ w'.cell? ⟨g, k * 6, none⟩ = some (.string p)) (fun _ h => h.1) _ _ _ _ ?_
    have hS2 : (fun w' : World => (w'.cell? ⟨bb, 0, none⟩ = some (.slice (some ⟨g, 0, none⟩) n1 k1) ∧ w'.cell? ⟨bb, 1, none⟩ = some (.slice A2 n2 k2) ∧ w'.cell? ⟨bb, 2, none⟩ = some (.int .i64 q)) ∧ w'.cell? ⟨g, k * 6, none⟩ = some (.string p)) w5 := ⟨s5, u0⟩
    clear hS
    refine wpAnyH_take (i := 8) (oi := ?oi117) (v := ?v117) ?hi117 (by kernel_rfl) ?hf117 ?hr117 ?hQ117 (Or.inl ⟨?hw117, ?hy117⟩) (by assumption) ?rest117
    case hi117 => simp only [List.getElem?_toArray, List.getElem?_cons_succ, List.getElem?_cons_zero]; rfl
    case hf117 => kernel_rfl
    case hr117 => kernel_rfl
    case hw117 => rfl
    case hy117 => (intro w hSw; (try dsimp only at hSw); go_simp; all_goals (first | done | with_reducible rfl))
    case hQ117 => exact fun _ _ _ h => h
    simp only [Act.put, List.setIfInBounds_toArray, List.set_cons_zero, List.set_cons_succ]
    refine wpAnyH_take (i := 9) (oi := ?oi118) (v := ?v118) ?hi118 (by kernel_rfl) ?hf118 ?hr118 ?hQ118 (Or.inl ⟨?hw118, ?hy118⟩) (by assumption) ?rest118
    case hi118 => simp only [List.getElem?_toArray, List.getElem?_cons_succ, List.getElem?_cons_zero]; rfl
    case hf118 => kernel_rfl
    case hr118 => kernel_rfl
    case hw118 => rfl
    case hy118 => (intro w hSw; (try dsimp only at hSw); go_simp; all_goals (first | done | with_reducible rfl))
    case hQ118 => exact fun _ _ _ h => h
    simp only [Act.put, List.setIfInBounds_toArray, List.set_cons_zero, List.set_cons_succ]
    refine wpAnyH_take (i := 10) (oi := ?oi119) (v := ?v119) ?hi119 (by kernel_rfl) ?hf119 ?hr119 ?hQ119 (Or.inl ⟨?hw119, ?hy119⟩) (by assumption) ?rest119
    case hi119 => simp only [List.getElem?_toArray, List.getElem?_cons_succ, List.getElem?_cons_zero]; rfl
    case hf119 => kernel_rfl
    case hr119 => kernel_rfl
    case hw119 => rfl
    case hy119 => (intro w hSw; (try dsimp only at hSw); go_simp; all_goals (first | done | with_reducible rfl))
    case hQ119 => exact fun _ _ _ h => h
    simp only [Act.put, List.setIfInBounds_toArray, List.set_cons_zero, List.set_cons_succ]
    refine wpAnyH_ready (rs := [12]) (by kernel_rfl) (by simp) ?_
    refine AllReadyH.cons (o := ?oi120) ?hi120 (fun K hK => ?step120) AllReadyH.nil
    case hi120 => simp only [List.getElem?_toArray, List.getElem?_cons_succ, List.getElem?_cons_zero]; rfl
    rw [if_pos (by rfl)]
    go_simp
    refine hK.out _ _ S7.out (fun hS => ?_)
    refine wpAnyH_take (i := 13) (oi := ?oi121) (v := ?v121) ?hi121 (by kernel_rfl) ?hf121 ?hr121 ?hQ121 (Or.inl ⟨?hw121, ?hy121⟩) (by assumption) ?rest121
    case hi121 => simp only [List.getElem?_toArray, List.getElem?_cons_succ, List.getElem?_cons_zero]; rfl
    case hf121 => kernel_rfl
    case hr121 => kernel_rfl
    case hw121 => rfl
    case hy121 => (intro w hSw; (try dsimp only at hSw); go_simp; all_goals (first | done | with_reducible rfl))
    case hQ121 => exact fun _ _ _ h => h
    simp only [Act.put, List.setIfInBounds_toArray, List.set_cons_zero, List.set_cons_succ]
    refine wpAnyH_take (i := 14) (oi := ?oi122) (v := ?v122) ?hi122 (by kernel_rfl) ?hf122 ?hr122 ?hQ122 (Or.inl ⟨?hw122, ?hy122⟩) (by assumption) ?rest122
    case hi122 => simp only [List.getElem?_toArray, List.getElem?_cons_succ, List.getElem?_cons_zero]; rfl
    case hf122 => kernel_rfl
    case hr122 => kernel_rfl
    case hw122 => rfl
    case hy122 => (intro w hSw; (try dsimp only at hSw); go_simp; all_goals (first | done | with_reducible rfl))
    case hQ122 => exact fun _ _ _ h => h
    simp only [Act.put, List.setIfInBounds_toArray, List.set_cons_zero, List.set_cons_succ]
    refine wpAnyH_done (by kernel_rfl) ?_ _
    clear hS2 q0c q0f q1c q1f q2c q2f s5 u0
    go_wp2_with fail
    have RB := ((K5.out.set 0 (.slice (some ⟨g, 0, none⟩) n1 k1)).set 1 (.slice A2 n2 k2)).set 2 (.int .i64 q)
    have f0 := (RB.2 0 _ rfl).1
    have f1 := (RB.2 1 _ rfl).1
    have f2 := (RB.2 2 _ rfl).1
    refine bodyPost_ret (v := .tuple #[.agg #[.slice (some ⟨g, 0, none⟩) n1 k1, .slice A2 n2 k2, .int .i64 q], .string p, .string nm]) (by simp [results, Try.results4, go_sem, f0, f1, f2]) rfl ?_
    refine ⟨_, treeRows ls.length (.slice (some ⟨g, 0, none⟩) n1 k1) ls hs'.length (.slice A2 n2 k2) hs', L, H, q, p, nm, rfl, ⟨_, _, ls, hs', rfl, HLH.out.1, HLH.out.2, rfl⟩, HSM.out, HP.out, HNM.out, Rows.base (lo := w1.heap.size) ?_ (by omega), ?_⟩
    · iterate 3 refine Rows.low ?_ (by omega)
      exact X5.out
    · iterate 3 refine Below.setCell ?_ (by simp) _
      exact HB5.out
end Go.Proofs.Ytjejildgbmkbbaa
