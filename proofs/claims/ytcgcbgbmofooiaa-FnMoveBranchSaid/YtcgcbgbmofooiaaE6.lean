/-
  DRAWS of the laws over trees. By gen_e5.py.
-/
import Derived.Test.YtcgcbgbmofooiaaE5
namespace Go.Proofs.Ytcgcbgbmofooiaa
open Go.RowKit Nm
set_option linter.unusedSimpArgs false
set_option linter.unusedVariables false
theorem IsRow.leT {k : IntKind} {w : World} {a : Option Addr} {len cap : Nat} {z : List Int} (h : IsRow k w a len cap z) : len ≤ 9223372036854775807 := by
  rcases h with ⟨_, h, _, _⟩ | ⟨x, _, h1, h2, _⟩
  · omega
  · unfold maxLen at h2; omega
theorem IsRow.belowT {k : IntKind} {w w' : World} {a : Option Addr} {len cap : Nat} {z : List Int} (h : IsRow k w a len cap z) (hb : Below w.heap.size w w') : IsRow k w' a len cap z := by
  rcases h with h | ⟨x, h0, h1, h2, h3, h4, h5⟩
  · exact .inl h
  · exact .inr ⟨x, h0, h1, h2, h3, fun i hi => (hb.cell (World.block_lt_of_cell? w _ (h4 i hi))).trans (h4 i hi), h5⟩

set_option maxHeartbeats 4000000 in
set_option maxRecDepth 100000 in
theorem drawBranchOf_c (a : Option Addr) (len cap : Nat) (z : List Int) (w : World) (h : IsRow .u8 w a len cap z) :
    Calls Try.prog 9 #[.slice a len cap] w (DrawNamed w) := by
  have K0 := hid (Blk.new w #[.slice none 0 0, .slice none 0 0, .int .i64 0] 26)
  have HB0 := hid (show Below w.heap.size w (w.alloc (.cells #[.slice none 0 0, .slice none 0 0, .int .i64 0] 26)) from (Below.refl _ _).alloc (Nat.le_refl _) _)
  have C := hid (newReader_c a len cap z _ (h.belowT HB0.out))
  simp only [World.size_alloc] at C
  clear h
  go_enter Try.func9, Try.ntmps9
  go_wp2_with fail
  refine C.out.mono ?_
  rintro e w1 ⟨rfl, hr1, hb1⟩
  have K1 := hid (K0.out.below hb1 (by omega))
  have HB1 := hid (HB0.out.trans (hb1.mono (by omega)))
  have C1 := hid (treeName_c _ 0 w1 hr1 (by omega))
  clear hr1 hb1 C K0 HB0
  go_wp2_with fail
  refine C1.out.mono ?_
  rintro e w2 ⟨v, rs, L, H, q, nm, p2, rfl, hs, hsm, hnm, hr, hp2, hrd2, hg2⟩
  obtain ⟨A1, n1, k1, A2, n2, k2, rfl, -, -⟩ := hs.form_ hr
  have K2 := hid (K1.out.kept hg2 (by simp))
  have HX := hid (And.intro hs (And.intro hr hsm))
  have HB2 := hid (HB1.out.trans (below_own hg2 HB1.out.size (by omega)))
  obtain ⟨q0c, q0f⟩ := K2.out.2 0 _ rfl
  obtain ⟨q1c, q1f⟩ := K2.out.2 1 _ rfl
  obtain ⟨q2c, q2f⟩ := K2.out.2 2 _ rfl
  have hs1 : w.heap.size < w1.heap.size := K1.out.1
  clear hs hr hsm hrd2 hg2 C1 K1
  go_wp2_with fail
  have RB := ((K2.out.set 0 (.slice A1 n1 k1)).set 1 (.slice A2 n2 k2)).set 2 (.int .i64 q)
  have f0 := (RB.2 0 _ rfl).1
  have f1 := (RB.2 1 _ rfl).1
  have f2 := (RB.2 2 _ rfl).1
  refine bodyPost_ret (v := .tuple #[.agg #[.slice A1 n1 k1, .slice A2 n2 k2, .int .i64 q], .string nm]) (by simp [results, Try.results9, go_sem, f0, f1, f2]) rfl ?_
  refine ⟨_, rs, L, H, q, nm, rfl, HX.out.1, HX.out.2.2, hnm, Rows.base (lo := w1.heap.size) ?_ (by omega), ?_⟩
  · iterate 3 refine Rows.low ?_ (by omega)
    exact HX.out.2.1
  · iterate 3 refine Below.setCell ?_ (by simp) _
    exact HB2.out

set_option maxHeartbeats 4000000 in
set_option maxRecDepth 100000 in
theorem drawSetLevel_c (a : Option Addr) (len cap : Nat) (z : List Int) (w : World) (h : IsRow .u8 w a len cap z) :
    Calls Try.prog 27 #[.slice a len cap] w (DrawNamedN w) := by
  have K0 := hid (Blk.new w #[.slice none 0 0, .slice none 0 0, .int .i64 0] 26)
  have HB0 := hid (show Below w.heap.size w (w.alloc (.cells #[.slice none 0 0, .slice none 0 0, .int .i64 0] 26)) from (Below.refl _ _).alloc (Nat.le_refl _) _)
  have C := hid (newReader_c a len cap z _ (h.belowT HB0.out))
  simp only [World.size_alloc] at C
  clear h
  go_enter Try.func27, Try.ntmps27
  go_wp2_with fail
  refine C.out.mono ?_
  rintro e w1 ⟨rfl, hr1, hb1⟩
  have K1 := hid (K0.out.below hb1 (by omega))
  have HB1 := hid (HB0.out.trans (hb1.mono (by omega)))
  have hlt := hr1.lt
  have C1 := hid (treeName_c _ 0 w1 hr1 (by omega))
  clear hr1 hb1 C K0 HB0
  go_wp2_with fail
  refine C1.out.mono ?_
  rintro e w2 ⟨v, rs, L, H, q, nm, p2, rfl, hs, hsm, hnm, hr, hp2, hrd2, hg2⟩
  obtain ⟨A1, n1, k1, A2, n2, k2, rfl, -, -⟩ := hs.form_ hr
  have hbx : Below w2.heap.size w2 (w2.alloc (.cells #[.slice A1 n1 k1, .slice A2 n2 k2, .int .i64 q] 26)) := (Below.refl _ _).alloc (Nat.le_refl _) _
  have K2 := hid ((K1.out.kept hg2 (by simp)).to hbx)
  have KT := hid (Blk.new w2 #[.slice A1 n1 k1, .slice A2 n2 k2, .int .i64 q] 26)
  have HX := hid (And.intro hs (And.intro (hr.below hbx) hsm))
  have HB2 := hid ((HB1.out.trans (below_own hg2 HB1.out.size (by omega))).trans (hbx.mono (Nat.le_trans HB1.out.size hg2.size)))
  have hs1 : w.heap.size < w1.heap.size := K1.out.1
  have hrb : w.heap.size < w2.heap.size := Nat.lt_of_lt_of_le hs1 hg2.size
  have hs2 : w2.heap.size < (w2.alloc (.cells #[.slice A1 n1 k1, .slice A2 n2 k2, .int .i64 q] 26)).heap.size := by simp
  have D3 := hid (hrd2.below hbx)
  have hRb : w.heap.size + 1 < w2.heap.size := by have := hg2.size; have := hlt; simp at *; omega
  clear hs hr hsm hrd2 hg2 C1 K1 hbx
  go_wp2_with fail
  generalize hbb : w2.heap.size = bb at *
  generalize w2.alloc (.cells #[.slice A1 n1 k1, .slice A2 n2 k2, .int .i64 q] 26) = w3 at *
  clear hbb
  have C5 := hid (one_lit (w.heap.size + 1) p2 6 [20, 0, 30, 60, 61, -1] w3.drew (D3.out.below (Below.refl _ _).drew) (by omega) rfl (by omega) (by omega) (-1) 61 (by decide))
  have sb : w3.drew.cell? ⟨bb, 0, none⟩ = some (.slice A1 n1 k1) ∧ w3.drew.cell? ⟨bb, 1, none⟩ = some (.slice A2 n2 k2) ∧ w3.drew.cell? ⟨bb, 2, none⟩ = some (.int .i64 q) := ⟨(KT.out.2 0 _ rfl).1, (KT.out.2 1 _ rfl).1, (KT.out.2 2 _ rfl).1⟩
  have sa := hid (fun o => (show (w3.drew.alloc o).cell? ⟨bb, 0, none⟩ = some (.slice A1 n1 k1) ∧ (w3.drew.alloc o).cell? ⟨bb, 1, none⟩ = some (.slice A2 n2 k2) ∧ (w3.drew.alloc o).cell? ⟨bb, 2, none⟩ = some (.int .i64 q) from ⟨(World.cell?_alloc_past _ _ _ hs2).trans sb.1, (World.cell?_alloc_past _ _ _ hs2).trans sb.2.1, (World.cell?_alloc_past _ _ _ hs2).trans sb.2.2⟩))
  replace sb := hid sb
  refine wp_region_held_drew (S := (fun w' : World => w'.cell? ⟨bb, 0, none⟩ = some (.slice A1 n1 k1) ∧ w'.cell? ⟨bb, 1, none⟩ = some (.slice A2 n2 k2) ∧ w'.cell? ⟨bb, 2, none⟩ = some (.int .i64 q))) (by kernel_rfl) sb.out (fun hS => ?_)
  refine wpAnyH_take (i := 0) (oi := ?oi109) (v := ?v109) ?hi109 (by kernel_rfl) ?hf109 ?hr109 ?hQ109 (Or.inl ⟨?hw109, ?hy109⟩) (by assumption) ?rest109
  case hi109 => simp only [List.getElem?_toArray, List.getElem?_cons_succ, List.getElem?_cons_zero]; rfl
  case hf109 => kernel_rfl
  case hr109 => kernel_rfl
  case hw109 => rfl
  case hy109 => (intro w hSw; (try dsimp only at hSw); go_simp; all_goals (first | done | with_reducible rfl))
  case hQ109 => exact fun _ _ _ h => h
  simp only [Act.put, List.setIfInBounds_toArray, List.set_cons_zero, List.set_cons_succ]
  refine wpAnyH_take (i := 1) (oi := ?oi110) (v := ?v110) ?hi110 (by kernel_rfl) ?hf110 ?hr110 ?hQ110 (Or.inl ⟨?hw110, ?hy110⟩) (by assumption) ?rest110
  case hi110 => simp only [List.getElem?_toArray, List.getElem?_cons_succ, List.getElem?_cons_zero]; rfl
  case hf110 => kernel_rfl
  case hr110 => kernel_rfl
  case hw110 => rfl
  case hy110 => (intro w hSw; (try dsimp only at hSw); go_simp; all_goals (first | done | with_reducible rfl))
  case hQ110 => exact fun _ _ _ h => h
  simp only [Act.put, List.setIfInBounds_toArray, List.set_cons_zero, List.set_cons_succ]
  refine wpAnyH_take (i := 2) (oi := ?oi111) (v := ?v111) ?hi111 (by kernel_rfl) ?hf111 ?hr111 ?hQ111 (Or.inl ⟨?hw111, ?hy111⟩) (by assumption) ?rest111
  case hi111 => simp only [List.getElem?_toArray, List.getElem?_cons_succ, List.getElem?_cons_zero]; rfl
  case hf111 => kernel_rfl
  case hr111 => kernel_rfl
  case hw111 => rfl
  case hy111 => (intro w hSw; (try dsimp only at hSw); go_simp; all_goals (first | done | with_reducible rfl))
  case hQ111 => exact fun _ _ _ h => h
  simp only [Act.put, List.setIfInBounds_toArray, List.set_cons_zero, List.set_cons_succ]
  refine wpAnyH_ready (rs := [3]) (by kernel_rfl) (by simp) ?_
  refine AllReadyH.cons (o := ?oi112) ?hi112 (fun K hK => ?step112) AllReadyH.nil
  case hi112 => simp only [List.getElem?_toArray, List.getElem?_cons_succ, List.getElem?_cons_zero]; rfl
  rw [if_pos (by rfl)]
  go_simp
  refine hK.out _ _ (sa.out _) (fun hS => ?_)
  refine wpAnyH_ready (rs := [4]) (by kernel_rfl) (by simp) ?_
  refine AllReadyH.cons (o := ?oi113) ?hi113 (fun K hK => ?step113) AllReadyH.nil
  case hi113 => simp only [List.getElem?_toArray, List.getElem?_cons_succ, List.getElem?_cons_zero]; rfl
  rw [if_pos (by rfl)]
  go_simp
  go_at_call 54
  refine C5.out.mono ?_
  rintro e w5 ⟨n, hn, rfl, hr5, hg5⟩
  have hgg : w3.grownBy w5 (some (w.heap.size + 1)) := grown_tr (grown_drN (World.grownBy.refl w3 _) 1) hg5
  have K5 := hid (K2.out.kept hgg (by simp))
  have KT5 := KT.out.kept hgg (by simp; omega)
  have X5 := HX.out.2.1.offR hgg (by simp_all)
  have HB5 := hid (HB2.out.trans (below_own hgg HB2.out.size (by omega)))
  have s5 : w5.cell? ⟨bb, 0, none⟩ = some (.slice A1 n1 k1) ∧ w5.cell? ⟨bb, 1, none⟩ = some (.slice A2 n2 k2) ∧ w5.cell? ⟨bb, 2, none⟩ = some (.int .i64 q) := ⟨(KT5.2 0 _ rfl).1, (KT5.2 1 _ rfl).1, (KT5.2 2 _ rfl).1⟩
  have S7 := hid (three_set (rb := w.heap.size) (u0 := .slice A1 n1 k1) (u1 := .slice A2 n2 k2) (u2 := .int .i64 q) (by omega) s5)
  obtain ⟨q0c, q0f⟩ := K5.out.2 0 _ rfl
  obtain ⟨q1c, q1f⟩ := K5.out.2 1 _ rfl
  obtain ⟨q2c, q2f⟩ := K5.out.2 2 _ rfl
  replace X5 := hid X5
  clear hr5 hg5 hgg KT5 C5
  refine hK.out _ _ s5 (fun hS => ?_)
  refine wpAnyH_ready (rs := [5]) (by kernel_rfl) (by simp) ?_
  refine AllReadyH.cons (o := ?oi114) ?hi114 (fun K hK => ?step114) AllReadyH.nil
  case hi114 => simp only [List.getElem?_toArray, List.getElem?_cons_succ, List.getElem?_cons_zero]; rfl
  rw [if_pos (by rfl)]
  go_simp
  refine hK.out _ _ S7.out (fun hS => ?_)
  refine wpAnyH_take (i := 6) (oi := ?oi115) (v := ?v115) ?hi115 (by kernel_rfl) ?hf115 ?hr115 ?hQ115 (Or.inl ⟨?hw115, ?hy115⟩) (by assumption) ?rest115
  case hi115 => simp only [List.getElem?_toArray, List.getElem?_cons_succ, List.getElem?_cons_zero]; rfl
  case hf115 => kernel_rfl
  case hr115 => kernel_rfl
  case hw115 => rfl
  case hy115 => (intro w hSw; (try dsimp only at hSw); go_simp; all_goals (first | done | with_reducible rfl))
  case hQ115 => exact fun _ _ _ h => h
  simp only [Act.put, List.setIfInBounds_toArray, List.set_cons_zero, List.set_cons_succ]
  refine wpAnyH_take (i := 7) (oi := ?oi116) (v := ?v116) ?hi116 (by kernel_rfl) ?hf116 ?hr116 ?hQ116 (Or.inl ⟨?hw116, ?hy116⟩) (by assumption) ?rest116
  case hi116 => simp only [List.getElem?_toArray, List.getElem?_cons_succ, List.getElem?_cons_zero]; rfl
  case hf116 => kernel_rfl
  case hr116 => kernel_rfl
  case hw116 => rfl
  case hy116 => (intro w hSw; (try dsimp only at hSw); go_simp; all_goals (first | done | with_reducible rfl))
  case hQ116 => exact fun _ _ _ h => h
  simp only [Act.put, List.setIfInBounds_toArray, List.set_cons_zero, List.set_cons_succ]
  refine wpAnyH_done (by kernel_rfl) ?_ _
  clear q0c q0f q1c q1f q2c q2f s5
  go_wp2_with fail
  have RB := ((K5.out.set 0 (.slice A1 n1 k1)).set 1 (.slice A2 n2 k2)).set 2 (.int .i64 q)
  have f0 := (RB.2 0 _ rfl).1
  have f1 := (RB.2 1 _ rfl).1
  have f2 := (RB.2 2 _ rfl).1
  refine bodyPost_ret (v := .tuple #[.agg #[.slice A1 n1 k1, .slice A2 n2 k2, .int .i64 q], .string nm, .int .i64 n]) (by simp [results, Try.results27, go_sem, f0, f1, f2]) rfl ?_
  refine ⟨_, rs, L, H, q, nm, n, rfl, HX.out.1, HX.out.2.2, hnm, hn, Rows.base (lo := w1.heap.size) ?_ (by omega), ?_⟩
  · iterate 3 refine Rows.low ?_ (by omega)
    exact X5.out
  · iterate 3 refine Below.setCell ?_ (by simp) _
    exact HB5.out
end Go.Proofs.Ytcgcbgbmofooiaa
