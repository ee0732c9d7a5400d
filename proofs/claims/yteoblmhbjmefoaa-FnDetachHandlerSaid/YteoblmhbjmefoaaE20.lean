/-
  DRAWS: a tree and the names of a handler. By gen_nameh.py.
-/
import Derived.Test.YteoblmhbjmefoaaE10
import Derived.Test.YteoblmhbjmefoaaE18
namespace Go.Proofs.Yteoblmhbjmefoaa
open Go.RowKit Nm
set_option linter.unusedSimpArgs false
set_option linter.unusedVariables false

def nwWords (n : List UInt8) : List (List UInt8) := [[110, 101, 119], [122], [104], [108, 97, 115, 116], [88], n]
theorem nwWords_le {nm : ByteArray} (h : nm.size ≤ 20) : ∀ l ∈ nwWords nm.data.toList, l.length ≤ 20 := by
  intro l hl
  simp only [nwWords, List.mem_cons, List.not_mem_nil, or_false] at hl
  rcases hl with rfl | rfl | rfl | rfl | rfl | rfl
  · decide
  · decide
  · decide
  · decide
  · decide
  · rw [← Lib.size_eq]; exact h

set_option maxHeartbeats 4000000 in
set_option maxRecDepth 100000 in
theorem drawNameHandler_c (a : Option Addr) (len cap : Nat) (z : List Int) (w : World) (h : IsRow .u8 w a len cap z) :
    Calls Try.prog 34 #[.slice a len cap] w (DrawNamedS w) := by
  have K0 := hid (Blk.new w #[.slice none 0 0, .slice none 0 0, .int .i64 0] 30)
  have HB0 := hid (show Below w.heap.size w (w.alloc (.cells #[.slice none 0 0, .slice none 0 0, .int .i64 0] 30)) from (Below.refl _ _).alloc (Nat.le_refl _) _)
  have C := hid (newReader_c a len cap z _ (h.belowT HB0.out))
  simp only [World.size_alloc] at C
  clear h
  go_enter Try.func34, Try.ntmps34
  go_wp2_with fail
  refine C.out.mono ?_
  rintro e w1 ⟨rfl, hr1, hb1⟩
  have K1 := hid (K0.out.below hb1 (by omega))
  have HB1 := hid (HB0.out.trans (hb1.mono (by omega)))
  have hlt := hr1.lt
  have C1 := hid (treeHandler_c _ 0 w1 hr1 (by omega))
  clear hr1 hb1 C K0 HB0
  go_wp2_with fail
  refine C1.out.mono ?_
  rintro e w2 ⟨v, rs, L, H, q, nm, p2, rfl, hs, hsm, hnm, hr, hp2, hrd2, hg2⟩
  obtain ⟨A1, n1, k1, A2, n2, k2, rfl, -, -⟩ := hs.form_ hr
  have hbx : Below w2.heap.size w2 (w2.alloc (.cells #[.slice A1 n1 k1, .slice A2 n2 k2, .int .i64 q] 30)) := (Below.refl _ _).alloc (Nat.le_refl _) _
  have K2 := hid ((K1.out.kept hg2 (by simp)).to hbx)
  have KT := hid (Blk.new w2 #[.slice A1 n1 k1, .slice A2 n2 k2, .int .i64 q] 30)
  have HX := hid (And.intro hs (And.intro (hr.below hbx) hsm))
  have HB2 := hid ((HB1.out.trans (below_own hg2 HB1.out.size (by omega))).trans (hbx.mono (Nat.le_trans HB1.out.size hg2.size)))
  have hs1 : w.heap.size < w1.heap.size := K1.out.1
  have hrb : w.heap.size < w2.heap.size := Nat.lt_of_lt_of_le hs1 hg2.size
  have hs2 : w2.heap.size < (w2.alloc (.cells #[.slice A1 n1 k1, .slice A2 n2 k2, .int .i64 q] 30)).heap.size := by simp
  have D3 := hid (hrd2.below hbx)
  have hRb : w.heap.size + 1 < w2.heap.size := by have := hg2.size; have := hlt; simp at *; omega
  clear hs hr hsm hrd2 hg2 C1 K1 hbx
  go_wp2_with fail
  generalize hbb : w2.heap.size = bb at *
  generalize w2.alloc (.cells #[.slice A1 n1 k1, .slice A2 n2 k2, .int .i64 q] 30) = w3 at *
  clear hbb
  have C5 := hid (of_lit (w.heap.size + 1) p2 6 20 (nwWords nm.data.toList) w3.drew (D3.out.below (Below.refl _ _).drew) (by omega) rfl (by omega) (by omega) (nwWords_le hnm))
  simp only [nwWords, List.map_cons, List.map_nil, txt] at C5
  have sb : w3.drew.cell? ⟨bb, 0, none⟩ = some (.slice A1 n1 k1) ∧ w3.drew.cell? ⟨bb, 1, none⟩ = some (.slice A2 n2 k2) ∧ w3.drew.cell? ⟨bb, 2, none⟩ = some (.int .i64 q) := ⟨(KT.out.2 0 _ rfl).1, (KT.out.2 1 _ rfl).1, (KT.out.2 2 _ rfl).1⟩
  have sa := hid (fun o => (show (w3.drew.alloc o).cell? ⟨bb, 0, none⟩ = some (.slice A1 n1 k1) ∧ (w3.drew.alloc o).cell? ⟨bb, 1, none⟩ = some (.slice A2 n2 k2) ∧ (w3.drew.alloc o).cell? ⟨bb, 2, none⟩ = some (.int .i64 q) from ⟨(World.cell?_alloc_past _ _ _ hs2).trans sb.1, (World.cell?_alloc_past _ _ _ hs2).trans sb.2.1, (World.cell?_alloc_past _ _ _ hs2).trans sb.2.2⟩))
  replace sb := hid sb
  refine wp_region_held_drew (S := (fun w' : World => w'.cell? ⟨bb, 0, none⟩ = some (.slice A1 n1 k1) ∧ w'.cell? ⟨bb, 1, none⟩ = some (.slice A2 n2 k2) ∧ w'.cell? ⟨bb, 2, none⟩ = some (.int .i64 q))) (by kernel_rfl) sb.out (fun hS => ?_)
  refine wpAnyH_take (i := 0) (oi := ?oi101) (v := ?v101) ?hi101 (by kernel_rfl) ?hf101 ?hr101 ?hQ101 (Or.inl ⟨?hw101, ?hy101⟩) (by assumption) ?rest101
  case hi101 => simp only [List.getElem?_toArray, List.getElem?_cons_succ, List.getElem?_cons_zero]; rfl
  case hf101 => kernel_rfl
  case hr101 => kernel_rfl
  case hw101 => rfl
  case hy101 => (intro w hSw; (try dsimp only at hSw); go_simp; all_goals (first | done | with_reducible rfl))
  case hQ101 => exact fun _ _ _ h => h
  simp only [Act.put, List.setIfInBounds_toArray, List.set_cons_zero, List.set_cons_succ]
  refine wpAnyH_take (i := 1) (oi := ?oi102) (v := ?v102) ?hi102 (by kernel_rfl) ?hf102 ?hr102 ?hQ102 (Or.inl ⟨?hw102, ?hy102⟩) (by assumption) ?rest102
  case hi102 => simp only [List.getElem?_toArray, List.getElem?_cons_succ, List.getElem?_cons_zero]; rfl
  case hf102 => kernel_rfl
  case hr102 => kernel_rfl
  case hw102 => rfl
  case hy102 => (intro w hSw; (try dsimp only at hSw); go_simp; all_goals (first | done | with_reducible rfl))
  case hQ102 => exact fun _ _ _ h => h
  simp only [Act.put, List.setIfInBounds_toArray, List.set_cons_zero, List.set_cons_succ]
  refine wpAnyH_take (i := 2) (oi := ?oi103) (v := ?v103) ?hi103 (by kernel_rfl) ?hf103 ?hr103 ?hQ103 (Or.inl ⟨?hw103, ?hy103⟩) (by assumption) ?rest103
  case hi103 => simp only [List.getElem?_toArray, List.getElem?_cons_succ, List.getElem?_cons_zero]; rfl
  case hf103 => kernel_rfl
  case hr103 => kernel_rfl
  case hw103 => rfl
  case hy103 => (intro w hSw; (try dsimp only at hSw); go_simp; all_goals (first | done | with_reducible rfl))
  case hQ103 => exact fun _ _ _ h => h
  simp only [Act.put, List.setIfInBounds_toArray, List.set_cons_zero, List.set_cons_succ]
  refine wpAnyH_take (i := 3) (oi := ?oi104) (v := ?v104) ?hi104 (by kernel_rfl) ?hf104 ?hr104 ?hQ104 (Or.inl ⟨?hw104, ?hy104⟩) (by assumption) ?rest104
  case hi104 => simp only [List.getElem?_toArray, List.getElem?_cons_succ, List.getElem?_cons_zero]; rfl
  case hf104 => kernel_rfl
  case hr104 => kernel_rfl
  case hw104 => rfl
  case hy104 => (intro w hSw; (try dsimp only at hSw); go_simp; all_goals (first | done | with_reducible rfl))
  case hQ104 => exact fun _ _ _ h => h
  simp only [Act.put, List.setIfInBounds_toArray, List.set_cons_zero, List.set_cons_succ]
  refine wpAnyH_ready (rs := [4]) (by kernel_rfl) (by simp) ?_
  refine AllReadyH.cons (o := ?oi105) ?hi105 (fun K hK => ?step105) AllReadyH.nil
  case hi105 => simp only [List.getElem?_toArray, List.getElem?_cons_succ, List.getElem?_cons_zero]; rfl
  rw [if_pos (by rfl)]
  go_simp
  refine hK.out _ _ (sa.out _) (fun hS => ?_)
  refine wpAnyH_ready (rs := [5]) (by kernel_rfl) (by simp) ?_
  refine AllReadyH.cons (o := ?oi106) ?hi106 (fun K hK => ?step106) AllReadyH.nil
  case hi106 => simp only [List.getElem?_toArray, List.getElem?_cons_succ, List.getElem?_cons_zero]; rfl
  rw [if_pos (by rfl)]
  go_simp
  go_at_call 84
  refine C5.out.mono ?_
  rintro e w5 ⟨n2m, p5, hn, rfl, hp5, hr5, hg5⟩
  have hgg : w3.grownBy w5 (some (w.heap.size + 1)) := grown_tr (grown_drN (World.grownBy.refl w3 _) 1) hg5
  have K5 := hid (K2.out.kept hgg (by simp))
  have KT5 := KT.out.kept hgg (by simp; omega)
  have X5 := HX.out.2.1.offR hgg (by simp_all)
  have HB5 := hid (HB2.out.trans (below_own hgg HB2.out.size (by omega)))
  have s5 : w5.cell? ⟨bb, 0, none⟩ = some (.slice A1 n1 k1) ∧ w5.cell? ⟨bb, 1, none⟩ = some (.slice A2 n2 k2) ∧ w5.cell? ⟨bb, 2, none⟩ = some (.int .i64 q) := ⟨(KT5.2 0 _ rfl).1, (KT5.2 1 _ rfl).1, (KT5.2 2 _ rfl).1⟩
  have S7 := hid (three_set (rb := w.heap.size) (u0 := .slice A1 n1 k1) (u1 := .slice A2 n2 k2) (u2 := .int .i64 q) (by omega) s5)
  obtain ⟨q0c, q0f⟩ := K5.out.2 0 _ rfl
  obtain ⟨q1c, q1f⟩ := K5.out.2 1 _ rfl
  obtain ⟨q2c, q2f⟩ := K5.out.2 2 _ rfl
  replace X5 := hid X5
  clear hr5 hg5 hgg KT5 C5
  refine hK.out _ _ s5 (fun hS => ?_)
  refine wpAnyH_ready (rs := [6]) (by kernel_rfl) (by simp) ?_
  refine AllReadyH.cons (o := ?oi107) ?hi107 (fun K hK => ?step107) AllReadyH.nil
  case hi107 => simp only [List.getElem?_toArray, List.getElem?_cons_succ, List.getElem?_cons_zero]; rfl
  rw [if_pos (by rfl)]
  go_simp
  refine hK.out _ _ S7.out (fun hS => ?_)
  refine wpAnyH_take (i := 7) (oi := ?oi108) (v := ?v108) ?hi108 (by kernel_rfl) ?hf108 ?hr108 ?hQ108 (Or.inl ⟨?hw108, ?hy108⟩) (by assumption) ?rest108
  case hi108 => simp only [List.getElem?_toArray, List.getElem?_cons_succ, List.getElem?_cons_zero]; rfl
  case hf108 => kernel_rfl
  case hr108 => kernel_rfl
  case hw108 => rfl
  case hy108 => (intro w hSw; (try dsimp only at hSw); go_simp; all_goals (first | done | with_reducible rfl))
  case hQ108 => exact fun _ _ _ h => h
  simp only [Act.put, List.setIfInBounds_toArray, List.set_cons_zero, List.set_cons_succ]
  refine wpAnyH_take (i := 8) (oi := ?oi109) (v := ?v109) ?hi109 (by kernel_rfl) ?hf109 ?hr109 ?hQ109 (Or.inl ⟨?hw109, ?hy109⟩) (by assumption) ?rest109
  case hi109 => simp only [List.getElem?_toArray, List.getElem?_cons_succ, List.getElem?_cons_zero]; rfl
  case hf109 => kernel_rfl
  case hr109 => kernel_rfl
  case hw109 => rfl
  case hy109 => (intro w hSw; (try dsimp only at hSw); go_simp; all_goals (first | done | with_reducible rfl))
  case hQ109 => exact fun _ _ _ h => h
  simp only [Act.put, List.setIfInBounds_toArray, List.set_cons_zero, List.set_cons_succ]
  refine wpAnyH_done (by kernel_rfl) ?_ _
  clear q0c q0f q1c q1f q2c q2f s5
  go_wp2_with fail
  have RB := ((K5.out.set 0 (.slice A1 n1 k1)).set 1 (.slice A2 n2 k2)).set 2 (.int .i64 q)
  have f0 := (RB.2 0 _ rfl).1
  have f1 := (RB.2 1 _ rfl).1
  have f2 := (RB.2 2 _ rfl).1
  refine bodyPost_ret (v := .tuple #[.agg #[.slice A1 n1 k1, .slice A2 n2 k2, .int .i64 q], .string nm, .string n2m]) (by simp [results, Try.results34, go_sem, f0, f1, f2]) rfl ?_
  refine ⟨_, rs, L, H, q, nm, n2m, rfl, HX.out.1, HX.out.2.2, hnm, hn, Rows.base (lo := w1.heap.size) ?_ (by omega), ?_⟩
  · iterate 3 refine Rows.low ?_ (by omega)
    exact X5.out
  · iterate 3 refine Below.setCell ?_ (by simp) _
    exact HB5.out
end Go.Proofs.Yteoblmhbjmefoaa
