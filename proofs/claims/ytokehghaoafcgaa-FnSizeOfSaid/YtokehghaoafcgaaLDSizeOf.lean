/-
  WALK: the law FnSizeOf.
-/
import Derived.Test.YtokehghaoafcgaaD13
namespace Go.Proofs.Ytokehghaoafcgaa
open Go.RowKit Nm
set_option linter.unusedSimpArgs false
set_option linter.unusedVariables false
theorem IsRow.leS {k : IntKind} {w : World} {a : Option Addr} {len cap : Nat} {z : List Int} (h : IsRow k w a len cap z) : len ≤ 9223372036854775807 := by
  rcases h with ⟨_, h, _, _⟩ | ⟨x, _, h1, h2, _⟩
  · omega
  · unfold maxLen at h2; omega
def DrawLines (w : World) (e : Ending) (w2 : World) : Prop := ∃ (v : Value) (rs : List Row) (l : TxtL), e = .returned v ∧ StrsR rs v l ∧ Rows w2 w.heap.size rs ∧ Below w.heap.size w w2 ∧ StrsFit l ∧ l.length ≤ 13
set_option maxHeartbeats 1000000 in
set_option maxRecDepth 100000 in
theorem drawSizeOf_c (a : Option Addr) (len cap : Nat) (z : List Int) (w : World) (h : IsRow .u8 w a len cap z) :
    Calls Try.prog 7 #[.slice a len cap] w (DrawLines w) := by
  have C := hid (newReader_c a len cap z w h)
  clear h
  go_enter Try.func7, Try.ntmps7
  go_wp2_with fail
  refine C.out.mono ?_
  rintro e w1 ⟨rfl, hr1, hb1⟩
  have HB1 := hid hb1
  have C1 := hid (someLines_c w.heap.size 0 w1 hr1 (by omega))
  clear hr1 hb1 C
  go_wp2_with fail
  refine C1.out.mono ?_
  rintro e w2 ⟨v, l, p2, rfl, hl, hf, ho2, hp2, hr2, hg2⟩
  obtain ⟨A, c, rfl, _, _⟩ := (Sl.of_own ho2).form
  have HO2 := hid (And.intro ho2 (And.intro hr2 (And.intro hg2 (And.intro hl hf))))
  clear ho2 hr2 hg2 hl hf C1
  go_wp2_with fail
  go_ret
  exact ⟨_, _, l, rfl, rfl, Rows.one (own_base HO2.out.1 HB1.out.size), HB1.out.trans (below_own (HO2.out.2.2.1) HB1.out.size (Nat.le_refl _)), ⟨by have := HO2.out.2.2.2.1; unfold maxTxt; omega, fun x hx => by have := HO2.out.2.2.2.2 x hx; unfold maxTxt; omega⟩, HO2.out.2.2.2.1⟩
theorem total_app (a b : TxtL) : total (a ++ b) = total a + total b := by unfold total; rw [List.map_append, List.sum_append]
theorem linesOk_sub {l m : TxtL} (h : linesOk l = true) (hs : ∀ x ∈ m, x ∈ l) (hl : m.length ≤ l.length) : linesOk m = true := by
  unfold linesOk at h ⊢
  simp only [Bool.and_eq_true, List.all_eq_true, decide_eq_true_eq] at h ⊢
  exact ⟨fun x hx => h.1 x (hs x hx), by omega⟩
theorem sizeX_cut {l : TxtL} (h : 0 ≤ sizeX l) (k : Nat) : sizeX (l.take k) + sizeX (l.drop k) = sizeX l ∧ 0 ≤ sizeX (l.take k) ∧ 0 ≤ sizeX (l.drop k) ∧ sizeX l ≤ 492 := by
  have hz : linesOk l = true := by
    by_cases hz : linesOk l = true
    · exact hz
    · unfold sizeX at h; rw [if_neg hz] at h; omega
  have h1 : linesOk (l.take k) = true := linesOk_sub hz (fun x hx => List.mem_of_mem_take hx) (by rw [List.length_take]; omega)
  have h2 : linesOk (l.drop k) = true := linesOk_sub hz (fun x hx => List.mem_of_mem_drop hx) (by rw [List.length_drop]; omega)
  have h3 := size_small hz
  have e : sizeL (l.take k) + sizeL (l.drop k) = sizeL l := by
    unfold sizeL
    have h4 := total_app (l.take k) (l.drop k)
    have h5 : (l.take k).length + (l.drop k).length = l.length := by rw [← List.length_append, List.take_append_drop]
    rw [List.take_append_drop] at h4
    omega
  unfold sizeX
  rw [if_pos hz, if_pos h1, if_pos h2]
  omega
theorem StrsIn.cut {w : World} {B n c : Nat} {A : Option Addr} {l : TxtL} (h : StrsIn w B (.slice A n c) l) {k : Nat} (hk : k ≤ n) : StrsIn w B (.slice A k c) (l.take k) := by
  obtain ⟨A', c', he, _, _⟩ := h.1.form
  injection he with _ h2 _
  obtain ⟨h1, hf⟩ := h
  rw [← h2] at h1
  have h3 := h1.cut hk
  rw [← List.map_take] at h3
  refine ⟨by rw [List.length_take, show min k l.length = k by omega]; exact h3, by have := hf.1; rw [List.length_take]; omega, fun t ht => hf.2 t (List.mem_of_mem_take ht)⟩
theorem StrsIn.from_ {w : World} {B n c b o : Nat} {l : TxtL} (h : StrsIn w B (.slice (some ⟨b, o, none⟩) n c) l) {k : Nat} (hk : k ≤ n) : StrsIn w B (.slice (some ⟨b, o + k, none⟩) (n - k) (c - k)) (l.drop k) := by
  obtain ⟨A', c', he, _, _⟩ := h.1.form
  injection he with _ h2 _
  obtain ⟨h1, hf⟩ := h
  rw [← h2] at h1
  have h3 := h1.from_ hk
  rw [Nat.mul_one, ← List.map_drop] at h3
  refine ⟨by rw [List.length_drop, ← h2]; exact h3, by have := hf.1; rw [List.length_drop]; omega, fun t ht => hf.2 t (List.mem_of_mem_drop ht)⟩
theorem StrsIn.zero (w : World) (B : Nat) (A : Option Addr) (c : Nat) (hc : c ≤ maxLen) : StrsIn w B (.slice A 0 c) [] :=
  ⟨⟨by simp, A, c, rfl, Nat.zero_le _, hc, fun h => absurd h (by simp)⟩, StrsFit.nil⟩
theorem iSize {W : World} {v : Value} {l : TxtL} (h : StrsIn W W.heap.size v l) : Calls Try.prog 8 #[v] W fun e w' => e = .returned (.int .i64 (sizeX l)) ∧ Below W.heap.size W w' := implSizeOf_c h (Nat.le_refl _)
theorem sSize {W : World} {v : Value} {l : TxtL} (h : StrsIn W W.heap.size v l) : Calls Try.prog 9 #[v] W fun e w' => e = .returned (.int .i64 (sizeX l)) ∧ Below W.heap.size W w' := specSizeOf_c h
set_option maxHeartbeats 4000000 in
set_option maxRecDepth 100000 in
theorem walk_FnSizeOf (a0 : Option Addr) (len0 cap0 : Nat) (z0 : List Int) (w : World) (w0 : IsRow .u8 w a0 len0 cap0 z0) :
    Calls Try.prog 3 #[.slice a0 len0 cap0] w (BoolPost w true) := by
  have hb0 := w0.leS
  by_cases h1 : (1048576 : Int) < (len0 : Int)
  · go_enter Try.func3, Try.ntmps3
    go_wp2_with fail
    go_ret
    exact ⟨rfl, Below.refl _ _⟩
  have DR := hid (drawSizeOf_c a0 len0 cap0 z0 w w0)
  clear w0
  go_enter Try.func3, Try.ntmps3
  go_wp2_with fail
  refine DR.out.mono ?_
  rintro e w1 ⟨v, rs, l, rfl, hs, hr, hb, hf, hl13⟩
  obtain ⟨A, n, c, rfl⟩ := hs.form hr
  have HB := hid hb
  have HR := hid hr
  have SL := hid hs
  have FL := hid hf
  have C1 := hid (fun (W : World) (u : Value) (h : StrsIn W W.heap.size u l) => iSize h)
  have C2 := hid (fun (W : World) (u : Value) (h : StrsIn W W.heap.size u l) => sSize h)
  have HK := hid (fun (h : 0 ≤ sizeX l) => sizeX_cut h (n / 2))
  have hnl : n = l.length := by obtain ⟨A', c', e, _, _⟩ := (StrsR.at_ hs hr hf).1.form; injection e
  have hcap := (StrsR.at_ hs hr hf).1.form
  obtain ⟨A', c', e, hnc, hcm⟩ := hcap
  injection e with e1 e2 e3
  subst e3
  unfold maxLen at hcm
  have HNL := hid hnl
  have hnc2 : n ≤ c := by omega
  have hn13 : n ≤ 13 := by omega
  clear hs hr hb hf DR hnl e1 e2 hl13
  go_wp2_with fail
  refine (C1.out _ _ (StrsR.at_ SL.out HR.out FL.out)).mono ?_
  rintro e w2 ⟨rfl, hb⟩
  replace HR := hid (HR.out.below hb)
  replace HB := hid (HB.out.trans (hb.mono HB.out.size))
  clear hb
  generalize hz : sizeX l = z at *
  replace hz := hid hz
  have b0 : (z != z) = false := by simp
  have b1 : (z == z) = true := by simp
  go_wp2_with fail
  refine (C2.out _ _ (StrsR.at_ SL.out HR.out FL.out)).mono ?_
  rintro e w3 ⟨rfl, hb⟩
  replace HR := hid (HR.out.below hb)
  replace HB := hid (HB.out.trans (hb.mono HB.out.size))
  clear hb
  by_cases hneg : z < 0
  · go_wp2_with fail
    refine (C2.out _ _ (StrsR.at_ SL.out HR.out FL.out)).mono ?_
    rintro e w4 ⟨rfl, hb⟩
    replace HB := hid (HB.out.trans (hb.mono HB.out.size))
    clear hb
    go_wp2_with fail
    go_ret
    exact ⟨rfl, HB.out⟩
  have HS := hid (fun (W : World) (hb : Below w3.heap.size w3 W) => StrsR.at_ SL.out (HR.out.below hb) FL.out)
  rcases Nat.eq_zero_or_pos n with hn0 | hn0
  · have hl0 : l = [] := List.eq_nil_of_length_eq_zero (by rw [← HNL.out]; exact hn0)
    subst hn0
    have hz0 : z = 0 := by rw [← hz.out, hl0]; rfl
    subst hz0
    have wr1 : IntKind.i64.wrap ((0 : Int) + 0) = 0 := by decide
    have HT := hid (fun (A' : Option Addr) (c' : Nat) (hc : c' ≤ 9223372036854775807) (W : World) (hb : Below w3.heap.size w3 W) => (show Calls Try.prog 8 #[.slice A' 0 c'] W fun e w' => e = .returned (.int .i64 0) ∧ Below W.heap.size W w' from iSize (StrsIn.zero W W.heap.size A' c' (by unfold maxLen; omega))))
    clear HK hl0
    rcases hA : A with _ | ⟨g, o, m⟩
    · subst hA
      by_cases hc0 : c = 0
      · subst hc0
        go_wp2_with fail
        refine wp_region_held_drew (S := fun w' : World => True) (by kernel_rfl) trivial (fun hS => ?_)
        have HB0 := hid (Below.refl w3.heap.size w3).drew
        refine wpAnyH_take (i := 0) (oi := ?oi101) (v := ?v101) ?hi101 (by kernel_rfl) ?hf101 ?hr101 ?hQ101 (Or.inl ⟨?hw101, ?hy101⟩) (by assumption) ?rest101
        case hi101 => simp only [List.getElem?_toArray, List.getElem?_cons_succ, List.getElem?_cons_zero]; rfl
        case hf101 => kernel_rfl
        case hr101 => kernel_rfl
        case hw101 => rfl
        case hy101 => (intro w hSw; (try dsimp only at hSw); go_simp; all_goals (first | done | with_reducible rfl))
        case hQ101 => exact fun _ _ _ h => h
        simp only [Act.put, List.setIfInBounds_toArray, List.set_cons_zero, List.set_cons_succ]
        refine wpAnyH_take (i := 1) (oi := ?oi102) (v := ?v102) ?hi102 (by kernel_rfl) ?hf102 ?hr102 ?hQ102 (Or.inl ⟨?hw102, ?hy102⟩) (by assumption) ?rest102
        case hi102 => simp only [List.getElem?_toArray, List.getElem?_cons_succ, List.getElem?_cons_zero]; rfl
        case hf102 => kernel_rfl
        case hr102 => kernel_rfl
        case hw102 => rfl
        case hy102 => (intro w hSw; (try dsimp only at hSw); go_simp; all_goals (first | done | with_reducible rfl))
        case hQ102 => exact fun _ _ _ h => h
        simp only [Act.put, List.setIfInBounds_toArray, List.set_cons_zero, List.set_cons_succ]
        refine wpAnyH_take (i := 2) (oi := ?oi103) (v := ?v103) ?hi103 (by kernel_rfl) ?hf103 ?hr103 ?hQ103 (Or.inl ⟨?hw103, ?hy103⟩) (by assumption) ?rest103
        case hi103 => simp only [List.getElem?_toArray, List.getElem?_cons_succ, List.getElem?_cons_zero]; rfl
        case hf103 => kernel_rfl
        case hr103 => kernel_rfl
        case hw103 => rfl
        case hy103 => (intro w hSw; (try dsimp only at hSw); go_simp; all_goals (first | done | with_reducible rfl))
        case hQ103 => exact fun _ _ _ h => h
        simp only [Act.put, List.setIfInBounds_toArray, List.set_cons_zero, List.set_cons_succ]
        refine wpAnyH_take (i := 4) (oi := ?oi104) (v := ?v104) ?hi104 (by kernel_rfl) ?hf104 ?hr104 ?hQ104 (Or.inl ⟨?hw104, ?hy104⟩) (by assumption) ?rest104
        case hi104 => simp only [List.getElem?_toArray, List.getElem?_cons_succ, List.getElem?_cons_zero]; rfl
        case hf104 => kernel_rfl
        case hr104 => kernel_rfl
        case hw104 => rfl
        case hy104 => (intro w hSw; (try dsimp only at hSw); go_simp; all_goals (first | done | with_reducible rfl))
        case hQ104 => exact fun _ _ _ h => h
        simp only [Act.put, List.setIfInBounds_toArray, List.set_cons_zero, List.set_cons_succ]
        refine wpAnyH_take (i := 5) (oi := ?oi105) (v := ?v105) ?hi105 (by kernel_rfl) ?hf105 ?hr105 ?hQ105 (Or.inl ⟨?hw105, ?hy105⟩) (by assumption) ?rest105
        case hi105 => simp only [List.getElem?_toArray, List.getElem?_cons_succ, List.getElem?_cons_zero]; rfl
        case hf105 => kernel_rfl
        case hr105 => kernel_rfl
        case hw105 => rfl
        case hy105 => (intro w hSw; (try dsimp only at hSw); go_simp; all_goals (first | done | with_reducible rfl))
        case hQ105 => exact fun _ _ _ h => h
        simp only [Act.put, List.setIfInBounds_toArray, List.set_cons_zero, List.set_cons_succ]
        refine wpAnyH_take (i := 6) (oi := ?oi106) (v := ?v106) ?hi106 (by kernel_rfl) ?hf106 ?hr106 ?hQ106 (Or.inl ⟨?hw106, ?hy106⟩) (by assumption) ?rest106
        case hi106 => simp only [List.getElem?_toArray, List.getElem?_cons_succ, List.getElem?_cons_zero]; rfl
        case hf106 => kernel_rfl
        case hr106 => kernel_rfl
        case hw106 => rfl
        case hy106 => (intro w hSw; (try dsimp only at hSw); go_simp; all_goals (first | done | with_reducible rfl))
        case hQ106 => exact fun _ _ _ h => h
        simp only [Act.put, List.setIfInBounds_toArray, List.set_cons_zero, List.set_cons_succ]
        refine wpAnyH_take (i := 9) (oi := ?oi107) (v := ?v107) ?hi107 (by kernel_rfl) ?hf107 ?hr107 ?hQ107 (Or.inl ⟨?hw107, ?hy107⟩) (by assumption) ?rest107
        case hi107 => simp only [List.getElem?_toArray, List.getElem?_cons_succ, List.getElem?_cons_zero]; rfl
        case hf107 => kernel_rfl
        case hr107 => kernel_rfl
        case hw107 => rfl
        case hy107 => (intro w hSw; (try dsimp only at hSw); go_simp; all_goals (first | done | with_reducible rfl))
        case hQ107 => exact fun _ _ _ h => h
        simp only [Act.put, List.setIfInBounds_toArray, List.set_cons_zero, List.set_cons_succ]
        refine wpAnyH_ready (rs := [3]) (by kernel_rfl) (by simp) ?_
        refine AllReadyH.cons (o := ?oi108) ?hi108 (fun K hK => ?step108) AllReadyH.nil
        case hi108 => simp only [List.getElem?_toArray, List.getElem?_cons_succ, List.getElem?_cons_zero]; rfl
        rw [if_pos (by rfl)]
        go_simp
        go_at_call 8
        refine (HT.out _ _ (by omega) _ HB0.out).mono ?_
        rintro e w4 ⟨rfl, hb⟩
        have HB4 := hid (HB0.out.trans hb)
        clear hb
        refine hK.out _ _ trivial (fun _ => ?_)
        refine wpAnyH_ready (rs := [7]) (by kernel_rfl) (by simp) ?_
        refine AllReadyH.cons (o := ?oi109) ?hi109 (fun K hK => ?step109) AllReadyH.nil
        case hi109 => simp only [List.getElem?_toArray, List.getElem?_cons_succ, List.getElem?_cons_zero]; rfl
        rw [if_pos (by rfl)]
        go_simp
        go_at_call 8
        refine (HT.out _ _ (by omega) _ HB4.out).mono ?_
        rintro e w5 ⟨rfl, hb⟩
        have HB5 := hid (HB4.out.trans (hb.mono HB4.out.size))
        clear hb
        refine hK.out _ _ trivial (fun _ => ?_)
        refine wpAnyH_take (i := 8) (oi := ?oi110) (v := ?v110) ?hi110 (by kernel_rfl) ?hf110 ?hr110 ?hQ110 (Or.inl ⟨?hw110, ?hy110⟩) (by assumption) ?rest110
        case hi110 => simp only [List.getElem?_toArray, List.getElem?_cons_succ, List.getElem?_cons_zero]; rfl
        case hf110 => kernel_rfl
        case hr110 => kernel_rfl
        case hw110 => rfl
        case hy110 => (intro w hSw; (try dsimp only at hSw); go_simp; all_goals (first | done | with_reducible rfl))
        case hQ110 => exact fun _ _ _ h => h
        simp only [Act.put, List.setIfInBounds_toArray, List.set_cons_zero, List.set_cons_succ]
        refine wpAnyH_take (i := 10) (oi := ?oi111) (v := ?v111) ?hi111 (by kernel_rfl) ?hf111 ?hr111 ?hQ111 (Or.inl ⟨?hw111, ?hy111⟩) (by assumption) ?rest111
        case hi111 => simp only [List.getElem?_toArray, List.getElem?_cons_succ, List.getElem?_cons_zero]; rfl
        case hf111 => kernel_rfl
        case hr111 => kernel_rfl
        case hw111 => rfl
        case hy111 => (intro w hSw; (try dsimp only at hSw); go_simp; all_goals (first | done | with_reducible rfl))
        case hQ111 => exact fun _ _ _ h => h
        simp only [Act.put, List.setIfInBounds_toArray, List.set_cons_zero, List.set_cons_succ]
        refine wpAnyH_take (i := 11) (oi := ?oi112) (v := ?v112) ?hi112 (by kernel_rfl) ?hf112 ?hr112 ?hQ112 (Or.inl ⟨?hw112, ?hy112⟩) (by assumption) ?rest112
        case hi112 => simp only [List.getElem?_toArray, List.getElem?_cons_succ, List.getElem?_cons_zero]; rfl
        case hf112 => kernel_rfl
        case hr112 => kernel_rfl
        case hw112 => rfl
        case hy112 => (intro w hSw; (try dsimp only at hSw); go_simp; all_goals (first | done | with_reducible rfl))
        case hQ112 => exact fun _ _ _ h => h
        simp only [Act.put, List.setIfInBounds_toArray, List.set_cons_zero, List.set_cons_succ]
        refine wpAnyH_done (by kernel_rfl) ?_ _
        go_wp2_with fail
        go_ret
        exact ⟨rfl, HB.out.trans (HB5.out.mono HB.out.size)⟩
      · have h9 := HR.out
        rw [SL.out] at h9
        rcases h9.head.2 with ⟨h7, h8⟩ | ⟨g, cap, cur, h8, _⟩
        · first | (simp at h7; omega) | (simp at h8; omega)
        · simp at h8
    · subst hA
      by_cases hc0 : c = 0
      · subst hc0
        go_wp2_with fail
        refine wp_region_held_drew (S := fun w' : World => True) (by kernel_rfl) trivial (fun hS => ?_)
        have HB0 := hid (Below.refl w3.heap.size w3).drew
        refine wpAnyH_take (i := 0) (oi := ?oi113) (v := ?v113) ?hi113 (by kernel_rfl) ?hf113 ?hr113 ?hQ113 (Or.inl ⟨?hw113, ?hy113⟩) (by assumption) ?rest113
        case hi113 => simp only [List.getElem?_toArray, List.getElem?_cons_succ, List.getElem?_cons_zero]; rfl
        case hf113 => kernel_rfl
        case hr113 => kernel_rfl
        case hw113 => rfl
        case hy113 => (intro w hSw; (try dsimp only at hSw); go_simp; all_goals (first | done | with_reducible rfl))
        case hQ113 => exact fun _ _ _ h => h
        simp only [Act.put, List.setIfInBounds_toArray, List.set_cons_zero, List.set_cons_succ]
        refine wpAnyH_take (i := 1) (oi := ?oi114) (v := ?v114) ?hi114 (by kernel_rfl) ?hf114 ?hr114 ?hQ114 (Or.inl ⟨?hw114, ?hy114⟩) (by assumption) ?rest114
        case hi114 => simp only [List.getElem?_toArray, List.getElem?_cons_succ, List.getElem?_cons_zero]; rfl
        case hf114 => kernel_rfl
        case hr114 => kernel_rfl
        case hw114 => rfl
        case hy114 => (intro w hSw; (try dsimp only at hSw); go_simp; all_goals (first | done | with_reducible rfl))
        case hQ114 => exact fun _ _ _ h => h
        simp only [Act.put, List.setIfInBounds_toArray, List.set_cons_zero, List.set_cons_succ]
        refine wpAnyH_take (i := 2) (oi := ?oi115) (v := ?v115) ?hi115 (by kernel_rfl) ?hf115 ?hr115 ?hQ115 (Or.inl ⟨?hw115, ?hy115⟩) (by assumption) ?rest115
        case hi115 => simp only [List.getElem?_toArray, List.getElem?_cons_succ, List.getElem?_cons_zero]; rfl
        case hf115 => kernel_rfl
        case hr115 => kernel_rfl
        case hw115 => rfl
        case hy115 => (intro w hSw; (try dsimp only at hSw); go_simp; all_goals (first | done | with_reducible rfl))
        case hQ115 => exact fun _ _ _ h => h
        simp only [Act.put, List.setIfInBounds_toArray, List.set_cons_zero, List.set_cons_succ]
        refine wpAnyH_take (i := 4) (oi := ?oi116) (v := ?v116) ?hi116 (by kernel_rfl) ?hf116 ?hr116 ?hQ116 (Or.inl ⟨?hw116, ?hy116⟩) (by assumption) ?rest116
        case hi116 => simp only [List.getElem?_toArray, List.getElem?_cons_succ, List.getElem?_cons_zero]; rfl
        case hf116 => kernel_rfl
        case hr116 => kernel_rfl
        case hw116 => rfl
        case hy116 => (intro w hSw; (try dsimp only at hSw); go_simp; all_goals (first | done | with_reducible rfl))
        case hQ116 => exact fun _ _ _ h => h
        simp only [Act.put, List.setIfInBounds_toArray, List.set_cons_zero, List.set_cons_succ]
        refine wpAnyH_take (i := 5) (oi := ?oi117) (v := ?v117) ?hi117 (by kernel_rfl) ?hf117 ?hr117 ?hQ117 (Or.inl ⟨?hw117, ?hy117⟩) (by assumption) ?rest117
        case hi117 => simp only [List.getElem?_toArray, List.getElem?_cons_succ, List.getElem?_cons_zero]; rfl
        case hf117 => kernel_rfl
        case hr117 => kernel_rfl
        case hw117 => rfl
        case hy117 => (intro w hSw; (try dsimp only at hSw); go_simp; all_goals (first | done | with_reducible rfl))
        case hQ117 => exact fun _ _ _ h => h
        simp only [Act.put, List.setIfInBounds_toArray, List.set_cons_zero, List.set_cons_succ]
        refine wpAnyH_take (i := 6) (oi := ?oi118) (v := ?v118) ?hi118 (by kernel_rfl) ?hf118 ?hr118 ?hQ118 (Or.inl ⟨?hw118, ?hy118⟩) (by assumption) ?rest118
        case hi118 => simp only [List.getElem?_toArray, List.getElem?_cons_succ, List.getElem?_cons_zero]; rfl
        case hf118 => kernel_rfl
        case hr118 => kernel_rfl
        case hw118 => rfl
        case hy118 => (intro w hSw; (try dsimp only at hSw); go_simp; all_goals (first | done | with_reducible rfl))
        case hQ118 => exact fun _ _ _ h => h
        simp only [Act.put, List.setIfInBounds_toArray, List.set_cons_zero, List.set_cons_succ]
        refine wpAnyH_take (i := 9) (oi := ?oi119) (v := ?v119) ?hi119 (by kernel_rfl) ?hf119 ?hr119 ?hQ119 (Or.inl ⟨?hw119, ?hy119⟩) (by assumption) ?rest119
        case hi119 => simp only [List.getElem?_toArray, List.getElem?_cons_succ, List.getElem?_cons_zero]; rfl
        case hf119 => kernel_rfl
        case hr119 => kernel_rfl
        case hw119 => rfl
        case hy119 => (intro w hSw; (try dsimp only at hSw); go_simp; all_goals (first | done | with_reducible rfl))
        case hQ119 => exact fun _ _ _ h => h
        simp only [Act.put, List.setIfInBounds_toArray, List.set_cons_zero, List.set_cons_succ]
        refine wpAnyH_ready (rs := [3]) (by kernel_rfl) (by simp) ?_
        refine AllReadyH.cons (o := ?oi120) ?hi120 (fun K hK => ?step120) AllReadyH.nil
        case hi120 => simp only [List.getElem?_toArray, List.getElem?_cons_succ, List.getElem?_cons_zero]; rfl
        rw [if_pos (by rfl)]
        go_simp
        go_at_call 8
        refine (HT.out _ _ (by omega) _ HB0.out).mono ?_
        rintro e w4 ⟨rfl, hb⟩
        have HB4 := hid (HB0.out.trans hb)
        clear hb
        refine hK.out _ _ trivial (fun _ => ?_)
        refine wpAnyH_ready (rs := [7]) (by kernel_rfl) (by simp) ?_
        refine AllReadyH.cons (o := ?oi121) ?hi121 (fun K hK => ?step121) AllReadyH.nil
        case hi121 => simp only [List.getElem?_toArray, List.getElem?_cons_succ, List.getElem?_cons_zero]; rfl
        rw [if_pos (by rfl)]
        go_simp
        go_at_call 8
        refine (HT.out _ _ (by omega) _ HB4.out).mono ?_
        rintro e w5 ⟨rfl, hb⟩
        have HB5 := hid (HB4.out.trans (hb.mono HB4.out.size))
        clear hb
        refine hK.out _ _ trivial (fun _ => ?_)
        refine wpAnyH_take (i := 8) (oi := ?oi122) (v := ?v122) ?hi122 (by kernel_rfl) ?hf122 ?hr122 ?hQ122 (Or.inl ⟨?hw122, ?hy122⟩) (by assumption) ?rest122
        case hi122 => simp only [List.getElem?_toArray, List.getElem?_cons_succ, List.getElem?_cons_zero]; rfl
        case hf122 => kernel_rfl
        case hr122 => kernel_rfl
        case hw122 => rfl
        case hy122 => (intro w hSw; (try dsimp only at hSw); go_simp; all_goals (first | done | with_reducible rfl))
        case hQ122 => exact fun _ _ _ h => h
        simp only [Act.put, List.setIfInBounds_toArray, List.set_cons_zero, List.set_cons_succ]
        refine wpAnyH_take (i := 10) (oi := ?oi123) (v := ?v123) ?hi123 (by kernel_rfl) ?hf123 ?hr123 ?hQ123 (Or.inl ⟨?hw123, ?hy123⟩) (by assumption) ?rest123
        case hi123 => simp only [List.getElem?_toArray, List.getElem?_cons_succ, List.getElem?_cons_zero]; rfl
        case hf123 => kernel_rfl
        case hr123 => kernel_rfl
        case hw123 => rfl
        case hy123 => (intro w hSw; (try dsimp only at hSw); go_simp; all_goals (first | done | with_reducible rfl))
        case hQ123 => exact fun _ _ _ h => h
        simp only [Act.put, List.setIfInBounds_toArray, List.set_cons_zero, List.set_cons_succ]
        refine wpAnyH_take (i := 11) (oi := ?oi124) (v := ?v124) ?hi124 (by kernel_rfl) ?hf124 ?hr124 ?hQ124 (Or.inl ⟨?hw124, ?hy124⟩) (by assumption) ?rest124
        case hi124 => simp only [List.getElem?_toArray, List.getElem?_cons_succ, List.getElem?_cons_zero]; rfl
        case hf124 => kernel_rfl
        case hr124 => kernel_rfl
        case hw124 => rfl
        case hy124 => (intro w hSw; (try dsimp only at hSw); go_simp; all_goals (first | done | with_reducible rfl))
        case hQ124 => exact fun _ _ _ h => h
        simp only [Act.put, List.setIfInBounds_toArray, List.set_cons_zero, List.set_cons_succ]
        refine wpAnyH_done (by kernel_rfl) ?_ _
        go_wp2_with fail
        go_ret
        exact ⟨rfl, HB.out.trans (HB5.out.mono HB.out.size)⟩
      · go_wp2_with fail
        refine wp_region_held_drew (S := fun w' : World => True) (by kernel_rfl) trivial (fun hS => ?_)
        have HB0 := hid (Below.refl w3.heap.size w3).drew
        refine wpAnyH_take (i := 0) (oi := ?oi125) (v := ?v125) ?hi125 (by kernel_rfl) ?hf125 ?hr125 ?hQ125 (Or.inl ⟨?hw125, ?hy125⟩) (by assumption) ?rest125
        case hi125 => simp only [List.getElem?_toArray, List.getElem?_cons_succ, List.getElem?_cons_zero]; rfl
        case hf125 => kernel_rfl
        case hr125 => kernel_rfl
        case hw125 => rfl
        case hy125 => (intro w hSw; (try dsimp only at hSw); go_simp; all_goals (first | done | with_reducible rfl))
        case hQ125 => exact fun _ _ _ h => h
        simp only [Act.put, List.setIfInBounds_toArray, List.set_cons_zero, List.set_cons_succ]
        refine wpAnyH_take (i := 1) (oi := ?oi126) (v := ?v126) ?hi126 (by kernel_rfl) ?hf126 ?hr126 ?hQ126 (Or.inl ⟨?hw126, ?hy126⟩) (by assumption) ?rest126
        case hi126 => simp only [List.getElem?_toArray, List.getElem?_cons_succ, List.getElem?_cons_zero]; rfl
        case hf126 => kernel_rfl
        case hr126 => kernel_rfl
        case hw126 => rfl
        case hy126 => (intro w hSw; (try dsimp only at hSw); go_simp; all_goals (first | done | with_reducible rfl))
        case hQ126 => exact fun _ _ _ h => h
        simp only [Act.put, List.setIfInBounds_toArray, List.set_cons_zero, List.set_cons_succ]
        refine wpAnyH_take (i := 2) (oi := ?oi127) (v := ?v127) ?hi127 (by kernel_rfl) ?hf127 ?hr127 ?hQ127 (Or.inl ⟨?hw127, ?hy127⟩) (by assumption) ?rest127
        case hi127 => simp only [List.getElem?_toArray, List.getElem?_cons_succ, List.getElem?_cons_zero]; rfl
        case hf127 => kernel_rfl
        case hr127 => kernel_rfl
        case hw127 => rfl
        case hy127 => (intro w hSw; (try dsimp only at hSw); go_simp; all_goals (first | done | with_reducible rfl))
        case hQ127 => exact fun _ _ _ h => h
        simp only [Act.put, List.setIfInBounds_toArray, List.set_cons_zero, List.set_cons_succ]
        refine wpAnyH_take (i := 4) (oi := ?oi128) (v := ?v128) ?hi128 (by kernel_rfl) ?hf128 ?hr128 ?hQ128 (Or.inl ⟨?hw128, ?hy128⟩) (by assumption) ?rest128
        case hi128 => simp only [List.getElem?_toArray, List.getElem?_cons_succ, List.getElem?_cons_zero]; rfl
        case hf128 => kernel_rfl
        case hr128 => kernel_rfl
        case hw128 => rfl
        case hy128 => (intro w hSw; (try dsimp only at hSw); go_simp; all_goals (first | done | with_reducible rfl))
        case hQ128 => exact fun _ _ _ h => h
        simp only [Act.put, List.setIfInBounds_toArray, List.set_cons_zero, List.set_cons_succ]
        refine wpAnyH_take (i := 5) (oi := ?oi129) (v := ?v129) ?hi129 (by kernel_rfl) ?hf129 ?hr129 ?hQ129 (Or.inl ⟨?hw129, ?hy129⟩) (by assumption) ?rest129
        case hi129 => simp only [List.getElem?_toArray, List.getElem?_cons_succ, List.getElem?_cons_zero]; rfl
        case hf129 => kernel_rfl
        case hr129 => kernel_rfl
        case hw129 => rfl
        case hy129 => (intro w hSw; (try dsimp only at hSw); go_simp; all_goals (first | done | with_reducible rfl))
        case hQ129 => exact fun _ _ _ h => h
        simp only [Act.put, List.setIfInBounds_toArray, List.set_cons_zero, List.set_cons_succ]
        refine wpAnyH_take (i := 6) (oi := ?oi130) (v := ?v130) ?hi130 (by kernel_rfl) ?hf130 ?hr130 ?hQ130 (Or.inl ⟨?hw130, ?hy130⟩) (by assumption) ?rest130
        case hi130 => simp only [List.getElem?_toArray, List.getElem?_cons_succ, List.getElem?_cons_zero]; rfl
        case hf130 => kernel_rfl
        case hr130 => kernel_rfl
        case hw130 => rfl
        case hy130 => (intro w hSw; (try dsimp only at hSw); go_simp; all_goals (first | done | with_reducible rfl))
        case hQ130 => exact fun _ _ _ h => h
        simp only [Act.put, List.setIfInBounds_toArray, List.set_cons_zero, List.set_cons_succ]
        refine wpAnyH_take (i := 9) (oi := ?oi131) (v := ?v131) ?hi131 (by kernel_rfl) ?hf131 ?hr131 ?hQ131 (Or.inl ⟨?hw131, ?hy131⟩) (by assumption) ?rest131
        case hi131 => simp only [List.getElem?_toArray, List.getElem?_cons_succ, List.getElem?_cons_zero]; rfl
        case hf131 => kernel_rfl
        case hr131 => kernel_rfl
        case hw131 => rfl
        case hy131 => (intro w hSw; (try dsimp only at hSw); go_simp; all_goals (first | done | with_reducible rfl))
        case hQ131 => exact fun _ _ _ h => h
        simp only [Act.put, List.setIfInBounds_toArray, List.set_cons_zero, List.set_cons_succ]
        refine wpAnyH_ready (rs := [3]) (by kernel_rfl) (by simp) ?_
        refine AllReadyH.cons (o := ?oi132) ?hi132 (fun K hK => ?step132) AllReadyH.nil
        case hi132 => simp only [List.getElem?_toArray, List.getElem?_cons_succ, List.getElem?_cons_zero]; rfl
        rw [if_pos (by rfl)]
        go_simp
        go_at_call 8
        refine (HT.out _ _ (by omega) _ HB0.out).mono ?_
        rintro e w4 ⟨rfl, hb⟩
        have HB4 := hid (HB0.out.trans hb)
        clear hb
        refine hK.out _ _ trivial (fun _ => ?_)
        refine wpAnyH_ready (rs := [7]) (by kernel_rfl) (by simp) ?_
        refine AllReadyH.cons (o := ?oi133) ?hi133 (fun K hK => ?step133) AllReadyH.nil
        case hi133 => simp only [List.getElem?_toArray, List.getElem?_cons_succ, List.getElem?_cons_zero]; rfl
        rw [if_pos (by rfl)]
        go_simp
        go_at_call 8
        refine (HT.out _ _ (by omega) _ HB4.out).mono ?_
        rintro e w5 ⟨rfl, hb⟩
        have HB5 := hid (HB4.out.trans (hb.mono HB4.out.size))
        clear hb
        refine hK.out _ _ trivial (fun _ => ?_)
        refine wpAnyH_take (i := 8) (oi := ?oi134) (v := ?v134) ?hi134 (by kernel_rfl) ?hf134 ?hr134 ?hQ134 (Or.inl ⟨?hw134, ?hy134⟩) (by assumption) ?rest134
        case hi134 => simp only [List.getElem?_toArray, List.getElem?_cons_succ, List.getElem?_cons_zero]; rfl
        case hf134 => kernel_rfl
        case hr134 => kernel_rfl
        case hw134 => rfl
        case hy134 => (intro w hSw; (try dsimp only at hSw); go_simp; all_goals (first | done | with_reducible rfl))
        case hQ134 => exact fun _ _ _ h => h
        simp only [Act.put, List.setIfInBounds_toArray, List.set_cons_zero, List.set_cons_succ]
        refine wpAnyH_take (i := 10) (oi := ?oi135) (v := ?v135) ?hi135 (by kernel_rfl) ?hf135 ?hr135 ?hQ135 (Or.inl ⟨?hw135, ?hy135⟩) (by assumption) ?rest135
        case hi135 => simp only [List.getElem?_toArray, List.getElem?_cons_succ, List.getElem?_cons_zero]; rfl
        case hf135 => kernel_rfl
        case hr135 => kernel_rfl
        case hw135 => rfl
        case hy135 => (intro w hSw; (try dsimp only at hSw); go_simp; all_goals (first | done | with_reducible rfl))
        case hQ135 => exact fun _ _ _ h => h
        simp only [Act.put, List.setIfInBounds_toArray, List.set_cons_zero, List.set_cons_succ]
        refine wpAnyH_take (i := 11) (oi := ?oi136) (v := ?v136) ?hi136 (by kernel_rfl) ?hf136 ?hr136 ?hQ136 (Or.inl ⟨?hw136, ?hy136⟩) (by assumption) ?rest136
        case hi136 => simp only [List.getElem?_toArray, List.getElem?_cons_succ, List.getElem?_cons_zero]; rfl
        case hf136 => kernel_rfl
        case hr136 => kernel_rfl
        case hw136 => rfl
        case hy136 => (intro w hSw; (try dsimp only at hSw); go_simp; all_goals (first | done | with_reducible rfl))
        case hQ136 => exact fun _ _ _ h => h
        simp only [Act.put, List.setIfInBounds_toArray, List.set_cons_zero, List.set_cons_succ]
        refine wpAnyH_done (by kernel_rfl) ?_ _
        go_wp2_with fail
        go_ret
        exact ⟨rfl, HB.out.trans (HB5.out.mono HB.out.size)⟩
  · have hK := HK.out (by omega)
    obtain ⟨k1, k2, k3, k4⟩ := hK
    obtain ⟨g, rfl, _⟩ : ∃ g, A = some ⟨g, 0, none⟩ ∧ g < w3.heap.size := by
      have h9 := HR.out; rw [SL.out] at h9
      exact own_some (show World.ownsRow w3 w.heap.size 9 1 (.slice A n c) n (l.map txt) by have h8 := h9.head; rw [← HNL.out] at h8; exact h8) hn0
    have hkn : n / 2 < n := by omega
    have hkc : ((n : Int) / 2) = ((n / 2 : Nat) : Int) := by omega
    generalize n / 2 = k at *
    have HT1 := hid (fun (W : World) (hb : Below w3.heap.size w3 W) => iSize ((HS.out W hb).cut (k := k) (by omega)))
    have HT2 := hid (fun (W : World) (hb : Below w3.heap.size w3 W) => iSize (by simpa only [Nat.zero_add] using (HS.out W hb).from_ (k := k) (by omega)))
    generalize sizeX (l.take k) = za at *
    generalize sizeX (l.drop k) = zb at *
    have wr1 : IntKind.i64.wrap (za + zb) = za + zb := by rw [IntKind.wrap_i64] <;> omega
    have wr2 : (za + zb == z) = true := by simp [k1]
    have hck : ¬ c = k := by omega
    have hb1 : (k : Int) ≤ (n : Int) := by omega
    have hb2 : (k : Int) ≤ (c : Int) := by omega
    have hb3 : (0 : Int) ≤ (k : Int) := by omega
    have hb4 : k ≤ n := by omega
    clear HK k1 k2 k3 k4
    go_wp2_with fail
    refine wp_region_held_drew (S := fun w' : World => True) (by kernel_rfl) trivial (fun hS => ?_)
    have HB0 := hid (Below.refl w3.heap.size w3).drew
    refine wpAnyH_take (i := 0) (oi := ?oi137) (v := ?v137) ?hi137 (by kernel_rfl) ?hf137 ?hr137 ?hQ137 (Or.inl ⟨?hw137, ?hy137⟩) (by assumption) ?rest137
    case hi137 => simp only [List.getElem?_toArray, List.getElem?_cons_succ, List.getElem?_cons_zero]; rfl
    case hf137 => kernel_rfl
    case hr137 => kernel_rfl
    case hw137 => rfl
    case hy137 => (intro w hSw; (try dsimp only at hSw); go_simp; all_goals (first | done | with_reducible rfl))
    case hQ137 => exact fun _ _ _ h => h
    simp only [Act.put, List.setIfInBounds_toArray, List.set_cons_zero, List.set_cons_succ]
    refine wpAnyH_take (i := 1) (oi := ?oi138) (v := ?v138) ?hi138 (by kernel_rfl) ?hf138 ?hr138 ?hQ138 (Or.inl ⟨?hw138, ?hy138⟩) (by assumption) ?rest138
    case hi138 => simp only [List.getElem?_toArray, List.getElem?_cons_succ, List.getElem?_cons_zero]; rfl
    case hf138 => kernel_rfl
    case hr138 => kernel_rfl
    case hw138 => rfl
    case hy138 => (intro w hSw; (try dsimp only at hSw); go_simp; all_goals (first | done | with_reducible rfl))
    case hQ138 => exact fun _ _ _ h => h
    simp only [Act.put, List.setIfInBounds_toArray, List.set_cons_zero, List.set_cons_succ]
    refine wpAnyH_take (i := 2) (oi := ?oi139) (v := ?v139) ?hi139 (by kernel_rfl) ?hf139 ?hr139 ?hQ139 (Or.inl ⟨?hw139, ?hy139⟩) (by assumption) ?rest139
    case hi139 => simp only [List.getElem?_toArray, List.getElem?_cons_succ, List.getElem?_cons_zero]; rfl
    case hf139 => kernel_rfl
    case hr139 => kernel_rfl
    case hw139 => rfl
    case hy139 => (intro w hSw; (try dsimp only at hSw); go_simp; all_goals (first | done | with_reducible rfl))
    case hQ139 => exact fun _ _ _ h => h
    simp only [Act.put, List.setIfInBounds_toArray, List.set_cons_zero, List.set_cons_succ]
    refine wpAnyH_take (i := 4) (oi := ?oi140) (v := ?v140) ?hi140 (by kernel_rfl) ?hf140 ?hr140 ?hQ140 (Or.inl ⟨?hw140, ?hy140⟩) (by assumption) ?rest140
    case hi140 => simp only [List.getElem?_toArray, List.getElem?_cons_succ, List.getElem?_cons_zero]; rfl
    case hf140 => kernel_rfl
    case hr140 => kernel_rfl
    case hw140 => rfl
    case hy140 => (intro w hSw; (try dsimp only at hSw); go_simp; all_goals (first | done | with_reducible rfl))
    case hQ140 => exact fun _ _ _ h => h
    simp only [Act.put, List.setIfInBounds_toArray, List.set_cons_zero, List.set_cons_succ]
    refine wpAnyH_take (i := 5) (oi := ?oi141) (v := ?v141) ?hi141 (by kernel_rfl) ?hf141 ?hr141 ?hQ141 (Or.inl ⟨?hw141, ?hy141⟩) (by assumption) ?rest141
    case hi141 => simp only [List.getElem?_toArray, List.getElem?_cons_succ, List.getElem?_cons_zero]; rfl
    case hf141 => kernel_rfl
    case hr141 => kernel_rfl
    case hw141 => rfl
    case hy141 => (intro w hSw; (try dsimp only at hSw); go_simp; all_goals (first | done | with_reducible rfl))
    case hQ141 => exact fun _ _ _ h => h
    simp only [Act.put, List.setIfInBounds_toArray, List.set_cons_zero, List.set_cons_succ]
    refine wpAnyH_take (i := 6) (oi := ?oi142) (v := ?v142) ?hi142 (by kernel_rfl) ?hf142 ?hr142 ?hQ142 (Or.inl ⟨?hw142, ?hy142⟩) (by assumption) ?rest142
    case hi142 => simp only [List.getElem?_toArray, List.getElem?_cons_succ, List.getElem?_cons_zero]; rfl
    case hf142 => kernel_rfl
    case hr142 => kernel_rfl
    case hw142 => rfl
    case hy142 => (intro w hSw; (try dsimp only at hSw); go_simp; all_goals (first | done | with_reducible rfl))
    case hQ142 => exact fun _ _ _ h => h
    simp only [Act.put, List.setIfInBounds_toArray, List.set_cons_zero, List.set_cons_succ]
    refine wpAnyH_take (i := 9) (oi := ?oi143) (v := ?v143) ?hi143 (by kernel_rfl) ?hf143 ?hr143 ?hQ143 (Or.inl ⟨?hw143, ?hy143⟩) (by assumption) ?rest143
    case hi143 => simp only [List.getElem?_toArray, List.getElem?_cons_succ, List.getElem?_cons_zero]; rfl
    case hf143 => kernel_rfl
    case hr143 => kernel_rfl
    case hw143 => rfl
    case hy143 => (intro w hSw; (try dsimp only at hSw); go_simp; all_goals (first | done | with_reducible rfl))
    case hQ143 => exact fun _ _ _ h => h
    simp only [Act.put, List.setIfInBounds_toArray, List.set_cons_zero, List.set_cons_succ]
    refine wpAnyH_ready (rs := [3]) (by kernel_rfl) (by simp) ?_
    refine AllReadyH.cons (o := ?oi144) ?hi144 (fun K hK => ?step144) AllReadyH.nil
    case hi144 => simp only [List.getElem?_toArray, List.getElem?_cons_succ, List.getElem?_cons_zero]; rfl
    rw [if_pos (by rfl)]
    go_simp
    go_at_call 8
    refine (HT1.out _ HB0.out).mono ?_
    rintro e w4 ⟨rfl, hb⟩
    have HB4 := hid (HB0.out.trans hb)
    clear hb
    refine hK.out _ _ trivial (fun _ => ?_)
    refine wpAnyH_ready (rs := [7]) (by kernel_rfl) (by simp) ?_
    refine AllReadyH.cons (o := ?oi145) ?hi145 (fun K hK => ?step145) AllReadyH.nil
    case hi145 => simp only [List.getElem?_toArray, List.getElem?_cons_succ, List.getElem?_cons_zero]; rfl
    rw [if_pos (by rfl)]
    go_simp
    go_at_call 8
    refine (HT2.out _ HB4.out).mono ?_
    rintro e w5 ⟨rfl, hb⟩
    have HB5 := hid (HB4.out.trans (hb.mono HB4.out.size))
    clear hb
    refine hK.out _ _ trivial (fun _ => ?_)
    refine wpAnyH_take (i := 8) (oi := ?oi146) (v := ?v146) ?hi146 (by kernel_rfl) ?hf146 ?hr146 ?hQ146 (Or.inl ⟨?hw146, ?hy146⟩) (by assumption) ?rest146
    case hi146 => simp only [List.getElem?_toArray, List.getElem?_cons_succ, List.getElem?_cons_zero]; rfl
    case hf146 => kernel_rfl
    case hr146 => kernel_rfl
    case hw146 => rfl
    case hy146 => (intro w hSw; (try dsimp only at hSw); go_simp; all_goals (first | done | with_reducible rfl))
    case hQ146 => exact fun _ _ _ h => h
    simp only [Act.put, List.setIfInBounds_toArray, List.set_cons_zero, List.set_cons_succ]
    refine wpAnyH_take (i := 10) (oi := ?oi147) (v := ?v147) ?hi147 (by kernel_rfl) ?hf147 ?hr147 ?hQ147 (Or.inl ⟨?hw147, ?hy147⟩) (by assumption) ?rest147
    case hi147 => simp only [List.getElem?_toArray, List.getElem?_cons_succ, List.getElem?_cons_zero]; rfl
    case hf147 => kernel_rfl
    case hr147 => kernel_rfl
    case hw147 => rfl
    case hy147 => (intro w hSw; (try dsimp only at hSw); go_simp; all_goals (first | done | with_reducible rfl))
    case hQ147 => exact fun _ _ _ h => h
    simp only [Act.put, List.setIfInBounds_toArray, List.set_cons_zero, List.set_cons_succ]
    refine wpAnyH_take (i := 11) (oi := ?oi148) (v := ?v148) ?hi148 (by kernel_rfl) ?hf148 ?hr148 ?hQ148 (Or.inl ⟨?hw148, ?hy148⟩) (by assumption) ?rest148
    case hi148 => simp only [List.getElem?_toArray, List.getElem?_cons_succ, List.getElem?_cons_zero]; rfl
    case hf148 => kernel_rfl
    case hr148 => kernel_rfl
    case hw148 => rfl
    case hy148 => (intro w hSw; (try dsimp only at hSw); go_simp; all_goals (first | done | with_reducible rfl))
    case hQ148 => exact fun _ _ _ h => h
    simp only [Act.put, List.setIfInBounds_toArray, List.set_cons_zero, List.set_cons_succ]
    refine wpAnyH_done (by kernel_rfl) ?_ _
    go_wp2_with fail
    go_ret
    exact ⟨rfl, HB.out.trans (HB5.out.mono HB.out.size)⟩
end Go.Proofs.Ytokehghaoafcgaa
