/-
  WALKS: ValidTree of the model.
-/
import Derived.Test.YtlhelhfaogcibaaT5
import Derived.Test.YtlhelhfaogcibaaT7
namespace Go.Proofs.Ytlhelhfaogcibaa
open Go.RowKit Nm
set_option linter.unusedSimpArgs false
set_option linter.unusedVariables false

theorem Ls.cut {w : World} {B n c : Nat} {A : Option Addr} {l : List LgrV} (h : Ls w B n (.slice A n c) l) {k : Nat} (hk : k ≤ n) : Ls w B k (.slice A k c) (l.take k) := by
  have hl := h.count
  obtain ⟨⟨hl3, A', c', he, h2, h3, h4⟩, h5⟩ := h
  obtain ⟨rfl, rfl⟩ : A = A' ∧ c = c' := by simpa using he
  refine ⟨⟨by rw [flat_len _ 6 lcells_len, List.length_take]; omega, A, c, rfl, by omega, h3, fun h0 => ?_⟩, fun x hx => h5 x (List.mem_of_mem_take hx)⟩
  obtain ⟨b, o, e, hb, hc⟩ := h4 (by omega)
  refine ⟨b, o, e, hb, fun j u hu => hc j u ?_⟩
  have hj : j < k * 6 := by have := (List.getElem?_eq_some_iff.1 hu).1; rw [flat_len _ 6 lcells_len, List.length_take] at this; omega
  have hq : j / 6 < l.length := by omega
  have hx : l[j / 6]? = some (l[j / 6]'hq) := List.getElem?_eq_getElem hq
  have hxt : (l.take k)[j / 6]? = some (l[j / 6]'hq) := by rw [List.getElem?_take, if_pos (by omega)]; exact hx
  have e1 := flat_at lcells 6 lcells_len _ (j / 6) (j % 6) _ hxt (Nat.mod_lt _ (by omega))
  have e2 := flat_at lcells 6 lcells_len _ (j / 6) (j % 6) _ hx (Nat.mod_lt _ (by omega))
  rw [show j / 6 * 6 + j % 6 = j by omega] at e1 e2
  rw [e2, ← e1, hu]
theorem lnames_take (l : List LgrV) (k : Nat) : lnames (l.take k) = (lnames l).take k := by unfold lnames; rw [List.map_take]

set_option maxHeartbeats 6000000 in
set_option maxRecDepth 100000 in
theorem specTree_c (v : Value) (B : Nat) (ls : List LgrV) (hs : List HndV) (q : Int) (w : World) (h : TreeAt w B v ls hs q) (hB : B ≤ w.heap.size) :
    Calls Try.prog 39 #[v] w (BoolPost w (treeOk (lsOf ls) (hsOf hs) q)) := by
  obtain ⟨A1, n1, k1, A2, n2, k2, rfl, h1, h2, hn1, hn2, hh⟩ := h
  have cn1 := h1.count
  obtain ⟨A1', k1', he1, hnk, hkm⟩ := h1.1.form
  obtain ⟨rfl, rfl⟩ : A1 = A1' ∧ k1 = k1' := by simpa using he1
  unfold maxLen at hkm
  have HV := hid (And.intro h1 h2)
  have HB0 := hid (show Below w.heap.size w (w.alloc (.cells #[.slice A1 n1 k1, .slice A2 n2 k2, .int .i64 q] 31)) from (Below.refl _ _).alloc (Nat.le_refl _) _)
  have HSZ := hid (show (w.alloc (.cells #[.slice A1 n1 k1, .slice A2 n2 k2, .int .i64 q] 31)).heap.size = w.heap.size + 1 by simp)
  have BX := hid (fun (W : World) (hW : Below (w.heap.size + 1) (w.alloc (.cells #[.slice A1 n1 k1, .slice A2 n2 k2, .int .i64 q] 31)) W) (j : Nat) => (hW.cell (p := ⟨w.heap.size, j, none⟩) (by show w.heap.size < _; omega)).trans (cell_of_row _ w.heap.size j _ _ _ (heap_alloc_new w _)))
  have BW := hid (fun (W : World) (hW : Below (w.heap.size + 1) (w.alloc (.cells #[.slice A1 n1 k1, .slice A2 n2 k2, .int .i64 q] 31)) W) => HB0.out.trans (hW.mono (by omega)))
  have VH := hid (fun (W : World) (hW : Below w.heap.size w W) => specHandlers_c (.slice A2 n2 k2) n2 B hs W (h2.below hW hB) (by have := hW.size; omega))
  have LV := hid (fun W => inRange_c q 0 60 W)
  rw [lv_range] at LV
  have IN := hid (fun W => inRange_c n1 1 8 W)
  clear h1 h2 hn1 hn2 hh
  go_enter Try.func39, Try.ntmps39
  go_wp2_with fail
  go_loopw [3] (fun iv wr => ∃ k : Nat, iv = .int .i64 k ∧ k ≤ n1 ∧ Hid ((∀ x ∈ ls.take k, lgrOk (hsOf hs) x.l = true) ∧ ((lnames ls).take k).Nodup) ∧ Hid (Below (w.heap.size + 1) (w.alloc (.cells #[.slice A1 n1 k1, .slice A2 n2 k2, .int .i64 q] 31)) wr)) (fun iv _ => n1 - (intOf iv).toNat)
  case atStart => exact ⟨0, rfl, by omega, ⟨by simp, by simp⟩, Below.refl _ _⟩
  case round =>
    obtain ⟨k, rfl, hk, HA, HW⟩ := hrel
    have hW := BW.out _ HW.out
    have d0 : wr.cell? ⟨w.heap.size, 0, none⟩ = some (.slice A1 n1 k1) := BX.out _ HW.out 0
    have d1 : wr.cell? ⟨w.heap.size, 1, none⟩ = some (.slice A2 n2 k2) := BX.out _ HW.out 1
    have hszr : w.heap.size + 1 ≤ wr.heap.size := by have := HW.out.size; have := HSZ.out; omega
    by_cases hlt : k < n1
    · obtain ⟨b, o, x, t, rfl, hb, hx, ht, hts, hH, hF, g0, g1, g2, g3, g4, g5⟩ := HV.out.1.at_ hlt
      obtain ⟨A3, k3, hhv, _, _⟩ := hH.1.form
      obtain ⟨A4, k4, hfv, _, _⟩ := hF.1.form
      rw [hhv] at g2
      rw [hfv] at g3
      have c0 : wr.cell? ⟨b, o + k * 6, none⟩ = some (.string t) := (hW.cell (p := ⟨b, o + k * 6, none⟩) (by show b < _; omega)).trans g0
      have c1 : wr.cell? ⟨b, o + k * 6 + 1, none⟩ = some (.int .i64 x.l.lv) := (hW.cell (p := ⟨b, o + k * 6 + 1, none⟩) (by show b < _; omega)).trans g1
      have c2 : wr.cell? ⟨b, o + k * 6 + 2, none⟩ = some (.slice A3 x.hn k3) := (hW.cell (p := ⟨b, o + k * 6 + 2, none⟩) (by show b < _; omega)).trans g2
      have c3 : wr.cell? ⟨b, o + k * 6 + 3, none⟩ = some (.slice A4 x.fn k4) := (hW.cell (p := ⟨b, o + k * 6 + 3, none⟩) (by show b < _; omega)).trans g3
      have c4 : wr.cell? ⟨b, o + k * 6 + 4, none⟩ = some (.bool x.l.stop) := (hW.cell (p := ⟨b, o + k * 6 + 4, none⟩) (by show b < _; omega)).trans g4
      have c5 : wr.cell? ⟨b, o + k * 6 + 5, none⟩ = some (.bool x.l.off) := (hW.cell (p := ⟨b, o + k * 6 + 5, none⟩) (by show b < _; omega)).trans g5
      have hxn : (lnames ls)[k]? = some t.data.toList := by unfold lnames; rw [List.getElem?_map, hx, ht]; rfl
      have hbr : b < wr.heap.size := by omega
      have hwr : w.heap.size < wr.heap.size := by omega
      rw [hhv] at hH
      rw [hfv] at hF
      have h1c := HV.out.1.cut hk
      have HL := hid (fun (W : World) (hW : Below w.heap.size w W) => specLogger_c t x.l A3 A4 x.hn k3 x.fn k4 n2 B (.slice A2 n2 k2) hs W ht hts (hH.below hW hB) (hF.below hW hB) (HV.out.2.below hW hB) (by have := hW.size; omega))
      have LA := hid (fun (W : World) (hW : Below w.heap.size w W) => loggerAt_c (.slice (some ⟨b, o, none⟩) k k1) k B (ls.take k) t W (h1c.below hW hB))
      rw [lnames_take] at LA
      have HX := hid (And.intro hx (And.intro hxn ht))
      have HW' := hid hW
      clear hx hxn ht hts hH hF hhv hfv g0 g1 g2 g3 g4 g5 hW h1c
      have s0 : (0 : Int) ≤ (k : Int) := by omega
      have s1 : (k : Int) ≤ (k1 : Int) := by omega
      have s2 : ((k : Int)).toNat = k := by simp
      have s3 : k ≤ k1 := by omega
      have hidx := idx_neg ((lnames ls).take k) t.data.toList
      generalize idxL ((lnames ls).take k) t.data.toList = z at LA hidx
      have KEEP : ∀ W w9 : World, Below W.heap.size W w9 → wr.heap.size = W.heap.size → (∀ p : Addr, p.block < wr.heap.size → W.cell? p = wr.cell? p) → ∀ p : Addr, p.block < wr.heap.size → w9.cell? p = wr.cell? p := fun W w9 h e1 e2 p hp => (h.cell (by omega)).trans (e2 p hp)
      have KEEP := hid KEEP
      cases hl : lgrOk (hsOf hs) x.l with
      | false =>
        rw [hl] at HL
        have HO := hid (lgrs_bad hs ls k x HX.out.1 hl)
        clear hl hidx
        go_wp2_with fail
        refine wp_region_held_drew (S := (fun w' : World => w'.cell? ⟨w.heap.size, 0, none⟩ = some (.slice (some ⟨b, o, none⟩) n1 k1) ∧ w'.cell? ⟨w.heap.size, 1, none⟩ = some (.slice A2 n2 k2) ∧ w'.cell? ⟨b, o + k * 6, none⟩ = some (.string t) ∧ w'.cell? ⟨b, o + k * 6 + 1, none⟩ = some (.int .i64 x.l.lv) ∧ w'.cell? ⟨b, o + k * 6 + 2, none⟩ = some (.slice A3 x.hn k3) ∧ w'.cell? ⟨b, o + k * 6 + 3, none⟩ = some (.slice A4 x.fn k4) ∧ w'.cell? ⟨b, o + k * 6 + 4, none⟩ = some (.bool x.l.stop) ∧ w'.cell? ⟨b, o + k * 6 + 5, none⟩ = some (.bool x.l.off))) (by kernel_rfl) ⟨d0, d1, c0, c1, c2, c3, c4, c5⟩ (fun hS => ?_)
        refine wpAnyH_take (i := 0) (oi := ?oi1) (v := ?v1) ?hi1 (by kernel_rfl) ?hf1 ?hr1 ?hQ1 (Or.inl ⟨?hw1, ?hy1⟩) (by assumption) ?rest1
        case hi1 => simp only [List.getElem?_toArray, List.getElem?_cons_succ, List.getElem?_cons_zero]; rfl
        case hf1 => kernel_rfl
        case hr1 => kernel_rfl
        case hw1 => rfl
        case hy1 => (intro w hSw; (try dsimp only at hSw); go_simp <;> (first | done | with_reducible rfl))
        case hQ1 => exact fun _ _ _ h => h
        simp only [Act.put, List.setIfInBounds_toArray, List.set_cons_zero, List.set_cons_succ]
        refine wpAnyH_take (i := 1) (oi := ?oi2) (v := ?v2) ?hi2 (by kernel_rfl) ?hf2 ?hr2 ?hQ2 (Or.inl ⟨?hw2, ?hy2⟩) (by assumption) ?rest2
        case hi2 => simp only [List.getElem?_toArray, List.getElem?_cons_succ, List.getElem?_cons_zero]; rfl
        case hf2 => kernel_rfl
        case hr2 => kernel_rfl
        case hw2 => rfl
        case hy2 => (intro w hSw; (try dsimp only at hSw); go_simp <;> (first | done | with_reducible rfl))
        case hQ2 => exact fun _ _ _ h => h
        simp only [Act.put, List.setIfInBounds_toArray, List.set_cons_zero, List.set_cons_succ]
        refine wpAnyH_take (i := 2) (oi := ?oi3) (v := ?v3) ?hi3 (by kernel_rfl) ?hf3 ?hr3 ?hQ3 (Or.inl ⟨?hw3, ?hy3⟩) (by assumption) ?rest3
        case hi3 => simp only [List.getElem?_toArray, List.getElem?_cons_succ, List.getElem?_cons_zero]; rfl
        case hf3 => kernel_rfl
        case hr3 => kernel_rfl
        case hw3 => rfl
        case hy3 => (intro w hSw; (try dsimp only at hSw); go_simp <;> (first | done | with_reducible rfl))
        case hQ3 => exact fun _ _ _ h => h
        simp only [Act.put, List.setIfInBounds_toArray, List.set_cons_zero, List.set_cons_succ]
        refine wpAnyH_take (i := 3) (oi := ?oi4) (v := ?v4) ?hi4 (by kernel_rfl) ?hf4 ?hr4 ?hQ4 (Or.inl ⟨?hw4, ?hy4⟩) (by assumption) ?rest4
        case hi4 => simp only [List.getElem?_toArray, List.getElem?_cons_succ, List.getElem?_cons_zero]; rfl
        case hf4 => kernel_rfl
        case hr4 => kernel_rfl
        case hw4 => rfl
        case hy4 => (intro w hSw; (try dsimp only at hSw); go_simp <;> (first | done | with_reducible rfl))
        case hQ4 => exact fun _ _ _ h => h
        simp only [Act.put, List.setIfInBounds_toArray, List.set_cons_zero, List.set_cons_succ]
        refine wpAnyH_take (i := 4) (oi := ?oi5) (v := ?v5) ?hi5 (by kernel_rfl) ?hf5 ?hr5 ?hQ5 (Or.inl ⟨?hw5, ?hy5⟩) (by assumption) ?rest5
        case hi5 => simp only [List.getElem?_toArray, List.getElem?_cons_succ, List.getElem?_cons_zero]; rfl
        case hf5 => kernel_rfl
        case hr5 => kernel_rfl
        case hw5 => rfl
        case hy5 => (intro w hSw; (try dsimp only at hSw); go_simp <;> (first | done | with_reducible rfl))
        case hQ5 => exact fun _ _ _ h => h
        simp only [Act.put, List.setIfInBounds_toArray, List.set_cons_zero, List.set_cons_succ]
        refine wpAnyH_take (i := 5) (oi := ?oi6) (v := ?v6) ?hi6 (by kernel_rfl) ?hf6 ?hr6 ?hQ6 (Or.inl ⟨?hw6, ?hy6⟩) (by assumption) ?rest6
        case hi6 => simp only [List.getElem?_toArray, List.getElem?_cons_succ, List.getElem?_cons_zero]; rfl
        case hf6 => kernel_rfl
        case hr6 => kernel_rfl
        case hw6 => rfl
        case hy6 => (intro w hSw; (try dsimp only at hSw); go_simp <;> (first | done | with_reducible rfl))
        case hQ6 => exact fun _ _ _ h => h
        simp only [Act.put, List.setIfInBounds_toArray, List.set_cons_zero, List.set_cons_succ]
        refine wpAnyH_take (i := 6) (oi := ?oi7) (v := ?v7) ?hi7 (by kernel_rfl) ?hf7 ?hr7 ?hQ7 (Or.inl ⟨?hw7, ?hy7⟩) (by assumption) ?rest7
        case hi7 => simp only [List.getElem?_toArray, List.getElem?_cons_succ, List.getElem?_cons_zero]; rfl
        case hf7 => kernel_rfl
        case hr7 => kernel_rfl
        case hw7 => rfl
        case hy7 => (intro w hSw; (try dsimp only at hSw); go_simp <;> (first | done | with_reducible rfl))
        case hQ7 => exact fun _ _ _ h => h
        simp only [Act.put, List.setIfInBounds_toArray, List.set_cons_zero, List.set_cons_succ]
        refine wpAnyH_ready (rs := [7]) (by kernel_rfl) (by simp) ?_
        refine AllReadyH.cons (o := ?oi8) ?hi8 (fun K hK => ?step8) AllReadyH.nil
        case hi8 => simp only [List.getElem?_toArray, List.getElem?_cons_succ, List.getElem?_cons_zero]; rfl
        rw [if_pos (by rfl)]
        go_simp
        go_at_call 65
        refine (HL.out _ HW'.out.drew).mono ?_
        rintro e w9 ⟨rfl, hb9⟩
        refine hK.out _ _ ⟨(hb9.cell (p := ⟨w.heap.size, 0, none⟩) hwr).trans d0, (hb9.cell (p := ⟨w.heap.size, 1, none⟩) hwr).trans d1, (hb9.cell (p := ⟨b, _, none⟩) hbr).trans c0, (hb9.cell (p := ⟨b, _, none⟩) hbr).trans c1, (hb9.cell (p := ⟨b, _, none⟩) hbr).trans c2, (hb9.cell (p := ⟨b, _, none⟩) hbr).trans c3, (hb9.cell (p := ⟨b, _, none⟩) hbr).trans c4, (hb9.cell (p := ⟨b, _, none⟩) hbr).trans c5⟩ (fun hS9 => ?_)
        refine wpAnyH_take (i := 8) (oi := ?oi9) (v := ?v9) ?hi9 (by kernel_rfl) ?hf9 ?hr9 ?hQ9 (Or.inl ⟨?hw9, ?hy9⟩) (by assumption) ?rest9
        case hi9 => simp only [List.getElem?_toArray, List.getElem?_cons_succ, List.getElem?_cons_zero]; rfl
        case hf9 => kernel_rfl
        case hr9 => kernel_rfl
        case hw9 => rfl
        case hy9 => (intro w hSw; (try dsimp only at hSw); go_simp <;> (first | done | with_reducible rfl))
        case hQ9 => exact fun _ _ _ h => h
        simp only [Act.put, List.setIfInBounds_toArray, List.set_cons_zero, List.set_cons_succ]
        refine wpAnyH_take (i := 9) (oi := ?oi10) (v := ?v10) ?hi10 (by kernel_rfl) ?hf10 ?hr10 ?hQ10 (Or.inl ⟨?hw10, ?hy10⟩) (by assumption) ?rest10
        case hi10 => simp only [List.getElem?_toArray, List.getElem?_cons_succ, List.getElem?_cons_zero]; rfl
        case hf10 => kernel_rfl
        case hr10 => kernel_rfl
        case hw10 => rfl
        case hy10 => (intro w hSw; (try dsimp only at hSw); go_simp <;> (first | done | with_reducible rfl))
        case hQ10 => exact fun _ _ _ h => h
        simp only [Act.put, List.setIfInBounds_toArray, List.set_cons_zero, List.set_cons_succ]
        refine wpAnyH_take (i := 10) (oi := ?oi11) (v := undef) ?hi11 (by kernel_rfl) ?hf11 ?hr11 ?hQ11 (Or.inr ⟨?hw11, rfl⟩) (by assumption) ?rest11
        case hi11 => simp only [List.getElem?_toArray, List.getElem?_cons_succ, List.getElem?_cons_zero]; rfl
        case hf11 => kernel_rfl
        case hr11 => kernel_rfl
        case hw11 => rfl
        case hQ11 => exact fun _ _ _ h => h
        simp only [Act.put, List.setIfInBounds_toArray, List.set_cons_zero, List.set_cons_succ]
        refine wpAnyH_take (i := 11) (oi := ?oi12) (v := undef) ?hi12 (by kernel_rfl) ?hf12 ?hr12 ?hQ12 (Or.inr ⟨?hw12, rfl⟩) (by assumption) ?rest12
        case hi12 => simp only [List.getElem?_toArray, List.getElem?_cons_succ, List.getElem?_cons_zero]; rfl
        case hf12 => kernel_rfl
        case hr12 => kernel_rfl
        case hw12 => rfl
        case hQ12 => exact fun _ _ _ h => h
        simp only [Act.put, List.setIfInBounds_toArray, List.set_cons_zero, List.set_cons_succ]
        refine wpAnyH_take (i := 12) (oi := ?oi13) (v := undef) ?hi13 (by kernel_rfl) ?hf13 ?hr13 ?hQ13 (Or.inr ⟨?hw13, rfl⟩) (by assumption) ?rest13
        case hi13 => simp only [List.getElem?_toArray, List.getElem?_cons_succ, List.getElem?_cons_zero]; rfl
        case hf13 => kernel_rfl
        case hr13 => kernel_rfl
        case hw13 => rfl
        case hQ13 => exact fun _ _ _ h => h
        simp only [Act.put, List.setIfInBounds_toArray, List.set_cons_zero, List.set_cons_succ]
        refine wpAnyH_take (i := 13) (oi := ?oi14) (v := undef) ?hi14 (by kernel_rfl) ?hf14 ?hr14 ?hQ14 (Or.inr ⟨?hw14, rfl⟩) (by assumption) ?rest14
        case hi14 => simp only [List.getElem?_toArray, List.getElem?_cons_succ, List.getElem?_cons_zero]; rfl
        case hf14 => kernel_rfl
        case hr14 => kernel_rfl
        case hw14 => rfl
        case hQ14 => exact fun _ _ _ h => h
        simp only [Act.put, List.setIfInBounds_toArray, List.set_cons_zero, List.set_cons_succ]
        refine wpAnyH_take (i := 14) (oi := ?oi15) (v := undef) ?hi15 (by kernel_rfl) ?hf15 ?hr15 ?hQ15 (Or.inr ⟨?hw15, rfl⟩) (by assumption) ?rest15
        case hi15 => simp only [List.getElem?_toArray, List.getElem?_cons_succ, List.getElem?_cons_zero]; rfl
        case hf15 => kernel_rfl
        case hr15 => kernel_rfl
        case hw15 => rfl
        case hQ15 => exact fun _ _ _ h => h
        simp only [Act.put, List.setIfInBounds_toArray, List.set_cons_zero, List.set_cons_succ]
        refine wpAnyH_take (i := 15) (oi := ?oi16) (v := undef) ?hi16 (by kernel_rfl) ?hf16 ?hr16 ?hQ16 (Or.inr ⟨?hw16, rfl⟩) (by assumption) ?rest16
        case hi16 => simp only [List.getElem?_toArray, List.getElem?_cons_succ, List.getElem?_cons_zero]; rfl
        case hf16 => kernel_rfl
        case hr16 => kernel_rfl
        case hw16 => rfl
        case hQ16 => exact fun _ _ _ h => h
        simp only [Act.put, List.setIfInBounds_toArray, List.set_cons_zero, List.set_cons_succ]
        refine wpAnyH_take (i := 16) (oi := ?oi17) (v := undef) ?hi17 (by kernel_rfl) ?hf17 ?hr17 ?hQ17 (Or.inr ⟨?hw17, rfl⟩) (by assumption) ?rest17
        case hi17 => simp only [List.getElem?_toArray, List.getElem?_cons_succ, List.getElem?_cons_zero]; rfl
        case hf17 => kernel_rfl
        case hr17 => kernel_rfl
        case hw17 => rfl
        case hQ17 => exact fun _ _ _ h => h
        simp only [Act.put, List.setIfInBounds_toArray, List.set_cons_zero, List.set_cons_succ]
        refine wpAnyH_take (i := 17) (oi := ?oi18) (v := undef) ?hi18 (by kernel_rfl) ?hf18 ?hr18 ?hQ18 (Or.inr ⟨?hw18, rfl⟩) (by assumption) ?rest18
        case hi18 => simp only [List.getElem?_toArray, List.getElem?_cons_succ, List.getElem?_cons_zero]; rfl
        case hf18 => kernel_rfl
        case hr18 => kernel_rfl
        case hw18 => rfl
        case hQ18 => exact fun _ _ _ h => h
        simp only [Act.put, List.setIfInBounds_toArray, List.set_cons_zero, List.set_cons_succ]
        refine wpAnyH_take (i := 18) (oi := ?oi19) (v := undef) ?hi19 (by kernel_rfl) ?hf19 ?hr19 ?hQ19 (Or.inr ⟨?hw19, rfl⟩) (by assumption) ?rest19
        case hi19 => simp only [List.getElem?_toArray, List.getElem?_cons_succ, List.getElem?_cons_zero]; rfl
        case hf19 => kernel_rfl
        case hr19 => kernel_rfl
        case hw19 => rfl
        case hQ19 => exact fun _ _ _ h => h
        simp only [Act.put, List.setIfInBounds_toArray, List.set_cons_zero, List.set_cons_succ]
        refine wpAnyH_take (i := 19) (oi := ?oi20) (v := undef) ?hi20 (by kernel_rfl) ?hf20 ?hr20 ?hQ20 (Or.inr ⟨?hw20, rfl⟩) (by assumption) ?rest20
        case hi20 => simp only [List.getElem?_toArray, List.getElem?_cons_succ, List.getElem?_cons_zero]; rfl
        case hf20 => kernel_rfl
        case hr20 => kernel_rfl
        case hw20 => rfl
        case hQ20 => exact fun _ _ _ h => h
        simp only [Act.put, List.setIfInBounds_toArray, List.set_cons_zero, List.set_cons_succ]
        refine wpAnyH_take (i := 20) (oi := ?oi21) (v := undef) ?hi21 (by kernel_rfl) ?hf21 ?hr21 ?hQ21 (Or.inr ⟨?hw21, rfl⟩) (by assumption) ?rest21
        case hi21 => simp only [List.getElem?_toArray, List.getElem?_cons_succ, List.getElem?_cons_zero]; rfl
        case hf21 => kernel_rfl
        case hr21 => kernel_rfl
        case hw21 => rfl
        case hQ21 => exact fun _ _ _ h => h
        simp only [Act.put, List.setIfInBounds_toArray, List.set_cons_zero, List.set_cons_succ]
        refine wpAnyH_take (i := 21) (oi := ?oi22) (v := undef) ?hi22 (by kernel_rfl) ?hf22 ?hr22 ?hQ22 (Or.inr ⟨?hw22, rfl⟩) (by assumption) ?rest22
        case hi22 => simp only [List.getElem?_toArray, List.getElem?_cons_succ, List.getElem?_cons_zero]; rfl
        case hf22 => kernel_rfl
        case hr22 => kernel_rfl
        case hw22 => rfl
        case hQ22 => exact fun _ _ _ h => h
        simp only [Act.put, List.setIfInBounds_toArray, List.set_cons_zero, List.set_cons_succ]
        refine wpAnyH_take (i := 22) (oi := ?oi23) (v := ?v23) ?hi23 (by kernel_rfl) ?hf23 ?hr23 ?hQ23 (Or.inl ⟨?hw23, ?hy23⟩) (by assumption) ?rest23
        case hi23 => simp only [List.getElem?_toArray, List.getElem?_cons_succ, List.getElem?_cons_zero]; rfl
        case hf23 => kernel_rfl
        case hr23 => kernel_rfl
        case hw23 => rfl
        case hy23 => (intro w hSw; (try dsimp only at hSw); go_simp <;> (first | done | with_reducible rfl))
        case hQ23 => exact fun _ _ _ h => h
        simp only [Act.put, List.setIfInBounds_toArray, List.set_cons_zero, List.set_cons_succ]
        refine wpAnyH_done (by kernel_rfl) ?_ _
        go_wp2_with fail
        go_ret
        exact ⟨ret_bool (by unfold treeOk; rw [HO.out]; simp), HW'.out.drew.trans (hb9.mono HW'.out.drew.size)⟩
      | true =>
        rw [hl] at HL
        have HE := hid hl
        clear hl
        by_cases hz : 0 ≤ z
        · have hd : decide (0 ≤ z) = true := by simpa using hz
          have HO := hid (lgrs_dup hs ls k _ HX.out.2.1 (Classical.not_not.1 (fun h => by have := hidx.2 h; omega)))
          clear hidx
          go_wp2_with fail
          go_region_held3 (fun w' => w'.cell? ⟨w.heap.size, 0, none⟩ = some (.slice (some ⟨b, o, none⟩) n1 k1) ∧ w'.cell? ⟨w.heap.size, 1, none⟩ = some (.slice A2 n2 k2) ∧ w'.cell? ⟨b, o + k * 6, none⟩ = some (.string t) ∧ w'.cell? ⟨b, o + k * 6 + 1, none⟩ = some (.int .i64 x.l.lv) ∧ w'.cell? ⟨b, o + k * 6 + 2, none⟩ = some (.slice A3 x.hn k3) ∧ w'.cell? ⟨b, o + k * 6 + 3, none⟩ = some (.slice A4 x.fn k4) ∧ w'.cell? ⟨b, o + k * 6 + 4, none⟩ = some (.bool x.l.stop) ∧ w'.cell? ⟨b, o + k * 6 + 5, none⟩ = some (.bool x.l.off)) (first | go_keep | exact ⟨(hb9.cell (p := ⟨w.heap.size, 0, none⟩) hwr).trans d0, (hb9.cell (p := ⟨w.heap.size, 1, none⟩) hwr).trans d1, (hb9.cell (p := ⟨b, _, none⟩) hbr).trans c0, (hb9.cell (p := ⟨b, _, none⟩) hbr).trans c1, (hb9.cell (p := ⟨b, _, none⟩) hbr).trans c2, (hb9.cell (p := ⟨b, _, none⟩) hbr).trans c3, (hb9.cell (p := ⟨b, _, none⟩) hbr).trans c4, (hb9.cell (p := ⟨b, _, none⟩) hbr).trans c5⟩) (first | (go_at_call 65; refine (HL.out _ (by first | exact HW'.out | exact HW'.out.drew | exact HW'.out.drew.drew)).mono ?_; rintro e w9 ⟨rfl, hb9⟩) | (go_at_call 51; refine (LA.out _ (by first | exact HW'.out.trans (hb9.mono HW'.out.size) | exact HW'.out.drew.trans (hb9.mono HW'.out.drew.size))).mono ?_; rintro e w8 ⟨rfl, rfl⟩))
          all_goals go_wp2_with fail
          all_goals go_ret
          all_goals exact ⟨ret_bool (by unfold treeOk; rw [HO.out]; simp), by first | exact HW'.out.trans (hb9.mono HW'.out.size) | exact HW'.out.drew.trans (hb9.mono HW'.out.drew.size)⟩
        · have hd : decide (0 ≤ z) = false := by simpa using hz
          have HS := hid (hidx.1 (by omega))
          clear hidx
          go_wp2_with fail
          go_region_held3 (fun w' => w'.cell? ⟨w.heap.size, 0, none⟩ = some (.slice (some ⟨b, o, none⟩) n1 k1) ∧ w'.cell? ⟨w.heap.size, 1, none⟩ = some (.slice A2 n2 k2) ∧ w'.cell? ⟨b, o + k * 6, none⟩ = some (.string t) ∧ w'.cell? ⟨b, o + k * 6 + 1, none⟩ = some (.int .i64 x.l.lv) ∧ w'.cell? ⟨b, o + k * 6 + 2, none⟩ = some (.slice A3 x.hn k3) ∧ w'.cell? ⟨b, o + k * 6 + 3, none⟩ = some (.slice A4 x.fn k4) ∧ w'.cell? ⟨b, o + k * 6 + 4, none⟩ = some (.bool x.l.stop) ∧ w'.cell? ⟨b, o + k * 6 + 5, none⟩ = some (.bool x.l.off)) (first | go_keep | exact ⟨(hb9.cell (p := ⟨w.heap.size, 0, none⟩) hwr).trans d0, (hb9.cell (p := ⟨w.heap.size, 1, none⟩) hwr).trans d1, (hb9.cell (p := ⟨b, _, none⟩) hbr).trans c0, (hb9.cell (p := ⟨b, _, none⟩) hbr).trans c1, (hb9.cell (p := ⟨b, _, none⟩) hbr).trans c2, (hb9.cell (p := ⟨b, _, none⟩) hbr).trans c3, (hb9.cell (p := ⟨b, _, none⟩) hbr).trans c4, (hb9.cell (p := ⟨b, _, none⟩) hbr).trans c5⟩) (first | (go_at_call 65; refine (HL.out _ (by first | exact HW'.out | exact HW'.out.drew | exact HW'.out.drew.drew)).mono ?_; rintro e w9 ⟨rfl, hb9⟩) | (go_at_call 51; refine (LA.out _ (by first | exact HW'.out.trans (hb9.mono HW'.out.size) | exact HW'.out.drew.trans (hb9.mono HW'.out.drew.size))).mono ?_; rintro e w8 ⟨rfl, rfl⟩))
          all_goals go_wp2_with fail
          all_goals
            go_roundw
            case rel =>
              refine ⟨k + 1, by go_num, by omega, ⟨?_, nodup_step _ k _ HX.out.2.1 HA.out.2 HS.out⟩, by first | exact HW.out.trans (hb9.mono hszr) | exact HW.out.drew.trans (hb9.mono hszr)⟩
              intro y hy
              rcases mem_take_succ ls k x y HX.out.1 hy with rfl | hy
              · exact HE.out
              · exact HA.out.1 y hy
            case measure => simp [intOf]; omega
    · have hk' : k = n1 := by omega
      have HA' := hid (show (∀ x ∈ ls, lgrOk (hsOf hs) x.l = true) ∧ (lnames ls).Nodup by
        have h1 := HA.out
        rwa [List.take_of_length_le (by omega), List.take_of_length_le (by unfold lnames; simp; omega)] at h1)
      have HW' := hid hW
      clear hW
      have hzr : w.heap.size ≤ wr.heap.size := by omega
      cases hi : (decide ((1 : Int) ≤ (n1 : Int)) && decide ((n1 : Int) ≤ 8)) with
      | false =>
        rw [hi] at IN
        have HO := hid (lgrs_len hs ls (by rw [Bool.and_eq_false_iff, decide_eq_false_iff_not, decide_eq_false_iff_not] at hi; omega))
        clear hi
        go_wp2_with fail
        refine (IN.out wr).mono ?_
        rintro e w1 ⟨rfl, rfl⟩
        go_wp2_with fail
        go_ret
        exact ⟨ret_bool (by unfold treeOk; rw [HO.out]; simp), HW'.out⟩
      | true =>
        rw [hi] at IN
        have hi2 : 1 ≤ n1 ∧ n1 ≤ 8 := by rw [Bool.and_eq_true, decide_eq_true_eq, decide_eq_true_eq] at hi; omega
        clear hi
        obtain ⟨b, o, x0, t0, rfl, hb, hx0, ht0, hts0, _, _, g0, _⟩ := HV.out.1.at_ (k := 0) (by omega)
        have hx0n : (lnames ls)[0]? = some t0.data.toList := by unfold lnames; rw [List.getElem?_map, hx0, ht0]; rfl
        have r0 : wr.cell? ⟨b, o, none⟩ = some (.string t0) := by rw [HW'.out.cell (p := ⟨b, o, none⟩) (by show b < _; omega)]; simpa using g0
        have b0 : (0 : Int) < (n1 : Int) := by omega
        clear hx0 ht0 g0
        by_cases hr : t0.data.toList = []
        · have e2 := empty_true hr
          have HL := hid (lgrs_good hs ls (by omega) (by omega) (by rw [hx0n, hr]) HA'.out.1 HA'.out.2)
          clear hx0n hr
          go_wp2_with fail
          refine (IN.out wr).mono ?_
          rintro e w1 ⟨rfl, rfl⟩
          go_wp2_with fail
          refine (VH.out w1 HW'.out).mono ?_
          rintro e w2 ⟨rfl, hb2⟩
          have d2 : w2.cell? ⟨w.heap.size, 2, none⟩ = some (.int .i64 q) := BX.out _ (HW.out.trans (hb2.mono hszr)) 2
          have HW2 := hid (HW'.out.trans (hb2.mono HW'.out.size))
          have HT := hid (show treeOk (lsOf ls) (hsOf hs) q = (lvOk q && hndsOk (hsOf hs)) by unfold treeOk; rw [HL.out]; simp)
          clear hb2
          cases hh : hndsOk (hsOf hs) with
          | false =>
            rw [hh] at HT
            clear hh
            go_wp2_with fail
            go_ret
            exact ⟨ret_bool (by rw [HT.out]; simp), HW2.out⟩
          | true =>
            rw [hh] at HT
            clear hh
            go_wp2_with fail
            refine (LV.out w2).mono ?_
            rintro e w3 ⟨rfl, rfl⟩
            go_wp2_with fail
            go_ret
            exact ⟨ret_bool (by rw [HT.out]; simp), HW2.out⟩
        · have HO := hid (lgrs_root hs ls _ hx0n hr)
          have e2 := empty_false hr
          clear hx0n hr
          go_wp2_with fail
          refine (IN.out wr).mono ?_
          rintro e w1 ⟨rfl, rfl⟩
          go_wp2_with fail
          go_ret
          exact ⟨ret_bool (by unfold treeOk; rw [HO.out]; simp), HW'.out⟩
end Go.Proofs.Ytlhelhfaogcibaa
