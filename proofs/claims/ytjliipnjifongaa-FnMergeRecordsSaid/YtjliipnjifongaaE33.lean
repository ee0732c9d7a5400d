/-
  DRAWS: sorted records; two lists of records, sorted most often. By gen_merge.py.
-/
import Derived.Test.YtjliipnjifongaaE31
import Derived.Test.YtjliipnjifongaaApp
import Derived.Deep.RegionHeld3
import Derived.Deep.CutRange
namespace Go.Proofs.Ytjliipnjifongaa
open Go.RowKit Nm
set_option linter.unusedSimpArgs false
set_option linter.unusedVariables false

theorem flatTk {α : Type} (f : α → List Value) (d : Nat) (hf : ∀ x, (f x).length = d) (l : List α) (k : Nat) : (l.flatMap f).take (k * d) = (l.take k).flatMap f := by
  induction l generalizing k with
  | nil => simp
  | cons a t ih =>
    cases k with
    | zero => simp
    | succ k => rw [List.flatMap_cons, List.take_succ_cons, List.flatMap_cons, List.take_append, List.take_of_length_le (by rw [hf]; rw [Nat.add_mul]; omega), hf, show (k + 1) * d - d = k * d by rw [Nat.add_mul]; omega, ih]
theorem Sl.cutM {w : World} {B n c d : Nat} {A : Option Addr} {xs : List Value} (h : Sl w B d n (.slice A n c) xs) {k : Nat} (hk : k ≤ n) : Sl w B d k (.slice A k c) (xs.take (k * d)) := by
  obtain ⟨A', c', he, h2, h3, hl, h4⟩ := h.parts_
  obtain ⟨rfl, -, rfl⟩ : A = A' ∧ n = n ∧ c = c' := by simpa using he
  refine ⟨by rw [List.length_take, hl]; exact Nat.min_eq_left (Nat.mul_le_mul_right _ hk), A, c, rfl, by omega, h3, fun hk0 => ?_⟩
  obtain ⟨b, o, e, hb, hc⟩ := h4 (by omega)
  refine ⟨b, o, e, hb, fun j u hu => hc j u ?_⟩
  rw [List.getElem?_take] at hu
  split at hu
  · exact hu
  · cases hu
theorem recOne (nm tx : ByteArray) (rl sq : Int) : ∀ u ∈ [Value.string nm, .int .i64 rl, .string tx, .int .i64 sq], u.oneCell' = true := List.all_eq_true.1 rfl
set_option maxHeartbeats 1000000 in
set_option maxRecDepth 100000 in
theorem copyRecs_c {v : Value} {n B : Nat} {l : List Rec} {w : World} (h : Sl w B 4 n v (l.flatMap rcells)) (hB : B ≤ w.heap.size) (hn : n ≤ 1048576) :
    Calls Try.prog 102 #[v] w (RowPost w 32 4 n (l.flatMap rcells)) := by
  have hln : l.length = n := Sl.count rcells_len h (by omega)
  subst hln
  obtain ⟨A, c, rfl, _, _⟩ := h.form
  have HV := hid (h.below ((Below.refl w.heap.size w).alloc (Nat.le_refl _) (.cells #[] 32)) hB)
  have HL := hid (World.ownsRow_lit w #[] 0 (Nat.le_refl _) (by unfold maxLen; omega) (by simp) : (w.alloc (.cells #[] 32)).ownsRow w.heap.size 32 4 (.slice (some ⟨w.heap.size, 0, none⟩) 0 0) 0 [])
  clear h
  go_enter Try.func102, Try.ntmps102
  go_wp2_with (at_builtin; refine appRecordS _ rfl _ _ rfl w.heap.size _ [] l (by rfl) HL.out B _ (by rfl) HV.out (by simp; omega) (by simp) ?_)
  intro v' w' ho hb
  have HO := hid (show w'.ownsRow w.heap.size 32 4 v' l.length (l.flatMap rcells) by simpa using ho)
  have HB := hid (Below.trans (by go_grown : Below w.heap.size w (w.alloc (.cells #[] 32))) hb)
  clear ho hb
  go_wp2_with fail
  go_ret
  exact ⟨v', rfl, HO.out, HB.out⟩

set_option maxHeartbeats 8000000 in
set_option maxRecDepth 100000 in
theorem sorted_c (A0 : Option Addr) (n c0' B : Nat) (l : List Rec) (w : World) (hv : Sl w B 4 n (.slice A0 n c0') (l.flatMap rcells)) (hB : B ≤ w.heap.size) (hf : fit20 l) (hn : n ≤ 25) :
    Calls Try.prog 61 #[.slice A0 n c0'] w (fun e w' => ∃ A c l', e = .returned (.slice A n c) ∧ l'.length = n ∧ fit20 l' ∧ w'.ownsRow w.heap.size 32 4 (.slice A n c) n (l'.flatMap rcells) ∧ Below w.heap.size w w') := by
  obtain ⟨i0, hi9, hz0, hz1, hz2⟩ := info_parts Try.infoRecord
  have HV := hid (hv.more hB)
  have HF := hid hf
  clear hv hf
  go_enter Try.func61, Try.ntmps61
  go_wp2_with fail
  go_loopw [3, 4] (fun ov iv wr => ∃ (k g c : Nat) (x : List Rec), iv = .int .i64 k ∧ ov = .slice (some ⟨g, 0, none⟩) k c ∧ k ≤ n ∧ Hid (x.length = k) ∧ Hid (fit20 x) ∧ Hid (wr.ownsRow w.heap.size 32 4 (.slice (some ⟨g, 0, none⟩) k c) k (x.flatMap rcells)) ∧ Hid (Below w.heap.size w wr)) (fun _ iv _ => n - (intOf iv).toNat)
  case atStart => exact ⟨0, w.heap.size, 0, [], rfl, rfl, Nat.zero_le _, rfl, (fun _ h => by cases h), (World.ownsRow_lit (base := w.heap.size) w #[] 0 (Nat.le_refl _) (by unfold maxLen; omega) (by simp)), (Below.refl _ _).alloc (Nat.le_refl _) _⟩
  case round =>
    obtain ⟨k, g, c, x, rfl, rfl, hk, hxl, hxf, HO, HB⟩ := hrel
    obtain ⟨wo, hwo⟩ : ∃ wo, wo = wr := ⟨_, rfl⟩
    subst hwo
    have hcm := (Sl.of_own HO.out).form
    obtain ⟨A', c', he', hkc, hcm⟩ := hcm
    injection he' with e1 e2 e3
    subst e3
    clear e1 e2
    unfold maxLen at hcm
    by_cases hkn : k < n
    · obtain ⟨b, o, nm, lv, tx, sq, rfl, hbB, hx, g0, g1, g2, g3⟩ := rcells_at HV.out hkn
      have CX := hid (fun (W : World) (hW : Below w.heap.size w W) => And.intro ((hW.cell (p := ⟨b, o + k * 4, none⟩) hbB).trans g0) (And.intro ((hW.cell (p := ⟨b, o + k * 4 + 1, none⟩) hbB).trans g1) (And.intro ((hW.cell (p := ⟨b, o + k * 4 + 2, none⟩) hbB).trans g2) ((hW.cell (p := ⟨b, o + k * 4 + 3, none⟩) hbB).trans g3))))
      have hnt := hid (HF.out _ (List.mem_of_getElem? hx))
      clear g0 g1 g2 g3 hx
      go_wp2_with fail
      go_loopw [5] (fun jv wr => ∃ j : Nat, jv = .int .i64 j ∧ j ≤ k ∧ Hid (Below wo.heap.size wo wr)) (fun jv _ => k - (intOf jv).toNat)
      case atStart => exact ⟨0, rfl, Nat.zero_le _, Below.refl _ _⟩
      case round =>
        obtain ⟨j, rfl, hj, HBj⟩ := hrel
        by_cases hjk0 : j < k
        · obtain ⟨b2, o2, nm2, lv2, tx2, sq2, e9, hb2, hx2, t0, t1, t2, t3⟩ := rcells_at ((Sl.of_own HO.out).below HBj.out (Nat.le_refl _)) hjk0
          injection e9 with e9
          injection e9 with e91 e92
          subst e91 e92
          simp only [Nat.zero_add] at t3
          clear t0 t1 t2 hx2
          obtain ⟨c0, c1, c2', c3'⟩ := CX.out _ (HB.out.trans (HBj.out.mono HB.out.size))
          by_cases hs : sq2 ≤ sq
          · go_wp2_with fail
            go_quiet (fail)
            go_wp2_with fail
            go_roundw
            case rel => exact ⟨j + 1, by go_num, by omega, below_dr HBj.out _⟩
            case measure => simp [intOf]; omega
          · go_wp2_with fail
            go_quiet (fail)
            have HBw := below_dr HBj.out nq
            generalize hw5 : wr.drewN nq = w5 at *
            clear t3 hb2 hw5
            have HBq := hid (HB.out.trans (HBw.mono HB.out.size))
            have GX := hid (own_below HO.out HBw)
            have hgw : w.heap.size ≤ g := (HO.out.lt g rfl).1
            have GS := hid ((Sl.of_own GX.out))
            have HLj := hid (show (x.take j).length = j by rw [List.length_take, hxl.out]; omega)
            have CC := hid (fun (W : World) (hW : Below w5.heap.size w5 W) => (show Calls Try.prog 102 #[.slice (some ⟨g, 0, none⟩) j c] W (RowPost W 32 4 j ((x.take j).flatMap rcells)) from by
              have h9 := copyRecs_c (v := .slice (some ⟨g, 0, none⟩) j c) (n := j) (B := w5.heap.size) (l := x.take j) (w := W) (by rw [← flatTk rcells 4 rcells_len]; exact (GS.out.below hW (Nat.le_refl _)).cutM (by omega)) hW.size (by omega)
              exact h9))
            have SF := hid (fun (W : World) (hW : Below w5.heap.size w5 W) => CX.out W (HBq.out.trans (hW.mono HBq.out.size)))
            have HLn := hid (show (x.take j ++ (⟨nm.data.toList, lv, tx.data.toList, sq⟩ : Rec) :: x.drop j).length = k + 1 by rw [List.length_append, List.length_cons, List.length_drop, HLj.out, hxl.out]; omega)
            have HFn := hid (show fit20 (x.take j ++ (⟨nm.data.toList, lv, tx.data.toList, sq⟩ : Rec) :: x.drop j) from fun y hy => by
              rcases List.mem_append.1 hy with hy | hy
              · exact hxf.out y (List.mem_of_mem_take hy)
              · rcases List.mem_cons.1 hy with rfl | hy
                · exact hnt.out
                · exact hxf.out y (List.mem_of_mem_drop hy))
            have hjk : j + 1 + (k - j) = k + 1 := by omega
            have u1 : (0 : Int) ≤ (j : Int) := by omega
            have u2 : ((j : Int)).toNat = j := by simp
            have u3 : (j : Int) ≤ (c : Int) := by omega
            have u4 : (j : Int) ≤ (k : Int) := by omega
            have HS2 := hid (fun (W : World) (hW : Below w5.heap.size w5 W) => (show Sl W w5.heap.size 4 (k - j) (.slice (some ⟨g, 0 + j * 4, none⟩) (k - j) (c - j)) ((x.drop j).flatMap rcells) from by
              rw [← flat_drop rcells 4 rcells_len]; exact (GS.out.below hW (Nat.le_refl _)).from_ (by omega)))
            have u9 : ¬ c = j := by omega
            simp only [Nat.zero_add] at HS2
            clear GX GS HLj HO
            have HB0 := hid (Below.refl w5.heap.size w5).drew
            clear c0 c1 c2' c3'
            go_wp2_with fail
            refine wp_region_held_drew (S := fun w' : World => w'.cell? ⟨b, o + k * 4, none⟩ = some (.string nm) ∧ w'.cell? ⟨b, o + k * 4 + 1, none⟩ = some (.int .i64 lv) ∧ w'.cell? ⟨b, o + k * 4 + 2, none⟩ = some (.string tx) ∧ w'.cell? ⟨b, o + k * 4 + 3, none⟩ = some (.int .i64 sq)) (by kernel_rfl) (SF.out _ HB0.out) (fun hS => ?_)
            refine wpAnyH_take (i := 0) (oi := ?oi101) (v := ?v101) ?hi101 (by kernel_rfl) ?hf101 ?hr101 ?hQ101 (Or.inl ⟨?hw101, ?hy101⟩) (by assumption) ?rest101
            case hi101 => simp only [List.getElem?_toArray, List.getElem?_cons_succ, List.getElem?_cons_zero]; rfl
            case hf101 => kernel_rfl
            case hr101 => kernel_rfl
            case hw101 => rfl
            case hy101 => (intro w hSw; (try dsimp only at hSw); go_simp; all_goals (first | done | with_reducible rfl))
            case hQ101 => exact fun _ _ _ h => h
            simp only [Act.put, List.setIfInBounds_toArray, List.set_cons_zero, List.set_cons_succ]
            refine wpAnyH_take (i := 1) (oi := ?oi102) (v := ?v102) ?hi102 (by kernel_rfl) ?hf102 ?hr102 ?hQ102 (Or.inl ⟨?hw102, ?hy102⟩) (by assumption) ?rest102
            case hi102 => simp only [List.getElem?_toArray, List.getElem?_cons_succ, List.getElem?_cons_zero]; rfl
            case hf102 => kernel_rfl
            case hr102 => kernel_rfl
            case hw102 => rfl
            case hy102 => (intro w hSw; (try dsimp only at hSw); go_simp; all_goals (first | done | with_reducible rfl))
            case hQ102 => exact fun _ _ _ h => h
            simp only [Act.put, List.setIfInBounds_toArray, List.set_cons_zero, List.set_cons_succ]
            refine wpAnyH_take (i := 2) (oi := ?oi103) (v := ?v103) ?hi103 (by kernel_rfl) ?hf103 ?hr103 ?hQ103 (Or.inl ⟨?hw103, ?hy103⟩) (by assumption) ?rest103
            case hi103 => simp only [List.getElem?_toArray, List.getElem?_cons_succ, List.getElem?_cons_zero]; rfl
            case hf103 => kernel_rfl
            case hr103 => kernel_rfl
            case hw103 => rfl
            case hy103 => (intro w hSw; (try dsimp only at hSw); go_simp; all_goals (first | done | with_reducible rfl))
            case hQ103 => exact fun _ _ _ h => h
            simp only [Act.put, List.setIfInBounds_toArray, List.set_cons_zero, List.set_cons_succ]
            refine wpAnyH_take (i := 4) (oi := ?oi104) (v := ?v104) ?hi104 (by kernel_rfl) ?hf104 ?hr104 ?hQ104 (Or.inl ⟨?hw104, ?hy104⟩) (by assumption) ?rest104
            case hi104 => simp only [List.getElem?_toArray, List.getElem?_cons_succ, List.getElem?_cons_zero]; rfl
            case hf104 => kernel_rfl
            case hr104 => kernel_rfl
            case hw104 => rfl
            case hy104 => (intro w hSw; (try dsimp only at hSw); go_simp; all_goals (first | done | with_reducible rfl))
            case hQ104 => exact fun _ _ _ h => h
            simp only [Act.put, List.setIfInBounds_toArray, List.set_cons_zero, List.set_cons_succ]
            refine wpAnyH_take (i := 5) (oi := ?oi105) (v := ?v105) ?hi105 (by kernel_rfl) ?hf105 ?hr105 ?hQ105 (Or.inl ⟨?hw105, ?hy105⟩) (by assumption) ?rest105
            case hi105 => simp only [List.getElem?_toArray, List.getElem?_cons_succ, List.getElem?_cons_zero]; rfl
            case hf105 => kernel_rfl
            case hr105 => kernel_rfl
            case hw105 => rfl
            case hy105 => (intro w hSw; (try dsimp only at hSw); go_simp; all_goals (first | done | with_reducible rfl))
            case hQ105 => exact fun _ _ _ h => h
            simp only [Act.put, List.setIfInBounds_toArray, List.set_cons_zero, List.set_cons_succ]
            refine wpAnyH_take (i := 6) (oi := ?oi106) (v := ?v106) ?hi106 (by kernel_rfl) ?hf106 ?hr106 ?hQ106 (Or.inl ⟨?hw106, ?hy106⟩) (by assumption) ?rest106
            case hi106 => simp only [List.getElem?_toArray, List.getElem?_cons_succ, List.getElem?_cons_zero]; rfl
            case hf106 => kernel_rfl
            case hr106 => kernel_rfl
            case hw106 => rfl
            case hy106 => (intro w hSw; (try dsimp only at hSw); go_simp; all_goals (first | done | with_reducible rfl))
            case hQ106 => exact fun _ _ _ h => h
            simp only [Act.put, List.setIfInBounds_toArray, List.set_cons_zero, List.set_cons_succ]
            refine wpAnyH_take (i := 7) (oi := ?oi107) (v := ?v107) ?hi107 (by kernel_rfl) ?hf107 ?hr107 ?hQ107 (Or.inl ⟨?hw107, ?hy107⟩) (by assumption) ?rest107
            case hi107 => simp only [List.getElem?_toArray, List.getElem?_cons_succ, List.getElem?_cons_zero]; rfl
            case hf107 => kernel_rfl
            case hr107 => kernel_rfl
            case hw107 => rfl
            case hy107 => (intro w hSw; (try dsimp only at hSw); go_simp; all_goals (first | done | with_reducible rfl))
            case hQ107 => exact fun _ _ _ h => h
            simp only [Act.put, List.setIfInBounds_toArray, List.set_cons_zero, List.set_cons_succ]
            refine wpAnyH_take (i := 10) (oi := ?oi108) (v := ?v108) ?hi108 (by kernel_rfl) ?hf108 ?hr108 ?hQ108 (Or.inl ⟨?hw108, ?hy108⟩) (by assumption) ?rest108
            case hi108 => simp only [List.getElem?_toArray, List.getElem?_cons_succ, List.getElem?_cons_zero]; rfl
            case hf108 => kernel_rfl
            case hr108 => kernel_rfl
            case hw108 => rfl
            case hy108 => (intro w hSw; (try dsimp only at hSw); go_simp; all_goals (first | done | with_reducible rfl))
            case hQ108 => exact fun _ _ _ h => h
            simp only [Act.put, List.setIfInBounds_toArray, List.set_cons_zero, List.set_cons_succ]
            refine wpAnyH_take (i := 11) (oi := ?oi109) (v := ?v109) ?hi109 (by kernel_rfl) ?hf109 ?hr109 ?hQ109 (Or.inl ⟨?hw109, ?hy109⟩) (by assumption) ?rest109
            case hi109 => simp only [List.getElem?_toArray, List.getElem?_cons_succ, List.getElem?_cons_zero]; rfl
            case hf109 => kernel_rfl
            case hr109 => kernel_rfl
            case hw109 => rfl
            case hy109 => (intro w hSw; (try dsimp only at hSw); go_simp; all_goals (first | done | with_reducible rfl))
            case hQ109 => exact fun _ _ _ h => h
            simp only [Act.put, List.setIfInBounds_toArray, List.set_cons_zero, List.set_cons_succ]
            refine wpAnyH_take (i := 12) (oi := ?oi110) (v := ?v110) ?hi110 (by kernel_rfl) ?hf110 ?hr110 ?hQ110 (Or.inl ⟨?hw110, ?hy110⟩) (by assumption) ?rest110
            case hi110 => simp only [List.getElem?_toArray, List.getElem?_cons_succ, List.getElem?_cons_zero]; rfl
            case hf110 => kernel_rfl
            case hr110 => kernel_rfl
            case hw110 => rfl
            case hy110 => (intro w hSw; (try dsimp only at hSw); go_simp; all_goals (first | done | with_reducible rfl))
            case hQ110 => exact fun _ _ _ h => h
            simp only [Act.put, List.setIfInBounds_toArray, List.set_cons_zero, List.set_cons_succ]
            refine wpAnyH_ready (rs := [3, 8]) (by kernel_rfl) (by simp) ?_
            refine AllReadyH.cons (o := ?oi111) ?hi111 (fun K hK => ?stepA111) (AllReadyH.cons (o := ?oj111) ?hj111 (fun K hK => ?stepB111) AllReadyH.nil)
            case hi111 => simp only [List.getElem?_toArray, List.getElem?_cons_succ, List.getElem?_cons_zero]; rfl
            case hj111 => simp only [List.getElem?_toArray, List.getElem?_cons_succ, List.getElem?_cons_zero]; rfl
            all_goals rw [if_pos (by rfl)]
            all_goals go_simp
            · go_at_call 102
              refine (CC.out _ HB0.out).mono ?_
              rintro e w6 ⟨u, rfl, ho, hb⟩
              obtain ⟨A6, c6, rfl, _, _⟩ := (Sl.of_own ho).form
              have HB1 := hid (HB0.out.trans (hb.mono HB0.out.size))
              have HO1 := hid (own_base ho HB0.out.size)
              clear ho hb
              refine hK.out _ _ (SF.out _ HB1.out) (fun _ => ?_)
              have KX := hid (Blk.new w6 #[.string nm, .int .i64 lv, .string tx, .int .i64 sq] 32)
              have HB2 := hid (HB1.out.alloc HB1.out.size (.cells #[.string nm, .int .i64 lv, .string tx, .int .i64 sq] 32))
              have HO2 := hid (HO1.out.alloc (.cells #[.string nm, .int .i64 lv, .string tx, .int .i64 sq] 32))
              refine wpAnyH_ready (rs := [8]) (by kernel_rfl) (by simp) ?_
              refine AllReadyH.cons (o := ?oi112) ?hi112 (fun K hK => ?step112) AllReadyH.nil
              case hi112 => simp only [List.getElem?_toArray, List.getElem?_cons_succ, List.getElem?_cons_zero]; rfl
              rw [if_pos (by rfl)]
              go_simp
              refine hK.out _ _ (SF.out _ HB2.out) (fun _ => ?_)
              refine wpAnyH_ready (rs := [9]) (by kernel_rfl) (by simp) ?_
              refine AllReadyH.cons (o := ?oi113) ?hi113 (fun K hK => ?step113) AllReadyH.nil
              case hi113 => simp only [List.getElem?_toArray, List.getElem?_cons_succ, List.getElem?_cons_zero]; rfl
              rw [if_pos (by rfl)]
              refine wp_appG rfl rfl w5.heap.size 32 i0 _ 4 48 Try.underlying26 hi9 hz0 hz1 hz2 rfl (by decide) (by rfl) HO2.out (by rfl) (Sl.one KX.out rfl) (recOne nm tx lv sq) (by unfold maxLen; omega) (by omega) HB2.out.size ?_
              intro v7 w7 ho7 hg7 _
              obtain ⟨A7, c7, rfl, _, _⟩ := (Sl.of_own ho7).form
              have HB3 := hid (HB2.out.trans (below_of_grown hg7 HB2.out.size (own_lt HO2.out)))
              have HO3 := hid ho7
              clear ho7 hg7
              refine hK.out _ _ (SF.out _ HB3.out) (fun _ => ?_)
              refine wpAnyH_ready (rs := [13]) (by kernel_rfl) (by simp) ?_
              refine AllReadyH.cons (o := ?oi114) ?hi114 (fun K hK => ?step114) AllReadyH.nil
              case hi114 => simp only [List.getElem?_toArray, List.getElem?_cons_succ, List.getElem?_cons_zero]; rfl
              rw [if_pos (by rfl)]
              refine wp_appG rfl rfl w5.heap.size 32 i0 _ 4 48 Try.underlying26 hi9 hz0 hz1 hz2 rfl (by decide) (by rfl) HO3.out (by rfl) (HS2.out _ HB3.out) (rcells_one _) (by unfold maxLen; omega) (by omega) HB3.out.size ?_
              intro v8 w8 ho8 hg8 _
              have HB4 := hid (HB3.out.trans (below_of_grown hg8 HB3.out.size (own_lt HO3.out)))
              rw [hjk] at ho8
              obtain ⟨A8, c8, rfl, _, _⟩ := (Sl.of_own ho8).form
              obtain ⟨g8, rfl, _⟩ := own_some ho8 (by omega)
              have HO4 := hid (show w8.ownsRow w.heap.size 32 4 (.slice (some ⟨g8, 0, none⟩) (k + 1) c8) (k + 1) ((x.take j ++ (⟨nm.data.toList, lv, tx.data.toList, sq⟩ : Rec) :: x.drop j).flatMap rcells) from by
                have h9 := own_base ho8 HBq.out.size
                simpa [rcells, txt_data, List.flatMap_append] using h9)
              clear ho8 hg8
              refine hK.out _ _ (SF.out _ HB4.out) (fun _ => ?_)
              refine wpAnyH_take (i := 14) (oi := ?oi115) (v := ?v115) ?hi115 (by kernel_rfl) ?hf115 ?hr115 ?hQ115 (Or.inl ⟨?hw115, ?hy115⟩) (by assumption) ?rest115
              case hi115 => simp only [List.getElem?_toArray, List.getElem?_cons_succ, List.getElem?_cons_zero]; rfl
              case hf115 => kernel_rfl
              case hr115 => kernel_rfl
              case hw115 => rfl
              case hy115 => (intro w hSw; (try dsimp only at hSw); go_simp; all_goals (first | done | with_reducible rfl))
              case hQ115 => exact fun _ _ _ h => h
              simp only [Act.put, List.setIfInBounds_toArray, List.set_cons_zero, List.set_cons_succ]
              refine wpAnyH_done (by kernel_rfl) ?_ _
              go_wp2_with fail
              go_roundw
              case rel => exact ⟨k + 1, g8, c8, _, by go_num, rfl, by omega, HLn, HFn, HO4, HBq.out.trans (HB4.out.mono HBq.out.size)⟩
              case measure => simp [intOf]; omega
            · have KX0 := hid (Blk.new w5.drew #[.string nm, .int .i64 lv, .string tx, .int .i64 sq] 32)
              have HB1 := hid (HB0.out.alloc HB0.out.size (.cells #[.string nm, .int .i64 lv, .string tx, .int .i64 sq] 32))
              refine hK.out _ _ (SF.out _ HB1.out) (fun _ => ?_)
              refine wpAnyH_ready (rs := [3]) (by kernel_rfl) (by simp) ?_
              refine AllReadyH.cons (o := ?oi116) ?hi116 (fun K hK => ?step116) AllReadyH.nil
              case hi116 => simp only [List.getElem?_toArray, List.getElem?_cons_succ, List.getElem?_cons_zero]; rfl
              rw [if_pos (by rfl)]
              go_simp
              go_at_call 102
              refine (CC.out _ HB1.out).mono ?_
              rintro e w6 ⟨u, rfl, ho, hb⟩
              obtain ⟨A6, c6, rfl, _, _⟩ := (Sl.of_own ho).form
              have KX := hid (KX0.out.to hb)
              have HB2 := hid (HB1.out.trans (hb.mono HB1.out.size))
              have HO2 := hid (own_base ho HB1.out.size)
              clear ho hb
              refine hK.out _ _ (SF.out _ HB2.out) (fun _ => ?_)
              refine wpAnyH_ready (rs := [9]) (by kernel_rfl) (by simp) ?_
              refine AllReadyH.cons (o := ?oi117) ?hi117 (fun K hK => ?step117) AllReadyH.nil
              case hi117 => simp only [List.getElem?_toArray, List.getElem?_cons_succ, List.getElem?_cons_zero]; rfl
              rw [if_pos (by rfl)]
              refine wp_appG rfl rfl w5.heap.size 32 i0 _ 4 48 Try.underlying26 hi9 hz0 hz1 hz2 rfl (by decide) (by rfl) HO2.out (by rfl) (Sl.one KX.out rfl) (recOne nm tx lv sq) (by unfold maxLen; omega) (by omega) HB2.out.size ?_
              intro v7 w7 ho7 hg7 _
              obtain ⟨A7, c7, rfl, _, _⟩ := (Sl.of_own ho7).form
              have HB3 := hid (HB2.out.trans (below_of_grown hg7 HB2.out.size (own_lt HO2.out)))
              have HO3 := hid ho7
              clear ho7 hg7
              refine hK.out _ _ (SF.out _ HB3.out) (fun _ => ?_)
              refine wpAnyH_ready (rs := [13]) (by kernel_rfl) (by simp) ?_
              refine AllReadyH.cons (o := ?oi118) ?hi118 (fun K hK => ?step118) AllReadyH.nil
              case hi118 => simp only [List.getElem?_toArray, List.getElem?_cons_succ, List.getElem?_cons_zero]; rfl
              rw [if_pos (by rfl)]
              refine wp_appG rfl rfl w5.heap.size 32 i0 _ 4 48 Try.underlying26 hi9 hz0 hz1 hz2 rfl (by decide) (by rfl) HO3.out (by rfl) (HS2.out _ HB3.out) (rcells_one _) (by unfold maxLen; omega) (by omega) HB3.out.size ?_
              intro v8 w8 ho8 hg8 _
              have HB4 := hid (HB3.out.trans (below_of_grown hg8 HB3.out.size (own_lt HO3.out)))
              rw [hjk] at ho8
              obtain ⟨A8, c8, rfl, _, _⟩ := (Sl.of_own ho8).form
              obtain ⟨g8, rfl, _⟩ := own_some ho8 (by omega)
              have HO4 := hid (show w8.ownsRow w.heap.size 32 4 (.slice (some ⟨g8, 0, none⟩) (k + 1) c8) (k + 1) ((x.take j ++ (⟨nm.data.toList, lv, tx.data.toList, sq⟩ : Rec) :: x.drop j).flatMap rcells) from by
                have h9 := own_base ho8 HBq.out.size
                simpa [rcells, txt_data, List.flatMap_append] using h9)
              clear ho8 hg8
              refine hK.out _ _ (SF.out _ HB4.out) (fun _ => ?_)
              refine wpAnyH_take (i := 14) (oi := ?oi119) (v := ?v119) ?hi119 (by kernel_rfl) ?hf119 ?hr119 ?hQ119 (Or.inl ⟨?hw119, ?hy119⟩) (by assumption) ?rest119
              case hi119 => simp only [List.getElem?_toArray, List.getElem?_cons_succ, List.getElem?_cons_zero]; rfl
              case hf119 => kernel_rfl
              case hr119 => kernel_rfl
              case hw119 => rfl
              case hy119 => (intro w hSw; (try dsimp only at hSw); go_simp; all_goals (first | done | with_reducible rfl))
              case hQ119 => exact fun _ _ _ h => h
              simp only [Act.put, List.setIfInBounds_toArray, List.set_cons_zero, List.set_cons_succ]
              refine wpAnyH_done (by kernel_rfl) ?_ _
              go_wp2_with fail
              go_roundw
              case rel => exact ⟨k + 1, g8, c8, _, by go_num, rfl, by omega, HLn, HFn, HO4, HBq.out.trans (HB4.out.mono HBq.out.size)⟩
              case measure => simp [intOf]; omega
        · obtain rfl : j = k := by omega
          obtain ⟨c0, c1, c2', c3'⟩ := CX.out _ (HB.out.trans (HBj.out.mono HB.out.size))
          by_cases hcj : c = j
          · have hcj2 : j = c := hcj.symm
            subst hcj2
            clear hcj
            go_wp2_with fail
            go_quiet (fail)
            have HBw := below_dr HBj.out nq
            generalize hw5 : wr.drewN nq = w5 at *
            clear hw5
            have HBq := hid (HB.out.trans (HBw.mono HB.out.size))
            have GX := hid (own_below HO.out HBw)
            have hgw : w.heap.size ≤ g := (HO.out.lt g rfl).1
            have GS := hid ((Sl.of_own GX.out))
            have HLj := hid (show (x.take j).length = j by rw [List.length_take, hxl.out]; omega)
            have CC := hid (fun (W : World) (hW : Below w5.heap.size w5 W) => (show Calls Try.prog 102 #[.slice (some ⟨g, 0, none⟩) j j] W (RowPost W 32 4 j ((x.take j).flatMap rcells)) from by
              have h9 := copyRecs_c (v := .slice (some ⟨g, 0, none⟩) j j) (n := j) (B := w5.heap.size) (l := x.take j) (w := W) (by rw [← flatTk rcells 4 rcells_len]; exact (GS.out.below hW (Nat.le_refl _)).cutM (by omega)) hW.size (by omega)
              exact h9))
            have SF := hid (fun (W : World) (hW : Below w5.heap.size w5 W) => CX.out W (HBq.out.trans (hW.mono HBq.out.size)))
            have HLn := hid (show (x.take j ++ (⟨nm.data.toList, lv, tx.data.toList, sq⟩ : Rec) :: x.drop j).length = j + 1 by rw [List.length_append, List.length_cons, List.length_drop, HLj.out, hxl.out]; omega)
            have HFn := hid (show fit20 (x.take j ++ (⟨nm.data.toList, lv, tx.data.toList, sq⟩ : Rec) :: x.drop j) from fun y hy => by
              rcases List.mem_append.1 hy with hy | hy
              · exact hxf.out y (List.mem_of_mem_take hy)
              · rcases List.mem_cons.1 hy with rfl | hy
                · exact hnt.out
                · exact hxf.out y (List.mem_of_mem_drop hy))
            have hjk : j + 1 + 0 = j + 1 := by omega
            have u1 : (0 : Int) ≤ (j : Int) := by omega
            have u2 : ((j : Int)).toNat = j := by simp
            have u3 : (j : Int) ≤ (j : Int) := by omega
            have u4 : (j : Int) ≤ (j : Int) := by omega
            have HS2 := hid (fun (W : World) (hW : Below w5.heap.size w5 W) => (show Sl W w5.heap.size 4 0 (.slice (some ⟨g, 0, none⟩) 0 0) ((x.drop j).flatMap rcells) from by
              have e1 : x.drop j = [] := List.drop_of_length_le (by rw [hxl.out]; omega)
              rw [e1]
              exact ⟨rfl, _, _, rfl, Nat.zero_le _, by unfold maxLen; omega, fun h => absurd h (by omega)⟩))
            clear GX GS HLj HO
            have HB0 := hid (Below.refl w5.heap.size w5).drew
            clear c0 c1 c2' c3'
            go_wp2_with fail
            refine wp_region_held_drew (S := fun w' : World => w'.cell? ⟨b, o + j * 4, none⟩ = some (.string nm) ∧ w'.cell? ⟨b, o + j * 4 + 1, none⟩ = some (.int .i64 lv) ∧ w'.cell? ⟨b, o + j * 4 + 2, none⟩ = some (.string tx) ∧ w'.cell? ⟨b, o + j * 4 + 3, none⟩ = some (.int .i64 sq)) (by kernel_rfl) (SF.out _ HB0.out) (fun hS => ?_)
            refine wpAnyH_take (i := 0) (oi := ?oi120) (v := ?v120) ?hi120 (by kernel_rfl) ?hf120 ?hr120 ?hQ120 (Or.inl ⟨?hw120, ?hy120⟩) (by assumption) ?rest120
            case hi120 => simp only [List.getElem?_toArray, List.getElem?_cons_succ, List.getElem?_cons_zero]; rfl
            case hf120 => kernel_rfl
            case hr120 => kernel_rfl
            case hw120 => rfl
            case hy120 => (intro w hSw; (try dsimp only at hSw); go_simp; all_goals (first | done | with_reducible rfl))
            case hQ120 => exact fun _ _ _ h => h
            simp only [Act.put, List.setIfInBounds_toArray, List.set_cons_zero, List.set_cons_succ]
            refine wpAnyH_take (i := 1) (oi := ?oi121) (v := ?v121) ?hi121 (by kernel_rfl) ?hf121 ?hr121 ?hQ121 (Or.inl ⟨?hw121, ?hy121⟩) (by assumption) ?rest121
            case hi121 => simp only [List.getElem?_toArray, List.getElem?_cons_succ, List.getElem?_cons_zero]; rfl
            case hf121 => kernel_rfl
            case hr121 => kernel_rfl
            case hw121 => rfl
            case hy121 => (intro w hSw; (try dsimp only at hSw); go_simp; all_goals (first | done | with_reducible rfl))
            case hQ121 => exact fun _ _ _ h => h
            simp only [Act.put, List.setIfInBounds_toArray, List.set_cons_zero, List.set_cons_succ]
            refine wpAnyH_take (i := 2) (oi := ?oi122) (v := ?v122) ?hi122 (by kernel_rfl) ?hf122 ?hr122 ?hQ122 (Or.inl ⟨?hw122, ?hy122⟩) (by assumption) ?rest122
            case hi122 => simp only [List.getElem?_toArray, List.getElem?_cons_succ, List.getElem?_cons_zero]; rfl
            case hf122 => kernel_rfl
            case hr122 => kernel_rfl
            case hw122 => rfl
            case hy122 => (intro w hSw; (try dsimp only at hSw); go_simp; all_goals (first | done | with_reducible rfl))
            case hQ122 => exact fun _ _ _ h => h
            simp only [Act.put, List.setIfInBounds_toArray, List.set_cons_zero, List.set_cons_succ]
            refine wpAnyH_take (i := 4) (oi := ?oi123) (v := ?v123) ?hi123 (by kernel_rfl) ?hf123 ?hr123 ?hQ123 (Or.inl ⟨?hw123, ?hy123⟩) (by assumption) ?rest123
            case hi123 => simp only [List.getElem?_toArray, List.getElem?_cons_succ, List.getElem?_cons_zero]; rfl
            case hf123 => kernel_rfl
            case hr123 => kernel_rfl
            case hw123 => rfl
            case hy123 => (intro w hSw; (try dsimp only at hSw); go_simp; all_goals (first | done | with_reducible rfl))
            case hQ123 => exact fun _ _ _ h => h
            simp only [Act.put, List.setIfInBounds_toArray, List.set_cons_zero, List.set_cons_succ]
            refine wpAnyH_take (i := 5) (oi := ?oi124) (v := ?v124) ?hi124 (by kernel_rfl) ?hf124 ?hr124 ?hQ124 (Or.inl ⟨?hw124, ?hy124⟩) (by assumption) ?rest124
            case hi124 => simp only [List.getElem?_toArray, List.getElem?_cons_succ, List.getElem?_cons_zero]; rfl
            case hf124 => kernel_rfl
            case hr124 => kernel_rfl
            case hw124 => rfl
            case hy124 => (intro w hSw; (try dsimp only at hSw); go_simp; all_goals (first | done | with_reducible rfl))
            case hQ124 => exact fun _ _ _ h => h
            simp only [Act.put, List.setIfInBounds_toArray, List.set_cons_zero, List.set_cons_succ]
            refine wpAnyH_take (i := 6) (oi := ?oi125) (v := ?v125) ?hi125 (by kernel_rfl) ?hf125 ?hr125 ?hQ125 (Or.inl ⟨?hw125, ?hy125⟩) (by assumption) ?rest125
            case hi125 => simp only [List.getElem?_toArray, List.getElem?_cons_succ, List.getElem?_cons_zero]; rfl
            case hf125 => kernel_rfl
            case hr125 => kernel_rfl
            case hw125 => rfl
            case hy125 => (intro w hSw; (try dsimp only at hSw); go_simp; all_goals (first | done | with_reducible rfl))
            case hQ125 => exact fun _ _ _ h => h
            simp only [Act.put, List.setIfInBounds_toArray, List.set_cons_zero, List.set_cons_succ]
            refine wpAnyH_take (i := 7) (oi := ?oi126) (v := ?v126) ?hi126 (by kernel_rfl) ?hf126 ?hr126 ?hQ126 (Or.inl ⟨?hw126, ?hy126⟩) (by assumption) ?rest126
            case hi126 => simp only [List.getElem?_toArray, List.getElem?_cons_succ, List.getElem?_cons_zero]; rfl
            case hf126 => kernel_rfl
            case hr126 => kernel_rfl
            case hw126 => rfl
            case hy126 => (intro w hSw; (try dsimp only at hSw); go_simp; all_goals (first | done | with_reducible rfl))
            case hQ126 => exact fun _ _ _ h => h
            simp only [Act.put, List.setIfInBounds_toArray, List.set_cons_zero, List.set_cons_succ]
            refine wpAnyH_take (i := 10) (oi := ?oi127) (v := ?v127) ?hi127 (by kernel_rfl) ?hf127 ?hr127 ?hQ127 (Or.inl ⟨?hw127, ?hy127⟩) (by assumption) ?rest127
            case hi127 => simp only [List.getElem?_toArray, List.getElem?_cons_succ, List.getElem?_cons_zero]; rfl
            case hf127 => kernel_rfl
            case hr127 => kernel_rfl
            case hw127 => rfl
            case hy127 => (intro w hSw; (try dsimp only at hSw); go_simp; all_goals (first | done | with_reducible rfl))
            case hQ127 => exact fun _ _ _ h => h
            simp only [Act.put, List.setIfInBounds_toArray, List.set_cons_zero, List.set_cons_succ]
            refine wpAnyH_take (i := 11) (oi := ?oi128) (v := ?v128) ?hi128 (by kernel_rfl) ?hf128 ?hr128 ?hQ128 (Or.inl ⟨?hw128, ?hy128⟩) (by assumption) ?rest128
            case hi128 => simp only [List.getElem?_toArray, List.getElem?_cons_succ, List.getElem?_cons_zero]; rfl
            case hf128 => kernel_rfl
            case hr128 => kernel_rfl
            case hw128 => rfl
            case hy128 => (intro w hSw; (try dsimp only at hSw); go_simp; all_goals (first | done | with_reducible rfl))
            case hQ128 => exact fun _ _ _ h => h
            simp only [Act.put, List.setIfInBounds_toArray, List.set_cons_zero, List.set_cons_succ]
            refine wpAnyH_take (i := 12) (oi := ?oi129) (v := ?v129) ?hi129 (by kernel_rfl) ?hf129 ?hr129 ?hQ129 (Or.inl ⟨?hw129, ?hy129⟩) (by assumption) ?rest129
            case hi129 => simp only [List.getElem?_toArray, List.getElem?_cons_succ, List.getElem?_cons_zero]; rfl
            case hf129 => kernel_rfl
            case hr129 => kernel_rfl
            case hw129 => rfl
            case hy129 => (intro w hSw; (try dsimp only at hSw); go_simp; all_goals (first | done | with_reducible rfl))
            case hQ129 => exact fun _ _ _ h => h
            simp only [Act.put, List.setIfInBounds_toArray, List.set_cons_zero, List.set_cons_succ]
            refine wpAnyH_ready (rs := [3, 8]) (by kernel_rfl) (by simp) ?_
            refine AllReadyH.cons (o := ?oi130) ?hi130 (fun K hK => ?stepA130) (AllReadyH.cons (o := ?oj130) ?hj130 (fun K hK => ?stepB130) AllReadyH.nil)
            case hi130 => simp only [List.getElem?_toArray, List.getElem?_cons_succ, List.getElem?_cons_zero]; rfl
            case hj130 => simp only [List.getElem?_toArray, List.getElem?_cons_succ, List.getElem?_cons_zero]; rfl
            all_goals rw [if_pos (by rfl)]
            all_goals go_simp
            · go_at_call 102
              refine (CC.out _ HB0.out).mono ?_
              rintro e w6 ⟨u, rfl, ho, hb⟩
              obtain ⟨A6, c6, rfl, _, _⟩ := (Sl.of_own ho).form
              have HB1 := hid (HB0.out.trans (hb.mono HB0.out.size))
              have HO1 := hid (own_base ho HB0.out.size)
              clear ho hb
              refine hK.out _ _ (SF.out _ HB1.out) (fun _ => ?_)
              have KX := hid (Blk.new w6 #[.string nm, .int .i64 lv, .string tx, .int .i64 sq] 32)
              have HB2 := hid (HB1.out.alloc HB1.out.size (.cells #[.string nm, .int .i64 lv, .string tx, .int .i64 sq] 32))
              have HO2 := hid (HO1.out.alloc (.cells #[.string nm, .int .i64 lv, .string tx, .int .i64 sq] 32))
              refine wpAnyH_ready (rs := [8]) (by kernel_rfl) (by simp) ?_
              refine AllReadyH.cons (o := ?oi131) ?hi131 (fun K hK => ?step131) AllReadyH.nil
              case hi131 => simp only [List.getElem?_toArray, List.getElem?_cons_succ, List.getElem?_cons_zero]; rfl
              rw [if_pos (by rfl)]
              go_simp
              refine hK.out _ _ (SF.out _ HB2.out) (fun _ => ?_)
              refine wpAnyH_ready (rs := [9]) (by kernel_rfl) (by simp) ?_
              refine AllReadyH.cons (o := ?oi132) ?hi132 (fun K hK => ?step132) AllReadyH.nil
              case hi132 => simp only [List.getElem?_toArray, List.getElem?_cons_succ, List.getElem?_cons_zero]; rfl
              rw [if_pos (by rfl)]
              refine wp_appG rfl rfl w5.heap.size 32 i0 _ 4 48 Try.underlying26 hi9 hz0 hz1 hz2 rfl (by decide) (by rfl) HO2.out (by rfl) (Sl.one KX.out rfl) (recOne nm tx lv sq) (by unfold maxLen; omega) (by omega) HB2.out.size ?_
              intro v7 w7 ho7 hg7 _
              obtain ⟨A7, c7, rfl, _, _⟩ := (Sl.of_own ho7).form
              have HB3 := hid (HB2.out.trans (below_of_grown hg7 HB2.out.size (own_lt HO2.out)))
              have HO3 := hid ho7
              clear ho7 hg7
              refine hK.out _ _ (SF.out _ HB3.out) (fun _ => ?_)
              refine wpAnyH_ready (rs := [13]) (by kernel_rfl) (by simp) ?_
              refine AllReadyH.cons (o := ?oi133) ?hi133 (fun K hK => ?step133) AllReadyH.nil
              case hi133 => simp only [List.getElem?_toArray, List.getElem?_cons_succ, List.getElem?_cons_zero]; rfl
              rw [if_pos (by rfl)]
              refine wp_appG rfl rfl w5.heap.size 32 i0 _ 4 48 Try.underlying26 hi9 hz0 hz1 hz2 rfl (by decide) (by rfl) HO3.out (by rfl) (HS2.out _ HB3.out) (rcells_one _) (by unfold maxLen; omega) (by omega) HB3.out.size ?_
              intro v8 w8 ho8 hg8 _
              have HB4 := hid (HB3.out.trans (below_of_grown hg8 HB3.out.size (own_lt HO3.out)))
              rw [Nat.add_zero] at ho8
              obtain ⟨A8, c8, rfl, _, _⟩ := (Sl.of_own ho8).form
              obtain ⟨g8, rfl, _⟩ := own_some ho8 (by omega)
              have HO4 := hid (show w8.ownsRow w.heap.size 32 4 (.slice (some ⟨g8, 0, none⟩) (j + 1) c8) (j + 1) ((x.take j ++ (⟨nm.data.toList, lv, tx.data.toList, sq⟩ : Rec) :: x.drop j).flatMap rcells) from by
                have h9 := own_base ho8 HBq.out.size
                simpa [rcells, txt_data, List.flatMap_append] using h9)
              clear ho8 hg8
              refine hK.out _ _ (SF.out _ HB4.out) (fun _ => ?_)
              refine wpAnyH_take (i := 14) (oi := ?oi134) (v := ?v134) ?hi134 (by kernel_rfl) ?hf134 ?hr134 ?hQ134 (Or.inl ⟨?hw134, ?hy134⟩) (by assumption) ?rest134
              case hi134 => simp only [List.getElem?_toArray, List.getElem?_cons_succ, List.getElem?_cons_zero]; rfl
              case hf134 => kernel_rfl
              case hr134 => kernel_rfl
              case hw134 => rfl
              case hy134 => (intro w hSw; (try dsimp only at hSw); go_simp; all_goals (first | done | with_reducible rfl))
              case hQ134 => exact fun _ _ _ h => h
              simp only [Act.put, List.setIfInBounds_toArray, List.set_cons_zero, List.set_cons_succ]
              refine wpAnyH_done (by kernel_rfl) ?_ _
              go_wp2_with fail
              go_roundw
              case rel => exact ⟨j + 1, g8, c8, _, by go_num, rfl, by omega, HLn, HFn, HO4, HBq.out.trans (HB4.out.mono HBq.out.size)⟩
              case measure => simp [intOf]; omega
            · have KX0 := hid (Blk.new w5.drew #[.string nm, .int .i64 lv, .string tx, .int .i64 sq] 32)
              have HB1 := hid (HB0.out.alloc HB0.out.size (.cells #[.string nm, .int .i64 lv, .string tx, .int .i64 sq] 32))
              refine hK.out _ _ (SF.out _ HB1.out) (fun _ => ?_)
              refine wpAnyH_ready (rs := [3]) (by kernel_rfl) (by simp) ?_
              refine AllReadyH.cons (o := ?oi135) ?hi135 (fun K hK => ?step135) AllReadyH.nil
              case hi135 => simp only [List.getElem?_toArray, List.getElem?_cons_succ, List.getElem?_cons_zero]; rfl
              rw [if_pos (by rfl)]
              go_simp
              go_at_call 102
              refine (CC.out _ HB1.out).mono ?_
              rintro e w6 ⟨u, rfl, ho, hb⟩
              obtain ⟨A6, c6, rfl, _, _⟩ := (Sl.of_own ho).form
              have KX := hid (KX0.out.to hb)
              have HB2 := hid (HB1.out.trans (hb.mono HB1.out.size))
              have HO2 := hid (own_base ho HB1.out.size)
              clear ho hb
              refine hK.out _ _ (SF.out _ HB2.out) (fun _ => ?_)
              refine wpAnyH_ready (rs := [9]) (by kernel_rfl) (by simp) ?_
              refine AllReadyH.cons (o := ?oi136) ?hi136 (fun K hK => ?step136) AllReadyH.nil
              case hi136 => simp only [List.getElem?_toArray, List.getElem?_cons_succ, List.getElem?_cons_zero]; rfl
              rw [if_pos (by rfl)]
              refine wp_appG rfl rfl w5.heap.size 32 i0 _ 4 48 Try.underlying26 hi9 hz0 hz1 hz2 rfl (by decide) (by rfl) HO2.out (by rfl) (Sl.one KX.out rfl) (recOne nm tx lv sq) (by unfold maxLen; omega) (by omega) HB2.out.size ?_
              intro v7 w7 ho7 hg7 _
              obtain ⟨A7, c7, rfl, _, _⟩ := (Sl.of_own ho7).form
              have HB3 := hid (HB2.out.trans (below_of_grown hg7 HB2.out.size (own_lt HO2.out)))
              have HO3 := hid ho7
              clear ho7 hg7
              refine hK.out _ _ (SF.out _ HB3.out) (fun _ => ?_)
              refine wpAnyH_ready (rs := [13]) (by kernel_rfl) (by simp) ?_
              refine AllReadyH.cons (o := ?oi137) ?hi137 (fun K hK => ?step137) AllReadyH.nil
              case hi137 => simp only [List.getElem?_toArray, List.getElem?_cons_succ, List.getElem?_cons_zero]; rfl
              rw [if_pos (by rfl)]
              refine wp_appG rfl rfl w5.heap.size 32 i0 _ 4 48 Try.underlying26 hi9 hz0 hz1 hz2 rfl (by decide) (by rfl) HO3.out (by rfl) (HS2.out _ HB3.out) (rcells_one _) (by unfold maxLen; omega) (by omega) HB3.out.size ?_
              intro v8 w8 ho8 hg8 _
              have HB4 := hid (HB3.out.trans (below_of_grown hg8 HB3.out.size (own_lt HO3.out)))
              rw [Nat.add_zero] at ho8
              obtain ⟨A8, c8, rfl, _, _⟩ := (Sl.of_own ho8).form
              obtain ⟨g8, rfl, _⟩ := own_some ho8 (by omega)
              have HO4 := hid (show w8.ownsRow w.heap.size 32 4 (.slice (some ⟨g8, 0, none⟩) (j + 1) c8) (j + 1) ((x.take j ++ (⟨nm.data.toList, lv, tx.data.toList, sq⟩ : Rec) :: x.drop j).flatMap rcells) from by
                have h9 := own_base ho8 HBq.out.size
                simpa [rcells, txt_data, List.flatMap_append] using h9)
              clear ho8 hg8
              refine hK.out _ _ (SF.out _ HB4.out) (fun _ => ?_)
              refine wpAnyH_take (i := 14) (oi := ?oi138) (v := ?v138) ?hi138 (by kernel_rfl) ?hf138 ?hr138 ?hQ138 (Or.inl ⟨?hw138, ?hy138⟩) (by assumption) ?rest138
              case hi138 => simp only [List.getElem?_toArray, List.getElem?_cons_succ, List.getElem?_cons_zero]; rfl
              case hf138 => kernel_rfl
              case hr138 => kernel_rfl
              case hw138 => rfl
              case hy138 => (intro w hSw; (try dsimp only at hSw); go_simp; all_goals (first | done | with_reducible rfl))
              case hQ138 => exact fun _ _ _ h => h
              simp only [Act.put, List.setIfInBounds_toArray, List.set_cons_zero, List.set_cons_succ]
              refine wpAnyH_done (by kernel_rfl) ?_ _
              go_wp2_with fail
              go_roundw
              case rel => exact ⟨j + 1, g8, c8, _, by go_num, rfl, by omega, HLn, HFn, HO4, HBq.out.trans (HB4.out.mono HBq.out.size)⟩
              case measure => simp [intOf]; omega
          · go_wp2_with fail
            go_quiet (fail)
            have HBw := below_dr HBj.out nq
            generalize hw5 : wr.drewN nq = w5 at *
            clear hw5
            have HBq := hid (HB.out.trans (HBw.mono HB.out.size))
            have GX := hid (own_below HO.out HBw)
            have hgw : w.heap.size ≤ g := (HO.out.lt g rfl).1
            have GS := hid ((Sl.of_own GX.out))
            have HLj := hid (show (x.take j).length = j by rw [List.length_take, hxl.out]; omega)
            have CC := hid (fun (W : World) (hW : Below w5.heap.size w5 W) => (show Calls Try.prog 102 #[.slice (some ⟨g, 0, none⟩) j c] W (RowPost W 32 4 j ((x.take j).flatMap rcells)) from by
              have h9 := copyRecs_c (v := .slice (some ⟨g, 0, none⟩) j c) (n := j) (B := w5.heap.size) (l := x.take j) (w := W) (by rw [← flatTk rcells 4 rcells_len]; exact (GS.out.below hW (Nat.le_refl _)).cutM (by omega)) hW.size (by omega)
              exact h9))
            have SF := hid (fun (W : World) (hW : Below w5.heap.size w5 W) => CX.out W (HBq.out.trans (hW.mono HBq.out.size)))
            have HLn := hid (show (x.take j ++ (⟨nm.data.toList, lv, tx.data.toList, sq⟩ : Rec) :: x.drop j).length = j + 1 by rw [List.length_append, List.length_cons, List.length_drop, HLj.out, hxl.out]; omega)
            have HFn := hid (show fit20 (x.take j ++ (⟨nm.data.toList, lv, tx.data.toList, sq⟩ : Rec) :: x.drop j) from fun y hy => by
              rcases List.mem_append.1 hy with hy | hy
              · exact hxf.out y (List.mem_of_mem_take hy)
              · rcases List.mem_cons.1 hy with rfl | hy
                · exact hnt.out
                · exact hxf.out y (List.mem_of_mem_drop hy))
            have hjk : j + 1 + 0 = j + 1 := by omega
            have u1 : (0 : Int) ≤ (j : Int) := by omega
            have u2 : ((j : Int)).toNat = j := by simp
            have u3 : (j : Int) ≤ (c : Int) := by omega
            have u4 : (j : Int) ≤ (j : Int) := by omega
            have HS2 := hid (fun (W : World) (hW : Below w5.heap.size w5 W) => (show Sl W w5.heap.size 4 0 (.slice (some ⟨g, j * 4, none⟩) 0 (c - j)) ((x.drop j).flatMap rcells) from by
              have e1 : x.drop j = [] := List.drop_of_length_le (by rw [hxl.out]; omega)
              rw [e1]
              exact ⟨rfl, _, _, rfl, Nat.zero_le _, by unfold maxLen; omega, fun h => absurd h (by omega)⟩))
            have u9 : ¬ c = j := by omega
            clear GX GS HLj HO
            have HB0 := hid (Below.refl w5.heap.size w5).drew
            clear c0 c1 c2' c3'
            go_wp2_with fail
            refine wp_region_held_drew (S := fun w' : World => w'.cell? ⟨b, o + j * 4, none⟩ = some (.string nm) ∧ w'.cell? ⟨b, o + j * 4 + 1, none⟩ = some (.int .i64 lv) ∧ w'.cell? ⟨b, o + j * 4 + 2, none⟩ = some (.string tx) ∧ w'.cell? ⟨b, o + j * 4 + 3, none⟩ = some (.int .i64 sq)) (by kernel_rfl) (SF.out _ HB0.out) (fun hS => ?_)
            refine wpAnyH_take (i := 0) (oi := ?oi139) (v := ?v139) ?hi139 (by kernel_rfl) ?hf139 ?hr139 ?hQ139 (Or.inl ⟨?hw139, ?hy139⟩) (by assumption) ?rest139
            case hi139 => simp only [List.getElem?_toArray, List.getElem?_cons_succ, List.getElem?_cons_zero]; rfl
            case hf139 => kernel_rfl
            case hr139 => kernel_rfl
            case hw139 => rfl
            case hy139 => (intro w hSw; (try dsimp only at hSw); go_simp; all_goals (first | done | with_reducible rfl))
            case hQ139 => exact fun _ _ _ h => h
            simp only [Act.put, List.setIfInBounds_toArray, List.set_cons_zero, List.set_cons_succ]
            refine wpAnyH_take (i := 1) (oi := ?oi140) (v := ?v140) ?hi140 (by kernel_rfl) ?hf140 ?hr140 ?hQ140 (Or.inl ⟨?hw140, ?hy140⟩) (by assumption) ?rest140
            case hi140 => simp only [List.getElem?_toArray, List.getElem?_cons_succ, List.getElem?_cons_zero]; rfl
            case hf140 => kernel_rfl
            case hr140 => kernel_rfl
            case hw140 => rfl
            case hy140 => (intro w hSw; (try dsimp only at hSw); go_simp; all_goals (first | done | with_reducible rfl))
            case hQ140 => exact fun _ _ _ h => h
            simp only [Act.put, List.setIfInBounds_toArray, List.set_cons_zero, List.set_cons_succ]
            refine wpAnyH_take (i := 2) (oi := ?oi141) (v := ?v141) ?hi141 (by kernel_rfl) ?hf141 ?hr141 ?hQ141 (Or.inl ⟨?hw141, ?hy141⟩) (by assumption) ?rest141
            case hi141 => simp only [List.getElem?_toArray, List.getElem?_cons_succ, List.getElem?_cons_zero]; rfl
            case hf141 => kernel_rfl
            case hr141 => kernel_rfl
            case hw141 => rfl
            case hy141 => (intro w hSw; (try dsimp only at hSw); go_simp; all_goals (first | done | with_reducible rfl))
            case hQ141 => exact fun _ _ _ h => h
            simp only [Act.put, List.setIfInBounds_toArray, List.set_cons_zero, List.set_cons_succ]
            refine wpAnyH_take (i := 4) (oi := ?oi142) (v := ?v142) ?hi142 (by kernel_rfl) ?hf142 ?hr142 ?hQ142 (Or.inl ⟨?hw142, ?hy142⟩) (by assumption) ?rest142
            case hi142 => simp only [List.getElem?_toArray, List.getElem?_cons_succ, List.getElem?_cons_zero]; rfl
            case hf142 => kernel_rfl
            case hr142 => kernel_rfl
            case hw142 => rfl
            case hy142 => (intro w hSw; (try dsimp only at hSw); go_simp; all_goals (first | done | with_reducible rfl))
            case hQ142 => exact fun _ _ _ h => h
            simp only [Act.put, List.setIfInBounds_toArray, List.set_cons_zero, List.set_cons_succ]
            refine wpAnyH_take (i := 5) (oi := ?oi143) (v := ?v143) ?hi143 (by kernel_rfl) ?hf143 ?hr143 ?hQ143 (Or.inl ⟨?hw143, ?hy143⟩) (by assumption) ?rest143
            case hi143 => simp only [List.getElem?_toArray, List.getElem?_cons_succ, List.getElem?_cons_zero]; rfl
            case hf143 => kernel_rfl
            case hr143 => kernel_rfl
            case hw143 => rfl
            case hy143 => (intro w hSw; (try dsimp only at hSw); go_simp; all_goals (first | done | with_reducible rfl))
            case hQ143 => exact fun _ _ _ h => h
            simp only [Act.put, List.setIfInBounds_toArray, List.set_cons_zero, List.set_cons_succ]
            refine wpAnyH_take (i := 6) (oi := ?oi144) (v := ?v144) ?hi144 (by kernel_rfl) ?hf144 ?hr144 ?hQ144 (Or.inl ⟨?hw144, ?hy144⟩) (by assumption) ?rest144
            case hi144 => simp only [List.getElem?_toArray, List.getElem?_cons_succ, List.getElem?_cons_zero]; rfl
            case hf144 => kernel_rfl
            case hr144 => kernel_rfl
            case hw144 => rfl
            case hy144 => (intro w hSw; (try dsimp only at hSw); go_simp; all_goals (first | done | with_reducible rfl))
            case hQ144 => exact fun _ _ _ h => h
            simp only [Act.put, List.setIfInBounds_toArray, List.set_cons_zero, List.set_cons_succ]
            refine wpAnyH_take (i := 7) (oi := ?oi145) (v := ?v145) ?hi145 (by kernel_rfl) ?hf145 ?hr145 ?hQ145 (Or.inl ⟨?hw145, ?hy145⟩) (by assumption) ?rest145
            case hi145 => simp only [List.getElem?_toArray, List.getElem?_cons_succ, List.getElem?_cons_zero]; rfl
            case hf145 => kernel_rfl
            case hr145 => kernel_rfl
            case hw145 => rfl
            case hy145 => (intro w hSw; (try dsimp only at hSw); go_simp; all_goals (first | done | with_reducible rfl))
            case hQ145 => exact fun _ _ _ h => h
            simp only [Act.put, List.setIfInBounds_toArray, List.set_cons_zero, List.set_cons_succ]
            refine wpAnyH_take (i := 10) (oi := ?oi146) (v := ?v146) ?hi146 (by kernel_rfl) ?hf146 ?hr146 ?hQ146 (Or.inl ⟨?hw146, ?hy146⟩) (by assumption) ?rest146
            case hi146 => simp only [List.getElem?_toArray, List.getElem?_cons_succ, List.getElem?_cons_zero]; rfl
            case hf146 => kernel_rfl
            case hr146 => kernel_rfl
            case hw146 => rfl
            case hy146 => (intro w hSw; (try dsimp only at hSw); go_simp; all_goals (first | done | with_reducible rfl))
            case hQ146 => exact fun _ _ _ h => h
            simp only [Act.put, List.setIfInBounds_toArray, List.set_cons_zero, List.set_cons_succ]
            refine wpAnyH_take (i := 11) (oi := ?oi147) (v := ?v147) ?hi147 (by kernel_rfl) ?hf147 ?hr147 ?hQ147 (Or.inl ⟨?hw147, ?hy147⟩) (by assumption) ?rest147
            case hi147 => simp only [List.getElem?_toArray, List.getElem?_cons_succ, List.getElem?_cons_zero]; rfl
            case hf147 => kernel_rfl
            case hr147 => kernel_rfl
            case hw147 => rfl
            case hy147 => (intro w hSw; (try dsimp only at hSw); go_simp; all_goals (first | done | with_reducible rfl))
            case hQ147 => exact fun _ _ _ h => h
            simp only [Act.put, List.setIfInBounds_toArray, List.set_cons_zero, List.set_cons_succ]
            refine wpAnyH_take (i := 12) (oi := ?oi148) (v := ?v148) ?hi148 (by kernel_rfl) ?hf148 ?hr148 ?hQ148 (Or.inl ⟨?hw148, ?hy148⟩) (by assumption) ?rest148
            case hi148 => simp only [List.getElem?_toArray, List.getElem?_cons_succ, List.getElem?_cons_zero]; rfl
            case hf148 => kernel_rfl
            case hr148 => kernel_rfl
            case hw148 => rfl
            case hy148 => (intro w hSw; (try dsimp only at hSw); go_simp; all_goals (first | done | with_reducible rfl))
            case hQ148 => exact fun _ _ _ h => h
            simp only [Act.put, List.setIfInBounds_toArray, List.set_cons_zero, List.set_cons_succ]
            refine wpAnyH_ready (rs := [3, 8]) (by kernel_rfl) (by simp) ?_
            refine AllReadyH.cons (o := ?oi149) ?hi149 (fun K hK => ?stepA149) (AllReadyH.cons (o := ?oj149) ?hj149 (fun K hK => ?stepB149) AllReadyH.nil)
            case hi149 => simp only [List.getElem?_toArray, List.getElem?_cons_succ, List.getElem?_cons_zero]; rfl
            case hj149 => simp only [List.getElem?_toArray, List.getElem?_cons_succ, List.getElem?_cons_zero]; rfl
            all_goals rw [if_pos (by rfl)]
            all_goals go_simp
            · go_at_call 102
              refine (CC.out _ HB0.out).mono ?_
              rintro e w6 ⟨u, rfl, ho, hb⟩
              obtain ⟨A6, c6, rfl, _, _⟩ := (Sl.of_own ho).form
              have HB1 := hid (HB0.out.trans (hb.mono HB0.out.size))
              have HO1 := hid (own_base ho HB0.out.size)
              clear ho hb
              refine hK.out _ _ (SF.out _ HB1.out) (fun _ => ?_)
              have KX := hid (Blk.new w6 #[.string nm, .int .i64 lv, .string tx, .int .i64 sq] 32)
              have HB2 := hid (HB1.out.alloc HB1.out.size (.cells #[.string nm, .int .i64 lv, .string tx, .int .i64 sq] 32))
              have HO2 := hid (HO1.out.alloc (.cells #[.string nm, .int .i64 lv, .string tx, .int .i64 sq] 32))
              refine wpAnyH_ready (rs := [8]) (by kernel_rfl) (by simp) ?_
              refine AllReadyH.cons (o := ?oi150) ?hi150 (fun K hK => ?step150) AllReadyH.nil
              case hi150 => simp only [List.getElem?_toArray, List.getElem?_cons_succ, List.getElem?_cons_zero]; rfl
              rw [if_pos (by rfl)]
              go_simp
              refine hK.out _ _ (SF.out _ HB2.out) (fun _ => ?_)
              refine wpAnyH_ready (rs := [9]) (by kernel_rfl) (by simp) ?_
              refine AllReadyH.cons (o := ?oi151) ?hi151 (fun K hK => ?step151) AllReadyH.nil
              case hi151 => simp only [List.getElem?_toArray, List.getElem?_cons_succ, List.getElem?_cons_zero]; rfl
              rw [if_pos (by rfl)]
              refine wp_appG rfl rfl w5.heap.size 32 i0 _ 4 48 Try.underlying26 hi9 hz0 hz1 hz2 rfl (by decide) (by rfl) HO2.out (by rfl) (Sl.one KX.out rfl) (recOne nm tx lv sq) (by unfold maxLen; omega) (by omega) HB2.out.size ?_
              intro v7 w7 ho7 hg7 _
              obtain ⟨A7, c7, rfl, _, _⟩ := (Sl.of_own ho7).form
              have HB3 := hid (HB2.out.trans (below_of_grown hg7 HB2.out.size (own_lt HO2.out)))
              have HO3 := hid ho7
              clear ho7 hg7
              refine hK.out _ _ (SF.out _ HB3.out) (fun _ => ?_)
              refine wpAnyH_ready (rs := [13]) (by kernel_rfl) (by simp) ?_
              refine AllReadyH.cons (o := ?oi152) ?hi152 (fun K hK => ?step152) AllReadyH.nil
              case hi152 => simp only [List.getElem?_toArray, List.getElem?_cons_succ, List.getElem?_cons_zero]; rfl
              rw [if_pos (by rfl)]
              refine wp_appG rfl rfl w5.heap.size 32 i0 _ 4 48 Try.underlying26 hi9 hz0 hz1 hz2 rfl (by decide) (by rfl) HO3.out (by rfl) (HS2.out _ HB3.out) (rcells_one _) (by unfold maxLen; omega) (by omega) HB3.out.size ?_
              intro v8 w8 ho8 hg8 _
              have HB4 := hid (HB3.out.trans (below_of_grown hg8 HB3.out.size (own_lt HO3.out)))
              rw [Nat.add_zero] at ho8
              obtain ⟨A8, c8, rfl, _, _⟩ := (Sl.of_own ho8).form
              obtain ⟨g8, rfl, _⟩ := own_some ho8 (by omega)
              have HO4 := hid (show w8.ownsRow w.heap.size 32 4 (.slice (some ⟨g8, 0, none⟩) (j + 1) c8) (j + 1) ((x.take j ++ (⟨nm.data.toList, lv, tx.data.toList, sq⟩ : Rec) :: x.drop j).flatMap rcells) from by
                have h9 := own_base ho8 HBq.out.size
                simpa [rcells, txt_data, List.flatMap_append] using h9)
              clear ho8 hg8
              refine hK.out _ _ (SF.out _ HB4.out) (fun _ => ?_)
              refine wpAnyH_take (i := 14) (oi := ?oi153) (v := ?v153) ?hi153 (by kernel_rfl) ?hf153 ?hr153 ?hQ153 (Or.inl ⟨?hw153, ?hy153⟩) (by assumption) ?rest153
              case hi153 => simp only [List.getElem?_toArray, List.getElem?_cons_succ, List.getElem?_cons_zero]; rfl
              case hf153 => kernel_rfl
              case hr153 => kernel_rfl
              case hw153 => rfl
              case hy153 => (intro w hSw; (try dsimp only at hSw); go_simp; all_goals (first | done | with_reducible rfl))
              case hQ153 => exact fun _ _ _ h => h
              simp only [Act.put, List.setIfInBounds_toArray, List.set_cons_zero, List.set_cons_succ]
              refine wpAnyH_done (by kernel_rfl) ?_ _
              go_wp2_with fail
              go_roundw
              case rel => exact ⟨j + 1, g8, c8, _, by go_num, rfl, by omega, HLn, HFn, HO4, HBq.out.trans (HB4.out.mono HBq.out.size)⟩
              case measure => simp [intOf]; omega
            · have KX0 := hid (Blk.new w5.drew #[.string nm, .int .i64 lv, .string tx, .int .i64 sq] 32)
              have HB1 := hid (HB0.out.alloc HB0.out.size (.cells #[.string nm, .int .i64 lv, .string tx, .int .i64 sq] 32))
              refine hK.out _ _ (SF.out _ HB1.out) (fun _ => ?_)
              refine wpAnyH_ready (rs := [3]) (by kernel_rfl) (by simp) ?_
              refine AllReadyH.cons (o := ?oi154) ?hi154 (fun K hK => ?step154) AllReadyH.nil
              case hi154 => simp only [List.getElem?_toArray, List.getElem?_cons_succ, List.getElem?_cons_zero]; rfl
              rw [if_pos (by rfl)]
              go_simp
              go_at_call 102
              refine (CC.out _ HB1.out).mono ?_
              rintro e w6 ⟨u, rfl, ho, hb⟩
              obtain ⟨A6, c6, rfl, _, _⟩ := (Sl.of_own ho).form
              have KX := hid (KX0.out.to hb)
              have HB2 := hid (HB1.out.trans (hb.mono HB1.out.size))
              have HO2 := hid (own_base ho HB1.out.size)
              clear ho hb
              refine hK.out _ _ (SF.out _ HB2.out) (fun _ => ?_)
              refine wpAnyH_ready (rs := [9]) (by kernel_rfl) (by simp) ?_
              refine AllReadyH.cons (o := ?oi155) ?hi155 (fun K hK => ?step155) AllReadyH.nil
              case hi155 => simp only [List.getElem?_toArray, List.getElem?_cons_succ, List.getElem?_cons_zero]; rfl
              rw [if_pos (by rfl)]
              refine wp_appG rfl rfl w5.heap.size 32 i0 _ 4 48 Try.underlying26 hi9 hz0 hz1 hz2 rfl (by decide) (by rfl) HO2.out (by rfl) (Sl.one KX.out rfl) (recOne nm tx lv sq) (by unfold maxLen; omega) (by omega) HB2.out.size ?_
              intro v7 w7 ho7 hg7 _
              obtain ⟨A7, c7, rfl, _, _⟩ := (Sl.of_own ho7).form
              have HB3 := hid (HB2.out.trans (below_of_grown hg7 HB2.out.size (own_lt HO2.out)))
              have HO3 := hid ho7
              clear ho7 hg7
              refine hK.out _ _ (SF.out _ HB3.out) (fun _ => ?_)
              refine wpAnyH_ready (rs := [13]) (by kernel_rfl) (by simp) ?_
              refine AllReadyH.cons (o := ?oi156) ?hi156 (fun K hK => ?step156) AllReadyH.nil
              case hi156 => simp only [List.getElem?_toArray, List.getElem?_cons_succ, List.getElem?_cons_zero]; rfl
              rw [if_pos (by rfl)]
              refine wp_appG rfl rfl w5.heap.size 32 i0 _ 4 48 Try.underlying26 hi9 hz0 hz1 hz2 rfl (by decide) (by rfl) HO3.out (by rfl) (HS2.out _ HB3.out) (rcells_one _) (by unfold maxLen; omega) (by omega) HB3.out.size ?_
              intro v8 w8 ho8 hg8 _
              have HB4 := hid (HB3.out.trans (below_of_grown hg8 HB3.out.size (own_lt HO3.out)))
              rw [Nat.add_zero] at ho8
              obtain ⟨A8, c8, rfl, _, _⟩ := (Sl.of_own ho8).form
              obtain ⟨g8, rfl, _⟩ := own_some ho8 (by omega)
              have HO4 := hid (show w8.ownsRow w.heap.size 32 4 (.slice (some ⟨g8, 0, none⟩) (j + 1) c8) (j + 1) ((x.take j ++ (⟨nm.data.toList, lv, tx.data.toList, sq⟩ : Rec) :: x.drop j).flatMap rcells) from by
                have h9 := own_base ho8 HBq.out.size
                simpa [rcells, txt_data, List.flatMap_append] using h9)
              clear ho8 hg8
              refine hK.out _ _ (SF.out _ HB4.out) (fun _ => ?_)
              refine wpAnyH_take (i := 14) (oi := ?oi157) (v := ?v157) ?hi157 (by kernel_rfl) ?hf157 ?hr157 ?hQ157 (Or.inl ⟨?hw157, ?hy157⟩) (by assumption) ?rest157
              case hi157 => simp only [List.getElem?_toArray, List.getElem?_cons_succ, List.getElem?_cons_zero]; rfl
              case hf157 => kernel_rfl
              case hr157 => kernel_rfl
              case hw157 => rfl
              case hy157 => (intro w hSw; (try dsimp only at hSw); go_simp; all_goals (first | done | with_reducible rfl))
              case hQ157 => exact fun _ _ _ h => h
              simp only [Act.put, List.setIfInBounds_toArray, List.set_cons_zero, List.set_cons_succ]
              refine wpAnyH_done (by kernel_rfl) ?_ _
              go_wp2_with fail
              go_roundw
              case rel => exact ⟨j + 1, g8, c8, _, by go_num, rfl, by omega, HLn, HFn, HO4, HBq.out.trans (HB4.out.mono HBq.out.size)⟩
              case measure => simp [intOf]; omega
    · obtain rfl : k = n := by omega
      go_wp2_with fail
      go_ret
      exact ⟨_, c, x, rfl, hxl.out, hxf.out, HO.out, HB.out⟩
end Go.Proofs.Ytjliipnjifongaa
