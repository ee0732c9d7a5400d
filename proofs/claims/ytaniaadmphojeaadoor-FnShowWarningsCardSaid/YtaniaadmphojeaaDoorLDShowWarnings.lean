/-
  WALK: the law FnShowWarnings. By gen_dsw.py.
-/
import Derived.Test.YtaniaadmphojeaaDoorE43
namespace Go.Proofs.YtaniaadmphojeaaDoor
open Go.RowKit Go.Proofs.YtaniaadmphojeaaDoor.Nm
set_option linter.unusedSimpArgs false
set_option linter.unusedVariables false

set_option maxHeartbeats 8000000 in
set_option maxRecDepth 100000 in
theorem walk_FnShowWarnings (a0 : Option Addr) (len0 cap0 : Nat) (z0 : List Int) (w : World) (w0 : IsRow .u8 w a0 len0 cap0 z0) :
    Calls Tryd.prog 5 #[.slice a0 len0 cap0] w (BoolPost w true) := by
  have hb0 := w0.leW
  by_cases h1 : (1048576 : Int) < (len0 : Int)
  · go_enter Tryd.func5, Tryd.ntmps5
    go_wp2_with fail
    go_ret
    exact ⟨rfl, Below.refl _ _⟩
  have DR := hid (drawShowWarnings_c a0 len0 cap0 z0 w w0)
  clear w0
  go_enter Tryd.func5, Tryd.ntmps5
  go_wp2_with fail
  refine DR.out.mono ?_
  rintro e w1 ⟨v, v2, rs, l, rfl, hrw, hb, hrf, hr6, hf, hl12⟩
  have ho1 : w1.ownsRow w.heap.size 44 4 v rs.length (rs.flatMap rucells) := hrw.head
  have ho2 : w1.ownsRow w.heap.size 53 3 v2 l.length (l.flatMap wncells) := (Rows.right (a := [⟨44, 4, rs.length, v, rs.flatMap rucells⟩]) hrw).head
  obtain ⟨A, c, rfl, hnc, hcm⟩ := (Sl.of_own ho1).form
  obtain ⟨Al, cl, rfl, hlc, hlm⟩ := (Sl.of_own ho2).form
  unfold maxLen at hcm hlm
  have SR := hid (show Ruls w1 w1.heap.size rs.length (.slice A rs.length c) rs from ⟨Sl.of_own ho1, fun x hx => by have h := hrf x hx; unfold rucellsFit maxTxt; omega⟩)
  have SL := hid (show Wrns w1 w1.heap.size l.length (.slice Al l.length cl) l from ⟨Sl.of_own ho2, fun x hx => by have h := hf x hx; unfold wncellsFit maxTxt; omega⟩)
  have HB := hid hb
  have RI := hid (fun (W : World) (hW : Below w1.heap.size w1 W) => (show RulesIn W w1.heap.size (.slice A rs.length c) rs from ⟨SR.out.below hW (Nat.le_refl _), by unfold maxTxt; omega⟩))
  have LI := hid (fun (k : Nat) (hk : k ≤ l.length) (W : World) (hW : Below w1.heap.size w1 W) => (show WrnsIn W w1.heap.size (.slice Al k cl) (l.take k) from by
    have hlk : (l.take k).length = k := by rw [List.length_take]; omega
    refine ⟨?_, by unfold maxTxt; omega⟩
    rw [hlk]; exact (SL.out.below hW (Nat.le_refl _)).take hk))
  have CI := hid (fun (k : Nat) (hk : k ≤ l.length) (W : World) (hW : Below w1.heap.size w1 W) => implShow_c (RI.out W hW) (LI.out k hk W hW) hW.size)
  have LI0 := hid (fun (W : World) (hW : Below w1.heap.size w1 W) => (show WrnsIn W w1.heap.size (.slice Al l.length cl) l from ⟨SL.out.below hW (Nat.le_refl _), by unfold maxTxt; omega⟩))
  have CI0 := hid (fun (W : World) (hW : Below w1.heap.size w1 W) => implShow_c (RI.out W hW) (LI0.out W hW) hW.size)
  have CS0 := hid (fun (W : World) (hW : Below w1.heap.size w1 W) => specShow_c (RI.out W hW) (LI0.out W hW) hW.size)
  have CR := hid (fun (W : World) (hW : Below w1.heap.size w1 W) => implValidRules_c (.slice A rs.length c) rs.length w1.heap.size rs W (SR.out.below hW (Nat.le_refl _)) hW.size)
  have CW := hid (fun (W : World) (hW : Below w1.heap.size w1 W) => implValidWarnings_c (.slice Al l.length cl) l.length w1.heap.size l W (SL.out.below hW (Nat.le_refl _)) hW.size)
  have PA := hid (fun (h : rulsOk rs = true) (h2 : wrnsOk l = true) (k : Nat) (x y : Int) (hk : 1 ≤ k) (hx : (shX rs l).1[k - 1]? = some x) (hy : (shX rs l).1[k]? = some y) => shX_asc h h2 hk hx hy)
  have PE := hid (fun (h : rulsOk rs = true) (h2 : wrnsOk l = true) (k : Nat) => shX_early h h2 k)
  have PR := hid (fun (h : rulsOk rs = true) (h2 : wrnsOk l = true) (h3 : (shX rs l).2 = true) => shX_raise h h2 h3)
  have PL := hid (shX_len rs l)
  generalize shX rs l = X at *
  obtain ⟨xs, rb⟩ := X
  generalize rulsOk rs = qr at *
  generalize wrnsOk l = qw at *
  generalize hln : l.length = n at *
  generalize hrn : rs.length = nr at *
  clear ho1 ho2 hb hf hrf hrw DR hln hrn
  dsimp only at *
  go_wp2_with fail
  refine (CI0.out _ (Below.refl _ _)).mono ?_
  rintro e w2 ⟨u, rs0, rfl, hs, hr, hb⟩
  obtain ⟨A2, n2, c2, rfl⟩ := hs.form hr
  have hc2 := hid (show n2 = xs.length from hs.count hr)
  have S2 := hid (show Sl w2 w2.heap.size 1 xs.length (.slice A2 n2 c2) (xs.map vint) from (hs.at_ hr (show xs.length ≤ maxTxt by have := PL.out; unfold maxTxt; (try dsimp only at this); omega)).1)
  have H2 := hid hb
  clear hs hr hb
  go_wp2_with fail
  refine (CS0.out _ H2.out).mono ?_
  rintro e w3 ⟨u, rs0, rfl, hs, hr, hb⟩
  obtain ⟨A3, n3, c3, rfl⟩ := hs.form hr
  have S3 := hid (show Sl w3 w3.heap.size 1 xs.length (.slice A3 n3 c3) (xs.map vint) from (hs.at_ hr (show xs.length ≤ maxTxt by have := PL.out; unfold maxTxt; (try dsimp only at this); omega)).1)
  have H23 := hid hb
  have H3 := hid (H2.out.trans (hb.mono H2.out.size))
  clear hs hr hb
  have E23 := hid (fun (W : World) (hW : Below w3.heap.size w3 W) => equalInts_c ((S2.out.below (H23.out.trans (hW.mono H23.out.size)) (Nat.le_refl _))) (S3.out.below hW (Nat.le_refl _)) (Nat.le_trans H23.out.size hW.size) hW.size)
  have b0 : (rb != rb) = false := by simp
  have b1 : (rb == rb) = true := by simp
  go_wp2_with fail
  refine (E23.out _ (Below.refl _ _)).mono ?_
  rintro e w4 ⟨rfl, hb⟩
  have H34 := hid hb
  have H4 := hid (H3.out.trans (hb.mono H3.out.size))
  clear hb
  go_wp2_with fail
  refine (CR.out _ H4.out).mono ?_
  rintro e w5 ⟨rfl, hb⟩
  have H35 := hid (H34.out.trans (hb.mono H34.out.size))
  have H5 := hid (H4.out.trans (hb.mono H4.out.size))
  clear hb H34 H4
  cases qr with
  | false =>
    go_wp2_with fail
    refine (E23.out _ H35.out).mono ?_
    rintro e w6 ⟨rfl, hb⟩
    have H6 := hid (HB.out.trans ((H5.out.trans (hb.mono H5.out.size)).mono HB.out.size))
    clear hb
    go_wp2_with fail
    go_ret
    exact ⟨rfl, H6.out⟩
  | true =>
    go_wp2_with fail
    refine (CW.out _ H5.out).mono ?_
    rintro e w6 ⟨rfl, hb⟩
    have H36 := hid (H35.out.trans (hb.mono H35.out.size))
    have H6 := hid (H5.out.trans (hb.mono H5.out.size))
    clear hb H35 H5
    cases qw with
    | false =>
      go_wp2_with fail
      refine (E23.out _ H36.out).mono ?_
      rintro e w7 ⟨rfl, hb⟩
      have H7 := hid (HB.out.trans ((H6.out.trans (hb.mono H6.out.size)).mono HB.out.size))
      clear hb
      go_wp2_with fail
      go_ret
      exact ⟨rfl, H7.out⟩
    | true =>
      replace PA := hid (PA.out (by trivial) (by trivial))
      replace PE := hid (PE.out (by trivial) (by trivial))
      replace PR := hid (PR.out (by trivial) (by trivial))
      have S6 := hid (S2.out.below (H23.out.trans (H36.out.mono H23.out.size)) (Nat.le_refl _))
      have hw26 := hid (Nat.le_trans H23.out.size H36.out.size)
      have hcap : n2 ≤ c2 ∧ c2 ≤ 9223372036854775807 := by
        obtain ⟨A9, c9, e9, h8, h9⟩ := S2.out.form
        injection e9 with _ e7 e8
        unfold maxLen at h9
        rw [e8, hc2.out]; exact ⟨h8, h9⟩
      have hx12 : n2 ≤ 12 := by rw [hc2.out]; exact PL.out
      clear E23 CR CW CI0 CS0 LI0 H2 H3 S3 H23 H36 b0 b1
      have HW6 := hid (Below.refl w6.heap.size w6)
      go_wp2_with fail
      go_loopw [9] (fun iv wr => ∃ (k : Nat), iv = .int .i64 k ∧ 1 ≤ k ∧ k ≤ n2 + 1 ∧ Hid (Below w6.heap.size w6 wr)) (fun iv _ => n2 + 1 - (intOf iv).toNat)
      case atStart => exact ⟨1, rfl, Nat.le_refl _, by omega, HW6.out⟩
      case round =>
        obtain ⟨k, rfl, hk1, hk2, HBr⟩ := hrel
        by_cases hlt : k < n2
        · have SS := (show Sl wr w2.heap.size 1 n2 (.slice A2 n2 c2) (xs.map vint) by have h9 := S6.out.below HBr.out hw26.out; rwa [← hc2.out] at h9)
          obtain ⟨b, o, y, rfl, hbB, hy, g1⟩ := SS.int_at hlt
          obtain ⟨b', o', x, hA, hbB', hx, g0⟩ := SS.int_at (show k - 1 < n2 by omega)
          obtain ⟨rfl, rfl⟩ : b = b' ∧ o = o' := by simpa using hA
          have hxy := PA.out k x y hk1 hx hy
          have q1 : IntKind.i64.wrap ((k : Int) - 1) = ((k - 1 : Nat) : Int) := by rw [IntKind.wrap_i64] <;> omega
          have q2 : k - 1 < n2 := by omega
          have q3 : ¬ (y ≤ x) := by omega
          have q4 : decide (y ≤ x) = false := decide_eq_false q3
          clear SS hA hx hy hxy
          go_wp2_with fail
          refine wp_region_held_drew (S := fun w' : World => w'.cell? ⟨b, o + (k - 1), none⟩ = some (.int .i64 x) ∧ w'.cell? ⟨b, o + k, none⟩ = some (.int .i64 y)) (by kernel_rfl) ⟨g0, g1⟩ (fun hS => ?_)
          refine wpAnyH_take (i := 0) (oi := ?oi101) (v := ?v101) ?hi101 (by kernel_rfl) ?hf101 ?hr101 ?hQ101 (Or.inl ⟨?hw101, ?hy101⟩) (by assumption) ?rest101
          case hi101 => simp only [List.getElem?_toArray, List.getElem?_cons_succ, List.getElem?_cons_zero]; rfl
          case hf101 => kernel_rfl
          case hr101 => kernel_rfl
          case hw101 => rfl
          case hy101 => (intro w hSw; (try dsimp only at hSw); go_simp; all_goals (first | done | with_reducible rfl))
          case hQ101 => exact fun _ _ _ h => h
          simp only [Act.put, List.setIfInBounds_toArray, List.set_cons_zero, List.set_cons_succ]
          refine wpAnyH_take (i := 1) (oi := ?oi102) (v := ?v102) ?hi102 (by kernel_rfl) ?hf102 ?hr102 ?hQ102 (Or.inl ⟨?hw102, ?hy102⟩) (by assumption) ?rest102
          case hi102 => simp only [List.getElem?_toArray, List.getElem?_cons_succ, List.getElem?_cons_zero]; rfl
          case hf102 => kernel_rfl
          case hr102 => kernel_rfl
          case hw102 => rfl
          case hy102 => (intro w hSw; (try dsimp only at hSw); go_simp; all_goals (first | done | with_reducible rfl))
          case hQ102 => exact fun _ _ _ h => h
          simp only [Act.put, List.setIfInBounds_toArray, List.set_cons_zero, List.set_cons_succ]
          refine wpAnyH_take (i := 2) (oi := ?oi103) (v := ?v103) ?hi103 (by kernel_rfl) ?hf103 ?hr103 ?hQ103 (Or.inl ⟨?hw103, ?hy103⟩) (by assumption) ?rest103
          case hi103 => simp only [List.getElem?_toArray, List.getElem?_cons_succ, List.getElem?_cons_zero]; rfl
          case hf103 => kernel_rfl
          case hr103 => kernel_rfl
          case hw103 => rfl
          case hy103 => (intro w hSw; (try dsimp only at hSw); go_simp; all_goals (first | done | with_reducible rfl))
          case hQ103 => exact fun _ _ _ h => h
          simp only [Act.put, List.setIfInBounds_toArray, List.set_cons_zero, List.set_cons_succ]
          refine wpAnyH_take (i := 3) (oi := ?oi104) (v := ?v104) ?hi104 (by kernel_rfl) ?hf104 ?hr104 ?hQ104 (Or.inl ⟨?hw104, ?hy104⟩) (by assumption) ?rest104
          case hi104 => simp only [List.getElem?_toArray, List.getElem?_cons_succ, List.getElem?_cons_zero]; rfl
          case hf104 => kernel_rfl
          case hr104 => kernel_rfl
          case hw104 => rfl
          case hy104 => (intro w hSw; (try dsimp only at hSw); go_simp; all_goals (first | done | with_reducible rfl))
          case hQ104 => exact fun _ _ _ h => h
          simp only [Act.put, List.setIfInBounds_toArray, List.set_cons_zero, List.set_cons_succ]
          refine wpAnyH_take (i := 4) (oi := ?oi105) (v := ?v105) ?hi105 (by kernel_rfl) ?hf105 ?hr105 ?hQ105 (Or.inl ⟨?hw105, ?hy105⟩) (by assumption) ?rest105
          case hi105 => simp only [List.getElem?_toArray, List.getElem?_cons_succ, List.getElem?_cons_zero]; rfl
          case hf105 => kernel_rfl
          case hr105 => kernel_rfl
          case hw105 => rfl
          case hy105 => (intro w hSw; (try dsimp only at hSw); go_simp; all_goals (first | done | with_reducible rfl))
          case hQ105 => exact fun _ _ _ h => h
          simp only [Act.put, List.setIfInBounds_toArray, List.set_cons_zero, List.set_cons_succ]
          refine wpAnyH_take (i := 5) (oi := ?oi106) (v := ?v106) ?hi106 (by kernel_rfl) ?hf106 ?hr106 ?hQ106 (Or.inl ⟨?hw106, ?hy106⟩) (by assumption) ?rest106
          case hi106 => simp only [List.getElem?_toArray, List.getElem?_cons_succ, List.getElem?_cons_zero]; rfl
          case hf106 => kernel_rfl
          case hr106 => kernel_rfl
          case hw106 => rfl
          case hy106 => (intro w hSw; (try dsimp only at hSw); go_simp; all_goals (first | done | with_reducible rfl))
          case hQ106 => exact fun _ _ _ h => h
          simp only [Act.put, List.setIfInBounds_toArray, List.set_cons_zero, List.set_cons_succ]
          refine wpAnyH_take (i := 6) (oi := ?oi107) (v := ?v107) ?hi107 (by kernel_rfl) ?hf107 ?hr107 ?hQ107 (Or.inl ⟨?hw107, ?hy107⟩) (by assumption) ?rest107
          case hi107 => simp only [List.getElem?_toArray, List.getElem?_cons_succ, List.getElem?_cons_zero]; rfl
          case hf107 => kernel_rfl
          case hr107 => kernel_rfl
          case hw107 => rfl
          case hy107 => (intro w hSw; (try dsimp only at hSw); go_simp; all_goals (first | done | with_reducible rfl))
          case hQ107 => exact fun _ _ _ h => h
          simp only [Act.put, List.setIfInBounds_toArray, List.set_cons_zero, List.set_cons_succ]
          refine wpAnyH_take (i := 7) (oi := ?oi108) (v := ?v108) ?hi108 (by kernel_rfl) ?hf108 ?hr108 ?hQ108 (Or.inl ⟨?hw108, ?hy108⟩) (by assumption) ?rest108
          case hi108 => simp only [List.getElem?_toArray, List.getElem?_cons_succ, List.getElem?_cons_zero]; rfl
          case hf108 => kernel_rfl
          case hr108 => kernel_rfl
          case hw108 => rfl
          case hy108 => (intro w hSw; (try dsimp only at hSw); go_simp; all_goals (first | done | with_reducible rfl))
          case hQ108 => exact fun _ _ _ h => h
          simp only [Act.put, List.setIfInBounds_toArray, List.set_cons_zero, List.set_cons_succ]
          refine wpAnyH_take (i := 8) (oi := ?oi109) (v := ?v109) ?hi109 (by kernel_rfl) ?hf109 ?hr109 ?hQ109 (Or.inl ⟨?hw109, ?hy109⟩) (by assumption) ?rest109
          case hi109 => simp only [List.getElem?_toArray, List.getElem?_cons_succ, List.getElem?_cons_zero]; rfl
          case hf109 => kernel_rfl
          case hr109 => kernel_rfl
          case hw109 => rfl
          case hy109 => (intro w hSw; (try dsimp only at hSw); go_simp; all_goals (first | done | with_reducible rfl))
          case hQ109 => exact fun _ _ _ h => h
          simp only [Act.put, List.setIfInBounds_toArray, List.set_cons_zero, List.set_cons_succ]
          refine wpAnyH_take (i := 9) (oi := ?oi110) (v := ?v110) ?hi110 (by kernel_rfl) ?hf110 ?hr110 ?hQ110 (Or.inl ⟨?hw110, ?hy110⟩) (by assumption) ?rest110
          case hi110 => simp only [List.getElem?_toArray, List.getElem?_cons_succ, List.getElem?_cons_zero]; rfl
          case hf110 => kernel_rfl
          case hr110 => kernel_rfl
          case hw110 => rfl
          case hy110 => (intro w hSw; (try dsimp only at hSw); go_simp; all_goals (first | done | with_reducible rfl))
          case hQ110 => exact fun _ _ _ h => h
          simp only [Act.put, List.setIfInBounds_toArray, List.set_cons_zero, List.set_cons_succ]
          refine wpAnyH_done (by kernel_rfl) ?_ _
          clear hS
          go_wp2_with fail
          go_roundw
          case rel => exact ⟨k + 1, by go_num, by omega, by omega, HBr.out.drew⟩
          case measure => simp [intOf]; omega
        · clear HW6
          go_wp2_with fail
          go_loopw [10, 11, 12] (fun iv ev rv wr => ∃ (k : Nat), iv = .int .i64 k ∧ k ≤ n + 1 ∧ Hid (Below w6.heap.size w6 wr)) (fun iv _ _ _ => n + 1 - (intOf iv).toNat)
          case atStart => exact ⟨0, rfl, by omega, HBr.out⟩
          case round =>
            clear HBr
            obtain ⟨k, rfl, hkn, HBr⟩ := hrel
            by_cases hle : k ≤ n
            · have C9 := hid (CI.out k hle wr (H6.out.trans (HBr.out.mono H6.out.size)))
              have hpe := PE.out k
              generalize shX rs (l.take k) = Y at *
              obtain ⟨ys, yb⟩ := Y
              dsimp only at hpe
              obtain ⟨hp1, hp2⟩ := hpe
              have k0 : (k : Int) ≤ (n : Int) := by omega
              have k1 : (0 : Int) ≤ (k : Int) := by omega
              have k2 : ((k : Int)).toNat = k := by simp
              have k3 : (k : Int) ≤ (cl : Int) := by omega
              have HP := hid (And.intro hp1 hp2)
              clear hp1 hp2
              go_wp2_with fail
              refine C9.out.mono ?_
              rintro e w8 ⟨u, rs0, rfl, hs, hr, hb⟩
              obtain ⟨A8, n8, c8, rfl⟩ := hs.form hr
              have hc8 : n8 = ys.length := hs.count hr
              have hy12 : n8 ≤ n2 := by rw [hc8, hc2.out]; exact HP.out.1
              have H8 := hid (HBr.out.trans (hb.mono HBr.out.size))
              have E8 := hid (equalInts_c (l := ys) (v := .slice A2 n8 c2) (v' := .slice A8 n8 c8) (B := w2.heap.size) (B' := w8.heap.size) (w := w8) (by
                have h9 := S6.out.below H8.out hw26.out
                have h8 : Sl w8 w2.heap.size 1 n2 (.slice A2 n2 c2) (xs.map vint) := by rwa [← hc2.out] at h9
                have h7 := h8.cut hy12
                have e7 : (xs.map vint).take n8 = ys.map vint := by rw [← List.map_take, hc8, ← HP.out.2]
                rw [e7] at h7
                rw [← hc8]; exact h7) (hs.at_ hr (show ys.length ≤ maxTxt by rw [← hc8]; unfold maxTxt; omega)).1 (Nat.le_trans hw26.out H8.out.size) (Nat.le_refl _))
              have m0 : ¬ ((n2 : Int) < (n8 : Int)) := by omega
              have m1 : (n8 : Int) ≤ (c2 : Int) := by omega
              have m2 : (0 : Int) ≤ (n8 : Int) := by omega
              have m3 : ((n8 : Int)).toNat = n8 := by simp
              have m4 : n8 ≤ c2 := by omega
              replace hc8 := hid hc8
              clear hs hr hb C9
              go_wp2_with fail
              refine E8.out.mono ?_
              rintro e w9 ⟨rfl, hb⟩
              have H9 := hid (H8.out.trans (hb.mono H8.out.size))
              clear hb E8
              go_wp2_with fail
              go_roundw
              case rel => exact ⟨k + 1, by go_num, by omega, H9.out⟩
              case measure => simp [intOf]; omega
            · have k0 : ¬ ((k : Int) ≤ (n : Int)) := by omega
              have HE := hid (HB.out.trans ((H6.out.trans (HBr.out.mono H6.out.size)).mono HB.out.size))
              cases rb with
              | false =>
                go_wp2_with fail
                go_ret
                exact ⟨rfl, HE.out⟩
              | true =>
                have h9 := PR.out (by trivial)
                have hpos : 0 < n2 := by rw [hc2.out]; exact h9
                clear h9
                go_wp2_with fail
                go_ret
                exact ⟨ret_bool (by simp [hpos]), HE.out⟩
end Go.Proofs.YtaniaadmphojeaaDoor
