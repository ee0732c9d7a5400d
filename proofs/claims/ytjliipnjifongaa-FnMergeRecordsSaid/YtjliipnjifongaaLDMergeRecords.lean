/-
  WALK: the law FnMergeRecords. By gen_merge.py.
-/
import Derived.Test.YtjliipnjifongaaE34
namespace Go.Proofs.Ytjliipnjifongaa
open Go.RowKit Nm
set_option linter.unusedSimpArgs false
set_option linter.unusedVariables false
theorem mrgLe {k : IntKind} {w : World} {a : Option Addr} {len cap : Nat} {z : List Int} (h : IsRow k w a len cap z) : len ≤ 9223372036854775807 := by
  rcases h with ⟨_, h, _, _⟩ | ⟨x, _, h1, h2, _⟩
  · omega
  · unfold maxLen at h2; omega
theorem rs_nil (w : World) (B : Nat) : Rs w B 0 (.slice none 0 0) [] := ⟨⟨rfl, none, 0, rfl, Nat.le_refl _, by unfold maxLen; omega, fun h => absurd h (by omega)⟩, fun x hx => by cases hx⟩
theorem fit_rs {l : List Rec} (h : fit20 l) : ∀ x ∈ l, rcellsFit x := fun f hf => by have := h f hf; unfold rcellsFit maxTxt; omega
theorem mergeX_mem {a b : List Rec} : ∀ x ∈ mergeX a b, x ∈ a ∨ x ∈ b := by
  intro x hx
  unfold mergeX at hx
  split at hx
  · exact mergeR_mem hx
  · cases hx
theorem atLX_mem {a : List Rec} {k : Int} : ∀ x ∈ atLX a k, x ∈ a := by
  intro x hx
  unfold atLX at hx
  split at hx
  · rw [atL_filter] at hx; exact (List.mem_filter.1 hx).1
  · cases hx

set_option maxHeartbeats 8000000 in
set_option maxRecDepth 100000 in
theorem walk_FnMergeRecords (a0 : Option Addr) (len0 cap0 : Nat) (z0 : List Int) (w : World) (w0 : IsRow .u8 w a0 len0 cap0 z0) :
    Calls Try.prog 5 #[.slice a0 len0 cap0] w (BoolPost w true) := by
  have hb0 := mrgLe w0
  by_cases h1 : (1048576 : Int) < (len0 : Int)
  · go_enter Try.func5, Try.ntmps5
    go_wp2_with fail
    go_ret
    exact ⟨rfl, Below.refl _ _⟩
  have DR := hid (drawMergeRecords_c a0 len0 cap0 z0 w w0)
  clear w0
  go_enter Try.func5, Try.ntmps5
  go_wp2_with fail
  refine DR.out.mono ?_
  rintro e w1 ⟨A1, c1, n1, l1, A2, c2, n2, l2, rfl, hs1, hf1, hln1, hn1, hs2, hf2, hln2, hn2, hb⟩
  obtain ⟨A', c', he', _, hcm1⟩ := hs1.form
  injection he' with e1 e2 e3
  subst e1 e3
  clear e2
  obtain ⟨A', c', he', _, hcm2⟩ := hs2.form
  injection he' with e1 e2 e3
  subst e1 e3
  clear e2
  unfold maxLen at hcm1 hcm2
  have F1 := hid (show Rs w1 w1.heap.size n1 (.slice A1 n1 c1) l1 from ⟨hs1, fit_rs hf1⟩)
  have F2 := hid (show Rs w1 w1.heap.size n2 (.slice A2 n2 c2) l2 from ⟨hs2, fit_rs hf2⟩)
  have HB := hid hb
  replace hln1 := hid hln1
  replace hln2 := hid hln2
  have CI := hid (implMergeX_c (.slice A1 n1 c1) (.slice A2 n2 c2) n1 n2 w1.heap.size l1 l2 w1 F1.out F2.out (Nat.le_refl _) (by unfold maxTxt; omega) (by unfold maxTxt; omega))
  have CS := hid (fun (W : World) (hW : Below w1.heap.size w1 W) => specMergeX_c (.slice A1 n1 c1) (.slice A2 n2 c2) n1 n2 w1.heap.size l1 l2 W (F1.out.below hW (Nat.le_refl _)) (F2.out.below hW (Nat.le_refl _)) hW.size (by unfold maxTxt; omega) (by unfold maxTxt; omega))
  have hm12 := mergeX_len l1 l2
  have HMM := hid (fun x (hx : x ∈ mergeX l1 l2) => (show rcellsFit x from by
    rcases mergeX_mem x hx with h | h
    · exact F1.out.2 x h
    · exact F2.out.2 x h))
  obtain ⟨d, hd⟩ : ∃ d, d = mergeX l1 l2 := ⟨_, rfl⟩
  obtain ⟨m, hm⟩ : ∃ m, m = d.length := ⟨_, rfl⟩
  obtain ⟨ok, hok⟩ : ∃ ok, ok = mergeOk l1 l2 := ⟨_, rfl⟩
  rw [← hd, ← hm] at hm12
  rw [← hd, ← hm, ← hok] at CI
  simp only [← hd, ← hok] at CS
  simp only [← hm] at CS
  rw [← hd] at HMM
  replace hd := hid hd
  replace hm := hid hm
  replace hok := hid hok
  have HW1 := hid (Below.refl w1.heap.size w1)
  clear hs1 hf1 hs2 hf2 hb DR
  go_wp2_with fail
  refine CI.out.mono ?_
  rintro e w2 ⟨v2, rfl, ho2, hb⟩
  obtain ⟨A3, c3, rfl, _, hcm3⟩ := (Sl.of_own ho2).form
  unfold maxLen at hcm3
  have HW2 := hid (HW1.out.trans hb)
  have O2 := hid (show Rs w2 w2.heap.size m (.slice A3 m c3) d from ⟨Sl.of_own ho2, HMM.out⟩)
  have CE := hid (fun (W : World) (hW : Below w2.heap.size w2 W) (v3 : Value) (h3 : Sl W W.heap.size 4 m v3 (d.flatMap rcells)) => equalRecords_c (.slice A3 m c3) v3 m W.heap.size d W ((O2.out.1.below hW (Nat.le_refl _)).more hW.size) h3 (Nat.le_refl _))
  have HX2 := hid (Below.refl w2.heap.size w2)
  clear hb ho2 CI HMM
  go_wp2_with fail
  refine (CS.out _ HW2.out).mono ?_
  rintro e w3 ⟨v3, rfl, ho3, hb⟩
  obtain ⟨A4, c4, rfl, _, hcm4⟩ := (Sl.of_own ho3).form
  unfold maxLen at hcm4
  have HW3 := hid (HW2.out.trans (hb.mono HW2.out.size))
  have HX3 := hid (HX2.out.trans hb)
  have O3 := hid (Sl.of_own ho3)
  clear hb ho3 CS HX2 HW1
  go_wp2_with fail
  refine (CE.out _ HX3.out _ O3.out).mono ?_
  rintro e w4 ⟨rfl, hb⟩
  have HW4 := hid (HW3.out.trans (hb.mono HW3.out.size))
  have HX4 := hid (HX3.out.trans (hb.mono HX3.out.size))
  have O4 := hid ((O3.out.below hb (Nat.le_refl _)).more hb.size)
  clear hb O3 HX3 HW3
  cases ok with
  | false =>
    go_wp2_with fail
    refine (CE.out _ HX4.out _ O4.out).mono ?_
    rintro e w5 ⟨rfl, hb⟩
    have HW5 := hid (HW4.out.trans (hb.mono HW4.out.size))
    clear hb
    go_wp2_with fail
    go_ret
    exact ⟨rfl, HB.out.trans (HW5.out.mono HB.out.size)⟩
  | true =>
    have hok' := hok.out.symm
    have HMO := hid (merge_at 30 hok')
    have hmn := hid (show m = n1 + n2 by rw [hm.out, hd.out, mergeX_yes hok', mergeR_len, hln1.out, hln2.out])
    have HLV := hid (fun (h1 : sqOrd l1) (h2 : sqOrd l2) => (show mergeX (atLX l1 30) (atLX l2 30) = atLX d 30 ∧ sqOrd d from by
      rw [hd.out]
      exact ⟨merge_level 30 hok' h1 h2, by rw [mergeX_yes hok']; exact merge_ord h1 h2⟩))
    generalize hdx : atLX d 30 = dx at HLV
    replace hdx := hid hdx
    have HAL := hid (merge_alone (merge_parts hok').1)
    have P1 := hid (fun (W : World) (hW : Below w1.heap.size w1 W) => implAtLeast_c (.slice A1 n1 c1) n1 w1.heap.size l1 30 W (F1.out.below hW (Nat.le_refl _)) hW.size (by unfold maxTxt; omega))
    have P2 := hid (fun (W : World) (hW : Below w1.heap.size w1 W) => implAtLeast_c (.slice A2 n2 c2) n2 w1.heap.size l2 30 W (F2.out.below hW (Nat.le_refl _)) hW.size (by unfold maxTxt; omega))
    have hx1 := atLX_len l1 30
    have hx2 := atLX_len l2 30
    have HQ := hid (And.intro (fun x (hx : x ∈ atLX l1 30) => F1.out.2 x (atLX_mem x hx)) (fun x (hx : x ∈ atLX l2 30) => F2.out.2 x (atLX_mem x hx)))
    generalize atLX l1 30 = y1 at *
    generalize atLX l2 30 = y2 at *
    generalize hy1 : y1.length = r1 at *
    generalize hy2 : y2.length = r2 at *
    replace hy1 := hid hy1
    replace hy2 := hid hy2
    clear hok hok' CE O4
    go_wp2_with fail
    refine (P1.out _ HW4.out).mono ?_
    rintro e w5 ⟨v5, rfl, ho5, hb⟩
    obtain ⟨A5, c5, rfl, _, hcm5⟩ := (Sl.of_own ho5).form
    unfold maxLen at hcm5
    have HW5 := hid (HW4.out.trans (hb.mono HW4.out.size))
    have HX5 := hid (HX4.out.trans (hb.mono HX4.out.size))
    have O5 := hid (show Rs w5 w5.heap.size r1 (.slice A5 r1 c5) y1 from ⟨Sl.of_own ho5, HQ.out.1⟩)
    clear hb ho5 HW4 HX4 P1
    go_wp2_with fail
    refine (P2.out _ HW5.out).mono ?_
    rintro e w6 ⟨v6, rfl, ho6, hb⟩
    obtain ⟨A6, c6, rfl, _, hcm6⟩ := (Sl.of_own ho6).form
    unfold maxLen at hcm6
    have HW6 := hid (HW5.out.trans (hb.mono HW5.out.size))
    have HX6 := hid (HX5.out.trans (hb.mono HX5.out.size))
    have O6 := hid (show Rs w6 w6.heap.size r2 (.slice A6 r2 c6) y2 from ⟨Sl.of_own ho6, HQ.out.2⟩)
    have CX := hid (implMergeX_c (.slice A5 r1 c5) (.slice A6 r2 c6) r1 r2 w6.heap.size y1 y2 w6 ((O5.out.below hb (Nat.le_refl _)).more hb.size) O6.out (Nat.le_refl _) (by unfold maxTxt; omega) (by unfold maxTxt; omega))
    rw [HMO.out] at CX
    clear hb ho6 HW5 HX5 P2 HQ O5 O6
    generalize mergeX y1 y2 = xx at CX HLV
    generalize hxl : xx.length = rx at CX
    replace hxl := hid hxl
    go_wp2_with fail
    refine CX.out.mono ?_
    rintro e w8 ⟨v8, rfl, ho8, hb⟩
    obtain ⟨A8, c8, rfl, _, hcm8⟩ := (Sl.of_own ho8).form
    unfold maxLen at hcm8
    have HW8 := hid (HW6.out.trans (hb.mono HW6.out.size))
    have HX8 := hid (HX6.out.trans (hb.mono HX6.out.size))
    have GX := hid (Sl.of_own ho8)
    have G1 := hid (show Rs w8 w8.heap.size n1 (.slice A1 n1 c1) l1 from (F1.out.below HW8.out (Nat.le_refl _)).more HW8.out.size)
    have G2 := hid (show Rs w8 w8.heap.size n2 (.slice A2 n2 c2) l2 from (F2.out.below HW8.out (Nat.le_refl _)).more HW8.out.size)
    have GD := hid (show Rs w8 w8.heap.size m (.slice A3 m c3) d from (O2.out.below HX8.out (Nat.le_refl _)).more HX8.out.size)
    clear hb ho8 HW6 HX6 HX8 CX F1 F2 O2 hx1 hx2 hy1 hy2 HMO
    go_wp2_with fail
    go_loopw [11, 12] (fun fv kv wr => ∃ (k : Nat) (f : Bool), fv = .bool f ∧ kv = .int .i64 k ∧ 1 ≤ k ∧ (k ≤ n1 ∨ k = 1) ∧ Hid (f = true → ordK l1 k) ∧ Hid (Below w8.heap.size w8 wr)) (fun _ kv _ => n1 - (intOf kv).toNat)
    case atStart => exact ⟨1, true, rfl, rfl, Nat.le_refl _, .inr rfl, fun _ => ordK_one _, Below.refl _ _⟩
    case round =>
      obtain ⟨k, f, rfl, rfl, hk1, hk, HS, HBr⟩ := hrel
      by_cases hkn : k < n1
      · obtain ⟨b, o, nm, lv, tx, sq, rfl, hbB, hx, _, _, _, t3⟩ := rcells_at (G1.out.below HBr.out (Nat.le_refl _)).1 (show k - 1 < n1 by omega)
        obtain ⟨b', o', nm', lv', tx', sq', e9, hbB', hx', _, _, _, t3'⟩ := rcells_at (G1.out.below HBr.out (Nat.le_refl _)).1 hkn
        injection e9 with e9
        injection e9 with e91 e92
        subst e91 e92
        have u0 : IntKind.i64.wrap ((k : Int) - 1) = (k : Int) - 1 := by rw [IntKind.wrap_i64]; omega
        have u1 : (0 : Int) ≤ (k : Int) - 1 := by omega
        have u2 : ((k : Int) - 1).toNat = k - 1 := by omega
        have u3 : (k : Int) - 1 < (n1 : Int) := by omega
        have u4 : (0 : Int) ≤ (k : Int) := by omega
        have u5 : ((k : Int)).toNat = k := by simp
        have HX := hid hx
        have HX' := hid hx'
        clear hx hx'
        cases f with
        | false =>
          have HS2 := hid (show false = true → ordK l1 (k + 1) from fun h => by cases h)
          clear HS HX HX'
          go_wp2_with fail
          go_quiet (fail)
          go_wp2_with fail
          go_roundw
          case rel => exact ⟨k + 1, false, by first | rfl | (simp; omega), by go_num, by omega, by omega, (fun h => by cases h), below_dr HBr.out _⟩
          case measure => simp [intOf]; omega
        | true =>
          by_cases hs : sq ≤ sq'
          · have HS2 := hid (show true = true → ordK l1 (k + 1) from fun h => ordK_next hk1 (HS.out rfl) HX.out HX'.out hs)
            clear HS HX HX'
            go_wp2_with fail
            go_quiet (fail)
            go_wp2_with fail
            go_roundw
            case rel => exact ⟨k + 1, true, by first | rfl | (simp; omega), by go_num, by omega, by omega, fun _ => HS2.out (by trivial), below_dr HBr.out _⟩
            case measure => simp [intOf]; omega
          · have HS2 := hid (show false = true → ordK l1 (k + 1) from fun h => by cases h)
            clear HS HX HX'
            go_wp2_with fail
            go_quiet (fail)
            go_wp2_with fail
            go_roundw
            case rel => exact ⟨k + 1, false, by first | rfl | (simp; omega), by go_num, by omega, by omega, (fun h => by cases h), below_dr HBr.out _⟩
            case measure => simp [intOf]; omega
      ·
        have HS1 := hid (fun (h : f = true) => ord_of (HS.out h) (show l1.length ≤ k by rw [hln1.out]; omega))
        clear HS
        have hbw := HBr.out.size
        obtain ⟨w9, hw9⟩ : ∃ w9, w9 = wr := ⟨_, rfl⟩
        subst hw9
        replace HBr := hid HBr.out
        go_wp2_with fail
        clear hk1 hk hkn hbw
        go_loopw [11, 13] (fun fv kv wr => ∃ (k : Nat) (f : Bool), fv = .bool f ∧ kv = .int .i64 k ∧ 1 ≤ k ∧ (k ≤ n2 ∨ k = 1) ∧ Hid (f = true → sqOrd l1 ∧ ordK l2 k) ∧ Hid (Below w8.heap.size w8 wr)) (fun _ kv _ => n2 - (intOf kv).toNat)
        case atStart => exact ⟨1, f, rfl, rfl, Nat.le_refl _, .inr rfl, fun h => ⟨HS1.out h, ordK_one _⟩, HBr.out⟩
        case round =>
          obtain ⟨k, f, rfl, rfl, hk1, hk, HS, HBr⟩ := hrel
          by_cases hkn : k < n2
          · obtain ⟨b, o, nm, lv, tx, sq, rfl, hbB, hx, _, _, _, t3⟩ := rcells_at (G2.out.below HBr.out (Nat.le_refl _)).1 (show k - 1 < n2 by omega)
            obtain ⟨b', o', nm', lv', tx', sq', e9, hbB', hx', _, _, _, t3'⟩ := rcells_at (G2.out.below HBr.out (Nat.le_refl _)).1 hkn
            injection e9 with e9
            injection e9 with e91 e92
            subst e91 e92
            have u0 : IntKind.i64.wrap ((k : Int) - 1) = (k : Int) - 1 := by rw [IntKind.wrap_i64]; omega
            have u1 : (0 : Int) ≤ (k : Int) - 1 := by omega
            have u2 : ((k : Int) - 1).toNat = k - 1 := by omega
            have u3 : (k : Int) - 1 < (n2 : Int) := by omega
            have u4 : (0 : Int) ≤ (k : Int) := by omega
            have u5 : ((k : Int)).toNat = k := by simp
            have HX := hid hx
            have HX' := hid hx'
            clear hx hx'
            cases f with
            | false =>
              have HS2 := hid (show false = true → sqOrd l1 ∧ ordK l2 (k + 1) from fun h => by cases h)
              clear HS HX HX'
              go_wp2_with fail
              go_quiet (fail)
              go_wp2_with fail
              go_roundw
              case rel => exact ⟨k + 1, false, by first | rfl | (simp; omega), by go_num, by omega, by omega, (fun h => by cases h), below_dr HBr.out _⟩
              case measure => simp [intOf]; omega
            | true =>
              by_cases hs : sq ≤ sq'
              · have HS2 := hid (show true = true → sqOrd l1 ∧ ordK l2 (k + 1) from fun h => ⟨(HS.out rfl).1, ordK_next hk1 (HS.out rfl).2 HX.out HX'.out hs⟩)
                clear HS HX HX'
                go_wp2_with fail
                go_quiet (fail)
                go_wp2_with fail
                go_roundw
                case rel => exact ⟨k + 1, true, by first | rfl | (simp; omega), by go_num, by omega, by omega, fun _ => HS2.out (by trivial), below_dr HBr.out _⟩
                case measure => simp [intOf]; omega
              · have HS2 := hid (show false = true → sqOrd l1 ∧ ordK l2 (k + 1) from fun h => by cases h)
                clear HS HX HX'
                go_wp2_with fail
                go_quiet (fail)
                go_wp2_with fail
                go_roundw
                case rel => exact ⟨k + 1, false, by first | rfl | (simp; omega), by go_num, by omega, by omega, (fun h => by cases h), below_dr HBr.out _⟩
                case measure => simp [intOf]; omega
          ·
            have HS2 := hid (fun (h : f = true) => HLV.out (HS.out h).1 (ord_of (HS.out h).2 (show l2.length ≤ k by rw [hln2.out]; omega)))
            clear HS HS1 HLV
            replace HBr := hid HBr.out
            go_wp2_with fail
            clear hk1 hk hkn
            go_loopw [14] (fun kv wr => ∃ k : Nat, kv = .int .i64 k ∧ 1 ≤ k ∧ (k ≤ m ∨ k = 1) ∧ Hid (Below w8.heap.size w8 wr)) (fun kv _ => m - (intOf kv).toNat)
            case atStart => exact ⟨1, rfl, Nat.le_refl _, .inr rfl, HBr.out⟩
            case round =>
              clear HBr
              obtain ⟨k, rfl, hk1, hk, HBr⟩ := hrel
              by_cases hkn : k < m
              · obtain ⟨b, o, nm, lv, tx, sq, rfl, hbB, hx, _, _, _, t3⟩ := rcells_at (GD.out.below HBr.out (Nat.le_refl _)).1 (show k - 1 < m by omega)
                obtain ⟨b', o', nm', lv', tx', sq', e9, hbB', hx', _, _, _, t3'⟩ := rcells_at (GD.out.below HBr.out (Nat.le_refl _)).1 hkn
                injection e9 with e9
                injection e9 with e91 e92
                subst e91 e92
                have u0 : IntKind.i64.wrap ((k : Int) - 1) = (k : Int) - 1 := by rw [IntKind.wrap_i64]; omega
                have u1 : (0 : Int) ≤ (k : Int) - 1 := by omega
                have u2 : ((k : Int) - 1).toNat = k - 1 := by omega
                have u3 : (k : Int) - 1 < (m : Int) := by omega
                have u4 : (0 : Int) ≤ (k : Int) := by omega
                have u5 : ((k : Int)).toNat = k := by simp
                have HX := hid hx
                have HX' := hid hx'
                clear hx hx'
                cases f with
                | false =>
                  clear HS2 HX HX'
                  go_wp2_with fail
                  go_quiet (fail)
                  go_wp2_with fail
                  go_roundw
                  case rel => exact ⟨k + 1, by go_num, by omega, by omega, below_dr HBr.out _⟩
                  case measure => simp [intOf]; omega
                | true =>
                  have hs : sq ≤ sq' := ord_prev (HS2.out (by trivial)).2 hk1 HX.out HX'.out
                  have hs9 : ¬ sq' < sq := by omega
                  clear HS2 HX HX'
                  go_wp2_with fail
                  go_quiet (fail)
                  go_wp2_with fail
                  go_roundw
                  case rel => exact ⟨k + 1, by go_num, by omega, by omega, below_dr HBr.out _⟩
                  case measure => simp [intOf]; omega
              · have CN := hid (implMergeX_c (.slice A1 n1 c1) (.slice none 0 0) n1 0 w8.heap.size l1 [] wr (G1.out.below HBr.out (Nat.le_refl _)) (rs_nil _ _) HBr.out.size (by unfold maxTxt; omega) (by unfold maxTxt; omega))
                rw [HAL.out.1, HAL.out.2, hln1.out] at CN
                have PD := hid (fun (W : World) (hW : Below w8.heap.size w8 W) => (show Calls Try.prog 24 #[.slice A3 m c3, .int .i64 30] W (RowPost W 32 4 dx.length (dx.flatMap rcells)) from by
                  have h9 := implAtLeast_c (.slice A3 m c3) m w8.heap.size d 30 W (GD.out.below hW (Nat.le_refl _)) hW.size (by unfold maxTxt; omega)
                  rw [hdx.out] at h9
                  exact h9))
                have hwr : IntKind.i64.wrap ((n1 : Int) + (n2 : Int)) = (n1 : Int) + (n2 : Int) := by rw [IntKind.wrap_i64]; omega
                have hme : ((m : Int) == (n1 : Int) + (n2 : Int)) = true := by have h9 := hmn.out; simp; omega
                clear GD
                go_wp2_with fail
                refine CN.out.mono ?_
                rintro e w10 ⟨v10, rfl, ho10, hb⟩
                obtain ⟨A10, c10, rfl, _, hcm10⟩ := (Sl.of_own ho10).form
                unfold maxLen at hcm10
                have HB10 := hid (HBr.out.trans (hb.mono HBr.out.size))
                have O10 := hid (Sl.of_own ho10)
                have CA := hid (fun (W : World) (hW : Below w10.heap.size w10 W) => equalRecords_c (.slice A10 n1 c10) (.slice A1 n1 c1) n1 W.heap.size l1 W ((O10.out.below hW (Nat.le_refl _)).more hW.size) ((G1.out.1.below (HB10.out.trans (hW.mono HB10.out.size)) (Nat.le_refl _)).more (HB10.out.trans (hW.mono HB10.out.size)).size) (Nat.le_refl _))
                clear hb ho10 CN HBr HAL
                cases f with
                | false =>
                  go_wp2_with fail
                  refine (CA.out _ (Below.refl _ _)).mono ?_
                  rintro e w11 ⟨rfl, hb⟩
                  have HW11 := hid (HW8.out.trans ((HB10.out.trans (hb.mono HB10.out.size)).mono HW8.out.size))
                  clear hb
                  go_wp2_with fail
                  go_ret
                  exact ⟨ret_bool (by simp), HB.out.trans (HW11.out.mono HB.out.size)⟩
                | true =>
                  have hxe := (HS2.out (by trivial)).1
                  subst hxe
                  have PD' := hid (PD.out _ HB10.out)
                  rw [hxl.out] at PD'
                  clear HS2 PD
                  go_wp2_with fail
                  refine PD'.out.mono ?_
                  rintro e w11 ⟨v11, rfl, ho11, hb⟩
                  obtain ⟨A11, c11, rfl, _, hcm11⟩ := (Sl.of_own ho11).form
                  unfold maxLen at hcm11
                  have HC11 := hid (show Below w10.heap.size w10 w11 from hb)
                  have HB11 := hid (HB10.out.trans (hb.mono HB10.out.size))
                  have CZ := hid (equalRecords_c (.slice A8 rx c8) (.slice A11 rx c11) rx w11.heap.size _ w11 ((GX.out.below HB11.out (Nat.le_refl _)).more HB11.out.size) (Sl.of_own ho11) (Nat.le_refl _))
                  clear hb ho11 PD'
                  go_wp2_with fail
                  refine CZ.out.mono ?_
                  rintro e w12 ⟨rfl, hb⟩
                  have HC12 := hid (HC11.out.trans (hb.mono HC11.out.size))
                  clear hb CZ
                  go_wp2_with fail
                  refine (CA.out _ HC12.out).mono ?_
                  rintro e w13 ⟨rfl, hb⟩
                  have HW13 := hid (HW8.out.trans ((HB10.out.trans ((HC12.out.trans (hb.mono HC12.out.size)).mono HB10.out.size)).mono HW8.out.size))
                  clear hb
                  go_wp2_with fail
                  go_ret
                  exact ⟨ret_bool (by simp), HB.out.trans (HW13.out.mono HB.out.size)⟩
end Go.Proofs.Ytjliipnjifongaa
