/-
  WALK: the law FnRecordsOf. By gen_recof.py.
-/
import Derived.Test.YtihigemelekflaaE40
import Derived.Test.YtihigemelekflaaR4
import Derived.Test.YtihigemelekflaaEqRecord
namespace Go.Proofs.Ytihigemelekflaa
open Go.RowKit Go.Proofs.Ytihigemelekflaa.Nm
set_option linter.unusedSimpArgs false
set_option linter.unusedVariables false

set_option maxHeartbeats 1000000 in
set_option maxRecDepth 100000 in
theorem recHas_c (v : Value) (n B : Nat) (l : List (List UInt8)) (s : ByteArray) (w : World) (hv : Sl w B 1 n v (l.map txt)) :
    Calls Try.prog 8 #[v, .string s] w fun e w' => e = .returned (.bool (decide (s.data.toList ∈ l))) ∧ w' = w := by
  have hln : l.length = n := by have := hv.1; simpa using this
  obtain ⟨A, c, rfl, hnc, hcm⟩ := hv.form
  unfold maxLen at hcm
  have HV := hid (And.intro hv hln)
  clear hv hln
  go_enter Try.func8, Try.ntmps8
  go_wp2_with fail
  go_loop [5] (fun iv => ∃ k : Nat, iv = .int .i64 k ∧ k ≤ n ∧ Hid (s.data.toList ∉ l.take k)) (fun iv => n - (intOf iv).toNat)
  case atStart => exact ⟨0, rfl, by omega, by simp [Hid]⟩
  case round =>
    obtain ⟨k, rfl, hk, HN⟩ := hrel
    by_cases hlt : k < n
    · obtain ⟨b, o, rfl, hb, hcl⟩ := sl_elem HV.out.1 hlt
      obtain ⟨p, hp1, hp2⟩ := txt_at l k (by have := HV.out.2; omega)
      have g0 : w.cell? ⟨b, o + k, none⟩ = some (.string p) := by have := hcl 0 _ (by simpa using hp2); simpa using this
      have HX := hid hp1
      clear hp1 hp2 hcl
      by_cases he : p.data.toList = s.data.toList
      · have e1 := eq_true_of he
        have HE := hid (show decide (s.data.toList ∈ l) = true from decide_eq_true (by rw [← he]; exact List.mem_of_getElem? HX.out))
        clear he
        go_wp2_with fail
        go_ret
        exact ⟨ret_bool HE.out.symm, rfl⟩
      · have e1 := eq_false_of he
        have HE := hid (not_take_succ _ _ _ _ HN.out HX.out he)
        clear he
        go_wp2_with fail
        refine ⟨⟨k + 1, by go_num, by omega, HE⟩, by simp [intOf]; omega⟩
    · have HE := hid (show decide (s.data.toList ∈ l) = false from decide_eq_false (by have := HN.out; rwa [List.take_of_length_le (by have := HV.out.2; omega)] at this))
      go_wp2_with fail
      go_ret
      exact ⟨ret_bool HE.out.symm, rfl⟩
set_option maxHeartbeats 8000000 in
set_option maxRecDepth 100000 in
theorem walk_FnRecordsOf (a0 : Option Addr) (len0 cap0 : Nat) (z0 : List Int) (w : World) (w0 : IsRow .u8 w a0 len0 cap0 z0) :
    Calls Try.prog 3 #[.slice a0 len0 cap0] w (BoolPost w true) := by
  have hb0 := w0.leR
  by_cases h1 : (1048576 : Int) < (len0 : Int)
  · go_enter Try.func3, Try.ntmps3
    go_wp2_with fail
    go_ret
    exact ⟨rfl, Below.refl _ _⟩
  have DR := hid (drawRecordsOf_c a0 len0 cap0 z0 w w0)
  clear w0
  go_enter Try.func3, Try.ntmps3
  go_wp2_with fail
  refine DR.out.mono ?_
  rintro e w1 ⟨A, n, c, l, s, rfl, hln, hn, hf, ho, hs20, hb⟩
  obtain ⟨A', c', he', hnc, hcm⟩ := (Sl.of_own ho).form
  injection he' with e1 e2 e3
  subst e1 e3
  clear e2
  unfold maxLen at hcm
  have HB := hid hb
  have F1 := hid (show Snts w1 w1.heap.size n (.slice A n c) l from ⟨Sl.of_own ho, hf⟩)
  have hmt : n ≤ maxTxt := by unfold maxTxt; omega
  have CI := hid (fun (t : ByteArray) (W : World) (hW : Below w1.heap.size w1 W) => implRecordsOf_c (.slice A n c) n w1.heap.size l t W (F1.out.below hW (Nat.le_refl _)) hW.size hmt)
  have CS := hid (fun (W : World) (hW : Below w1.heap.size w1 W) => specRecordsOf_c (.slice A n c) n w1.heap.size l s W (F1.out.below hW (Nat.le_refl _)) hW.size hmt)
  have C1 := hid (CI.out s w1 (Below.refl _ _))
  obtain ⟨X, hX⟩ : ∃ X, recsOf l s.data.toList = X := ⟨_, rfl⟩
  have hXl : X.length ≤ l.length := by rw [← hX]; exact recsOf_len l _
  rw [hX] at C1 CS
  replace hX := hid hX
  obtain ⟨m, hm⟩ : ∃ m, X.length = m := ⟨_, rfl⟩
  rw [hm] at C1 CS
  have hm360 : m ≤ 360 := by omega
  replace hm := hid hm
  replace hln := hid hln
  have HW1 := hid (Below.refl w1.heap.size w1)
  clear ho hf hb DR hXl hs20
  go_wp2_with fail
  refine C1.out.mono ?_
  rintro e w2 ⟨v2, rfl, ho2, hb⟩
  obtain ⟨A2, c2, rfl, _, hcm2⟩ := (Sl.of_own ho2).form
  unfold maxLen at hcm2
  have HW2 := hid hb
  have O2 := hid (Sl.of_own ho2)
  clear hb ho2 C1
  go_wp2_with fail
  refine (CS.out _ HW2.out).mono ?_
  rintro e w3 ⟨v3, rfl, ho3, hb⟩
  obtain ⟨A3, c3, rfl, _, hcm3⟩ := (Sl.of_own ho3).form
  have HW3 := hid (HW2.out.trans (hb.mono HW2.out.size))
  have CE := hid (equalRecords_c (.slice A2 m c2) (.slice A3 m c3) m w3.heap.size X w3 ((O2.out.below hb (Nat.le_refl _)).more hb.size) (Sl.of_own ho3) (Nat.le_refl _))
  clear hb ho3 CS
  go_wp2_with fail
  refine CE.out.mono ?_
  rintro e w4 ⟨rfl, hb⟩
  have HW4 := hid (HW3.out.trans (hb.mono HW3.out.size))
  have HOn := hid (World.ownsRow_lit (base := w4.heap.size) w4 #[] 0 (Nat.le_refl _) (by unfold maxLen; omega) rfl : (w4.alloc (.cells #[] 9)).ownsRow w4.heap.size 9 1 (.slice (some ⟨w4.heap.size, 0, none⟩) 0 0) 0 [])
  have HBn := hid (show Below w4.heap.size w4 (w4.alloc (.cells #[] 9)) from (Below.refl _ _).alloc (Nat.le_refl _) _)
  clear hb CE O2 HW1 HW2 HW3
  go_wp2_with fail
  go_loopw [6, 7, 8] (fun sv av kv wr => ∃ (k : Nat) (t : List (List UInt8)), kv = .int .i64 k ∧ av = .int .i64 (seenN l t) ∧ k ≤ n ∧ t.length ≤ k ∧ Hid (∀ x ∈ l.take k, x.hd ∈ t) ∧ Hid (∀ y ∈ t, ∃ x ∈ l, x.hd = y) ∧ Hid (wr.ownsRow w4.heap.size 9 1 sv t.length (t.map txt)) ∧ Hid (Below w4.heap.size w4 wr)) (fun _ _ kv _ => n - (intOf kv).toNat)
  case atStart => exact ⟨0, [], rfl, by rw [seenN_nil]; rfl, Nat.zero_le _, Nat.le_refl _, (fun x hx => by simp at hx), (fun y hy => by cases hy), HOn.out, HBn.out⟩
  case round =>
    obtain ⟨k, t, rfl, rfl, hk, htk, HA, HE, HO, HBx⟩ := hrel
    obtain ⟨At, ct, rfl, _, _⟩ := (Sl.of_own HO.out).form
    have hsn := seenN_le l t
    rw [hln.out] at hsn
    have HWr := hid (HW4.out.trans (HBx.out.mono HW4.out.size))
    by_cases hlt : k < n
    · obtain ⟨b, o, lg, hd, nm, lv, tx, sq, rfl, hbB, hx, c0, c1, c2', c3', c4', c5'⟩ := sncells_at (F1.out.1.below HWr.out (Nat.le_refl _)) hlt
      have HX := hid hx
      have CH := hid (recHas_c _ _ _ t hd wr (Sl.of_own HO.out))
      have s0 : (0 : Int) ≤ (k : Int) := by omega
      have s1 : (k : Int) < (n : Int) := by omega
      have s2 : ((k : Int)).toNat = k := by simp
      clear hx
      cases hin : decide (hd.data.toList ∈ t) with
      | true =>
        rw [hin] at CH
        have HA2 := hid (show ∀ x ∈ l.take (k + 1), x.hd ∈ t from fun x hx => by
          rw [List.take_add_one, HX.out] at hx
          rcases List.mem_append.1 hx with hx | hx
          · exact HA.out x hx
          · simp at hx
            subst hx
            exact of_decide_eq_true hin)
        clear hin
        go_wp2_with fail
        refine CH.out.mono ?_
        rintro e w5 ⟨rfl, rfl⟩
        go_wp2_with fail
        go_roundw
        case rel => exact ⟨k + 1, t, by go_num, rfl, by omega, by omega, HA2, HE, HO, HBx⟩
        case measure => simp [intOf]; omega
      | false =>
        rw [hin] at CH
        have hnot := of_decide_eq_false hin
        have hadd := seenN_add l hnot
        have hle := seenN_le l (t ++ [hd.data.toList])
        rw [hln.out] at hle
        have HA2 := hid (show ∀ x ∈ l.take (k + 1), x.hd ∈ t ++ [hd.data.toList] from fun x hx => by
          rw [List.take_add_one, HX.out] at hx
          rcases List.mem_append.1 hx with hx | hx
          · exact List.mem_append_left _ (HA.out x hx)
          · simp at hx
            subst hx
            exact List.mem_append_right _ (List.mem_singleton.2 rfl))
        have HE2 := hid (show ∀ y ∈ t ++ [hd.data.toList], ∃ x ∈ l, x.hd = y from fun y hy => by
          rcases List.mem_append.1 hy with hy | hy
          · exact HE.out y hy
          · rw [List.mem_singleton.1 hy]; exact ⟨_, List.mem_of_getElem? HX.out, rfl⟩)
        obtain ⟨r, hr⟩ : ∃ r, (recsOf l hd.data.toList).length = r := ⟨_, rfl⟩
        have CR := hid (fun (W : World) (hW : Below w1.heap.size w1 W) => (show Calls Try.prog 5 #[.slice (some ⟨b, o, none⟩) n c, .string hd] W (fun e w' => ∃ v', e = .returned v' ∧ (∃ A9 c9, v' = .slice A9 r c9) ∧ Below W.heap.size W w') from (CI.out hd W hW).mono (fun e w' h => by
          obtain ⟨v', he, ho, hb⟩ := h
          obtain ⟨A9, c9, e9, _, _⟩ := (Sl.of_own ho).form
          exact ⟨v', he, ⟨A9, c9, by rw [e9, hr]⟩, hb⟩)))
        rw [hr] at hadd
        have hsum : IntKind.i64.wrap (((seenN l t : Nat) : Int) + (r : Int)) = ((seenN l (t ++ [hd.data.toList]) : Nat) : Int) := by rw [IntKind.wrap_i64, hadd]; omega
        have HSum := hid (And.intro hsum (And.intro hadd hle))
        have HCc := hid (fun (W : World) (hW : Below wr.heap.size wr W) => (hW.cell (p := ⟨b, o + k * 6 + 1, none⟩) (World.block_lt_of_cell? _ _ c1)).trans c1)
        clear hin hnot hr hadd hle HA HE
        go_wp2_with fail
        refine CH.out.mono ?_
        rintro e w5 ⟨rfl, hw5⟩
        obtain rfl := hw5
        clear CH
        go_wp2_with (at_builtin; refine appText _ rfl (.tmp 48) (.tmp 54) rfl w4.heap.size _ t (by rfl) HO.out hd _ _ _ (by rfl) (by simp) (by omega) HBx.out.size ?_)
        intro v6 w6 ho6 hb6
        have HO6 := hid ho6
        have HB6 := hid (HBx.out.trans hb6)
        have hc6 : w6.cell? ⟨b, o + k * 6 + 1, none⟩ = some (.string hd) := by
          obtain ⟨b', o', lg', hd', nm', lv', tx', sq', e', _, hx', _, g1, _⟩ := sncells_at (F1.out.1.below (HW4.out.trans (HB6.out.mono HW4.out.size)) (Nat.le_refl _)) hlt
          obtain ⟨rfl, rfl⟩ : b = b' ∧ o = o' := by simpa using e'
          have h9 := HX.out.symm.trans hx'
          simp only [Option.some.injEq, Snt.mk.injEq, bytes_eq_iff] at h9
          rw [g1, h9.2.1]
        have HR6 := hid (HW4.out.trans (HB6.out.mono HW4.out.size))
        clear ho6 hb6 c0 c1 c2' c3' c4' c5'
        go_wp2_with fail
        refine (CR.out _ HR6.out).mono ?_
        rintro e w7 ⟨v7, rfl, ⟨A9, c9, rfl⟩, hb⟩
        have HB7 := hid (HB6.out.trans (hb.mono HB6.out.size))
        have HO7 := hid (own_below HO6.out (hb))
        clear hb hc6
        have hsum := HSum.out.1
        go_wp2_with fail
        go_roundw
        case rel => exact ⟨k + 1, t ++ [hd.data.toList], by go_num, by first | rfl | (rw [← HSum.out.1]; rfl) | (rw [HSum.out.1]), by omega, by rw [List.length_append]; show t.length + 1 ≤ _; omega, HA2, HE2, (by show World.ownsRow _ _ _ _ _ _ _; simpa using HO7.out), HB7⟩
        case measure => simp [intOf]; omega
    · have hkn : k = n := by omega
      have hAll : ∀ x ∈ l, x.hd ∈ t := by
        have h9 := HA.out
        rw [List.take_of_length_le (by rw [hln.out]; omega)] at h9
        exact h9
      have HAll := hid hAll
      clear hAll
      have hsum : seenN l t = n := by rw [seenN_all HAll.out, hln.out]
      have CH := hid (recHas_c _ _ _ t s wr (Sl.of_own HO.out))
      rw [seen_has HAll.out HE.out s.data.toList, hX.out, hm.out] at CH
      rw [hsum]
      have t1 : ((n : Int) == (n : Int)) = true := by simp
      rcases Nat.eq_zero_or_pos m with hm0 | hm0
      · subst hm0
        clear hkn HA HE
        go_wp2_with fail
        refine CH.out.mono ?_
        rintro e w5 ⟨rfl, rfl⟩
        go_wp2_with fail
        go_ret
        exact ⟨rfl, HB.out.trans (HWr.out.mono HB.out.size)⟩
      · rw [decide_eq_true hm0] at CH
        have t2 : (0 : Int) < (m : Int) := by omega
        clear hkn HA HE
        go_wp2_with fail
        refine CH.out.mono ?_
        rintro e w5 ⟨rfl, rfl⟩
        go_wp2_with fail
        go_ret
        exact ⟨rfl, HB.out.trans (HWr.out.mono HB.out.size)⟩
end Go.Proofs.Ytihigemelekflaa
