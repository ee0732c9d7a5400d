/-
  WALK: the law FnDropHandler. By gen_t.py.
-/
import Derived.Test.YteoblmhbjmefoaaDHM
import Derived.Test.YteoblmhbjmefoaaE14
import Derived.Test.YteoblmhbjmefoaaSpotLaws
import Derived.Test.YteoblmhbjmefoaaE13
import Derived.Test.YteoblmhbjmefoaaLookI
namespace Go.Proofs.Yteoblmhbjmefoaa
open Go.RowKit Nm
set_option linter.unusedSimpArgs false
set_option linter.unusedVariables false

theorem fit_none : dataFit [] [] := ⟨⟨by simp, by simp⟩, ⟨by simp, by simp⟩⟩

set_option maxHeartbeats 8000000 in
set_option maxRecDepth 100000 in
theorem walk_FnDropHandler (a0 : Option Addr) (len0 cap0 : Nat) (z0 : List Int) (w : World) (w0 : IsRow .u8 w a0 len0 cap0 z0) :
    Calls Try.prog 8 #[.slice a0 len0 cap0] w (BoolPost w true) := by
  have hb0 := w0.leT
  by_cases h1 : (1048576 : Int) < (len0 : Int)
  · go_enter Try.func8, Try.ntmps8
    go_wp2_with fail
    go_ret
    exact ⟨rfl, Below.refl _ _⟩
  have DR := hid (drawDropHandler_c a0 len0 cap0 z0 w w0)
  clear w0
  go_enter Try.func8, Try.ntmps8
  go_wp2_with fail
  refine DR.out.mono ?_
  rintro e w1 ⟨v, rs, L, H, q, nm, rfl, hs, hsm, hnm, hr, hb⟩
  obtain ⟨A1, n1, k1, A2, n2, k2, rfl, hn1, hn2⟩ := hs.form_ hr
  have hd := sm_fit hsm (by omega)
  have TI0 := hs.at_ hr hd
  have hbx : Below w1.heap.size w1 (w1.alloc (.cells #[.slice A1 n1 k1, .slice A2 n2 k2, .int .i64 q] 30)) := (Below.refl _ _).alloc (Nat.le_refl _) _
  have TI := hid (TI0.below hbx (Nat.le_refl _))
  have KB := hid (Blk.new w1 #[.slice A1 n1 k1, .slice A2 n2 k2, .int .i64 q] 30)
  have HB := hid (hb.trans (hbx.mono hb.size))
  have hl1 : w1.heap.size < (w1.alloc (.cells #[.slice A1 n1 k1, .slice A2 n2 k2, .int .i64 q] 30)).heap.size := by simp
  have HL := hid (And.intro hn1 (And.intro hsm.1 hsm.2.1.1))
  replace hd := hid hd
  clear hs hr hb hn1 hn2 hsm TI0 hbx DR
  go_wp2_with fail
  generalize hbb : w1.heap.size = bb at *
  generalize w1.alloc (.cells #[.slice A1 n1 k1, .slice A2 n2 k2, .int .i64 q] 30) = w2 at *
  clear hbb
  have d0 := (KB.out.2 0 _ rfl).1
  have d1 := (KB.out.2 1 _ rfl).1
  have d2 := (KB.out.2 2 _ rfl).1
  have HW := hid (Below.refl w2.heap.size w2)
  have TT := hid (fun (W : World) (hW : Below w2.heap.size w2 W) => (And.intro (TI.out.below hW (Nat.le_of_lt hl1)) (Nat.le_trans (Nat.le_of_lt hl1) hW.size)))
  rcases dropH_cases L H q nm.data.toList with hX | ⟨kx, hok, hkx, hX⟩
  · clear hd
    have CI := hid (fun (W : World) (hW : Below w2.heap.size w2 W) => (show Calls Try.prog 20 #[.agg #[.slice A1 n1 k1, .slice A2 n2 k2, .int .i64 q], .string nm] W (fun e w' => ∃ v2 rs, e = .returned (.tuple #[v2, .bool false]) ∧ TreeS rs v2 ([]) [] 0 ∧ Rows w' W.heap.size rs ∧ Below W.heap.size W w') from by have h9 := implDropHandler_c nm (TT.out W hW).1 (TT.out W hW).2; rw [hX] at h9; exact h9))
    have CS := hid (fun (W : World) (hW : Below w2.heap.size w2 W) => (show Calls Try.prog 19 #[.agg #[.slice A1 n1 k1, .slice A2 n2 k2, .int .i64 q], .string nm] W (fun e w' => ∃ v2 rs, e = .returned (.tuple #[v2, .bool false]) ∧ TreeS rs v2 ([]) [] 0 ∧ Rows w' W.heap.size rs ∧ Below W.heap.size W w') from by have h9 := specDropHandler_c nm (TT.out W hW).1 (TT.out W hW).2; rw [hX] at h9; exact h9))
    go_wp2_with fail
    refine (CI.out _ HW.out).mono ?_
    rintro e w3 ⟨v3, rs3, rfl, hs3, hr3, hb⟩
    obtain ⟨A3, n3, k3, A4, n4, k4, rfl, -, -⟩ := hs3.form_ hr3
    have hbx3 : Below w3.heap.size w3 (w3.alloc (.cells #[.slice A3 n3 k3, .slice A4 n4 k4, .int .i64 0] 30)) := (Below.refl _ _).alloc (Nat.le_refl _) _
    have TO := hid ((hs3.at_ hr3 fit_none).below hbx3 (Nat.le_refl _))
    have KO := hid (Blk.new w3 #[.slice A3 n3 k3, .slice A4 n4 k4, .int .i64 0] 30)
    have HW4 := hid (HW.out.trans ((hb.trans (hbx3.mono hb.size)).mono HW.out.size))
    have hlo : w3.heap.size < (w3.alloc (.cells #[.slice A3 n3 k3, .slice A4 n4 k4, .int .i64 0] 30)).heap.size := by simp
    clear hs3 hr3 hb hbx3 d0 d1 d2
    obtain ⟨⟨d0, _⟩, ⟨d1, _⟩, ⟨d2, _⟩⟩ := (And.intro ((KB.out.to HW4.out).2 0 _ rfl) (And.intro ((KB.out.to HW4.out).2 1 _ rfl) ((KB.out.to HW4.out).2 2 _ rfl)))
    go_wp2_with fail
    generalize hbo : w3.heap.size = bo at *
    generalize w3.alloc (.cells #[.slice A3 n3 k3, .slice A4 n4 k4, .int .i64 0] 30) = w4 at *
    clear hbo
    refine (CS.out _ HW4.out).mono ?_
    rintro e w5 ⟨v5, rs5, rfl, hs5, hr5, hb⟩
    obtain ⟨A5, n5, k5, A6, n6, k6, rfl, -, -⟩ := hs5.form_ hr5
    have hbx5 : Below w5.heap.size w5 (w5.alloc (.cells #[.slice A5 n5 k5, .slice A6 n6 k6, .int .i64 0] 30)) := (Below.refl _ _).alloc (Nat.le_refl _) _
    have hb46 : Below w4.heap.size w4 (w5.alloc (.cells #[.slice A5 n5 k5, .slice A6 n6 k6, .int .i64 0] 30)) := hb.trans (hbx5.mono hb.size)
    have TW := hid ((hs5.at_ hr5 fit_none).below hbx5 (Nat.le_refl _))
    have KW := hid (Blk.new w5 #[.slice A5 n5 k5, .slice A6 n6 k6, .int .i64 0] 30)
    have HO6 := hid hb46
    have HW6 := hid (HW4.out.trans (hb46.mono HW4.out.size))
    have hlw : w5.heap.size < (w5.alloc (.cells #[.slice A5 n5 k5, .slice A6 n6 k6, .int .i64 0] 30)).heap.size := by simp
    clear hs5 hr5 hb hbx5 hb46 d0 d1 d2
    have o0 := ((KO.out.to HO6.out).2 0 _ rfl).1
    have o1 := ((KO.out.to HO6.out).2 1 _ rfl).1
    have o2 := ((KO.out.to HO6.out).2 2 _ rfl).1
    have p0 := (KW.out.2 0 _ rfl).1
    have p1 := (KW.out.2 1 _ rfl).1
    have p2 := (KW.out.2 2 _ rfl).1
    go_wp2_with fail
    generalize hbw : w5.heap.size = bw at *
    generalize w5.alloc (.cells #[.slice A5 n5 k5, .slice A6 n6 k6, .int .i64 0] 30) = w6 at *
    clear hbw
    have CE := hid (fun (W : World) (hW : Below w6.heap.size w6 W) => equalTree_c (TO.out.below (HO6.out.trans (hW.mono HO6.out.size)) (Nat.le_of_lt hlo)) (TW.out.below hW (Nat.le_of_lt hlw)) (Nat.le_trans (Nat.le_of_lt hlo) (Nat.le_trans HO6.out.size hW.size)) (Nat.le_trans (Nat.le_of_lt hlw) hW.size))
    refine (CE.out _ (Below.refl _ _)).mono ?_
    rintro e w7 ⟨rfl, hb⟩
    have HE7 := hid hb
    have HO7 := hid (HO6.out.trans (hb.mono HO6.out.size))
    have HW7 := hid (HW6.out.trans (hb.mono HW6.out.size))
    clear hb o0 o1 o2 p0 p1 p2
    have o0 := ((KO.out.to HO7.out).2 0 _ rfl).1
    have o1 := ((KO.out.to HO7.out).2 1 _ rfl).1
    have o2 := ((KO.out.to HO7.out).2 2 _ rfl).1
    have p0 := ((KW.out.to HE7.out).2 0 _ rfl).1
    have p1 := ((KW.out.to HE7.out).2 1 _ rfl).1
    have p2 := ((KW.out.to HE7.out).2 2 _ rfl).1
    go_wp2_with fail
    refine (CE.out _ HE7.out).mono ?_
    rintro e w8 ⟨rfl, hb⟩
    have HW8 := hid (HW7.out.trans (hb.mono HW7.out.size))
    clear hb o0 o1 o2 p0 p1 p2
    go_wp2_with fail
    go_ret
    exact ⟨rfl, HB.out.trans (HW8.out.mono HB.out.size)⟩
  · have DX : dataFit (L.map (woL nm.data.toList)) (H.eraseIdx kx) := by have h9 := dropH_res_fit L H q nm.data.toList; rw [hX] at h9; exact h9
    replace DX := hid DX
    have CI := hid (fun (W : World) (hW : Below w2.heap.size w2 W) => (show Calls Try.prog 20 #[.agg #[.slice A1 n1 k1, .slice A2 n2 k2, .int .i64 q], .string nm] W (fun e w' => ∃ v2 rs, e = .returned (.tuple #[v2, .bool true]) ∧ TreeS rs v2 (L.map (woL nm.data.toList)) (H.eraseIdx kx) q ∧ Rows w' W.heap.size rs ∧ Below W.heap.size W w') from by have h9 := implDropHandler_c nm (TT.out W hW).1 (TT.out W hW).2; rw [hX] at h9; exact h9))
    have CS := hid (fun (W : World) (hW : Below w2.heap.size w2 W) => (show Calls Try.prog 19 #[.agg #[.slice A1 n1 k1, .slice A2 n2 k2, .int .i64 q], .string nm] W (fun e w' => ∃ v2 rs, e = .returned (.tuple #[v2, .bool true]) ∧ TreeS rs v2 (L.map (woL nm.data.toList)) (H.eraseIdx kx) q ∧ Rows w' W.heap.size rs ∧ Below W.heap.size W w') from by have h9 := specDropHandler_c nm (TT.out W hW).1 (TT.out W hW).2; rw [hX] at h9; exact h9))
    go_wp2_with fail
    refine (CI.out _ HW.out).mono ?_
    rintro e w3 ⟨v3, rs3, rfl, hs3, hr3, hb⟩
    obtain ⟨A3, n3, k3, A4, n4, k4, rfl, -, -⟩ := hs3.form_ hr3
    have hbx3 : Below w3.heap.size w3 (w3.alloc (.cells #[.slice A3 n3 k3, .slice A4 n4 k4, .int .i64 q] 30)) := (Below.refl _ _).alloc (Nat.le_refl _) _
    have TO := hid ((hs3.at_ hr3 DX.out).below hbx3 (Nat.le_refl _))
    have KO := hid (Blk.new w3 #[.slice A3 n3 k3, .slice A4 n4 k4, .int .i64 q] 30)
    have HW4 := hid (HW.out.trans ((hb.trans (hbx3.mono hb.size)).mono HW.out.size))
    have hlo : w3.heap.size < (w3.alloc (.cells #[.slice A3 n3 k3, .slice A4 n4 k4, .int .i64 q] 30)).heap.size := by simp
    clear hs3 hr3 hb hbx3 d0 d1 d2
    obtain ⟨⟨d0, _⟩, ⟨d1, _⟩, ⟨d2, _⟩⟩ := (And.intro ((KB.out.to HW4.out).2 0 _ rfl) (And.intro ((KB.out.to HW4.out).2 1 _ rfl) ((KB.out.to HW4.out).2 2 _ rfl)))
    go_wp2_with fail
    generalize hbo : w3.heap.size = bo at *
    generalize w3.alloc (.cells #[.slice A3 n3 k3, .slice A4 n4 k4, .int .i64 q] 30) = w4 at *
    clear hbo
    refine (CS.out _ HW4.out).mono ?_
    rintro e w5 ⟨v5, rs5, rfl, hs5, hr5, hb⟩
    obtain ⟨A5, n5, k5, A6, n6, k6, rfl, -, -⟩ := hs5.form_ hr5
    have hbx5 : Below w5.heap.size w5 (w5.alloc (.cells #[.slice A5 n5 k5, .slice A6 n6 k6, .int .i64 q] 30)) := (Below.refl _ _).alloc (Nat.le_refl _) _
    have hb46 : Below w4.heap.size w4 (w5.alloc (.cells #[.slice A5 n5 k5, .slice A6 n6 k6, .int .i64 q] 30)) := hb.trans (hbx5.mono hb.size)
    have TW := hid ((hs5.at_ hr5 DX.out).below hbx5 (Nat.le_refl _))
    have KW := hid (Blk.new w5 #[.slice A5 n5 k5, .slice A6 n6 k6, .int .i64 q] 30)
    have HO6 := hid hb46
    have HW6 := hid (HW4.out.trans (hb46.mono HW4.out.size))
    have hlw : w5.heap.size < (w5.alloc (.cells #[.slice A5 n5 k5, .slice A6 n6 k6, .int .i64 q] 30)).heap.size := by simp
    clear hs5 hr5 hb hbx5 hb46 d0 d1 d2
    have o0 := ((KO.out.to HO6.out).2 0 _ rfl).1
    have o1 := ((KO.out.to HO6.out).2 1 _ rfl).1
    have o2 := ((KO.out.to HO6.out).2 2 _ rfl).1
    have p0 := (KW.out.2 0 _ rfl).1
    have p1 := (KW.out.2 1 _ rfl).1
    have p2 := (KW.out.2 2 _ rfl).1
    go_wp2_with fail
    generalize hbw : w5.heap.size = bw at *
    generalize w5.alloc (.cells #[.slice A5 n5 k5, .slice A6 n6 k6, .int .i64 q] 30) = w6 at *
    clear hbw
    have CE := hid (fun (W : World) (hW : Below w6.heap.size w6 W) => equalTree_c (TO.out.below (HO6.out.trans (hW.mono HO6.out.size)) (Nat.le_of_lt hlo)) (TW.out.below hW (Nat.le_of_lt hlw)) (Nat.le_trans (Nat.le_of_lt hlo) (Nat.le_trans HO6.out.size hW.size)) (Nat.le_trans (Nat.le_of_lt hlw) hW.size))
    refine (CE.out _ (Below.refl _ _)).mono ?_
    rintro e w7 ⟨rfl, hb⟩
    have HE7 := hid hb
    have HO7 := hid (HO6.out.trans (hb.mono HO6.out.size))
    have HW7 := hid (HW6.out.trans (hb.mono HW6.out.size))
    clear hb o0 o1 o2 p0 p1 p2
    have TN := hid (fun (W : World) (hO : Below w4.heap.size w4 W) => (And.intro (TO.out.below hO (Nat.le_of_lt hlo)) (Nat.le_trans (Nat.le_of_lt hlo) hO.size)))
    have FV := dropH_ok hok (idx_nat hkx).2
    have FU := users_wo FV
    have FS := spots_wo (x := (⟨#[97, 46, 98]⟩ : ByteArray).data.toList) hok FV
    have CS2 := hid (fun (W : World) (hW : Below w2.heap.size w2 W) => implSpotsOf_c (⟨#[97, 46, 98]⟩ : ByteArray) (TT.out W hW).1 (TT.out W hW).2 (by unfold maxLen; decide))
    have CS1 := fun (W : World) (hO : Below w4.heap.size w4 W) => implSpotsOf_c (⟨#[97, 46, 98]⟩ : ByteArray) (TN.out W hO).1 (TN.out W hO).2 (by unfold maxLen; decide)
    have CU := fun (W : World) (hO : Below w4.heap.size w4 W) => implUsersOf_c nm (TN.out W hO).1 (TN.out W hO).2
    have CV := fun (W : World) (hO : Below w4.heap.size w4 W) => implValidTreeX_c (TN.out W hO).1 (TN.out W hO).2
    simp only [FS] at CS1
    simp only [FU] at CU
    simp only [FV] at CV
    replace CS1 := hid CS1
    replace CU := hid CU
    replace CV := hid CV
    have hs30 := spotsT_len L H q (⟨#[97, 46, 98]⟩ : ByteArray).data.toList
    generalize spotsT L H q (⟨#[97, 46, 98]⟩ : ByteArray).data.toList = SP at *
    generalize hmS : SP.length = m at *
    have HM := hid hmS
    have d0 := ((KB.out.to HW7.out).2 0 _ rfl).1
    have d1 := ((KB.out.to HW7.out).2 1 _ rfl).1
    have d2 := ((KB.out.to HW7.out).2 2 _ rfl).1
    clear FV FU FS hX hok hkx hmS
    go_wp2_with fail
    refine (CS2.out _ HW7.out).mono ?_
    rintro e w8 ⟨v8, rfl, ho8, hb⟩
    obtain ⟨A8, c8, rfl, _, hm8⟩ := (Sl.of_own ho8).form
    have HW8 := hid (HW7.out.trans (hb.mono HW7.out.size))
    have HO8 := hid (HO7.out.trans (hb.mono HO7.out.size))
    have O8 := hid (Sl.of_own ho8)
    clear ho8 hb d0 d1 d2
    obtain ⟨wa, hwa⟩ : ∃ wa, wa = w8.alloc (.cells #[] 56) := ⟨_, rfl⟩
    have hba : Below w8.heap.size w8 wa := by rw [hwa]; exact (Below.refl _ _).alloc (Nat.le_refl _) _
    have H0 := hid (show wa.ownsRow w8.heap.size 56 2 (.slice (some ⟨w8.heap.size, 0, none⟩) 0 0) 0 [] by rw [hwa]; exact World.ownsRow_lit w8 #[] 0 (Nat.le_refl _) (by unfold maxLen; omega) rfl)
    have HBa := hid hba
    have HWa := hid (HW8.out.trans (hba.mono HW8.out.size))
    have HOa := hid (HO8.out.trans (hba.mono HO8.out.size))
    clear hba
    go_wp2_with fail
    rw [← hwa]
    clear hwa
    go_loopw [10, 11] (fun sv jv wr => ∃ (j : Nat) (cur : List Spt), jv = .int .i64 j ∧ j ≤ m ∧ Hid (cur = (SP.take j).filter (notH nm.data.toList)) ∧ wr.ownsRow w8.heap.size 56 2 sv cur.length (cur.flatMap spcells) ∧ Hid (Below w2.heap.size w2 wr) ∧ Hid (Below w4.heap.size w4 wr) ∧ Hid (Below w8.heap.size w8 wr)) (fun _ jv _ => m - (intOf jv).toNat)
    case atStart => exact ⟨0, [], rfl, Nat.zero_le _, rfl, H0.out, HWa.out, HOa.out, HBa.out⟩
    case round =>
      obtain ⟨j, cur, rfl, hj, HCu, hown, HWr, HOr, HQr⟩ := hrel
      obtain ⟨Ay, cy, rfl, _, _⟩ := (Sl.of_own hown).form
      have HOj := hid hown
      clear hown
      by_cases hjm : j < m
      · obtain ⟨b, o, x, rfl, hbB, hx, hc⟩ := Sl.elem spcells_len (O8.out.below HQr.out (Nat.le_refl _)) (by omega) hjm
        obtain ⟨a1, ha1, ha1'⟩ := txt_mk x.lg
        obtain ⟨a2, ha2, ha2'⟩ := txt_mk x.hd
        have c0 : wr.cell? ⟨b, o + j * 2, none⟩ = some (.string a1) := hc 0 _ (by unfold spcells; rw [ha1]; rfl)
        have c1 : wr.cell? ⟨b, o + j * 2 + 1, none⟩ = some (.string a2) := hc 1 _ (by unfold spcells; rw [ha2]; rfl)
        have HX := hid (And.intro hx (And.intro ha1' ha2'))
        have hlj : cur.length ≤ 1048576 := by rw [HCu.out]; have h9 := List.length_filter_le (notH nm.data.toList) (SP.take j); rw [List.length_take] at h9; have := HM.out; omega
        have s0 : (0 : Int) ≤ (j : Int) := by omega
        have s1 : (j : Int) < (m : Int) := by omega
        have s2 : ((j : Int)).toNat = j := by simp
        clear hx hc ha1 ha2 ha1' ha2'
        by_cases he : a2.data.toList = nm.data.toList
        · have e1 := eq_true_of he
          have HK := hid (show ((SP.take (j + 1)).filter (notH nm.data.toList)) = cur by rw [filtQ_drop HX.out.1 (by unfold notH; rw [← HX.out.2.2, he]; simp), HCu.out])
          clear he
          go_wp2_with fail
          go_roundw
          case rel => exact ⟨j + 1, cur, by go_num, by omega, HK.out.symm, HOj.out, HWr.out, HOr.out, HQr.out⟩
          case measure => simp [intOf]; omega
        · have e1 := eq_false_of he
          have HK := hid (show ((SP.take (j + 1)).filter (notH nm.data.toList)) = cur ++ [⟨a1.data.toList, a2.data.toList⟩] by rw [filtQ_keep HX.out.1 (by unfold notH; rw [← HX.out.2.2]; simp [he]), HCu.out, HX.out.2.1, HX.out.2.2])
          clear he
          go_wp2_with (at_builtin; refine appSpot _ rfl (.tmp 69) (.tmp 74) rfl w8.heap.size _ cur (by rfl) HOj.out a1 a2 _ _ _ (by rfl) (by simp) hlj HQr.out.size ?_)
          intro v' wz ho2 hb2
          have HO2 := hid ho2
          have HQ2 := hid (HQr.out.trans hb2)
          have HW2 := hid (HW8.out.trans (HQ2.out.mono HW8.out.size))
          have HO3 := hid (HO8.out.trans (HQ2.out.mono HO8.out.size))
          clear ho2 hb2
          go_wp2_with fail
          go_roundw
          case rel =>
            refine ⟨j + 1, cur ++ [(⟨a1.data.toList, a2.data.toList⟩ : Spt)], by go_num, by omega, ?_, by simpa using HO2.out, HW2.out, HO3.out, HQ2.out⟩
            exact HK.out.symm
          case measure => simp [intOf]; omega
      · obtain rfl : j = m := by omega
        have hcl : cur = SP.filter (notH nm.data.toList) := by rw [HCu.out, List.take_of_length_le (by rw [HM.out]; exact Nat.le_refl _)]
        rw [← hcl] at CS1
        have o0 := ((KO.out.to HOr.out).2 0 _ rfl).1
        have o1 := ((KO.out.to HOr.out).2 1 _ rfl).1
        have o2 := ((KO.out.to HOr.out).2 2 _ rfl).1
        clear hcl
        go_wp2_with fail
        refine (CU.out _ HOr.out).mono ?_
        rintro e wu ⟨vu, rfl, hou, hb⟩
        obtain ⟨Au, cu, rfl, _, hmu⟩ := (Sl.of_own hou).form
        have HWu := hid (HWr.out.trans (hb.mono HWr.out.size))
        have HOu := hid (HOr.out.trans (hb.mono HOr.out.size))
        have OFu := hid (own_below HOj.out hb)
        clear hou hb o0 o1 o2
        have o0 := ((KO.out.to HOu.out).2 0 _ rfl).1
        have o1 := ((KO.out.to HOu.out).2 1 _ rfl).1
        have o2 := ((KO.out.to HOu.out).2 2 _ rfl).1
        go_wp2_with fail
        refine (CS1.out _ HOu.out).mono ?_
        rintro e wf ⟨vf, rfl, hof, hb⟩
        obtain ⟨Af, cf, rfl, _, hmf⟩ := (Sl.of_own hof).form
        have CQ := hid (equalSpots_c _ _ _ wf.heap.size cur wf (Sl.of_own hof) (((Sl.of_own OFu.out).below hb (Nat.le_refl _)).more hb.size) (Nat.le_refl _))
        have HWf := hid (HWu.out.trans (hb.mono HWu.out.size))
        have HOf := hid (HOu.out.trans (hb.mono HOu.out.size))
        clear hof hb o0 o1 o2
        go_wp2_with fail
        refine CQ.out.mono ?_
        rintro e wg ⟨rfl, hb⟩
        have HWg := hid (HWf.out.trans (hb.mono HWf.out.size))
        have HOg := hid (HOf.out.trans (hb.mono HOf.out.size))
        clear hb
        have o0 := ((KO.out.to HOg.out).2 0 _ rfl).1
        have o1 := ((KO.out.to HOg.out).2 1 _ rfl).1
        have o2 := ((KO.out.to HOg.out).2 2 _ rfl).1
        go_wp2_with fail
        refine (CV.out _ HOg.out).mono ?_
        rintro e wv ⟨rfl, hb⟩
        have HWv := hid (HWg.out.trans (hb.mono HWg.out.size))
        clear hb o0 o1 o2
        go_wp2_with fail
        go_ret
        exact ⟨rfl, HB.out.trans (HWv.out.mono HB.out.size)⟩
end Go.Proofs.Yteoblmhbjmefoaa
