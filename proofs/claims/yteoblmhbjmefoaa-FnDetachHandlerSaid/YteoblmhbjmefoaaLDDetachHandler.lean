/-
  WALK: the law FnDetachHandler. By gen_t.py.
-/
import Derived.Test.YteoblmhbjmefoaaDTM2
import Derived.Test.YteoblmhbjmefoaaE21
import Derived.Test.YteoblmhbjmefoaaE13
import Derived.Test.YteoblmhbjmefoaaLookI
namespace Go.Proofs.Yteoblmhbjmefoaa
open Go.RowKit Nm
set_option linter.unusedSimpArgs false
set_option linter.unusedVariables false

theorem fit_none : dataFit [] [] := ⟨⟨by simp, by simp⟩, ⟨by simp, by simp⟩⟩

set_option maxHeartbeats 8000000 in
set_option maxRecDepth 100000 in
theorem walk_FnDetachHandler (a0 : Option Addr) (len0 cap0 : Nat) (z0 : List Int) (w : World) (w0 : IsRow .u8 w a0 len0 cap0 z0) :
    Calls Try.prog 11 #[.slice a0 len0 cap0] w (BoolPost w true) := by
  have hb0 := w0.leT
  by_cases h1 : (1048576 : Int) < (len0 : Int)
  · go_enter Try.func11, Try.ntmps11
    go_wp2_with fail
    go_ret
    exact ⟨rfl, Below.refl _ _⟩
  have DR := hid (drawDetachHandler_c a0 len0 cap0 z0 w w0)
  clear w0
  go_enter Try.func11, Try.ntmps11
  go_wp2_with fail
  refine DR.out.mono ?_
  rintro e w1 ⟨v, rs, L, H, q, nm, to, rfl, hs, hsm, hnm, hto, hr, hb⟩
  obtain ⟨A1, n1, k1, A2, n2, k2, rfl, hn1, hn2⟩ := hs.form_ hr
  have hd := sm_fit hsm (by omega)
  have TI0 := hs.at_ hr hd
  have hbx : Below w1.heap.size w1 (w1.alloc (.cells #[.slice A1 n1 k1, .slice A2 n2 k2, .int .i64 q] 30)) := (Below.refl _ _).alloc (Nat.le_refl _) _
  have TI := hid (TI0.below hbx (Nat.le_refl _))
  have KB := hid (Blk.new w1 #[.slice A1 n1 k1, .slice A2 n2 k2, .int .i64 q] 30)
  have HB := hid (hb.trans (hbx.mono hb.size))
  have hl1 : w1.heap.size < (w1.alloc (.cells #[.slice A1 n1 k1, .slice A2 n2 k2, .int .i64 q] 30)).heap.size := by simp
  have HL := hid (And.intro hn1 (And.intro hsm.1 hsm.2.1.1))
  replace hd := hid hd
  clear hs hr hb hn1 hn2 hsm TI0 hbx DR
  go_wp2_with fail
  generalize hbb : w1.heap.size = bb at *
  generalize w1.alloc (.cells #[.slice A1 n1 k1, .slice A2 n2 k2, .int .i64 q] 30) = w2 at *
  clear hbb
  have d0 := (KB.out.2 0 _ rfl).1
  have d1 := (KB.out.2 1 _ rfl).1
  have d2 := (KB.out.2 2 _ rfl).1
  have HW := hid (Below.refl w2.heap.size w2)
  have TT := hid (fun (W : World) (hW : Below w2.heap.size w2 W) => (And.intro (TI.out.below hW (Nat.le_of_lt hl1)) (Nat.le_trans (Nat.le_of_lt hl1) hW.size)))
  rcases det_cases L H q nm.data.toList to.data.toList with hX | ⟨kx, lx, hok, hlx, hnx, htx, hX⟩
  · clear hd
    have CI := hid (fun (W : World) (hW : Below w2.heap.size w2 W) => (show Calls Try.prog 22 #[.agg #[.slice A1 n1 k1, .slice A2 n2 k2, .int .i64 q], .string nm, .string to] W (fun e w' => ∃ v2 rs, e = .returned (.tuple #[v2, .bool false]) ∧ TreeS rs v2 ([]) [] 0 ∧ Rows w' W.heap.size rs ∧ Below W.heap.size W w') from by have h9 := implDetachHandler_c nm to (TT.out W hW).1 (TT.out W hW).2; rw [hX] at h9; exact h9))
    have CS := hid (fun (W : World) (hW : Below w2.heap.size w2 W) => (show Calls Try.prog 21 #[.agg #[.slice A1 n1 k1, .slice A2 n2 k2, .int .i64 q], .string nm, .string to] W (fun e w' => ∃ v2 rs, e = .returned (.tuple #[v2, .bool false]) ∧ TreeS rs v2 ([]) [] 0 ∧ Rows w' W.heap.size rs ∧ Below W.heap.size W w') from by have h9 := specDetachHandler_c nm to (TT.out W hW).1 (TT.out W hW).2; rw [hX] at h9; exact h9))
    go_wp2_with fail
    refine (CI.out _ HW.out).mono ?_
    rintro e w3 ⟨v3, rs3, rfl, hs3, hr3, hb⟩
    obtain ⟨A3, n3, k3, A4, n4, k4, rfl, -, -⟩ := hs3.form_ hr3
    have hbx3 : Below w3.heap.size w3 (w3.alloc (.cells #[.slice A3 n3 k3, .slice A4 n4 k4, .int .i64 0] 30)) := (Below.refl _ _).alloc (Nat.le_refl _) _
    have TO := hid ((hs3.at_ hr3 fit_none).below hbx3 (Nat.le_refl _))
    have KO := hid (Blk.new w3 #[.slice A3 n3 k3, .slice A4 n4 k4, .int .i64 0] 30)
    have HW4 := hid (HW.out.trans ((hb.trans (hbx3.mono hb.size)).mono HW.out.size))
    have hlo : w3.heap.size < (w3.alloc (.cells #[.slice A3 n3 k3, .slice A4 n4 k4, .int .i64 0] 30)).heap.size := by simp
    clear hs3 hr3 hb hbx3 d0 d1 d2
    obtain ⟨⟨d0, _⟩, ⟨d1, _⟩, ⟨d2, _⟩⟩ := (And.intro ((KB.out.to HW4.out).2 0 _ rfl) (And.intro ((KB.out.to HW4.out).2 1 _ rfl) ((KB.out.to HW4.out).2 2 _ rfl)))
    go_wp2_with fail
    generalize hbo : w3.heap.size = bo at *
    generalize w3.alloc (.cells #[.slice A3 n3 k3, .slice A4 n4 k4, .int .i64 0] 30) = w4 at *
    clear hbo
    refine (CS.out _ HW4.out).mono ?_
    rintro e w5 ⟨v5, rs5, rfl, hs5, hr5, hb⟩
    obtain ⟨A5, n5, k5, A6, n6, k6, rfl, -, -⟩ := hs5.form_ hr5
    have hbx5 : Below w5.heap.size w5 (w5.alloc (.cells #[.slice A5 n5 k5, .slice A6 n6 k6, .int .i64 0] 30)) := (Below.refl _ _).alloc (Nat.le_refl _) _
    have hb46 : Below w4.heap.size w4 (w5.alloc (.cells #[.slice A5 n5 k5, .slice A6 n6 k6, .int .i64 0] 30)) := hb.trans (hbx5.mono hb.size)
    have TW := hid ((hs5.at_ hr5 fit_none).below hbx5 (Nat.le_refl _))
    have KW := hid (Blk.new w5 #[.slice A5 n5 k5, .slice A6 n6 k6, .int .i64 0] 30)
    have HO6 := hid hb46
    have HW6 := hid (HW4.out.trans (hb46.mono HW4.out.size))
    have hlw : w5.heap.size < (w5.alloc (.cells #[.slice A5 n5 k5, .slice A6 n6 k6, .int .i64 0] 30)).heap.size := by simp
    clear hs5 hr5 hb hbx5 hb46 d0 d1 d2
    have o0 := ((KO.out.to HO6.out).2 0 _ rfl).1
    have o1 := ((KO.out.to HO6.out).2 1 _ rfl).1
    have o2 := ((KO.out.to HO6.out).2 2 _ rfl).1
    have p0 := (KW.out.2 0 _ rfl).1
    have p1 := (KW.out.2 1 _ rfl).1
    have p2 := (KW.out.2 2 _ rfl).1
    go_wp2_with fail
    generalize hbw : w5.heap.size = bw at *
    generalize w5.alloc (.cells #[.slice A5 n5 k5, .slice A6 n6 k6, .int .i64 0] 30) = w6 at *
    clear hbw
    have CE := hid (fun (W : World) (hW : Below w6.heap.size w6 W) => equalTree_c (TO.out.below (HO6.out.trans (hW.mono HO6.out.size)) (Nat.le_of_lt hlo)) (TW.out.below hW (Nat.le_of_lt hlw)) (Nat.le_trans (Nat.le_of_lt hlo) (Nat.le_trans HO6.out.size hW.size)) (Nat.le_trans (Nat.le_of_lt hlw) hW.size))
    refine (CE.out _ (Below.refl _ _)).mono ?_
    rintro e w7 ⟨rfl, hb⟩
    have HE7 := hid hb
    have HO7 := hid (HO6.out.trans (hb.mono HO6.out.size))
    have HW7 := hid (HW6.out.trans (hb.mono HW6.out.size))
    clear hb o0 o1 o2 p0 p1 p2
    have o0 := ((KO.out.to HO7.out).2 0 _ rfl).1
    have o1 := ((KO.out.to HO7.out).2 1 _ rfl).1
    have o2 := ((KO.out.to HO7.out).2 2 _ rfl).1
    have p0 := ((KW.out.to HE7.out).2 0 _ rfl).1
    have p1 := ((KW.out.to HE7.out).2 1 _ rfl).1
    have p2 := ((KW.out.to HE7.out).2 2 _ rfl).1
    go_wp2_with fail
    refine (CE.out _ HE7.out).mono ?_
    rintro e w8 ⟨rfl, hb⟩
    have HW8 := hid (HW7.out.trans (hb.mono HW7.out.size))
    clear hb o0 o1 o2 p0 p1 p2
    go_wp2_with fail
    go_ret
    exact ⟨rfl, HB.out.trans (HW8.out.mono HB.out.size)⟩
  · have DX : dataFit (updL L kx (woL to.data.toList)) H := by have h9 := det_res_fit L H q nm.data.toList to.data.toList; rw [hX] at h9; exact h9
    replace DX := hid DX
    obtain ⟨hA, hUs, hCn⟩ := det_facts hok hlx hnx htx
    have DY : dataFit (updL (updL L kx (woL to.data.toList)) kx (addHL to.data.toList)) H := by have h9 := att_fit (updL L kx (woL to.data.toList)) H q nm.data.toList (addHL to.data.toList); rw [hA] at h9; exact h9
    replace DY := hid DY
    have CI := hid (fun (W : World) (hW : Below w2.heap.size w2 W) => (show Calls Try.prog 22 #[.agg #[.slice A1 n1 k1, .slice A2 n2 k2, .int .i64 q], .string nm, .string to] W (fun e w' => ∃ v2 rs, e = .returned (.tuple #[v2, .bool true]) ∧ TreeS rs v2 ((updL L kx (woL to.data.toList))) H q ∧ Rows w' W.heap.size rs ∧ Below W.heap.size W w') from by have h9 := implDetachHandler_c nm to (TT.out W hW).1 (TT.out W hW).2; rw [hX] at h9; exact h9))
    have CS := hid (fun (W : World) (hW : Below w2.heap.size w2 W) => (show Calls Try.prog 21 #[.agg #[.slice A1 n1 k1, .slice A2 n2 k2, .int .i64 q], .string nm, .string to] W (fun e w' => ∃ v2 rs, e = .returned (.tuple #[v2, .bool true]) ∧ TreeS rs v2 ((updL L kx (woL to.data.toList))) H q ∧ Rows w' W.heap.size rs ∧ Below W.heap.size W w') from by have h9 := specDetachHandler_c nm to (TT.out W hW).1 (TT.out W hW).2; rw [hX] at h9; exact h9))
    go_wp2_with fail
    refine (CI.out _ HW.out).mono ?_
    rintro e w3 ⟨v3, rs3, rfl, hs3, hr3, hb⟩
    obtain ⟨A3, n3, k3, A4, n4, k4, rfl, -, -⟩ := hs3.form_ hr3
    have hbx3 : Below w3.heap.size w3 (w3.alloc (.cells #[.slice A3 n3 k3, .slice A4 n4 k4, .int .i64 q] 30)) := (Below.refl _ _).alloc (Nat.le_refl _) _
    have TO := hid ((hs3.at_ hr3 DX.out).below hbx3 (Nat.le_refl _))
    have KO := hid (Blk.new w3 #[.slice A3 n3 k3, .slice A4 n4 k4, .int .i64 q] 30)
    have HW4 := hid (HW.out.trans ((hb.trans (hbx3.mono hb.size)).mono HW.out.size))
    have hlo : w3.heap.size < (w3.alloc (.cells #[.slice A3 n3 k3, .slice A4 n4 k4, .int .i64 q] 30)).heap.size := by simp
    clear hs3 hr3 hb hbx3 d0 d1 d2
    obtain ⟨⟨d0, _⟩, ⟨d1, _⟩, ⟨d2, _⟩⟩ := (And.intro ((KB.out.to HW4.out).2 0 _ rfl) (And.intro ((KB.out.to HW4.out).2 1 _ rfl) ((KB.out.to HW4.out).2 2 _ rfl)))
    go_wp2_with fail
    generalize hbo : w3.heap.size = bo at *
    generalize w3.alloc (.cells #[.slice A3 n3 k3, .slice A4 n4 k4, .int .i64 q] 30) = w4 at *
    clear hbo
    refine (CS.out _ HW4.out).mono ?_
    rintro e w5 ⟨v5, rs5, rfl, hs5, hr5, hb⟩
    obtain ⟨A5, n5, k5, A6, n6, k6, rfl, -, -⟩ := hs5.form_ hr5
    have hbx5 : Below w5.heap.size w5 (w5.alloc (.cells #[.slice A5 n5 k5, .slice A6 n6 k6, .int .i64 q] 30)) := (Below.refl _ _).alloc (Nat.le_refl _) _
    have hb46 : Below w4.heap.size w4 (w5.alloc (.cells #[.slice A5 n5 k5, .slice A6 n6 k6, .int .i64 q] 30)) := hb.trans (hbx5.mono hb.size)
    have TW := hid ((hs5.at_ hr5 DX.out).below hbx5 (Nat.le_refl _))
    have KW := hid (Blk.new w5 #[.slice A5 n5 k5, .slice A6 n6 k6, .int .i64 q] 30)
    have HO6 := hid hb46
    have HW6 := hid (HW4.out.trans (hb46.mono HW4.out.size))
    have hlw : w5.heap.size < (w5.alloc (.cells #[.slice A5 n5 k5, .slice A6 n6 k6, .int .i64 q] 30)).heap.size := by simp
    clear hs5 hr5 hb hbx5 hb46 d0 d1 d2
    have o0 := ((KO.out.to HO6.out).2 0 _ rfl).1
    have o1 := ((KO.out.to HO6.out).2 1 _ rfl).1
    have o2 := ((KO.out.to HO6.out).2 2 _ rfl).1
    have p0 := (KW.out.2 0 _ rfl).1
    have p1 := (KW.out.2 1 _ rfl).1
    have p2 := (KW.out.2 2 _ rfl).1
    go_wp2_with fail
    generalize hbw : w5.heap.size = bw at *
    generalize w5.alloc (.cells #[.slice A5 n5 k5, .slice A6 n6 k6, .int .i64 q] 30) = w6 at *
    clear hbw
    have CE := hid (fun (W : World) (hW : Below w6.heap.size w6 W) => equalTree_c (TO.out.below (HO6.out.trans (hW.mono HO6.out.size)) (Nat.le_of_lt hlo)) (TW.out.below hW (Nat.le_of_lt hlw)) (Nat.le_trans (Nat.le_of_lt hlo) (Nat.le_trans HO6.out.size hW.size)) (Nat.le_trans (Nat.le_of_lt hlw) hW.size))
    refine (CE.out _ (Below.refl _ _)).mono ?_
    rintro e w7 ⟨rfl, hb⟩
    have HE7 := hid hb
    have HO7 := hid (HO6.out.trans (hb.mono HO6.out.size))
    have HW7 := hid (HW6.out.trans (hb.mono HW6.out.size))
    clear hb o0 o1 o2 p0 p1 p2
    have TN := hid (fun (W : World) (hO : Below w4.heap.size w4 W) => (And.intro (TO.out.below hO (Nat.le_of_lt hlo)) (Nat.le_trans (Nat.le_of_lt hlo) hO.size)))
    have CX := hid (fun (W : World) (hO : Below w4.heap.size w4 W) => (show Calls Try.prog 43 #[.agg #[.slice A3 n3 k3, .slice A4 n4 k4, .int .i64 q], .string nm, .string to] W (fun e w' => ∃ v2 rs, e = .returned (.tuple #[v2, .bool true]) ∧ TreeS rs v2 ((updL (updL L kx (woL to.data.toList)) kx (addHL to.data.toList))) H q ∧ Rows w' W.heap.size rs ∧ Below W.heap.size W w') from by have h9 := implAttachHandler_c nm to (TN.out W hO).1 (TN.out W hO).2 (by unfold maxTxt; omega); rw [hA] at h9; exact h9))
    have CU0 := fun (W : World) (B : Nat) (v : Value) (h : TreeIn W B v (updL (updL L kx (woL to.data.toList)) kx (addHL to.data.toList)) H q) (hB : B ≤ W.heap.size) => implUsersOf_c to h hB
    simp only [hUs] at CU0
    replace CU0 := hid CU0
    have CU1 := hid (fun (W : World) (hO : Below w4.heap.size w4 W) => implUsersOf_c to (TN.out W hO).1 (TN.out W hO).2)
    have CU2 := hid (fun (W : World) (hW : Below w2.heap.size w2 W) => implUsersOf_c to (TT.out W hW).1 (TT.out W hW).2)
    have hus8 := usersT_len L H q to.data.toList
    generalize usersT L H q to.data.toList = US at *
    generalize usersT (updL L kx (woL to.data.toList)) H q to.data.toList = UD at *
    generalize hm1 : UD.length = m1 at *
    generalize hm2 : US.length = m2 at *
    have q1 : IntKind.i64.wrap ((m2 : Int) - 1) = (m2 : Int) - 1 := by rw [IntKind.wrap_i64]; omega
    have q2 : ((m1 : Int) == (m2 : Int) - 1) = true := by simp; omega
    have HM1 := hid hm1
    have HM2 := hid hm2
    have o0 := ((KO.out.to HO7.out).2 0 _ rfl).1
    have o1 := ((KO.out.to HO7.out).2 1 _ rfl).1
    have o2 := ((KO.out.to HO7.out).2 2 _ rfl).1
    clear hX hok hlx hnx htx hA hUs hCn hm1 hm2 hus8
    go_wp2_with fail
    refine (CX.out _ HO7.out).mono ?_
    rintro e wx ⟨vx, rsx, rfl, hsx, hrx, hb⟩
    obtain ⟨A7, n7, k7, A8, n8, k8, rfl, -, -⟩ := hsx.form_ hrx
    have hbx8 : Below wx.heap.size wx (wx.alloc (.cells #[.slice A7 n7 k7, .slice A8 n8 k8, .int .i64 q] 30)) := (Below.refl _ _).alloc (Nat.le_refl _) _
    have TX := hid ((hsx.at_ hrx DY.out).below hbx8 (Nat.le_refl _))
    have HWx := hid (HW7.out.trans ((hb.trans (hbx8.mono hb.size)).mono HW7.out.size))
    have HOx := hid (HO7.out.trans ((hb.trans (hbx8.mono hb.size)).mono HO7.out.size))
    have KX := hid (Blk.new wx #[.slice A7 n7 k7, .slice A8 n8 k8, .int .i64 q] 30)
    have hl8 : wx.heap.size ≤ (wx.alloc (.cells #[.slice A7 n7 k7, .slice A8 n8 k8, .int .i64 q] 30)).heap.size := by simp
    clear o0 o1 o2 hsx hrx hb hbx8
    go_wp2_with fail
    generalize hbx : wx.heap.size = bx at *
    generalize wx.alloc (.cells #[.slice A7 n7 k7, .slice A8 n8 k8, .int .i64 q] 30) = wy at *
    clear hbx
    have HXx := hid (Below.refl wy.heap.size wy)
    have HWd := hid (HWx.out.drew)
    have HOd := hid (HOx.out.drew)
    have HXd := hid (HXx.out.drew)
    refine wp_region_held_drew (S := (fun w' : World => (w'.cell? ⟨bo, 0, none⟩ = some (.slice A3 n3 k3) ∧ w'.cell? ⟨bo, 1, none⟩ = some (.slice A4 n4 k4) ∧ w'.cell? ⟨bo, 2, none⟩ = some (.int .i64 q)) ∧ (w'.cell? ⟨bb, 0, none⟩ = some (.slice A1 n1 k1) ∧ w'.cell? ⟨bb, 1, none⟩ = some (.slice A2 n2 k2) ∧ w'.cell? ⟨bb, 2, none⟩ = some (.int .i64 q)) ∧ (w'.cell? ⟨bx, 0, none⟩ = some (.slice A7 n7 k7) ∧ w'.cell? ⟨bx, 1, none⟩ = some (.slice A8 n8 k8) ∧ w'.cell? ⟨bx, 2, none⟩ = some (.int .i64 q)))) (by kernel_rfl) ⟨⟨((KO.out.to HOd.out).2 0 _ rfl).1, ((KO.out.to HOd.out).2 1 _ rfl).1, ((KO.out.to HOd.out).2 2 _ rfl).1⟩, ⟨((KB.out.to HWd.out).2 0 _ rfl).1, ((KB.out.to HWd.out).2 1 _ rfl).1, ((KB.out.to HWd.out).2 2 _ rfl).1⟩, ⟨((KX.out.to HXd.out).2 0 _ rfl).1, ((KX.out.to HXd.out).2 1 _ rfl).1, ((KX.out.to HXd.out).2 2 _ rfl).1⟩⟩ (fun hS => ?_)
    refine wpAnyH_take (i := 0) (oi := ?oi101) (v := ?v101) ?hi101 (by kernel_rfl) ?hf101 ?hr101 ?hQ101 (Or.inl ⟨?hw101, ?hy101⟩) (by assumption) ?rest101
    case hi101 => simp only [List.getElem?_toArray, List.getElem?_cons_succ, List.getElem?_cons_zero]; rfl
    case hf101 => kernel_rfl
    case hr101 => kernel_rfl
    case hw101 => rfl
    case hy101 => (intro w hSw; (try dsimp only at hSw); go_simp; all_goals (first | done | with_reducible rfl))
    case hQ101 => exact fun _ _ _ h => h
    simp only [Act.put, List.setIfInBounds_toArray, List.set_cons_zero, List.set_cons_succ]
    refine wpAnyH_take (i := 1) (oi := ?oi102) (v := ?v102) ?hi102 (by kernel_rfl) ?hf102 ?hr102 ?hQ102 (Or.inl ⟨?hw102, ?hy102⟩) (by assumption) ?rest102
    case hi102 => simp only [List.getElem?_toArray, List.getElem?_cons_succ, List.getElem?_cons_zero]; rfl
    case hf102 => kernel_rfl
    case hr102 => kernel_rfl
    case hw102 => rfl
    case hy102 => (intro w hSw; (try dsimp only at hSw); go_simp; all_goals (first | done | with_reducible rfl))
    case hQ102 => exact fun _ _ _ h => h
    simp only [Act.put, List.setIfInBounds_toArray, List.set_cons_zero, List.set_cons_succ]
    refine wpAnyH_take (i := 2) (oi := ?oi103) (v := ?v103) ?hi103 (by kernel_rfl) ?hf103 ?hr103 ?hQ103 (Or.inl ⟨?hw103, ?hy103⟩) (by assumption) ?rest103
    case hi103 => simp only [List.getElem?_toArray, List.getElem?_cons_succ, List.getElem?_cons_zero]; rfl
    case hf103 => kernel_rfl
    case hr103 => kernel_rfl
    case hw103 => rfl
    case hy103 => (intro w hSw; (try dsimp only at hSw); go_simp; all_goals (first | done | with_reducible rfl))
    case hQ103 => exact fun _ _ _ h => h
    simp only [Act.put, List.setIfInBounds_toArray, List.set_cons_zero, List.set_cons_succ]
    refine wpAnyH_take (i := 3) (oi := ?oi104) (v := ?v104) ?hi104 (by kernel_rfl) ?hf104 ?hr104 ?hQ104 (Or.inl ⟨?hw104, ?hy104⟩) (by assumption) ?rest104
    case hi104 => simp only [List.getElem?_toArray, List.getElem?_cons_succ, List.getElem?_cons_zero]; rfl
    case hf104 => kernel_rfl
    case hr104 => kernel_rfl
    case hw104 => rfl
    case hy104 => (intro w hSw; (try dsimp only at hSw); go_simp; all_goals (first | done | with_reducible rfl))
    case hQ104 => exact fun _ _ _ h => h
    simp only [Act.put, List.setIfInBounds_toArray, List.set_cons_zero, List.set_cons_succ]
    refine wpAnyH_take (i := 5) (oi := ?oi105) (v := ?v105) ?hi105 (by kernel_rfl) ?hf105 ?hr105 ?hQ105 (Or.inl ⟨?hw105, ?hy105⟩) (by assumption) ?rest105
    case hi105 => simp only [List.getElem?_toArray, List.getElem?_cons_succ, List.getElem?_cons_zero]; rfl
    case hf105 => kernel_rfl
    case hr105 => kernel_rfl
    case hw105 => rfl
    case hy105 => (intro w hSw; (try dsimp only at hSw); go_simp; all_goals (first | done | with_reducible rfl))
    case hQ105 => exact fun _ _ _ h => h
    simp only [Act.put, List.setIfInBounds_toArray, List.set_cons_zero, List.set_cons_succ]
    refine wpAnyH_take (i := 6) (oi := ?oi106) (v := ?v106) ?hi106 (by kernel_rfl) ?hf106 ?hr106 ?hQ106 (Or.inl ⟨?hw106, ?hy106⟩) (by assumption) ?rest106
    case hi106 => simp only [List.getElem?_toArray, List.getElem?_cons_succ, List.getElem?_cons_zero]; rfl
    case hf106 => kernel_rfl
    case hr106 => kernel_rfl
    case hw106 => rfl
    case hy106 => (intro w hSw; (try dsimp only at hSw); go_simp; all_goals (first | done | with_reducible rfl))
    case hQ106 => exact fun _ _ _ h => h
    simp only [Act.put, List.setIfInBounds_toArray, List.set_cons_zero, List.set_cons_succ]
    refine wpAnyH_ready (rs := [4]) (by kernel_rfl) (by simp) ?_
    refine AllReadyH.cons (o := ?oi107) ?hi107 (fun K hK => ?step107) AllReadyH.nil
    case hi107 => simp only [List.getElem?_toArray, List.getElem?_cons_succ, List.getElem?_cons_zero]; rfl
    rw [if_pos (by rfl)]
    go_simp
    go_at_call 32
    refine (CU0.out _ _ _ (TX.out.below HXd.out hl8) (Nat.le_trans hl8 HXd.out.size)).mono ?_
    rintro e w21 ⟨v21, rfl, ho21, hb⟩
    have HW21 := hid (HWd.out.trans (hb.mono HWd.out.size))
    have HO21 := hid (HOd.out.trans (hb.mono HOd.out.size))
    have HX21 := hid (HXd.out.trans (hb.mono HXd.out.size))
    obtain ⟨A21, c21, rfl, _, _⟩ := (Sl.of_own ho21).form
    have O21 := hid (Sl.of_own ho21)
    clear ho21
    clear hb
    refine hK.out _ _ ⟨⟨((KO.out.to HO21.out).2 0 _ rfl).1, ((KO.out.to HO21.out).2 1 _ rfl).1, ((KO.out.to HO21.out).2 2 _ rfl).1⟩, ⟨((KB.out.to HW21.out).2 0 _ rfl).1, ((KB.out.to HW21.out).2 1 _ rfl).1, ((KB.out.to HW21.out).2 2 _ rfl).1⟩, ⟨((KX.out.to HX21.out).2 0 _ rfl).1, ((KX.out.to HX21.out).2 1 _ rfl).1, ((KX.out.to HX21.out).2 2 _ rfl).1⟩⟩ (fun hS => ?_)
    refine wpAnyH_ready (rs := [7]) (by kernel_rfl) (by simp) ?_
    refine AllReadyH.cons (o := ?oi108) ?hi108 (fun K hK => ?step108) AllReadyH.nil
    case hi108 => simp only [List.getElem?_toArray, List.getElem?_cons_succ, List.getElem?_cons_zero]; rfl
    rw [if_pos (by rfl)]
    go_simp
    go_at_call 32
    refine (CU2.out _ HW21.out).mono ?_
    rintro e w22 ⟨v22, rfl, ho22, hb⟩
    have HW22 := hid (HW21.out.trans (hb.mono HW21.out.size))
    have HO22 := hid (HO21.out.trans (hb.mono HO21.out.size))
    have HX22 := hid (HX21.out.trans (hb.mono HX21.out.size))
    obtain ⟨A22, c22, rfl, _, _⟩ := (Sl.of_own ho22).form
    have CQ := hid (equalTexts_c _ _ _ _ w22.heap.size US US w22 ((O21.out.below hb (Nat.le_refl _)).more hb.size) (Sl.of_own ho22) (Nat.le_refl _))
    clear ho22
    clear hb
    refine hK.out _ _ ⟨⟨((KO.out.to HO22.out).2 0 _ rfl).1, ((KO.out.to HO22.out).2 1 _ rfl).1, ((KO.out.to HO22.out).2 2 _ rfl).1⟩, ⟨((KB.out.to HW22.out).2 0 _ rfl).1, ((KB.out.to HW22.out).2 1 _ rfl).1, ((KB.out.to HW22.out).2 2 _ rfl).1⟩, ⟨((KX.out.to HX22.out).2 0 _ rfl).1, ((KX.out.to HX22.out).2 1 _ rfl).1, ((KX.out.to HX22.out).2 2 _ rfl).1⟩⟩ (fun hS => ?_)
    refine wpAnyH_ready (rs := [8]) (by kernel_rfl) (by simp) ?_
    refine AllReadyH.cons (o := ?oi109) ?hi109 (fun K hK => ?step109) AllReadyH.nil
    case hi109 => simp only [List.getElem?_toArray, List.getElem?_cons_succ, List.getElem?_cons_zero]; rfl
    rw [if_pos (by rfl)]
    go_simp
    go_at_call 37
    refine (CQ.out).mono ?_
    rintro e w23 ⟨rfl, hb⟩
    have HW23 := hid (HW22.out.trans (hb.mono HW22.out.size))
    have HO23 := hid (HO22.out.trans (hb.mono HO22.out.size))
    have HX23 := hid (HX22.out.trans (hb.mono HX22.out.size))
    clear hb
    refine hK.out _ _ ⟨⟨((KO.out.to HO23.out).2 0 _ rfl).1, ((KO.out.to HO23.out).2 1 _ rfl).1, ((KO.out.to HO23.out).2 2 _ rfl).1⟩, ⟨((KB.out.to HW23.out).2 0 _ rfl).1, ((KB.out.to HW23.out).2 1 _ rfl).1, ((KB.out.to HW23.out).2 2 _ rfl).1⟩, ⟨((KX.out.to HX23.out).2 0 _ rfl).1, ((KX.out.to HX23.out).2 1 _ rfl).1, ((KX.out.to HX23.out).2 2 _ rfl).1⟩⟩ (fun hS => ?_)
    refine wpAnyH_take (i := 9) (oi := ?oi110) (v := ?v110) ?hi110 (by kernel_rfl) ?hf110 ?hr110 ?hQ110 (Or.inl ⟨?hw110, ?hy110⟩) (by assumption) ?rest110
    case hi110 => simp only [List.getElem?_toArray, List.getElem?_cons_succ, List.getElem?_cons_zero]; rfl
    case hf110 => kernel_rfl
    case hr110 => kernel_rfl
    case hw110 => rfl
    case hy110 => (intro w hSw; (try dsimp only at hSw); go_simp; all_goals (first | done | with_reducible rfl))
    case hQ110 => exact fun _ _ _ h => h
    simp only [Act.put, List.setIfInBounds_toArray, List.set_cons_zero, List.set_cons_succ]
    refine wpAnyH_take (i := 10) (oi := ?oi111) (v := ?v111) ?hi111 (by kernel_rfl) ?hf111 ?hr111 ?hQ111 (Or.inl ⟨?hw111, ?hy111⟩) (by assumption) ?rest111
    case hi111 => simp only [List.getElem?_toArray, List.getElem?_cons_succ, List.getElem?_cons_zero]; rfl
    case hf111 => kernel_rfl
    case hr111 => kernel_rfl
    case hw111 => rfl
    case hy111 => (intro w hSw; (try dsimp only at hSw); go_simp; all_goals (first | done | with_reducible rfl))
    case hQ111 => exact fun _ _ _ h => h
    simp only [Act.put, List.setIfInBounds_toArray, List.set_cons_zero, List.set_cons_succ]
    refine wpAnyH_take (i := 11) (oi := ?oi112) (v := ?v112) ?hi112 (by kernel_rfl) ?hf112 ?hr112 ?hQ112 (Or.inl ⟨?hw112, ?hy112⟩) (by assumption) ?rest112
    case hi112 => simp only [List.getElem?_toArray, List.getElem?_cons_succ, List.getElem?_cons_zero]; rfl
    case hf112 => kernel_rfl
    case hr112 => kernel_rfl
    case hw112 => rfl
    case hy112 => (intro w hSw; (try dsimp only at hSw); go_simp; all_goals (first | done | with_reducible rfl))
    case hQ112 => exact fun _ _ _ h => h
    simp only [Act.put, List.setIfInBounds_toArray, List.set_cons_zero, List.set_cons_succ]
    refine wpAnyH_take (i := 12) (oi := ?oi113) (v := ?v113) ?hi113 (by kernel_rfl) ?hf113 ?hr113 ?hQ113 (Or.inl ⟨?hw113, ?hy113⟩) (by assumption) ?rest113
    case hi113 => simp only [List.getElem?_toArray, List.getElem?_cons_succ, List.getElem?_cons_zero]; rfl
    case hf113 => kernel_rfl
    case hr113 => kernel_rfl
    case hw113 => rfl
    case hy113 => (intro w hSw; (try dsimp only at hSw); go_simp; all_goals (first | done | with_reducible rfl))
    case hQ113 => exact fun _ _ _ h => h
    simp only [Act.put, List.setIfInBounds_toArray, List.set_cons_zero, List.set_cons_succ]
    refine wpAnyH_take (i := 15) (oi := ?oi114) (v := ?v114) ?hi114 (by kernel_rfl) ?hf114 ?hr114 ?hQ114 (Or.inl ⟨?hw114, ?hy114⟩) (by assumption) ?rest114
    case hi114 => simp only [List.getElem?_toArray, List.getElem?_cons_succ, List.getElem?_cons_zero]; rfl
    case hf114 => kernel_rfl
    case hr114 => kernel_rfl
    case hw114 => rfl
    case hy114 => (intro w hSw; (try dsimp only at hSw); go_simp; all_goals (first | done | with_reducible rfl))
    case hQ114 => exact fun _ _ _ h => h
    simp only [Act.put, List.setIfInBounds_toArray, List.set_cons_zero, List.set_cons_succ]
    refine wpAnyH_take (i := 16) (oi := ?oi115) (v := ?v115) ?hi115 (by kernel_rfl) ?hf115 ?hr115 ?hQ115 (Or.inl ⟨?hw115, ?hy115⟩) (by assumption) ?rest115
    case hi115 => simp only [List.getElem?_toArray, List.getElem?_cons_succ, List.getElem?_cons_zero]; rfl
    case hf115 => kernel_rfl
    case hr115 => kernel_rfl
    case hw115 => rfl
    case hy115 => (intro w hSw; (try dsimp only at hSw); go_simp; all_goals (first | done | with_reducible rfl))
    case hQ115 => exact fun _ _ _ h => h
    simp only [Act.put, List.setIfInBounds_toArray, List.set_cons_zero, List.set_cons_succ]
    refine wpAnyH_ready (rs := [13]) (by kernel_rfl) (by simp) ?_
    refine AllReadyH.cons (o := ?oi116) ?hi116 (fun K hK => ?step116) AllReadyH.nil
    case hi116 => simp only [List.getElem?_toArray, List.getElem?_cons_succ, List.getElem?_cons_zero]; rfl
    rw [if_pos (by rfl)]
    go_simp
    go_at_call 32
    refine (CU1.out _ HO23.out).mono ?_
    rintro e w24 ⟨v24, rfl, ho24, hb⟩
    have HW24 := hid (HW23.out.trans (hb.mono HW23.out.size))
    have HO24 := hid (HO23.out.trans (hb.mono HO23.out.size))
    have HX24 := hid (HX23.out.trans (hb.mono HX23.out.size))
    obtain ⟨A24, c24, rfl, _, _⟩ := (Sl.of_own ho24).form
    rw [HM1.out]
    clear ho24
    clear hb
    refine hK.out _ _ ⟨⟨((KO.out.to HO24.out).2 0 _ rfl).1, ((KO.out.to HO24.out).2 1 _ rfl).1, ((KO.out.to HO24.out).2 2 _ rfl).1⟩, ⟨((KB.out.to HW24.out).2 0 _ rfl).1, ((KB.out.to HW24.out).2 1 _ rfl).1, ((KB.out.to HW24.out).2 2 _ rfl).1⟩, ⟨((KX.out.to HX24.out).2 0 _ rfl).1, ((KX.out.to HX24.out).2 1 _ rfl).1, ((KX.out.to HX24.out).2 2 _ rfl).1⟩⟩ (fun hS => ?_)
    refine wpAnyH_take (i := 14) (oi := ?oi117) (v := ?v117) ?hi117 (by kernel_rfl) ?hf117 ?hr117 ?hQ117 (Or.inl ⟨?hw117, ?hy117⟩) (by assumption) ?rest117
    case hi117 => simp only [List.getElem?_toArray, List.getElem?_cons_succ, List.getElem?_cons_zero]; rfl
    case hf117 => kernel_rfl
    case hr117 => kernel_rfl
    case hw117 => rfl
    case hy117 => (intro w hSw; (try dsimp only at hSw); go_simp; all_goals (first | done | with_reducible rfl))
    case hQ117 => exact fun _ _ _ h => h
    simp only [Act.put, List.setIfInBounds_toArray, List.set_cons_zero, List.set_cons_succ]
    refine wpAnyH_ready (rs := [17]) (by kernel_rfl) (by simp) ?_
    refine AllReadyH.cons (o := ?oi118) ?hi118 (fun K hK => ?step118) AllReadyH.nil
    case hi118 => simp only [List.getElem?_toArray, List.getElem?_cons_succ, List.getElem?_cons_zero]; rfl
    rw [if_pos (by rfl)]
    go_simp
    go_at_call 32
    refine (CU2.out _ HW24.out).mono ?_
    rintro e w25 ⟨v25, rfl, ho25, hb⟩
    have HW25 := hid (HW24.out.trans (hb.mono HW24.out.size))
    have HO25 := hid (HO24.out.trans (hb.mono HO24.out.size))
    have HX25 := hid (HX24.out.trans (hb.mono HX24.out.size))
    obtain ⟨A25, c25, rfl, _, _⟩ := (Sl.of_own ho25).form
    rw [HM2.out]
    clear ho25
    clear hb
    refine hK.out _ _ ⟨⟨((KO.out.to HO25.out).2 0 _ rfl).1, ((KO.out.to HO25.out).2 1 _ rfl).1, ((KO.out.to HO25.out).2 2 _ rfl).1⟩, ⟨((KB.out.to HW25.out).2 0 _ rfl).1, ((KB.out.to HW25.out).2 1 _ rfl).1, ((KB.out.to HW25.out).2 2 _ rfl).1⟩, ⟨((KX.out.to HX25.out).2 0 _ rfl).1, ((KX.out.to HX25.out).2 1 _ rfl).1, ((KX.out.to HX25.out).2 2 _ rfl).1⟩⟩ (fun hS => ?_)
    refine wpAnyH_take (i := 18) (oi := ?oi119) (v := ?v119) ?hi119 (by kernel_rfl) ?hf119 ?hr119 ?hQ119 (Or.inl ⟨?hw119, ?hy119⟩) (by assumption) ?rest119
    case hi119 => simp only [List.getElem?_toArray, List.getElem?_cons_succ, List.getElem?_cons_zero]; rfl
    case hf119 => kernel_rfl
    case hr119 => kernel_rfl
    case hw119 => rfl
    case hy119 => (intro w hSw; (try dsimp only at hSw); go_simp; all_goals (first | done | with_reducible rfl))
    case hQ119 => exact fun _ _ _ h => h
    simp only [Act.put, List.setIfInBounds_toArray, List.set_cons_zero, List.set_cons_succ]
    refine wpAnyH_take (i := 19) (oi := ?oi120) (v := ?v120) ?hi120 (by kernel_rfl) ?hf120 ?hr120 ?hQ120 (Or.inl ⟨?hw120, ?hy120⟩) (by assumption) ?rest120
    case hi120 => simp only [List.getElem?_toArray, List.getElem?_cons_succ, List.getElem?_cons_zero]; rfl
    case hf120 => kernel_rfl
    case hr120 => kernel_rfl
    case hw120 => rfl
    case hy120 => (intro w hSw; (try dsimp only at hSw); go_simp; all_goals (first | done | with_reducible rfl))
    case hQ120 => exact fun _ _ _ h => h
    simp only [Act.put, List.setIfInBounds_toArray, List.set_cons_zero, List.set_cons_succ]
    refine wpAnyH_take (i := 20) (oi := ?oi121) (v := ?v121) ?hi121 (by kernel_rfl) ?hf121 ?hr121 ?hQ121 (Or.inl ⟨?hw121, ?hy121⟩) (by assumption) ?rest121
    case hi121 => simp only [List.getElem?_toArray, List.getElem?_cons_succ, List.getElem?_cons_zero]; rfl
    case hf121 => kernel_rfl
    case hr121 => kernel_rfl
    case hw121 => rfl
    case hy121 => (intro w hSw; (try dsimp only at hSw); go_simp; all_goals (first | done | with_reducible rfl))
    case hQ121 => exact fun _ _ _ h => h
    simp only [Act.put, List.setIfInBounds_toArray, List.set_cons_zero, List.set_cons_succ]
    refine wpAnyH_take (i := 21) (oi := ?oi122) (v := ?v122) ?hi122 (by kernel_rfl) ?hf122 ?hr122 ?hQ122 (Or.inl ⟨?hw122, ?hy122⟩) (by assumption) ?rest122
    case hi122 => simp only [List.getElem?_toArray, List.getElem?_cons_succ, List.getElem?_cons_zero]; rfl
    case hf122 => kernel_rfl
    case hr122 => kernel_rfl
    case hw122 => rfl
    case hy122 => (intro w hSw; (try dsimp only at hSw); go_simp; all_goals (first | done | with_reducible rfl))
    case hQ122 => exact fun _ _ _ h => h
    simp only [Act.put, List.setIfInBounds_toArray, List.set_cons_zero, List.set_cons_succ]
    refine wpAnyH_take (i := 22) (oi := ?oi123) (v := ?v123) ?hi123 (by kernel_rfl) ?hf123 ?hr123 ?hQ123 (Or.inl ⟨?hw123, ?hy123⟩) (by assumption) ?rest123
    case hi123 => simp only [List.getElem?_toArray, List.getElem?_cons_succ, List.getElem?_cons_zero]; rfl
    case hf123 => kernel_rfl
    case hr123 => kernel_rfl
    case hw123 => rfl
    case hy123 => (intro w hSw; (try dsimp only at hSw); go_simp; all_goals (first | done | with_reducible rfl))
    case hQ123 => exact fun _ _ _ h => h
    simp only [Act.put, List.setIfInBounds_toArray, List.set_cons_zero, List.set_cons_succ]
    refine wpAnyH_done (by kernel_rfl) ?_ _
    clear hS
    go_wp2_with fail
    go_ret
    exact ⟨rfl, HB.out.trans (HW25.out.mono HB.out.size)⟩
end Go.Proofs.Yteoblmhbjmefoaa
