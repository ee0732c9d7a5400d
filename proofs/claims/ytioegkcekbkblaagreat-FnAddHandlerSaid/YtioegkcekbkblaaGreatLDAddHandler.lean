/-
  WALK: the law FnAddHandler. By gen_addh.py.
-/
import Derived.Test.YtioegkcekbkblaaGreatSR1
import Derived.Test.YtioegkcekbkblaaGreatSR2
import Derived.Test.YtioegkcekbkblaaGreatE27
import Derived.Test.YtioegkcekbkblaaGreatAH5
import Derived.Test.YtioegkcekbkblaaGreatDL8
import Derived.Test.YtioegkcekbkblaaGreatUM
import Derived.Test.YtioegkcekbkblaaGreatEqSent
import Derived.Test.YtioegkcekbkblaaGreatE13
namespace Go.Proofs.YtioegkcekbkblaaGreat
open Go.RowKit Go.Proofs.YtioegkcekbkblaaGreat.Nm
set_option linter.unusedSimpArgs false
set_option linter.unusedVariables false
theorem fit_none : dataFit [] [] := ⟨⟨by simp, by simp⟩, ⟨by simp, by simp⟩⟩
set_option maxHeartbeats 8000000 in
set_option maxRecDepth 100000 in
theorem walk_FnAddHandler (a0 : Option Addr) (len0 cap0 : Nat) (z0 : List Int) (w : World) (w0 : IsRow .u8 w a0 len0 cap0 z0) :
    Calls Tryz.prog 8 #[.slice a0 len0 cap0] w (BoolPost w true) := by
  have hb0 := w0.leT
  by_cases h1 : (1048576 : Int) < (len0 : Int)
  · go_enter Tryz.func8, Tryz.ntmps8
    go_wp2_with fail
    go_ret
    exact ⟨rfl, Below.refl _ _⟩
  have DR := hid (drawAddHandler_c a0 len0 cap0 z0 w w0)
  clear w0
  go_enter Tryz.func8, Tryz.ntmps8
  go_wp2_with fail
  refine DR.out.mono ?_
  rintro e w1 ⟨v, rs, L, H, q, s, lv, fA, fn, fc, fs, rfl, hs, hsm, hsz, hfn, hfn4, hff, hof, hr, hb⟩
  obtain ⟨A1, n1, k1, A2, n2, k2, rfl, hn1, hn2⟩ := hs.form_ hr
  have hd := sm_fit hsm (by omega)
  have TI0 := hs.at_ hr hd
  have hbx : Below w1.heap.size w1 ((w1.alloc (.cells #[.slice A1 n1 k1, .slice A2 n2 k2, .int .i64 q] 26)).alloc (.cells #[.string s, .int .i64 lv, .slice fA fn fc] 47)) := ((Below.refl _ _).alloc (Nat.le_refl _) _).alloc (by simp) _
  have TI := hid (TI0.below hbx (Nat.le_refl _))
  have FI := hid ((Sl.of_own hof).below hbx (Nat.le_refl _))
  have KB := hid ((Blk.new w1 #[.slice A1 n1 k1, .slice A2 n2 k2, .int .i64 q] 26).alloc (.cells #[.string s, .int .i64 lv, .slice fA fn fc] 47))
  have KH := hid (Blk.new (w1.alloc (.cells #[.slice A1 n1 k1, .slice A2 n2 k2, .int .i64 q] 26)) #[.string s, .int .i64 lv, .slice fA fn fc] 47)
  simp only [World.size_alloc] at KH
  have HB := hid (hb.trans (hbx.mono hb.size))
  have hl1 : w1.heap.size < ((w1.alloc (.cells #[.slice A1 n1 k1, .slice A2 n2 k2, .int .i64 q] 26)).alloc (.cells #[.string s, .int .i64 lv, .slice fA fn fc] 47)).heap.size := by simp; omega
  have HL := hid (And.intro hn1 (And.intro hsm.1 hsm.2.1.1))
  have hz : hndFit ⟨s.data.toList, lv, fs⟩ := ⟨by show s.data.toList.length ≤ maxTxt; rw [← Lib.size_eq]; unfold maxTxt; omega, by show fs.length ≤ maxTxt; unfold maxTxt; omega, fun f hf => by have := hff f hf; unfold maxTxt; omega⟩
  have HZ9 := hid hz
  replace hd := hid hd
  clear hs hr hb hn1 hn2 hsm TI0 hbx DR hof hff hz hfn
  go_wp2_with fail
  generalize hbb : w1.heap.size = bb at *
  generalize (w1.alloc (.cells #[.slice A1 n1 k1, .slice A2 n2 k2, .int .i64 q] 26)).alloc (.cells #[.string s, .int .i64 lv, .slice fA fn fc] 47) = w2 at *
  clear hbb
  have HW := hid (Below.refl w2.heap.size w2)
  have TT := hid (fun (W : World) (hW : Below w2.heap.size w2 W) => (And.intro (TI.out.below hW (Nat.le_of_lt hl1)) (Nat.le_trans (Nat.le_of_lt hl1) hW.size)))
  have FF := hid (fun (W : World) (hW : Below w2.heap.size w2 W) => FI.out.below hW (Nat.le_of_lt hl1))
  have hfz : fn ≤ 1048576 := by omega
  obtain ⟨⟨d0, _⟩, ⟨d1, _⟩, ⟨d2, _⟩⟩ := (And.intro ((KB.out.to HW.out).2 0 _ rfl) (And.intro ((KB.out.to HW.out).2 1 _ rfl) ((KB.out.to HW.out).2 2 _ rfl)))
  obtain ⟨⟨h0, _⟩, ⟨h1, _⟩, ⟨h2, _⟩⟩ := (And.intro ((KH.out.to HW.out).2 0 _ rfl) (And.intro ((KH.out.to HW.out).2 1 _ rfl) ((KH.out.to HW.out).2 2 _ rfl)))
  rcases addHd_cases L H q ⟨s.data.toList, lv, fs⟩ with hX | ⟨hok, hok2, hX⟩
  · clear hd
    have CI := hid (fun (W : World) (hW : Below w2.heap.size w2 W) => (show Calls Tryz.prog 28 #[.agg #[.slice A1 n1 k1, .slice A2 n2 k2, .int .i64 q], .agg #[.string s, .int .i64 lv, .slice fA fn fc]] W (fun e w' => ∃ v2 rs, e = .returned (.tuple #[v2, .bool false]) ∧ TreeS rs v2 ([]) [] 0 ∧ Rows w' W.heap.size rs ∧ Below W.heap.size W w') from by have h9 := implAddHandler_c s lv (TT.out W hW).1 (TT.out W hW).2 (FF.out W hW) (TT.out W hW).2 HZ9.out hfz; rw [hX] at h9; exact h9))
    have CS := hid (fun (W : World) (hW : Below w2.heap.size w2 W) => (show Calls Tryz.prog 29 #[.agg #[.slice A1 n1 k1, .slice A2 n2 k2, .int .i64 q], .agg #[.string s, .int .i64 lv, .slice fA fn fc]] W (fun e w' => ∃ v2 rs, e = .returned (.tuple #[v2, .bool false]) ∧ TreeS rs v2 ([]) [] 0 ∧ Rows w' W.heap.size rs ∧ Below W.heap.size W w') from by have h9 := specAddHandler_c s lv (TT.out W hW).1 (TT.out W hW).2 (FF.out W hW) (TT.out W hW).2 HZ9.out hfz; rw [hX] at h9; exact h9))
    go_wp2_with fail
    refine (CI.out _ HW.out).mono ?_
    rintro e w3 ⟨v3, rs3, rfl, hs3, hr3, hb⟩
    obtain ⟨A3, n3, k3, A4, n4, k4, rfl, -, -⟩ := hs3.form_ hr3
    have hbx3 : Below w3.heap.size w3 (w3.alloc (.cells #[.slice A3 n3 k3, .slice A4 n4 k4, .int .i64 0] 26)) := (Below.refl _ _).alloc (Nat.le_refl _) _
    have TO := hid ((hs3.at_ hr3 fit_none).below hbx3 (Nat.le_refl _))
    have KO := hid (Blk.new w3 #[.slice A3 n3 k3, .slice A4 n4 k4, .int .i64 0] 26)
    have HW4 := hid (HW.out.trans ((hb.trans (hbx3.mono hb.size)).mono HW.out.size))
    have hlo : w3.heap.size < (w3.alloc (.cells #[.slice A3 n3 k3, .slice A4 n4 k4, .int .i64 0] 26)).heap.size := by simp
    clear hs3 hr3 hb hbx3 d0 d1 d2 h0 h1 h2
    obtain ⟨⟨d0, _⟩, ⟨d1, _⟩, ⟨d2, _⟩⟩ := (And.intro ((KB.out.to HW4.out).2 0 _ rfl) (And.intro ((KB.out.to HW4.out).2 1 _ rfl) ((KB.out.to HW4.out).2 2 _ rfl)))
    obtain ⟨⟨h0, _⟩, ⟨h1, _⟩, ⟨h2, _⟩⟩ := (And.intro ((KH.out.to HW4.out).2 0 _ rfl) (And.intro ((KH.out.to HW4.out).2 1 _ rfl) ((KH.out.to HW4.out).2 2 _ rfl)))
    go_wp2_with fail
    generalize hbo : w3.heap.size = bo at *
    generalize w3.alloc (.cells #[.slice A3 n3 k3, .slice A4 n4 k4, .int .i64 0] 26) = w4 at *
    clear hbo
    refine (CS.out _ HW4.out).mono ?_
    rintro e w5 ⟨v5, rs5, rfl, hs5, hr5, hb⟩
    obtain ⟨A5, n5, k5, A6, n6, k6, rfl, -, -⟩ := hs5.form_ hr5
    have hbx5 : Below w5.heap.size w5 (w5.alloc (.cells #[.slice A5 n5 k5, .slice A6 n6 k6, .int .i64 0] 26)) := (Below.refl _ _).alloc (Nat.le_refl _) _
    have hb46 : Below w4.heap.size w4 (w5.alloc (.cells #[.slice A5 n5 k5, .slice A6 n6 k6, .int .i64 0] 26)) := hb.trans (hbx5.mono hb.size)
    have TW := hid ((hs5.at_ hr5 fit_none).below hbx5 (Nat.le_refl _))
    have KW := hid (Blk.new w5 #[.slice A5 n5 k5, .slice A6 n6 k6, .int .i64 0] 26)
    have HO6 := hid hb46
    have HW6 := hid (HW4.out.trans (hb46.mono HW4.out.size))
    have hlw : w5.heap.size < (w5.alloc (.cells #[.slice A5 n5 k5, .slice A6 n6 k6, .int .i64 0] 26)).heap.size := by simp
    clear hs5 hr5 hb hbx5 hb46 d0 d1 d2 h0 h1 h2
    have o0 := ((KO.out.to HO6.out).2 0 _ rfl).1
    have o1 := ((KO.out.to HO6.out).2 1 _ rfl).1
    have o2 := ((KO.out.to HO6.out).2 2 _ rfl).1
    have p0 := (KW.out.2 0 _ rfl).1
    have p1 := (KW.out.2 1 _ rfl).1
    have p2 := (KW.out.2 2 _ rfl).1
    go_wp2_with fail
    generalize hbw : w5.heap.size = bw at *
    generalize w5.alloc (.cells #[.slice A5 n5 k5, .slice A6 n6 k6, .int .i64 0] 26) = w6 at *
    clear hbw
    have CE := hid (fun (W : World) (hW : Below w6.heap.size w6 W) => equalTree_c (TO.out.below (HO6.out.trans (hW.mono HO6.out.size)) (Nat.le_of_lt hlo)) (TW.out.below hW (Nat.le_of_lt hlw)) (Nat.le_trans (Nat.le_of_lt hlo) (Nat.le_trans HO6.out.size hW.size)) (Nat.le_trans (Nat.le_of_lt hlw) hW.size))
    refine (CE.out _ (Below.refl _ _)).mono ?_
    rintro e w7 ⟨rfl, hb⟩
    have HE7 := hid hb
    have HO7 := hid (HO6.out.trans (hb.mono HO6.out.size))
    have HW7 := hid (HW6.out.trans (hb.mono HW6.out.size))
    clear hb o0 o1 o2 p0 p1 p2
    have o0 := ((KO.out.to HO7.out).2 0 _ rfl).1
    have o1 := ((KO.out.to HO7.out).2 1 _ rfl).1
    have o2 := ((KO.out.to HO7.out).2 2 _ rfl).1
    have p0 := ((KW.out.to HE7.out).2 0 _ rfl).1
    have p1 := ((KW.out.to HE7.out).2 1 _ rfl).1
    have p2 := ((KW.out.to HE7.out).2 2 _ rfl).1
    go_wp2_with fail
    refine (CE.out _ HE7.out).mono ?_
    rintro e w8 ⟨rfl, hb⟩
    have HW8 := hid (HW7.out.trans (hb.mono HW7.out.size))
    clear hb o0 o1 o2 p0 p1 p2
    go_wp2_with fail
    go_ret
    exact ⟨rfl, HB.out.trans (HW8.out.mono HB.out.size)⟩
  · have DX : dataFit L (H ++ [⟨s.data.toList, lv, fs⟩]) := by have h9 := addHd_res_fit L H q ⟨s.data.toList, lv, fs⟩; rw [hX] at h9; exact h9
    have DL : dataFit L H := hd.out
    replace DL := hid DL
    replace DX := hid DX
    have CI := hid (fun (W : World) (hW : Below w2.heap.size w2 W) => (show Calls Tryz.prog 28 #[.agg #[.slice A1 n1 k1, .slice A2 n2 k2, .int .i64 q], .agg #[.string s, .int .i64 lv, .slice fA fn fc]] W (fun e w' => ∃ v2 rs, e = .returned (.tuple #[v2, .bool true]) ∧ TreeS rs v2 (L) (H ++ [⟨s.data.toList, lv, fs⟩]) q ∧ Rows w' W.heap.size rs ∧ Below W.heap.size W w') from by have h9 := implAddHandler_c s lv (TT.out W hW).1 (TT.out W hW).2 (FF.out W hW) (TT.out W hW).2 HZ9.out hfz; rw [hX] at h9; exact h9))
    have CS := hid (fun (W : World) (hW : Below w2.heap.size w2 W) => (show Calls Tryz.prog 29 #[.agg #[.slice A1 n1 k1, .slice A2 n2 k2, .int .i64 q], .agg #[.string s, .int .i64 lv, .slice fA fn fc]] W (fun e w' => ∃ v2 rs, e = .returned (.tuple #[v2, .bool true]) ∧ TreeS rs v2 (L) (H ++ [⟨s.data.toList, lv, fs⟩]) q ∧ Rows w' W.heap.size rs ∧ Below W.heap.size W w') from by have h9 := specAddHandler_c s lv (TT.out W hW).1 (TT.out W hW).2 (FF.out W hW) (TT.out W hW).2 HZ9.out hfz; rw [hX] at h9; exact h9))
    go_wp2_with fail
    refine (CI.out _ HW.out).mono ?_
    rintro e w3 ⟨v3, rs3, rfl, hs3, hr3, hb⟩
    obtain ⟨A3, n3, k3, A4, n4, k4, rfl, -, -⟩ := hs3.form_ hr3
    have hbx3 : Below w3.heap.size w3 (w3.alloc (.cells #[.slice A3 n3 k3, .slice A4 n4 k4, .int .i64 q] 26)) := (Below.refl _ _).alloc (Nat.le_refl _) _
    have TO := hid ((hs3.at_ hr3 DX.out).below hbx3 (Nat.le_refl _))
    have KO := hid (Blk.new w3 #[.slice A3 n3 k3, .slice A4 n4 k4, .int .i64 q] 26)
    have HW4 := hid (HW.out.trans ((hb.trans (hbx3.mono hb.size)).mono HW.out.size))
    have hlo : w3.heap.size < (w3.alloc (.cells #[.slice A3 n3 k3, .slice A4 n4 k4, .int .i64 q] 26)).heap.size := by simp
    clear hs3 hr3 hb hbx3 d0 d1 d2 h0 h1 h2
    obtain ⟨⟨d0, _⟩, ⟨d1, _⟩, ⟨d2, _⟩⟩ := (And.intro ((KB.out.to HW4.out).2 0 _ rfl) (And.intro ((KB.out.to HW4.out).2 1 _ rfl) ((KB.out.to HW4.out).2 2 _ rfl)))
    obtain ⟨⟨h0, _⟩, ⟨h1, _⟩, ⟨h2, _⟩⟩ := (And.intro ((KH.out.to HW4.out).2 0 _ rfl) (And.intro ((KH.out.to HW4.out).2 1 _ rfl) ((KH.out.to HW4.out).2 2 _ rfl)))
    go_wp2_with fail
    generalize hbo : w3.heap.size = bo at *
    generalize w3.alloc (.cells #[.slice A3 n3 k3, .slice A4 n4 k4, .int .i64 q] 26) = w4 at *
    clear hbo
    refine (CS.out _ HW4.out).mono ?_
    rintro e w5 ⟨v5, rs5, rfl, hs5, hr5, hb⟩
    obtain ⟨A5, n5, k5, A6, n6, k6, rfl, -, -⟩ := hs5.form_ hr5
    have hbx5 : Below w5.heap.size w5 (w5.alloc (.cells #[.slice A5 n5 k5, .slice A6 n6 k6, .int .i64 q] 26)) := (Below.refl _ _).alloc (Nat.le_refl _) _
    have hb46 : Below w4.heap.size w4 (w5.alloc (.cells #[.slice A5 n5 k5, .slice A6 n6 k6, .int .i64 q] 26)) := hb.trans (hbx5.mono hb.size)
    have TW := hid ((hs5.at_ hr5 DX.out).below hbx5 (Nat.le_refl _))
    have KW := hid (Blk.new w5 #[.slice A5 n5 k5, .slice A6 n6 k6, .int .i64 q] 26)
    have HO6 := hid hb46
    have HW6 := hid (HW4.out.trans (hb46.mono HW4.out.size))
    have hlw : w5.heap.size < (w5.alloc (.cells #[.slice A5 n5 k5, .slice A6 n6 k6, .int .i64 q] 26)).heap.size := by simp
    clear hs5 hr5 hb hbx5 hb46 d0 d1 d2 h0 h1 h2
    have o0 := ((KO.out.to HO6.out).2 0 _ rfl).1
    have o1 := ((KO.out.to HO6.out).2 1 _ rfl).1
    have o2 := ((KO.out.to HO6.out).2 2 _ rfl).1
    have p0 := (KW.out.2 0 _ rfl).1
    have p1 := (KW.out.2 1 _ rfl).1
    have p2 := (KW.out.2 2 _ rfl).1
    go_wp2_with fail
    generalize hbw : w5.heap.size = bw at *
    generalize w5.alloc (.cells #[.slice A5 n5 k5, .slice A6 n6 k6, .int .i64 q] 26) = w6 at *
    clear hbw
    have CE := hid (fun (W : World) (hW : Below w6.heap.size w6 W) => equalTree_c (TO.out.below (HO6.out.trans (hW.mono HO6.out.size)) (Nat.le_of_lt hlo)) (TW.out.below hW (Nat.le_of_lt hlw)) (Nat.le_trans (Nat.le_of_lt hlo) (Nat.le_trans HO6.out.size hW.size)) (Nat.le_trans (Nat.le_of_lt hlw) hW.size))
    refine (CE.out _ (Below.refl _ _)).mono ?_
    rintro e w7 ⟨rfl, hb⟩
    have HE7 := hid hb
    have HO7 := hid (HO6.out.trans (hb.mono HO6.out.size))
    have HW7 := hid (HW6.out.trans (hb.mono HW6.out.size))
    clear hb o0 o1 o2 p0 p1 p2
    have TN := hid (fun (W : World) (hO : Below w4.heap.size w4 W) => (And.intro (TO.out.below hO (Nat.le_of_lt hlo)) (Nat.le_trans (Nat.le_of_lt hlo) hO.size)))
    have CX := hid (fun (W : World) (hO : Below w4.heap.size w4 W) => (show Calls Tryz.prog 31 #[.agg #[.slice A3 n3 k3, .slice A4 n4 k4, .int .i64 q], .string s] W (fun e w' => ∃ v2 rs, e = .returned (.tuple #[v2, .bool true]) ∧ TreeS rs v2 L H q ∧ Rows w' W.heap.size rs ∧ Below W.heap.size W w') from by have h9 := implDropHandler_c s (TN.out W hO).1 (TN.out W hO).2; rw [show dropHX L (H ++ [⟨s.data.toList, lv, fs⟩]) q s.data.toList = some (L, H, q) from drop_addH hok hok2] at h9; exact h9))
    have FU := users_addH hok hok2
    have CU := hid (fun (W : World) (hO : Below w4.heap.size w4 W) => (show Calls Tryz.prog 32 #[.agg #[.slice A3 n3 k3, .slice A4 n4 k4, .int .i64 q], .string s] W (StrsPost W []) from by have h9 := implUsersOf_c s (TN.out W hO).1 (TN.out W hO).2; rw [show usersT L (H ++ [⟨s.data.toList, lv, fs⟩]) q s.data.toList = [] from FU] at h9; exact h9))
    have CA := hid (fun (W : World) (hO : Below w4.heap.size w4 W) => (show Calls Tryz.prog 12 #[.agg #[.slice A3 n3 k3, .slice A4 n4 k4, .int .i64 q], .agg #[.string ⟨#[97, 46, 98]⟩, .int .i64 30, .string ⟨#[120]⟩, .int .i64 0]] W (RowPost W 41 6 (sendX L H q ⟨(⟨#[97, 46, 98]⟩ : ByteArray).data.toList, 30, (⟨#[120]⟩ : ByteArray).data.toList, 0⟩).length ((sendX L H q ⟨(⟨#[97, 46, 98]⟩ : ByteArray).data.toList, 30, (⟨#[120]⟩ : ByteArray).data.toList, 0⟩).flatMap sncells)) from by have h9 := implSendRecord_c ⟨#[97, 46, 98]⟩ ⟨#[120]⟩ 30 0 (TN.out W hO).1 (TN.out W hO).2 (by decide) (by decide); rw [send_addH hok hok2] at h9; exact h9))
    have CB := hid (fun (W : World) (hW : Below w2.heap.size w2 W) => implSendRecord_c ⟨#[97, 46, 98]⟩ ⟨#[120]⟩ 30 0 (TT.out W hW).1 (TT.out W hW).2 (by decide) (by decide))
    have hX30 : (sendX L H q ⟨(⟨#[97, 46, 98]⟩ : ByteArray).data.toList, 30, (⟨#[120]⟩ : ByteArray).data.toList, 0⟩).length ≤ 30 := sendX_len L H q _
    generalize sendX L H q ⟨(⟨#[97, 46, 98]⟩ : ByteArray).data.toList, 30, (⟨#[120]⟩ : ByteArray).data.toList, 0⟩ = X at *
    clear FU hX hok hok2
    have hbr : Below w7.heap.size w7 (w7.alloc (.cells #[.string ⟨#[97, 46, 98]⟩, .int .i64 30, .string ⟨#[120]⟩, .int .i64 0] 28)) := (Below.refl _ _).alloc (Nat.le_refl _) _
    have KR := hid (Blk.new w7 #[.string ⟨#[97, 46, 98]⟩, .int .i64 30, .string ⟨#[120]⟩, .int .i64 0] 28)
    have HW8 := hid (HW7.out.trans (hbr.mono HW7.out.size))
    have HO8 := hid (HO7.out.trans (hbr.mono HO7.out.size))
    clear hbr
    have o0 := ((KO.out.to HO8.out).2 0 _ rfl).1
    have o1 := ((KO.out.to HO8.out).2 1 _ rfl).1
    have o2 := ((KO.out.to HO8.out).2 2 _ rfl).1
    have h0 := ((KH.out.to HW8.out).2 0 _ rfl).1
    go_wp2_with fail
    generalize hrb : w7.heap.size = rb at *
    generalize w7.alloc (.cells #[.string ⟨#[97, 46, 98]⟩, .int .i64 30, .string ⟨#[120]⟩, .int .i64 0] 28) = w8 at *
    clear hrb
    refine (CX.out _ HO8.out).mono ?_
    rintro e w9 ⟨v9, rs9, rfl, hs9, hr9, hb9⟩
    obtain ⟨A7, n7, k7, A8, n8, k8, rfl, -, -⟩ := hs9.form_ hr9
    have hbx9 : Below w9.heap.size w9 (w9.alloc (.cells #[.slice A7 n7 k7, .slice A8 n8 k8, .int .i64 q] 26)) := (Below.refl _ _).alloc (Nat.le_refl _) _
    have TK := hid ((hs9.at_ hr9 DL.out).below hbx9 (Nat.le_refl _))
    have KKs := hid (Blk.new w9 #[.slice A7 n7 k7, .slice A8 n8 k8, .int .i64 q] 26)
    have hb := hb9.trans (hbx9.mono hb9.size)
    have HWs := hid (HW8.out.trans (hb.mono HW8.out.size))
    have HOs := hid (HO8.out.trans (hb.mono HO8.out.size))
    have KOs := hid (KO.out.to HOs.out)
    have KBs := hid (KB.out.to HWs.out)
    have KHs := hid (KH.out.to HWs.out)
    have KRs := hid (KR.out.to hb)
    have hlk : w9.heap.size < (w9.alloc (.cells #[.slice A7 n7 k7, .slice A8 n8 k8, .int .i64 q] 26)).heap.size := by simp
    clear hs9 hr9 hb9 hbx9 hb o0 o1 o2 h0
    go_wp2_with fail
    generalize hbk : w9.heap.size = bk at *
    generalize w9.alloc (.cells #[.slice A7 n7 k7, .slice A8 n8 k8, .int .i64 q] 26) = wS at *
    clear hbk
    have SF := hid (fun (W : World) (hW : Below wS.heap.size wS W) => (show (W.cell? ⟨bo, 0, none⟩ = some (.slice A3 n3 k3) ∧ W.cell? ⟨bo, 1, none⟩ = some (.slice A4 n4 k4) ∧ W.cell? ⟨bo, 2, none⟩ = some (.int .i64 q)) ∧ (W.cell? ⟨bb, 0, none⟩ = some (.slice A1 n1 k1) ∧ W.cell? ⟨bb, 1, none⟩ = some (.slice A2 n2 k2) ∧ W.cell? ⟨bb, 2, none⟩ = some (.int .i64 q)) ∧ (W.cell? ⟨rb, 0, none⟩ = some (.string ⟨#[97, 46, 98]⟩) ∧ W.cell? ⟨rb, 1, none⟩ = some (.int .i64 30) ∧ W.cell? ⟨rb, 2, none⟩ = some (.string ⟨#[120]⟩) ∧ W.cell? ⟨rb, 3, none⟩ = some (.int .i64 0)) ∧ (W.cell? ⟨bk, 0, none⟩ = some (.slice A7 n7 k7) ∧ W.cell? ⟨bk, 1, none⟩ = some (.slice A8 n8 k8) ∧ W.cell? ⟨bk, 2, none⟩ = some (.int .i64 q)) ∧ W.cell? ⟨bb + 1, 0, none⟩ = some (.string s) from ⟨⟨((KOs.out.to hW).2 0 _ rfl).1, ((KOs.out.to hW).2 1 _ rfl).1, ((KOs.out.to hW).2 2 _ rfl).1⟩, ⟨((KBs.out.to hW).2 0 _ rfl).1, ((KBs.out.to hW).2 1 _ rfl).1, ((KBs.out.to hW).2 2 _ rfl).1⟩, ⟨((KRs.out.to hW).2 0 _ rfl).1, ((KRs.out.to hW).2 1 _ rfl).1, ((KRs.out.to hW).2 2 _ rfl).1, ((KRs.out.to hW).2 3 _ rfl).1⟩, ⟨((KKs.out.to hW).2 0 _ rfl).1, ((KKs.out.to hW).2 1 _ rfl).1, ((KKs.out.to hW).2 2 _ rfl).1⟩, ((KHs.out.to hW).2 0 _ rfl).1⟩))
    have HNd := hid ((Below.refl wS.heap.size wS).drew)
    refine wp_region_held_drew (S := fun w' : World => (w'.cell? ⟨bo, 0, none⟩ = some (.slice A3 n3 k3) ∧ w'.cell? ⟨bo, 1, none⟩ = some (.slice A4 n4 k4) ∧ w'.cell? ⟨bo, 2, none⟩ = some (.int .i64 q)) ∧ (w'.cell? ⟨bb, 0, none⟩ = some (.slice A1 n1 k1) ∧ w'.cell? ⟨bb, 1, none⟩ = some (.slice A2 n2 k2) ∧ w'.cell? ⟨bb, 2, none⟩ = some (.int .i64 q)) ∧ (w'.cell? ⟨rb, 0, none⟩ = some (.string ⟨#[97, 46, 98]⟩) ∧ w'.cell? ⟨rb, 1, none⟩ = some (.int .i64 30) ∧ w'.cell? ⟨rb, 2, none⟩ = some (.string ⟨#[120]⟩) ∧ w'.cell? ⟨rb, 3, none⟩ = some (.int .i64 0)) ∧ (w'.cell? ⟨bk, 0, none⟩ = some (.slice A7 n7 k7) ∧ w'.cell? ⟨bk, 1, none⟩ = some (.slice A8 n8 k8) ∧ w'.cell? ⟨bk, 2, none⟩ = some (.int .i64 q)) ∧ w'.cell? ⟨bb + 1, 0, none⟩ = some (.string s)) (by kernel_rfl) (SF.out _ HNd.out) (fun hS => ?_)
    refine wpAnyH_take (i := 0) (oi := ?oi101) (v := ?v101) ?hi101 (by kernel_rfl) ?hf101 ?hr101 ?hQ101 (Or.inl ⟨?hw101, ?hy101⟩) (by assumption) ?rest101
    case hi101 => simp only [List.getElem?_toArray, List.getElem?_cons_succ, List.getElem?_cons_zero]; rfl
    case hf101 => kernel_rfl
    case hr101 => kernel_rfl
    case hw101 => rfl
    case hy101 => (intro w hSw; (try dsimp only at hSw); go_simp; all_goals (first | done | with_reducible rfl))
    case hQ101 => exact fun _ _ _ h => h
    simp only [Act.put, List.setIfInBounds_toArray, List.set_cons_zero, List.set_cons_succ]
    refine wpAnyH_take (i := 1) (oi := ?oi102) (v := ?v102) ?hi102 (by kernel_rfl) ?hf102 ?hr102 ?hQ102 (Or.inl ⟨?hw102, ?hy102⟩) (by assumption) ?rest102
    case hi102 => simp only [List.getElem?_toArray, List.getElem?_cons_succ, List.getElem?_cons_zero]; rfl
    case hf102 => kernel_rfl
    case hr102 => kernel_rfl
    case hw102 => rfl
    case hy102 => (intro w hSw; (try dsimp only at hSw); go_simp; all_goals (first | done | with_reducible rfl))
    case hQ102 => exact fun _ _ _ h => h
    simp only [Act.put, List.setIfInBounds_toArray, List.set_cons_zero, List.set_cons_succ]
    refine wpAnyH_take (i := 3) (oi := ?oi103) (v := ?v103) ?hi103 (by kernel_rfl) ?hf103 ?hr103 ?hQ103 (Or.inl ⟨?hw103, ?hy103⟩) (by assumption) ?rest103
    case hi103 => simp only [List.getElem?_toArray, List.getElem?_cons_succ, List.getElem?_cons_zero]; rfl
    case hf103 => kernel_rfl
    case hr103 => kernel_rfl
    case hw103 => rfl
    case hy103 => (intro w hSw; (try dsimp only at hSw); go_simp; all_goals (first | done | with_reducible rfl))
    case hQ103 => exact fun _ _ _ h => h
    simp only [Act.put, List.setIfInBounds_toArray, List.set_cons_zero, List.set_cons_succ]
    refine wpAnyH_take (i := 4) (oi := ?oi104) (v := ?v104) ?hi104 (by kernel_rfl) ?hf104 ?hr104 ?hQ104 (Or.inl ⟨?hw104, ?hy104⟩) (by assumption) ?rest104
    case hi104 => simp only [List.getElem?_toArray, List.getElem?_cons_succ, List.getElem?_cons_zero]; rfl
    case hf104 => kernel_rfl
    case hr104 => kernel_rfl
    case hw104 => rfl
    case hy104 => (intro w hSw; (try dsimp only at hSw); go_simp; all_goals (first | done | with_reducible rfl))
    case hQ104 => exact fun _ _ _ h => h
    simp only [Act.put, List.setIfInBounds_toArray, List.set_cons_zero, List.set_cons_succ]
    refine wpAnyH_ready (rs := [2]) (by kernel_rfl) (by simp) ?_
    refine AllReadyH.cons (o := ?oi105) ?hi105 (fun K hK => ?step105) AllReadyH.nil
    case hi105 => simp only [List.getElem?_toArray, List.getElem?_cons_succ, List.getElem?_cons_zero]; rfl
    rw [if_pos (by rfl)]
    go_simp
    go_at_call 12
    refine (CA.out _ (HOs.out.trans (HNd.out.mono HOs.out.size))).mono ?_
    rintro e wa ⟨va, rfl, hoa, hb⟩
    obtain ⟨Aa, ca, rfl, _, _⟩ := (Sl.of_own hoa).form
    have HNa := hid (HNd.out.trans (hb.mono HNd.out.size))
    have Oa := hid (Sl.of_own hoa)
    clear hb hoa
    refine hK.out _ _ (SF.out _ HNa.out) (fun hS => ?_)
    refine wpAnyH_ready (rs := [5]) (by kernel_rfl) (by simp) ?_
    refine AllReadyH.cons (o := ?oi106) ?hi106 (fun K hK => ?step106) AllReadyH.nil
    case hi106 => simp only [List.getElem?_toArray, List.getElem?_cons_succ, List.getElem?_cons_zero]; rfl
    rw [if_pos (by rfl)]
    go_simp
    go_at_call 12
    refine (CB.out _ (HWs.out.trans (HNa.out.mono HWs.out.size))).mono ?_
    rintro e wb ⟨vb, rfl, hob, hb⟩
    obtain ⟨Ab, cb, rfl, _, _⟩ := (Sl.of_own hob).form
    have HNb := hid (HNa.out.trans (hb.mono HNa.out.size))
    have CQ := hid (equalSent_c _ _ X.length wb.heap.size X wb ((Oa.out.below hb (Nat.le_refl _)).more hb.size) (Sl.of_own hob) (Nat.le_refl _))
    clear hb hob
    refine hK.out _ _ (SF.out _ HNb.out) (fun hS => ?_)
    refine wpAnyH_ready (rs := [6]) (by kernel_rfl) (by simp) ?_
    refine AllReadyH.cons (o := ?oi107) ?hi107 (fun K hK => ?step107) AllReadyH.nil
    case hi107 => simp only [List.getElem?_toArray, List.getElem?_cons_succ, List.getElem?_cons_zero]; rfl
    rw [if_pos (by rfl)]
    go_simp
    go_at_call 13
    refine CQ.out.mono ?_
    rintro e wc ⟨rfl, hb⟩
    have HNc := hid (HNb.out.trans (hb.mono HNb.out.size))
    clear hb CQ
    refine hK.out _ _ (SF.out _ HNc.out) (fun hS => ?_)
    refine wpAnyH_take (i := 7) (oi := ?oi108) (v := ?v108) ?hi108 (by kernel_rfl) ?hf108 ?hr108 ?hQ108 (Or.inl ⟨?hw108, ?hy108⟩) (by assumption) ?rest108
    case hi108 => simp only [List.getElem?_toArray, List.getElem?_cons_succ, List.getElem?_cons_zero]; rfl
    case hf108 => kernel_rfl
    case hr108 => kernel_rfl
    case hw108 => rfl
    case hy108 => (intro w hSw; (try dsimp only at hSw); go_simp; all_goals (first | done | with_reducible rfl))
    case hQ108 => exact fun _ _ _ h => h
    simp only [Act.put, List.setIfInBounds_toArray, List.set_cons_zero, List.set_cons_succ]
    refine wpAnyH_take (i := 8) (oi := ?oi109) (v := ?v109) ?hi109 (by kernel_rfl) ?hf109 ?hr109 ?hQ109 (Or.inl ⟨?hw109, ?hy109⟩) (by assumption) ?rest109
    case hi109 => simp only [List.getElem?_toArray, List.getElem?_cons_succ, List.getElem?_cons_zero]; rfl
    case hf109 => kernel_rfl
    case hr109 => kernel_rfl
    case hw109 => rfl
    case hy109 => (intro w hSw; (try dsimp only at hSw); go_simp; all_goals (first | done | with_reducible rfl))
    case hQ109 => exact fun _ _ _ h => h
    simp only [Act.put, List.setIfInBounds_toArray, List.set_cons_zero, List.set_cons_succ]
    refine wpAnyH_take (i := 9) (oi := ?oi110) (v := ?v110) ?hi110 (by kernel_rfl) ?hf110 ?hr110 ?hQ110 (Or.inl ⟨?hw110, ?hy110⟩) (by assumption) ?rest110
    case hi110 => simp only [List.getElem?_toArray, List.getElem?_cons_succ, List.getElem?_cons_zero]; rfl
    case hf110 => kernel_rfl
    case hr110 => kernel_rfl
    case hw110 => rfl
    case hy110 => (intro w hSw; (try dsimp only at hSw); go_simp; all_goals (first | done | with_reducible rfl))
    case hQ110 => exact fun _ _ _ h => h
    simp only [Act.put, List.setIfInBounds_toArray, List.set_cons_zero, List.set_cons_succ]
    refine wpAnyH_take (i := 10) (oi := ?oi111) (v := ?v111) ?hi111 (by kernel_rfl) ?hf111 ?hr111 ?hQ111 (Or.inl ⟨?hw111, ?hy111⟩) (by assumption) ?rest111
    case hi111 => simp only [List.getElem?_toArray, List.getElem?_cons_succ, List.getElem?_cons_zero]; rfl
    case hf111 => kernel_rfl
    case hr111 => kernel_rfl
    case hw111 => rfl
    case hy111 => (intro w hSw; (try dsimp only at hSw); go_simp; all_goals (first | done | with_reducible rfl))
    case hQ111 => exact fun _ _ _ h => h
    simp only [Act.put, List.setIfInBounds_toArray, List.set_cons_zero, List.set_cons_succ]
    refine wpAnyH_take (i := 11) (oi := ?oi112) (v := ?v112) ?hi112 (by kernel_rfl) ?hf112 ?hr112 ?hQ112 (Or.inl ⟨?hw112, ?hy112⟩) (by assumption) ?rest112
    case hi112 => simp only [List.getElem?_toArray, List.getElem?_cons_succ, List.getElem?_cons_zero]; rfl
    case hf112 => kernel_rfl
    case hr112 => kernel_rfl
    case hw112 => rfl
    case hy112 => (intro w hSw; (try dsimp only at hSw); go_simp; all_goals (first | done | with_reducible rfl))
    case hQ112 => exact fun _ _ _ h => h
    simp only [Act.put, List.setIfInBounds_toArray, List.set_cons_zero, List.set_cons_succ]
    refine wpAnyH_take (i := 12) (oi := ?oi113) (v := ?v113) ?hi113 (by kernel_rfl) ?hf113 ?hr113 ?hQ113 (Or.inl ⟨?hw113, ?hy113⟩) (by assumption) ?rest113
    case hi113 => simp only [List.getElem?_toArray, List.getElem?_cons_succ, List.getElem?_cons_zero]; rfl
    case hf113 => kernel_rfl
    case hr113 => kernel_rfl
    case hw113 => rfl
    case hy113 => (intro w hSw; (try dsimp only at hSw); go_simp; all_goals (first | done | with_reducible rfl))
    case hQ113 => exact fun _ _ _ h => h
    simp only [Act.put, List.setIfInBounds_toArray, List.set_cons_zero, List.set_cons_succ]
    refine wpAnyH_ready (rs := [13]) (by kernel_rfl) (by simp) ?_
    refine AllReadyH.cons (o := ?oi114) ?hi114 (fun K hK => ?step114) AllReadyH.nil
    case hi114 => simp only [List.getElem?_toArray, List.getElem?_cons_succ, List.getElem?_cons_zero]; rfl
    rw [if_pos (by rfl)]
    go_simp
    go_at_call 30
    refine (equalTree_c (TK.out.below HNc.out (Nat.le_of_lt hlk)) (TT.out _ (HWs.out.trans (HNc.out.mono HWs.out.size))).1 (Nat.le_trans (Nat.le_of_lt hlk) HNc.out.size) (TT.out _ (HWs.out.trans (HNc.out.mono HWs.out.size))).2).mono ?_
    rintro e we ⟨rfl, hb⟩
    have HNe := hid (HNc.out.trans (hb.mono HNc.out.size))
    clear hb
    refine hK.out _ _ (SF.out _ HNe.out) (fun hS => ?_)
    refine wpAnyH_take (i := 14) (oi := ?oi115) (v := ?v115) ?hi115 (by kernel_rfl) ?hf115 ?hr115 ?hQ115 (Or.inl ⟨?hw115, ?hy115⟩) (by assumption) ?rest115
    case hi115 => simp only [List.getElem?_toArray, List.getElem?_cons_succ, List.getElem?_cons_zero]; rfl
    case hf115 => kernel_rfl
    case hr115 => kernel_rfl
    case hw115 => rfl
    case hy115 => (intro w hSw; (try dsimp only at hSw); go_simp; all_goals (first | done | with_reducible rfl))
    case hQ115 => exact fun _ _ _ h => h
    simp only [Act.put, List.setIfInBounds_toArray, List.set_cons_zero, List.set_cons_succ]
    refine wpAnyH_take (i := 15) (oi := ?oi116) (v := ?v116) ?hi116 (by kernel_rfl) ?hf116 ?hr116 ?hQ116 (Or.inl ⟨?hw116, ?hy116⟩) (by assumption) ?rest116
    case hi116 => simp only [List.getElem?_toArray, List.getElem?_cons_succ, List.getElem?_cons_zero]; rfl
    case hf116 => kernel_rfl
    case hr116 => kernel_rfl
    case hw116 => rfl
    case hy116 => (intro w hSw; (try dsimp only at hSw); go_simp; all_goals (first | done | with_reducible rfl))
    case hQ116 => exact fun _ _ _ h => h
    simp only [Act.put, List.setIfInBounds_toArray, List.set_cons_zero, List.set_cons_succ]
    refine wpAnyH_take (i := 16) (oi := ?oi117) (v := ?v117) ?hi117 (by kernel_rfl) ?hf117 ?hr117 ?hQ117 (Or.inl ⟨?hw117, ?hy117⟩) (by assumption) ?rest117
    case hi117 => simp only [List.getElem?_toArray, List.getElem?_cons_succ, List.getElem?_cons_zero]; rfl
    case hf117 => kernel_rfl
    case hr117 => kernel_rfl
    case hw117 => rfl
    case hy117 => (intro w hSw; (try dsimp only at hSw); go_simp; all_goals (first | done | with_reducible rfl))
    case hQ117 => exact fun _ _ _ h => h
    simp only [Act.put, List.setIfInBounds_toArray, List.set_cons_zero, List.set_cons_succ]
    refine wpAnyH_take (i := 17) (oi := ?oi118) (v := ?v118) ?hi118 (by kernel_rfl) ?hf118 ?hr118 ?hQ118 (Or.inl ⟨?hw118, ?hy118⟩) (by assumption) ?rest118
    case hi118 => simp only [List.getElem?_toArray, List.getElem?_cons_succ, List.getElem?_cons_zero]; rfl
    case hf118 => kernel_rfl
    case hr118 => kernel_rfl
    case hw118 => rfl
    case hy118 => (intro w hSw; (try dsimp only at hSw); go_simp; all_goals (first | done | with_reducible rfl))
    case hQ118 => exact fun _ _ _ h => h
    simp only [Act.put, List.setIfInBounds_toArray, List.set_cons_zero, List.set_cons_succ]
    refine wpAnyH_take (i := 18) (oi := ?oi119) (v := ?v119) ?hi119 (by kernel_rfl) ?hf119 ?hr119 ?hQ119 (Or.inl ⟨?hw119, ?hy119⟩) (by assumption) ?rest119
    case hi119 => simp only [List.getElem?_toArray, List.getElem?_cons_succ, List.getElem?_cons_zero]; rfl
    case hf119 => kernel_rfl
    case hr119 => kernel_rfl
    case hw119 => rfl
    case hy119 => (intro w hSw; (try dsimp only at hSw); go_simp; all_goals (first | done | with_reducible rfl))
    case hQ119 => exact fun _ _ _ h => h
    simp only [Act.put, List.setIfInBounds_toArray, List.set_cons_zero, List.set_cons_succ]
    refine wpAnyH_ready (rs := [19]) (by kernel_rfl) (by simp) ?_
    refine AllReadyH.cons (o := ?oi120) ?hi120 (fun K hK => ?step120) AllReadyH.nil
    case hi120 => simp only [List.getElem?_toArray, List.getElem?_cons_succ, List.getElem?_cons_zero]; rfl
    rw [if_pos (by rfl)]
    go_simp
    go_at_call 32
    refine (CU.out _ (HOs.out.trans (HNe.out.mono HOs.out.size))).mono ?_
    rintro e wf ⟨vf, rfl, hof, hb⟩
    obtain ⟨Af, cf, rfl, _, _⟩ := (Sl.of_own hof).form
    have HNf := hid (HNe.out.trans (hb.mono HNe.out.size))
    clear hb hof
    refine hK.out _ _ (SF.out _ HNf.out) (fun hS => ?_)
    refine wpAnyH_take (i := 20) (oi := ?oi121) (v := ?v121) ?hi121 (by kernel_rfl) ?hf121 ?hr121 ?hQ121 (Or.inl ⟨?hw121, ?hy121⟩) (by assumption) ?rest121
    case hi121 => simp only [List.getElem?_toArray, List.getElem?_cons_succ, List.getElem?_cons_zero]; rfl
    case hf121 => kernel_rfl
    case hr121 => kernel_rfl
    case hw121 => rfl
    case hy121 => (intro w hSw; (try dsimp only at hSw); go_simp; all_goals (first | done | with_reducible rfl))
    case hQ121 => exact fun _ _ _ h => h
    simp only [Act.put, List.setIfInBounds_toArray, List.set_cons_zero, List.set_cons_succ]
    refine wpAnyH_take (i := 21) (oi := ?oi122) (v := ?v122) ?hi122 (by kernel_rfl) ?hf122 ?hr122 ?hQ122 (Or.inl ⟨?hw122, ?hy122⟩) (by assumption) ?rest122
    case hi122 => simp only [List.getElem?_toArray, List.getElem?_cons_succ, List.getElem?_cons_zero]; rfl
    case hf122 => kernel_rfl
    case hr122 => kernel_rfl
    case hw122 => rfl
    case hy122 => (intro w hSw; (try dsimp only at hSw); go_simp; all_goals (first | done | with_reducible rfl))
    case hQ122 => exact fun _ _ _ h => h
    simp only [Act.put, List.setIfInBounds_toArray, List.set_cons_zero, List.set_cons_succ]
    refine wpAnyH_take (i := 22) (oi := ?oi123) (v := ?v123) ?hi123 (by kernel_rfl) ?hf123 ?hr123 ?hQ123 (Or.inl ⟨?hw123, ?hy123⟩) (by assumption) ?rest123
    case hi123 => simp only [List.getElem?_toArray, List.getElem?_cons_succ, List.getElem?_cons_zero]; rfl
    case hf123 => kernel_rfl
    case hr123 => kernel_rfl
    case hw123 => rfl
    case hy123 => (intro w hSw; (try dsimp only at hSw); go_simp; all_goals (first | done | with_reducible rfl))
    case hQ123 => exact fun _ _ _ h => h
    simp only [Act.put, List.setIfInBounds_toArray, List.set_cons_zero, List.set_cons_succ]
    refine wpAnyH_take (i := 23) (oi := ?oi124) (v := ?v124) ?hi124 (by kernel_rfl) ?hf124 ?hr124 ?hQ124 (Or.inl ⟨?hw124, ?hy124⟩) (by assumption) ?rest124
    case hi124 => simp only [List.getElem?_toArray, List.getElem?_cons_succ, List.getElem?_cons_zero]; rfl
    case hf124 => kernel_rfl
    case hr124 => kernel_rfl
    case hw124 => rfl
    case hy124 => (intro w hSw; (try dsimp only at hSw); go_simp; all_goals (first | done | with_reducible rfl))
    case hQ124 => exact fun _ _ _ h => h
    simp only [Act.put, List.setIfInBounds_toArray, List.set_cons_zero, List.set_cons_succ]
    refine wpAnyH_done (by kernel_rfl) ?_ _
    clear hS
    go_wp2_with fail
    go_ret
    exact ⟨rfl, HB.out.trans ((HWs.out.trans (HNf.out.mono HWs.out.size)).mono HB.out.size)⟩
end Go.Proofs.YtioegkcekbkblaaGreat
