/-
  WALK: the law FnMoveBranch. By gen_t.py.
-/
import Derived.Test.YtcgcbgbmofooiaaE18
import Derived.Test.YtcgcbgbmofooiaaE17
import Derived.Test.YtcgcbgbmofooiaaC16
import Derived.Test.YtcgcbgbmofooiaaE7
import Derived.Test.YtcgcbgbmofooiaaLookS
namespace Go.Proofs.Ytcgcbgbmofooiaa
open Go.RowKit Nm
set_option linter.unusedSimpArgs false
set_option linter.unusedVariables false

theorem fit_none : dataFit [] [] := ⟨⟨by simp, by simp⟩, ⟨by simp, by simp⟩⟩

set_option maxHeartbeats 8000000 in
set_option maxRecDepth 100000 in
theorem walk_FnMoveBranch (a0 : Option Addr) (len0 cap0 : Nat) (z0 : List Int) (w : World) (w0 : IsRow .u8 w a0 len0 cap0 z0) :
    Calls Try.prog 7 #[.slice a0 len0 cap0] w (BoolPost w true) := by
  have hb0 := w0.leT
  by_cases h1 : (1048576 : Int) < (len0 : Int)
  · go_enter Try.func7, Try.ntmps7
    go_wp2_with fail
    go_ret
    exact ⟨rfl, Below.refl _ _⟩
  have DR := hid (drawMoveBranch_c a0 len0 cap0 z0 w w0)
  clear w0
  go_enter Try.func7, Try.ntmps7
  go_wp2_with fail
  refine DR.out.mono ?_
  rintro e w1 ⟨v, rs, L, H, q, nm, to, rfl, hs, hsm, hnm, hto, hr, hb⟩
  obtain ⟨A1, n1, k1, A2, n2, k2, rfl, hn1, hn2⟩ := hs.form_ hr
  have hd := sm_fit hsm (by omega)
  have TI0 := hs.at_ hr hd
  have hbx : Below w1.heap.size w1 (w1.alloc (.cells #[.slice A1 n1 k1, .slice A2 n2 k2, .int .i64 q] 26)) := (Below.refl _ _).alloc (Nat.le_refl _) _
  have TI := hid (TI0.below hbx (Nat.le_refl _))
  have KB := hid (Blk.new w1 #[.slice A1 n1 k1, .slice A2 n2 k2, .int .i64 q] 26)
  have HB := hid (hb.trans (hbx.mono hb.size))
  have hl1 : w1.heap.size < (w1.alloc (.cells #[.slice A1 n1 k1, .slice A2 n2 k2, .int .i64 q] 26)).heap.size := by simp
  have HL := hid (And.intro hn1 (And.intro hsm.1 hsm.2.1.1))
  replace hd := hid hd
  clear hs hr hb hn1 hn2 hsm TI0 hbx DR
  go_wp2_with fail
  generalize hbb : w1.heap.size = bb at *
  generalize w1.alloc (.cells #[.slice A1 n1 k1, .slice A2 n2 k2, .int .i64 q] 26) = w2 at *
  clear hbb
  have d0 := (KB.out.2 0 _ rfl).1
  have d1 := (KB.out.2 1 _ rfl).1
  have d2 := (KB.out.2 2 _ rfl).1
  have HW := hid (Below.refl w2.heap.size w2)
  have TT := hid (fun (W : World) (hW : Below w2.heap.size w2 W) => (And.intro (TI.out.below hW (Nat.le_of_lt hl1)) (Nat.le_trans (Nat.le_of_lt hl1) hW.size)))
  have hn8 : n1 ≤ 8 := by rw [HL.out.1]; exact HL.out.2.2
  rcases move_cases L H q nm.data.toList to.data.toList with hX | ⟨hok, hok2, hX, DX, hmv⟩
  · clear hd
    have CI := hid (fun (W : World) (hW : Below w2.heap.size w2 W) => (show Calls Try.prog 33 #[.agg #[.slice A1 n1 k1, .slice A2 n2 k2, .int .i64 q], .string nm, .string to] W (fun e w' => ∃ v2 rs, e = .returned (.tuple #[v2, .bool false]) ∧ TreeS rs v2 ([]) [] 0 ∧ Rows w' W.heap.size rs ∧ Below W.heap.size W w') from by have h9 := implMoveBranch_c nm to (TT.out W hW).1 (TT.out W hW).2 (by unfold maxLen; omega) (by unfold maxLen; omega); rw [hX] at h9; exact h9))
    have CS := hid (fun (W : World) (hW : Below w2.heap.size w2 W) => (show Calls Try.prog 34 #[.agg #[.slice A1 n1 k1, .slice A2 n2 k2, .int .i64 q], .string nm, .string to] W (fun e w' => ∃ v2 rs, e = .returned (.tuple #[v2, .bool false]) ∧ TreeS rs v2 ([]) [] 0 ∧ Rows w' W.heap.size rs ∧ Below W.heap.size W w') from by have h9 := specMoveBranch_c nm to (TT.out W hW).1 (TT.out W hW).2 (by first | omega | (unfold maxTxt; omega)) (by first | omega | (unfold maxTxt; omega)); rw [hX] at h9; exact h9))
    go_wp2_with fail
    refine (CI.out _ HW.out).mono ?_
    rintro e w3 ⟨v3, rs3, rfl, hs3, hr3, hb⟩
    obtain ⟨A3, n3, k3, A4, n4, k4, rfl, -, -⟩ := hs3.form_ hr3
    have hbx3 : Below w3.heap.size w3 (w3.alloc (.cells #[.slice A3 n3 k3, .slice A4 n4 k4, .int .i64 0] 26)) := (Below.refl _ _).alloc (Nat.le_refl _) _
    have TO := hid ((hs3.at_ hr3 fit_none).below hbx3 (Nat.le_refl _))
    have KO := hid (Blk.new w3 #[.slice A3 n3 k3, .slice A4 n4 k4, .int .i64 0] 26)
    have HW4 := hid (HW.out.trans ((hb.trans (hbx3.mono hb.size)).mono HW.out.size))
    have hlo : w3.heap.size < (w3.alloc (.cells #[.slice A3 n3 k3, .slice A4 n4 k4, .int .i64 0] 26)).heap.size := by simp
    clear hs3 hr3 hb hbx3 d0 d1 d2
    obtain ⟨⟨d0, _⟩, ⟨d1, _⟩, ⟨d2, _⟩⟩ := (And.intro ((KB.out.to HW4.out).2 0 _ rfl) (And.intro ((KB.out.to HW4.out).2 1 _ rfl) ((KB.out.to HW4.out).2 2 _ rfl)))
    go_wp2_with fail
    generalize hbo : w3.heap.size = bo at *
    generalize w3.alloc (.cells #[.slice A3 n3 k3, .slice A4 n4 k4, .int .i64 0] 26) = w4 at *
    clear hbo
    refine (CS.out _ HW4.out).mono ?_
    rintro e w5 ⟨v5, rs5, rfl, hs5, hr5, hb⟩
    obtain ⟨A5, n5, k5, A6, n6, k6, rfl, -, -⟩ := hs5.form_ hr5
    have hbx5 : Below w5.heap.size w5 (w5.alloc (.cells #[.slice A5 n5 k5, .slice A6 n6 k6, .int .i64 0] 26)) := (Below.refl _ _).alloc (Nat.le_refl _) _
    have hb46 : Below w4.heap.size w4 (w5.alloc (.cells #[.slice A5 n5 k5, .slice A6 n6 k6, .int .i64 0] 26)) := hb.trans (hbx5.mono hb.size)
    have TW := hid ((hs5.at_ hr5 fit_none).below hbx5 (Nat.le_refl _))
    have KW := hid (Blk.new w5 #[.slice A5 n5 k5, .slice A6 n6 k6, .int .i64 0] 26)
    have HO6 := hid hb46
    have HW6 := hid (HW4.out.trans (hb46.mono HW4.out.size))
    have hlw : w5.heap.size < (w5.alloc (.cells #[.slice A5 n5 k5, .slice A6 n6 k6, .int .i64 0] 26)).heap.size := by simp
    clear hs5 hr5 hb hbx5 hb46 d0 d1 d2
    have o0 := ((KO.out.to HO6.out).2 0 _ rfl).1
    have o1 := ((KO.out.to HO6.out).2 1 _ rfl).1
    have o2 := ((KO.out.to HO6.out).2 2 _ rfl).1
    have p0 := (KW.out.2 0 _ rfl).1
    have p1 := (KW.out.2 1 _ rfl).1
    have p2 := (KW.out.2 2 _ rfl).1
    go_wp2_with fail
    generalize hbw : w5.heap.size = bw at *
    generalize w5.alloc (.cells #[.slice A5 n5 k5, .slice A6 n6 k6, .int .i64 0] 26) = w6 at *
    clear hbw
    have CE := hid (fun (W : World) (hW : Below w6.heap.size w6 W) => equalTree_c (TO.out.below (HO6.out.trans (hW.mono HO6.out.size)) (Nat.le_of_lt hlo)) (TW.out.below hW (Nat.le_of_lt hlw)) (Nat.le_trans (Nat.le_of_lt hlo) (Nat.le_trans HO6.out.size hW.size)) (Nat.le_trans (Nat.le_of_lt hlw) hW.size))
    refine (CE.out _ (Below.refl _ _)).mono ?_
    rintro e w7 ⟨rfl, hb⟩
    have HE7 := hid hb
    have HO7 := hid (HO6.out.trans (hb.mono HO6.out.size))
    have HW7 := hid (HW6.out.trans (hb.mono HW6.out.size))
    clear hb o0 o1 o2 p0 p1 p2
    have o0 := ((KO.out.to HO7.out).2 0 _ rfl).1
    have o1 := ((KO.out.to HO7.out).2 1 _ rfl).1
    have o2 := ((KO.out.to HO7.out).2 2 _ rfl).1
    have p0 := ((KW.out.to HE7.out).2 0 _ rfl).1
    have p1 := ((KW.out.to HE7.out).2 1 _ rfl).1
    have p2 := ((KW.out.to HE7.out).2 2 _ rfl).1
    go_wp2_with fail
    refine (CE.out _ HE7.out).mono ?_
    rintro e w8 ⟨rfl, hb⟩
    have HW8 := hid (HW7.out.trans (hb.mono HW7.out.size))
    clear hb o0 o1 o2 p0 p1 p2
    go_wp2_with fail
    go_ret
    exact ⟨rfl, HB.out.trans (HW8.out.mono HB.out.size)⟩
  · replace DX := hid DX
    have CI := hid (fun (W : World) (hW : Below w2.heap.size w2 W) => (show Calls Try.prog 33 #[.agg #[.slice A1 n1 k1, .slice A2 n2 k2, .int .i64 q], .string nm, .string to] W (fun e w' => ∃ v2 rs, e = .returned (.tuple #[v2, .bool true]) ∧ TreeS rs v2 (moveT L nm.data.toList to.data.toList) H q ∧ Rows w' W.heap.size rs ∧ Below W.heap.size W w') from by have h9 := implMoveBranch_c nm to (TT.out W hW).1 (TT.out W hW).2 (by unfold maxLen; omega) (by unfold maxLen; omega); rw [hX] at h9; exact h9))
    have CS := hid (fun (W : World) (hW : Below w2.heap.size w2 W) => (show Calls Try.prog 34 #[.agg #[.slice A1 n1 k1, .slice A2 n2 k2, .int .i64 q], .string nm, .string to] W (fun e w' => ∃ v2 rs, e = .returned (.tuple #[v2, .bool true]) ∧ TreeS rs v2 (moveT L nm.data.toList to.data.toList) H q ∧ Rows w' W.heap.size rs ∧ Below W.heap.size W w') from by have h9 := specMoveBranch_c nm to (TT.out W hW).1 (TT.out W hW).2 (by first | omega | (unfold maxTxt; omega)) (by first | omega | (unfold maxTxt; omega)); rw [hX] at h9; exact h9))
    go_wp2_with fail
    refine (CI.out _ HW.out).mono ?_
    rintro e w3 ⟨v3, rs3, rfl, hs3, hr3, hb⟩
    obtain ⟨A3, n3, k3, A4, n4, k4, rfl, -, -⟩ := hs3.form_ hr3
    have hbx3 : Below w3.heap.size w3 (w3.alloc (.cells #[.slice A3 n3 k3, .slice A4 n4 k4, .int .i64 q] 26)) := (Below.refl _ _).alloc (Nat.le_refl _) _
    have TO := hid ((hs3.at_ hr3 DX.out).below hbx3 (Nat.le_refl _))
    have KO := hid (Blk.new w3 #[.slice A3 n3 k3, .slice A4 n4 k4, .int .i64 q] 26)
    have HW4 := hid (HW.out.trans ((hb.trans (hbx3.mono hb.size)).mono HW.out.size))
    have hlo : w3.heap.size < (w3.alloc (.cells #[.slice A3 n3 k3, .slice A4 n4 k4, .int .i64 q] 26)).heap.size := by simp
    clear hs3 hr3 hb hbx3 d0 d1 d2
    obtain ⟨⟨d0, _⟩, ⟨d1, _⟩, ⟨d2, _⟩⟩ := (And.intro ((KB.out.to HW4.out).2 0 _ rfl) (And.intro ((KB.out.to HW4.out).2 1 _ rfl) ((KB.out.to HW4.out).2 2 _ rfl)))
    go_wp2_with fail
    generalize hbo : w3.heap.size = bo at *
    generalize w3.alloc (.cells #[.slice A3 n3 k3, .slice A4 n4 k4, .int .i64 q] 26) = w4 at *
    clear hbo
    refine (CS.out _ HW4.out).mono ?_
    rintro e w5 ⟨v5, rs5, rfl, hs5, hr5, hb⟩
    obtain ⟨A5, n5, k5, A6, n6, k6, rfl, -, -⟩ := hs5.form_ hr5
    have hbx5 : Below w5.heap.size w5 (w5.alloc (.cells #[.slice A5 n5 k5, .slice A6 n6 k6, .int .i64 q] 26)) := (Below.refl _ _).alloc (Nat.le_refl _) _
    have hb46 : Below w4.heap.size w4 (w5.alloc (.cells #[.slice A5 n5 k5, .slice A6 n6 k6, .int .i64 q] 26)) := hb.trans (hbx5.mono hb.size)
    have TW := hid ((hs5.at_ hr5 DX.out).below hbx5 (Nat.le_refl _))
    have KW := hid (Blk.new w5 #[.slice A5 n5 k5, .slice A6 n6 k6, .int .i64 q] 26)
    have HO6 := hid hb46
    have HW6 := hid (HW4.out.trans (hb46.mono HW4.out.size))
    have hlw : w5.heap.size < (w5.alloc (.cells #[.slice A5 n5 k5, .slice A6 n6 k6, .int .i64 q] 26)).heap.size := by simp
    clear hs5 hr5 hb hbx5 hb46 d0 d1 d2
    have o0 := ((KO.out.to HO6.out).2 0 _ rfl).1
    have o1 := ((KO.out.to HO6.out).2 1 _ rfl).1
    have o2 := ((KO.out.to HO6.out).2 2 _ rfl).1
    have p0 := (KW.out.2 0 _ rfl).1
    have p1 := (KW.out.2 1 _ rfl).1
    have p2 := (KW.out.2 2 _ rfl).1
    go_wp2_with fail
    generalize hbw : w5.heap.size = bw at *
    generalize w5.alloc (.cells #[.slice A5 n5 k5, .slice A6 n6 k6, .int .i64 q] 26) = w6 at *
    clear hbw
    have CE := hid (fun (W : World) (hW : Below w6.heap.size w6 W) => equalTree_c (TO.out.below (HO6.out.trans (hW.mono HO6.out.size)) (Nat.le_of_lt hlo)) (TW.out.below hW (Nat.le_of_lt hlw)) (Nat.le_trans (Nat.le_of_lt hlo) (Nat.le_trans HO6.out.size hW.size)) (Nat.le_trans (Nat.le_of_lt hlw) hW.size))
    refine (CE.out _ (Below.refl _ _)).mono ?_
    rintro e w7 ⟨rfl, hb⟩
    have HE7 := hid hb
    have HO7 := hid (HO6.out.trans (hb.mono HO6.out.size))
    have HW7 := hid (HW6.out.trans (hb.mono HW6.out.size))
    clear hb o0 o1 o2 p0 p1 p2
    skip
    have TN := hid (fun (W : World) (hO : Below w4.heap.size w4 W) => (And.intro (TO.out.below hO (Nat.le_of_lt hlo)) (Nat.le_trans (Nat.le_of_lt hlo) hO.size)))
    have CB1 := hid (fun (W : World) (hW : Below w2.heap.size w2 W) => implBranchOf_c to (TT.out W hW).1 (TT.out W hW).2 (by unfold maxTxt; omega))
    have CB2 := hid (fun (W : World) (hW : Below w2.heap.size w2 W) => implBranchOf_c nm (TT.out W hW).1 (TT.out W hW).2 (by unfold maxTxt; omega))
    have CB3 := hid (fun (W : World) (hO : Below w4.heap.size w4 W) => implBranchOf_c to (TN.out W hO).1 (TN.out W hO).2 (by unfold maxTxt; omega))
    have CV := hid (fun (W : World) (hO : Below w4.heap.size w4 W) => (show Calls Try.prog 13 #[.agg #[.slice A3 n3 k3, .slice A4 n4 k4, .int .i64 q]] W (BoolPost W true) from by have h9 := implValidTreeX_c (TN.out W hO).1 (TN.out W hO).2; rw [hok2] at h9; exact h9))
    have CN := hid (fun (W : World) => implIsBelow_c to nm W (by omega) (by omega))
    have e3 : n3 = n1 := by have h9 := (TO.out.lens).1; have h8 := HL.out.1; rw [moveT_len] at h9; omega
    have qn : ((n3 : Int) == (n1 : Int)) = true := by rw [e3]; simp
    replace e3 := hid e3
    obtain ⟨⟨d0, _⟩, ⟨d1, _⟩, ⟨d2, _⟩⟩ := (And.intro ((KB.out.to HW7.out).2 0 _ rfl) (And.intro ((KB.out.to HW7.out).2 1 _ rfl) ((KB.out.to HW7.out).2 2 _ rfl)))
    by_cases hbr : branchT L H q to.data.toList = []
    · obtain ⟨hXb, hE⟩ := hmv hbr
      rw [hbr] at CB1
      have CX := hid (fun (W : World) (hO : Below w4.heap.size w4 W) => (show Calls Try.prog 33 #[.agg #[.slice A3 n3 k3, .slice A4 n4 k4, .int .i64 q], .string to, .string nm] W (fun e w' => ∃ v2 rs, e = .returned (.tuple #[v2, .bool true]) ∧ TreeS rs v2 (L) H q ∧ Rows w' W.heap.size rs ∧ Below W.heap.size W w') from by have h9 := implMoveBranch_c to nm (TN.out W hO).1 (TN.out W hO).2 (by unfold maxLen; omega) (by unfold maxLen; omega); rw [hXb] at h9; exact h9))
      clear hX hmv hbr hXb hok hok2
      generalize branchT (moveT L nm.data.toList to.data.toList) H q to.data.toList = P1 at *
      generalize branchT L H q nm.data.toList = P2 at *
      have qe : ((P1.length : Int) == (P2.length : Int)) = true := by rw [hE]; simp
      clear hE
      go_wp2_with fail
      refine (CB1.out _ HW7.out).mono ?_
      rintro e w8 ⟨v8, rfl, ho8, hb⟩
      obtain ⟨A9, c9, rfl, _, _⟩ := (Sl.of_own ho8).form
      have HW8 := hid (HW7.out.trans (hb.mono HW7.out.size))
      have HO8 := hid (HO7.out.trans (hb.mono HO7.out.size))
      clear hb ho8 d0 d1 d2
      have o0 := ((KO.out.to HO8.out).2 0 _ rfl).1
      have o1 := ((KO.out.to HO8.out).2 1 _ rfl).1
      have o2 := ((KO.out.to HO8.out).2 2 _ rfl).1
      go_wp2_with fail
      refine (CX.out _ HO8.out).mono ?_
      rintro e w9 ⟨v9, rs9, rfl, hs9, hr9, hb⟩
      obtain ⟨A7, n7, k7, A8, n8, k8, rfl, -, -⟩ := hs9.form_ hr9
      have hbx9 : Below w9.heap.size w9 (w9.alloc (.cells #[.slice A7 n7 k7, .slice A8 n8 k8, .int .i64 q] 26)) := (Below.refl _ _).alloc (Nat.le_refl _) _
      have TX := hid ((hs9.at_ hr9 hd.out).below hbx9 (Nat.le_refl _))
      have KX := hid (Blk.new w9 #[.slice A7 n7 k7, .slice A8 n8 k8, .int .i64 q] 26)
      have HWA := hid (HW8.out.trans ((hb.trans (hbx9.mono hb.size)).mono HW8.out.size))
      have HOA := hid (HO8.out.trans ((hb.trans (hbx9.mono hb.size)).mono HO8.out.size))
      have hlx : w9.heap.size < (w9.alloc (.cells #[.slice A7 n7 k7, .slice A8 n8 k8, .int .i64 q] 26)).heap.size := by simp
      clear hs9 hr9 hb hbx9 o0 o1 o2
      go_wp2_with fail
      generalize hbx' : w9.heap.size = bx at *
      generalize w9.alloc (.cells #[.slice A7 n7 k7, .slice A8 n8 k8, .int .i64 q] 26) = wa at *
      clear hbx'
      have SF := hid (fun (W : World) (hR : Below wa.heap.size wa W) => (show (W.cell? ⟨bx, 0, none⟩ = some (.slice A7 n7 k7) ∧ W.cell? ⟨bx, 1, none⟩ = some (.slice A8 n8 k8) ∧ W.cell? ⟨bx, 2, none⟩ = some (.int .i64 q)) ∧ (W.cell? ⟨bo, 0, none⟩ = some (.slice A3 n3 k3) ∧ W.cell? ⟨bo, 1, none⟩ = some (.slice A4 n4 k4) ∧ W.cell? ⟨bo, 2, none⟩ = some (.int .i64 q)) ∧ (W.cell? ⟨bb, 0, none⟩ = some (.slice A1 n1 k1) ∧ W.cell? ⟨bb, 1, none⟩ = some (.slice A2 n2 k2) ∧ W.cell? ⟨bb, 2, none⟩ = some (.int .i64 q)) from ⟨⟨((KX.out.to hR).2 0 _ rfl).1, ((KX.out.to hR).2 1 _ rfl).1, ((KX.out.to hR).2 2 _ rfl).1⟩, ⟨((KO.out.to (HOA.out.trans (hR.mono HOA.out.size))).2 0 _ rfl).1, ((KO.out.to (HOA.out.trans (hR.mono HOA.out.size))).2 1 _ rfl).1, ((KO.out.to (HOA.out.trans (hR.mono HOA.out.size))).2 2 _ rfl).1⟩, ⟨((KB.out.to (HWA.out.trans (hR.mono HWA.out.size))).2 0 _ rfl).1, ((KB.out.to (HWA.out.trans (hR.mono HWA.out.size))).2 1 _ rfl).1, ((KB.out.to (HWA.out.trans (hR.mono HWA.out.size))).2 2 _ rfl).1⟩⟩))
      have CQ := hid (fun (W : World) (hR : Below wa.heap.size wa W) => equalTree_c (TX.out.below hR (Nat.le_of_lt hlx)) (TT.out _ (HWA.out.trans (hR.mono HWA.out.size))).1 (Nat.le_trans (Nat.le_of_lt hlx) hR.size) (TT.out _ (HWA.out.trans (hR.mono HWA.out.size))).2)
      have S0 := SF.out _ (Below.refl _ _)
      have C0 := CN.out wa.drew
      cases hz : isB to.data.toList nm.data.toList with
      | true =>
        rw [hz] at C0
        replace C0 := hid C0
        clear hz
        have HR0 := hid ((Below.refl wa.heap.size wa).drew)
        refine wp_region_held_drew (S := (fun w' : World => (w'.cell? ⟨bx, 0, none⟩ = some (.slice A7 n7 k7) ∧ w'.cell? ⟨bx, 1, none⟩ = some (.slice A8 n8 k8) ∧ w'.cell? ⟨bx, 2, none⟩ = some (.int .i64 q)) ∧ (w'.cell? ⟨bo, 0, none⟩ = some (.slice A3 n3 k3) ∧ w'.cell? ⟨bo, 1, none⟩ = some (.slice A4 n4 k4) ∧ w'.cell? ⟨bo, 2, none⟩ = some (.int .i64 q)) ∧ w'.cell? ⟨bb, 0, none⟩ = some (.slice A1 n1 k1) ∧ w'.cell? ⟨bb, 1, none⟩ = some (.slice A2 n2 k2) ∧ w'.cell? ⟨bb, 2, none⟩ = some (.int .i64 q))) (by kernel_rfl) S0 (fun hS => ?_)
        refine wpAnyH_take (i := 0) (oi := ?oi101) (v := ?v101) ?hi101 (by kernel_rfl) ?hf101 ?hr101 ?hQ101 (Or.inl ⟨?hw101, ?hy101⟩) (by assumption) ?rest101
        case hi101 => simp only [List.getElem?_toArray, List.getElem?_cons_succ, List.getElem?_cons_zero]; rfl
        case hf101 => kernel_rfl
        case hr101 => kernel_rfl
        case hw101 => rfl
        case hy101 => (intro w hSw; (try dsimp only at hSw); go_simp; all_goals (first | done | with_reducible rfl))
        case hQ101 => exact fun _ _ _ h => h
        simp only [Act.put, List.setIfInBounds_toArray, List.set_cons_zero, List.set_cons_succ]
        refine wpAnyH_take (i := 1) (oi := ?oi102) (v := ?v102) ?hi102 (by kernel_rfl) ?hf102 ?hr102 ?hQ102 (Or.inl ⟨?hw102, ?hy102⟩) (by assumption) ?rest102
        case hi102 => simp only [List.getElem?_toArray, List.getElem?_cons_succ, List.getElem?_cons_zero]; rfl
        case hf102 => kernel_rfl
        case hr102 => kernel_rfl
        case hw102 => rfl
        case hy102 => (intro w hSw; (try dsimp only at hSw); go_simp; all_goals (first | done | with_reducible rfl))
        case hQ102 => exact fun _ _ _ h => h
        simp only [Act.put, List.setIfInBounds_toArray, List.set_cons_zero, List.set_cons_succ]
        refine wpAnyH_ready (rs := [2]) (by kernel_rfl) (by simp) ?_
        refine AllReadyH.cons (o := ?oi103) ?hi103 (fun K hK => ?step103) AllReadyH.nil
        case hi103 => simp only [List.getElem?_toArray, List.getElem?_cons_succ, List.getElem?_cons_zero]; rfl
        rw [if_pos (by rfl)]
        go_simp
        go_at_call 30
        refine (C0.out).mono ?_
        rintro e wb ⟨rfl, hb⟩
        have HR1 := hid (HR0.out.trans (hb.mono HR0.out.size))
        clear hb
        refine hK.out _ _ (SF.out _ HR1.out) (fun hS => ?_)
        refine wpAnyH_take (i := 3) (oi := ?oi104) (v := ?v104) ?hi104 (by kernel_rfl) ?hf104 ?hr104 ?hQ104 (Or.inl ⟨?hw104, ?hy104⟩) (by assumption) ?rest104
        case hi104 => simp only [List.getElem?_toArray, List.getElem?_cons_succ, List.getElem?_cons_zero]; rfl
        case hf104 => kernel_rfl
        case hr104 => kernel_rfl
        case hw104 => rfl
        case hy104 => (intro w hSw; (try dsimp only at hSw); go_simp; all_goals (first | done | with_reducible rfl))
        case hQ104 => exact fun _ _ _ h => h
        simp only [Act.put, List.setIfInBounds_toArray, List.set_cons_zero, List.set_cons_succ]
        refine wpAnyH_take (i := 4) (oi := ?oi105) (v := undef) ?hi105 (by kernel_rfl) ?hf105 ?hr105 ?hQ105 (Or.inr ⟨?hw105, rfl⟩) (by assumption) ?rest105
        case hi105 => simp only [List.getElem?_toArray, List.getElem?_cons_succ, List.getElem?_cons_zero]; rfl
        case hf105 => kernel_rfl
        case hr105 => kernel_rfl
        case hw105 => rfl
        case hQ105 => exact fun _ _ _ h => h
        simp only [Act.put, List.setIfInBounds_toArray, List.set_cons_zero, List.set_cons_succ]
        refine wpAnyH_take (i := 5) (oi := ?oi106) (v := undef) ?hi106 (by kernel_rfl) ?hf106 ?hr106 ?hQ106 (Or.inr ⟨?hw106, rfl⟩) (by assumption) ?rest106
        case hi106 => simp only [List.getElem?_toArray, List.getElem?_cons_succ, List.getElem?_cons_zero]; rfl
        case hf106 => kernel_rfl
        case hr106 => kernel_rfl
        case hw106 => rfl
        case hQ106 => exact fun _ _ _ h => h
        simp only [Act.put, List.setIfInBounds_toArray, List.set_cons_zero, List.set_cons_succ]
        refine wpAnyH_take (i := 6) (oi := ?oi107) (v := undef) ?hi107 (by kernel_rfl) ?hf107 ?hr107 ?hQ107 (Or.inr ⟨?hw107, rfl⟩) (by assumption) ?rest107
        case hi107 => simp only [List.getElem?_toArray, List.getElem?_cons_succ, List.getElem?_cons_zero]; rfl
        case hf107 => kernel_rfl
        case hr107 => kernel_rfl
        case hw107 => rfl
        case hQ107 => exact fun _ _ _ h => h
        simp only [Act.put, List.setIfInBounds_toArray, List.set_cons_zero, List.set_cons_succ]
        refine wpAnyH_take (i := 7) (oi := ?oi108) (v := undef) ?hi108 (by kernel_rfl) ?hf108 ?hr108 ?hQ108 (Or.inr ⟨?hw108, rfl⟩) (by assumption) ?rest108
        case hi108 => simp only [List.getElem?_toArray, List.getElem?_cons_succ, List.getElem?_cons_zero]; rfl
        case hf108 => kernel_rfl
        case hr108 => kernel_rfl
        case hw108 => rfl
        case hQ108 => exact fun _ _ _ h => h
        simp only [Act.put, List.setIfInBounds_toArray, List.set_cons_zero, List.set_cons_succ]
        refine wpAnyH_take (i := 8) (oi := ?oi109) (v := undef) ?hi109 (by kernel_rfl) ?hf109 ?hr109 ?hQ109 (Or.inr ⟨?hw109, rfl⟩) (by assumption) ?rest109
        case hi109 => simp only [List.getElem?_toArray, List.getElem?_cons_succ, List.getElem?_cons_zero]; rfl
        case hf109 => kernel_rfl
        case hr109 => kernel_rfl
        case hw109 => rfl
        case hQ109 => exact fun _ _ _ h => h
        simp only [Act.put, List.setIfInBounds_toArray, List.set_cons_zero, List.set_cons_succ]
        refine wpAnyH_take (i := 9) (oi := ?oi110) (v := undef) ?hi110 (by kernel_rfl) ?hf110 ?hr110 ?hQ110 (Or.inr ⟨?hw110, rfl⟩) (by assumption) ?rest110
        case hi110 => simp only [List.getElem?_toArray, List.getElem?_cons_succ, List.getElem?_cons_zero]; rfl
        case hf110 => kernel_rfl
        case hr110 => kernel_rfl
        case hw110 => rfl
        case hQ110 => exact fun _ _ _ h => h
        simp only [Act.put, List.setIfInBounds_toArray, List.set_cons_zero, List.set_cons_succ]
        refine wpAnyH_take (i := 10) (oi := ?oi111) (v := ?v111) ?hi111 (by kernel_rfl) ?hf111 ?hr111 ?hQ111 (Or.inl ⟨?hw111, ?hy111⟩) (by assumption) ?rest111
        case hi111 => simp only [List.getElem?_toArray, List.getElem?_cons_succ, List.getElem?_cons_zero]; rfl
        case hf111 => kernel_rfl
        case hr111 => kernel_rfl
        case hw111 => rfl
        case hy111 => (intro w hSw; (try dsimp only at hSw); go_simp; all_goals (first | done | with_reducible rfl))
        case hQ111 => exact fun _ _ _ h => h
        simp only [Act.put, List.setIfInBounds_toArray, List.set_cons_zero, List.set_cons_succ]
        refine wpAnyH_take (i := 11) (oi := ?oi112) (v := ?v112) ?hi112 (by kernel_rfl) ?hf112 ?hr112 ?hQ112 (Or.inl ⟨?hw112, ?hy112⟩) (by assumption) ?rest112
        case hi112 => simp only [List.getElem?_toArray, List.getElem?_cons_succ, List.getElem?_cons_zero]; rfl
        case hf112 => kernel_rfl
        case hr112 => kernel_rfl
        case hw112 => rfl
        case hy112 => (intro w hSw; (try dsimp only at hSw); go_simp; all_goals (first | done | with_reducible rfl))
        case hQ112 => exact fun _ _ _ h => h
        simp only [Act.put, List.setIfInBounds_toArray, List.set_cons_zero, List.set_cons_succ]
        refine wpAnyH_take (i := 12) (oi := ?oi113) (v := ?v113) ?hi113 (by kernel_rfl) ?hf113 ?hr113 ?hQ113 (Or.inl ⟨?hw113, ?hy113⟩) (by assumption) ?rest113
        case hi113 => simp only [List.getElem?_toArray, List.getElem?_cons_succ, List.getElem?_cons_zero]; rfl
        case hf113 => kernel_rfl
        case hr113 => kernel_rfl
        case hw113 => rfl
        case hy113 => (intro w hSw; (try dsimp only at hSw); go_simp; all_goals (first | done | with_reducible rfl))
        case hQ113 => exact fun _ _ _ h => h
        simp only [Act.put, List.setIfInBounds_toArray, List.set_cons_zero, List.set_cons_succ]
        refine wpAnyH_take (i := 13) (oi := ?oi114) (v := ?v114) ?hi114 (by kernel_rfl) ?hf114 ?hr114 ?hQ114 (Or.inl ⟨?hw114, ?hy114⟩) (by assumption) ?rest114
        case hi114 => simp only [List.getElem?_toArray, List.getElem?_cons_succ, List.getElem?_cons_zero]; rfl
        case hf114 => kernel_rfl
        case hr114 => kernel_rfl
        case hw114 => rfl
        case hy114 => (intro w hSw; (try dsimp only at hSw); go_simp; all_goals (first | done | with_reducible rfl))
        case hQ114 => exact fun _ _ _ h => h
        simp only [Act.put, List.setIfInBounds_toArray, List.set_cons_zero, List.set_cons_succ]
        refine wpAnyH_take (i := 16) (oi := ?oi115) (v := ?v115) ?hi115 (by kernel_rfl) ?hf115 ?hr115 ?hQ115 (Or.inl ⟨?hw115, ?hy115⟩) (by assumption) ?rest115
        case hi115 => simp only [List.getElem?_toArray, List.getElem?_cons_succ, List.getElem?_cons_zero]; rfl
        case hf115 => kernel_rfl
        case hr115 => kernel_rfl
        case hw115 => rfl
        case hy115 => (intro w hSw; (try dsimp only at hSw); go_simp; all_goals (first | done | with_reducible rfl))
        case hQ115 => exact fun _ _ _ h => h
        simp only [Act.put, List.setIfInBounds_toArray, List.set_cons_zero, List.set_cons_succ]
        refine wpAnyH_take (i := 17) (oi := ?oi116) (v := ?v116) ?hi116 (by kernel_rfl) ?hf116 ?hr116 ?hQ116 (Or.inl ⟨?hw116, ?hy116⟩) (by assumption) ?rest116
        case hi116 => simp only [List.getElem?_toArray, List.getElem?_cons_succ, List.getElem?_cons_zero]; rfl
        case hf116 => kernel_rfl
        case hr116 => kernel_rfl
        case hw116 => rfl
        case hy116 => (intro w hSw; (try dsimp only at hSw); go_simp; all_goals (first | done | with_reducible rfl))
        case hQ116 => exact fun _ _ _ h => h
        simp only [Act.put, List.setIfInBounds_toArray, List.set_cons_zero, List.set_cons_succ]
        refine wpAnyH_ready (rs := [14]) (by kernel_rfl) (by simp) ?_
        refine AllReadyH.cons (o := ?oi117) ?hi117 (fun K hK => ?step117) AllReadyH.nil
        case hi117 => simp only [List.getElem?_toArray, List.getElem?_cons_succ, List.getElem?_cons_zero]; rfl
        rw [if_pos (by rfl)]
        go_simp
        go_at_call 10
        refine (CB3.out _ (HOA.out.trans (HR1.out.mono HOA.out.size))).mono ?_
        rintro e wd ⟨v5, rfl, ho5, hb⟩
        obtain ⟨AB, cB, rfl, _, _⟩ := (Sl.of_own ho5).form
        have HR2 := hid (HR1.out.trans (hb.mono HR1.out.size))
        clear hb ho5
        refine hK.out _ _ (SF.out _ HR2.out) (fun hS => ?_)
        refine wpAnyH_take (i := 15) (oi := ?oi118) (v := ?v118) ?hi118 (by kernel_rfl) ?hf118 ?hr118 ?hQ118 (Or.inl ⟨?hw118, ?hy118⟩) (by assumption) ?rest118
        case hi118 => simp only [List.getElem?_toArray, List.getElem?_cons_succ, List.getElem?_cons_zero]; rfl
        case hf118 => kernel_rfl
        case hr118 => kernel_rfl
        case hw118 => rfl
        case hy118 => (intro w hSw; (try dsimp only at hSw); go_simp; all_goals (first | done | with_reducible rfl))
        case hQ118 => exact fun _ _ _ h => h
        simp only [Act.put, List.setIfInBounds_toArray, List.set_cons_zero, List.set_cons_succ]
        refine wpAnyH_ready (rs := [18]) (by kernel_rfl) (by simp) ?_
        refine AllReadyH.cons (o := ?oi119) ?hi119 (fun K hK => ?step119) AllReadyH.nil
        case hi119 => simp only [List.getElem?_toArray, List.getElem?_cons_succ, List.getElem?_cons_zero]; rfl
        rw [if_pos (by rfl)]
        go_simp
        go_at_call 10
        refine (CB2.out _ (HWA.out.trans (HR2.out.mono HWA.out.size))).mono ?_
        rintro e we ⟨v6, rfl, ho6, hb⟩
        obtain ⟨AC, cC, rfl, _, _⟩ := (Sl.of_own ho6).form
        have HR3 := hid (HR2.out.trans (hb.mono HR2.out.size))
        clear hb ho6
        refine hK.out _ _ (SF.out _ HR3.out) (fun hS => ?_)
        refine wpAnyH_take (i := 19) (oi := ?oi120) (v := ?v120) ?hi120 (by kernel_rfl) ?hf120 ?hr120 ?hQ120 (Or.inl ⟨?hw120, ?hy120⟩) (by assumption) ?rest120
        case hi120 => simp only [List.getElem?_toArray, List.getElem?_cons_succ, List.getElem?_cons_zero]; rfl
        case hf120 => kernel_rfl
        case hr120 => kernel_rfl
        case hw120 => rfl
        case hy120 => (intro w hSw; (try dsimp only at hSw); go_simp; all_goals (first | done | with_reducible rfl))
        case hQ120 => exact fun _ _ _ h => h
        simp only [Act.put, List.setIfInBounds_toArray, List.set_cons_zero, List.set_cons_succ]
        refine wpAnyH_take (i := 20) (oi := ?oi121) (v := ?v121) ?hi121 (by kernel_rfl) ?hf121 ?hr121 ?hQ121 (Or.inl ⟨?hw121, ?hy121⟩) (by assumption) ?rest121
        case hi121 => simp only [List.getElem?_toArray, List.getElem?_cons_succ, List.getElem?_cons_zero]; rfl
        case hf121 => kernel_rfl
        case hr121 => kernel_rfl
        case hw121 => rfl
        case hy121 => (intro w hSw; (try dsimp only at hSw); go_simp; all_goals (first | done | with_reducible rfl))
        case hQ121 => exact fun _ _ _ h => h
        simp only [Act.put, List.setIfInBounds_toArray, List.set_cons_zero, List.set_cons_succ]
        refine wpAnyH_take (i := 21) (oi := ?oi122) (v := ?v122) ?hi122 (by kernel_rfl) ?hf122 ?hr122 ?hQ122 (Or.inl ⟨?hw122, ?hy122⟩) (by assumption) ?rest122
        case hi122 => simp only [List.getElem?_toArray, List.getElem?_cons_succ, List.getElem?_cons_zero]; rfl
        case hf122 => kernel_rfl
        case hr122 => kernel_rfl
        case hw122 => rfl
        case hy122 => (intro w hSw; (try dsimp only at hSw); go_simp; all_goals (first | done | with_reducible rfl))
        case hQ122 => exact fun _ _ _ h => h
        simp only [Act.put, List.setIfInBounds_toArray, List.set_cons_zero, List.set_cons_succ]
        refine wpAnyH_take (i := 22) (oi := ?oi123) (v := ?v123) ?hi123 (by kernel_rfl) ?hf123 ?hr123 ?hQ123 (Or.inl ⟨?hw123, ?hy123⟩) (by assumption) ?rest123
        case hi123 => simp only [List.getElem?_toArray, List.getElem?_cons_succ, List.getElem?_cons_zero]; rfl
        case hf123 => kernel_rfl
        case hr123 => kernel_rfl
        case hw123 => rfl
        case hy123 => (intro w hSw; (try dsimp only at hSw); go_simp; all_goals (first | done | with_reducible rfl))
        case hQ123 => exact fun _ _ _ h => h
        simp only [Act.put, List.setIfInBounds_toArray, List.set_cons_zero, List.set_cons_succ]
        refine wpAnyH_done (by kernel_rfl) ?_ _
        clear hS S0
        go_wp2_with fail
        go_ret
        exact ⟨rfl, HB.out.trans ((HWA.out.trans (HR3.out.mono HWA.out.size)).mono HB.out.size)⟩
      | false =>
        rw [hz] at C0
        replace C0 := hid C0
        clear hz
        have HR0 := hid ((Below.refl wa.heap.size wa).drew)
        refine wp_region_held_drew (S := (fun w' : World => (w'.cell? ⟨bx, 0, none⟩ = some (.slice A7 n7 k7) ∧ w'.cell? ⟨bx, 1, none⟩ = some (.slice A8 n8 k8) ∧ w'.cell? ⟨bx, 2, none⟩ = some (.int .i64 q)) ∧ (w'.cell? ⟨bo, 0, none⟩ = some (.slice A3 n3 k3) ∧ w'.cell? ⟨bo, 1, none⟩ = some (.slice A4 n4 k4) ∧ w'.cell? ⟨bo, 2, none⟩ = some (.int .i64 q)) ∧ w'.cell? ⟨bb, 0, none⟩ = some (.slice A1 n1 k1) ∧ w'.cell? ⟨bb, 1, none⟩ = some (.slice A2 n2 k2) ∧ w'.cell? ⟨bb, 2, none⟩ = some (.int .i64 q))) (by kernel_rfl) S0 (fun hS => ?_)
        refine wpAnyH_take (i := 0) (oi := ?oi124) (v := ?v124) ?hi124 (by kernel_rfl) ?hf124 ?hr124 ?hQ124 (Or.inl ⟨?hw124, ?hy124⟩) (by assumption) ?rest124
        case hi124 => simp only [List.getElem?_toArray, List.getElem?_cons_succ, List.getElem?_cons_zero]; rfl
        case hf124 => kernel_rfl
        case hr124 => kernel_rfl
        case hw124 => rfl
        case hy124 => (intro w hSw; (try dsimp only at hSw); go_simp; all_goals (first | done | with_reducible rfl))
        case hQ124 => exact fun _ _ _ h => h
        simp only [Act.put, List.setIfInBounds_toArray, List.set_cons_zero, List.set_cons_succ]
        refine wpAnyH_take (i := 1) (oi := ?oi125) (v := ?v125) ?hi125 (by kernel_rfl) ?hf125 ?hr125 ?hQ125 (Or.inl ⟨?hw125, ?hy125⟩) (by assumption) ?rest125
        case hi125 => simp only [List.getElem?_toArray, List.getElem?_cons_succ, List.getElem?_cons_zero]; rfl
        case hf125 => kernel_rfl
        case hr125 => kernel_rfl
        case hw125 => rfl
        case hy125 => (intro w hSw; (try dsimp only at hSw); go_simp; all_goals (first | done | with_reducible rfl))
        case hQ125 => exact fun _ _ _ h => h
        simp only [Act.put, List.setIfInBounds_toArray, List.set_cons_zero, List.set_cons_succ]
        refine wpAnyH_ready (rs := [2]) (by kernel_rfl) (by simp) ?_
        refine AllReadyH.cons (o := ?oi126) ?hi126 (fun K hK => ?step126) AllReadyH.nil
        case hi126 => simp only [List.getElem?_toArray, List.getElem?_cons_succ, List.getElem?_cons_zero]; rfl
        rw [if_pos (by rfl)]
        go_simp
        go_at_call 30
        refine (C0.out).mono ?_
        rintro e wb ⟨rfl, hb⟩
        have HRa := hid (HR0.out.trans (hb.mono HR0.out.size))
        clear hb
        refine hK.out _ _ (SF.out _ HRa.out) (fun hS => ?_)
        refine wpAnyH_take (i := 3) (oi := ?oi127) (v := ?v127) ?hi127 (by kernel_rfl) ?hf127 ?hr127 ?hQ127 (Or.inl ⟨?hw127, ?hy127⟩) (by assumption) ?rest127
        case hi127 => simp only [List.getElem?_toArray, List.getElem?_cons_succ, List.getElem?_cons_zero]; rfl
        case hf127 => kernel_rfl
        case hr127 => kernel_rfl
        case hw127 => rfl
        case hy127 => (intro w hSw; (try dsimp only at hSw); go_simp; all_goals (first | done | with_reducible rfl))
        case hQ127 => exact fun _ _ _ h => h
        simp only [Act.put, List.setIfInBounds_toArray, List.set_cons_zero, List.set_cons_succ]
        refine wpAnyH_take (i := 4) (oi := ?oi128) (v := ?v128) ?hi128 (by kernel_rfl) ?hf128 ?hr128 ?hQ128 (Or.inl ⟨?hw128, ?hy128⟩) (by assumption) ?rest128
        case hi128 => simp only [List.getElem?_toArray, List.getElem?_cons_succ, List.getElem?_cons_zero]; rfl
        case hf128 => kernel_rfl
        case hr128 => kernel_rfl
        case hw128 => rfl
        case hy128 => (intro w hSw; (try dsimp only at hSw); go_simp; all_goals (first | done | with_reducible rfl))
        case hQ128 => exact fun _ _ _ h => h
        simp only [Act.put, List.setIfInBounds_toArray, List.set_cons_zero, List.set_cons_succ]
        refine wpAnyH_take (i := 5) (oi := ?oi129) (v := ?v129) ?hi129 (by kernel_rfl) ?hf129 ?hr129 ?hQ129 (Or.inl ⟨?hw129, ?hy129⟩) (by assumption) ?rest129
        case hi129 => simp only [List.getElem?_toArray, List.getElem?_cons_succ, List.getElem?_cons_zero]; rfl
        case hf129 => kernel_rfl
        case hr129 => kernel_rfl
        case hw129 => rfl
        case hy129 => (intro w hSw; (try dsimp only at hSw); go_simp; all_goals (first | done | with_reducible rfl))
        case hQ129 => exact fun _ _ _ h => h
        simp only [Act.put, List.setIfInBounds_toArray, List.set_cons_zero, List.set_cons_succ]
        refine wpAnyH_take (i := 6) (oi := ?oi130) (v := ?v130) ?hi130 (by kernel_rfl) ?hf130 ?hr130 ?hQ130 (Or.inl ⟨?hw130, ?hy130⟩) (by assumption) ?rest130
        case hi130 => simp only [List.getElem?_toArray, List.getElem?_cons_succ, List.getElem?_cons_zero]; rfl
        case hf130 => kernel_rfl
        case hr130 => kernel_rfl
        case hw130 => rfl
        case hy130 => (intro w hSw; (try dsimp only at hSw); go_simp; all_goals (first | done | with_reducible rfl))
        case hQ130 => exact fun _ _ _ h => h
        simp only [Act.put, List.setIfInBounds_toArray, List.set_cons_zero, List.set_cons_succ]
        refine wpAnyH_take (i := 7) (oi := ?oi131) (v := ?v131) ?hi131 (by kernel_rfl) ?hf131 ?hr131 ?hQ131 (Or.inl ⟨?hw131, ?hy131⟩) (by assumption) ?rest131
        case hi131 => simp only [List.getElem?_toArray, List.getElem?_cons_succ, List.getElem?_cons_zero]; rfl
        case hf131 => kernel_rfl
        case hr131 => kernel_rfl
        case hw131 => rfl
        case hy131 => (intro w hSw; (try dsimp only at hSw); go_simp; all_goals (first | done | with_reducible rfl))
        case hQ131 => exact fun _ _ _ h => h
        simp only [Act.put, List.setIfInBounds_toArray, List.set_cons_zero, List.set_cons_succ]
        refine wpAnyH_ready (rs := [8]) (by kernel_rfl) (by simp) ?_
        refine AllReadyH.cons (o := ?oi132) ?hi132 (fun K hK => ?step132) AllReadyH.nil
        case hi132 => simp only [List.getElem?_toArray, List.getElem?_cons_succ, List.getElem?_cons_zero]; rfl
        rw [if_pos (by rfl)]
        go_simp
        go_at_call 22
        refine (CQ.out _ HRa.out).mono ?_
        rintro e wc ⟨rfl, hb⟩
        have HR1 := hid (HRa.out.trans (hb.mono HRa.out.size))
        clear hb
        refine hK.out _ _ (SF.out _ HR1.out) (fun hS => ?_)
        refine wpAnyH_take (i := 9) (oi := ?oi133) (v := ?v133) ?hi133 (by kernel_rfl) ?hf133 ?hr133 ?hQ133 (Or.inl ⟨?hw133, ?hy133⟩) (by assumption) ?rest133
        case hi133 => simp only [List.getElem?_toArray, List.getElem?_cons_succ, List.getElem?_cons_zero]; rfl
        case hf133 => kernel_rfl
        case hr133 => kernel_rfl
        case hw133 => rfl
        case hy133 => (intro w hSw; (try dsimp only at hSw); go_simp; all_goals (first | done | with_reducible rfl))
        case hQ133 => exact fun _ _ _ h => h
        simp only [Act.put, List.setIfInBounds_toArray, List.set_cons_zero, List.set_cons_succ]
        refine wpAnyH_take (i := 10) (oi := ?oi134) (v := ?v134) ?hi134 (by kernel_rfl) ?hf134 ?hr134 ?hQ134 (Or.inl ⟨?hw134, ?hy134⟩) (by assumption) ?rest134
        case hi134 => simp only [List.getElem?_toArray, List.getElem?_cons_succ, List.getElem?_cons_zero]; rfl
        case hf134 => kernel_rfl
        case hr134 => kernel_rfl
        case hw134 => rfl
        case hy134 => (intro w hSw; (try dsimp only at hSw); go_simp; all_goals (first | done | with_reducible rfl))
        case hQ134 => exact fun _ _ _ h => h
        simp only [Act.put, List.setIfInBounds_toArray, List.set_cons_zero, List.set_cons_succ]
        refine wpAnyH_take (i := 11) (oi := ?oi135) (v := ?v135) ?hi135 (by kernel_rfl) ?hf135 ?hr135 ?hQ135 (Or.inl ⟨?hw135, ?hy135⟩) (by assumption) ?rest135
        case hi135 => simp only [List.getElem?_toArray, List.getElem?_cons_succ, List.getElem?_cons_zero]; rfl
        case hf135 => kernel_rfl
        case hr135 => kernel_rfl
        case hw135 => rfl
        case hy135 => (intro w hSw; (try dsimp only at hSw); go_simp; all_goals (first | done | with_reducible rfl))
        case hQ135 => exact fun _ _ _ h => h
        simp only [Act.put, List.setIfInBounds_toArray, List.set_cons_zero, List.set_cons_succ]
        refine wpAnyH_take (i := 12) (oi := ?oi136) (v := ?v136) ?hi136 (by kernel_rfl) ?hf136 ?hr136 ?hQ136 (Or.inl ⟨?hw136, ?hy136⟩) (by assumption) ?rest136
        case hi136 => simp only [List.getElem?_toArray, List.getElem?_cons_succ, List.getElem?_cons_zero]; rfl
        case hf136 => kernel_rfl
        case hr136 => kernel_rfl
        case hw136 => rfl
        case hy136 => (intro w hSw; (try dsimp only at hSw); go_simp; all_goals (first | done | with_reducible rfl))
        case hQ136 => exact fun _ _ _ h => h
        simp only [Act.put, List.setIfInBounds_toArray, List.set_cons_zero, List.set_cons_succ]
        refine wpAnyH_take (i := 13) (oi := ?oi137) (v := ?v137) ?hi137 (by kernel_rfl) ?hf137 ?hr137 ?hQ137 (Or.inl ⟨?hw137, ?hy137⟩) (by assumption) ?rest137
        case hi137 => simp only [List.getElem?_toArray, List.getElem?_cons_succ, List.getElem?_cons_zero]; rfl
        case hf137 => kernel_rfl
        case hr137 => kernel_rfl
        case hw137 => rfl
        case hy137 => (intro w hSw; (try dsimp only at hSw); go_simp; all_goals (first | done | with_reducible rfl))
        case hQ137 => exact fun _ _ _ h => h
        simp only [Act.put, List.setIfInBounds_toArray, List.set_cons_zero, List.set_cons_succ]
        refine wpAnyH_take (i := 16) (oi := ?oi138) (v := ?v138) ?hi138 (by kernel_rfl) ?hf138 ?hr138 ?hQ138 (Or.inl ⟨?hw138, ?hy138⟩) (by assumption) ?rest138
        case hi138 => simp only [List.getElem?_toArray, List.getElem?_cons_succ, List.getElem?_cons_zero]; rfl
        case hf138 => kernel_rfl
        case hr138 => kernel_rfl
        case hw138 => rfl
        case hy138 => (intro w hSw; (try dsimp only at hSw); go_simp; all_goals (first | done | with_reducible rfl))
        case hQ138 => exact fun _ _ _ h => h
        simp only [Act.put, List.setIfInBounds_toArray, List.set_cons_zero, List.set_cons_succ]
        refine wpAnyH_take (i := 17) (oi := ?oi139) (v := ?v139) ?hi139 (by kernel_rfl) ?hf139 ?hr139 ?hQ139 (Or.inl ⟨?hw139, ?hy139⟩) (by assumption) ?rest139
        case hi139 => simp only [List.getElem?_toArray, List.getElem?_cons_succ, List.getElem?_cons_zero]; rfl
        case hf139 => kernel_rfl
        case hr139 => kernel_rfl
        case hw139 => rfl
        case hy139 => (intro w hSw; (try dsimp only at hSw); go_simp; all_goals (first | done | with_reducible rfl))
        case hQ139 => exact fun _ _ _ h => h
        simp only [Act.put, List.setIfInBounds_toArray, List.set_cons_zero, List.set_cons_succ]
        refine wpAnyH_ready (rs := [14]) (by kernel_rfl) (by simp) ?_
        refine AllReadyH.cons (o := ?oi140) ?hi140 (fun K hK => ?step140) AllReadyH.nil
        case hi140 => simp only [List.getElem?_toArray, List.getElem?_cons_succ, List.getElem?_cons_zero]; rfl
        rw [if_pos (by rfl)]
        go_simp
        go_at_call 10
        refine (CB3.out _ (HOA.out.trans (HR1.out.mono HOA.out.size))).mono ?_
        rintro e wd ⟨v5, rfl, ho5, hb⟩
        obtain ⟨AB, cB, rfl, _, _⟩ := (Sl.of_own ho5).form
        have HR2 := hid (HR1.out.trans (hb.mono HR1.out.size))
        clear hb ho5
        refine hK.out _ _ (SF.out _ HR2.out) (fun hS => ?_)
        refine wpAnyH_take (i := 15) (oi := ?oi141) (v := ?v141) ?hi141 (by kernel_rfl) ?hf141 ?hr141 ?hQ141 (Or.inl ⟨?hw141, ?hy141⟩) (by assumption) ?rest141
        case hi141 => simp only [List.getElem?_toArray, List.getElem?_cons_succ, List.getElem?_cons_zero]; rfl
        case hf141 => kernel_rfl
        case hr141 => kernel_rfl
        case hw141 => rfl
        case hy141 => (intro w hSw; (try dsimp only at hSw); go_simp; all_goals (first | done | with_reducible rfl))
        case hQ141 => exact fun _ _ _ h => h
        simp only [Act.put, List.setIfInBounds_toArray, List.set_cons_zero, List.set_cons_succ]
        refine wpAnyH_ready (rs := [18]) (by kernel_rfl) (by simp) ?_
        refine AllReadyH.cons (o := ?oi142) ?hi142 (fun K hK => ?step142) AllReadyH.nil
        case hi142 => simp only [List.getElem?_toArray, List.getElem?_cons_succ, List.getElem?_cons_zero]; rfl
        rw [if_pos (by rfl)]
        go_simp
        go_at_call 10
        refine (CB2.out _ (HWA.out.trans (HR2.out.mono HWA.out.size))).mono ?_
        rintro e we ⟨v6, rfl, ho6, hb⟩
        obtain ⟨AC, cC, rfl, _, _⟩ := (Sl.of_own ho6).form
        have HR3 := hid (HR2.out.trans (hb.mono HR2.out.size))
        clear hb ho6
        refine hK.out _ _ (SF.out _ HR3.out) (fun hS => ?_)
        refine wpAnyH_take (i := 19) (oi := ?oi143) (v := ?v143) ?hi143 (by kernel_rfl) ?hf143 ?hr143 ?hQ143 (Or.inl ⟨?hw143, ?hy143⟩) (by assumption) ?rest143
        case hi143 => simp only [List.getElem?_toArray, List.getElem?_cons_succ, List.getElem?_cons_zero]; rfl
        case hf143 => kernel_rfl
        case hr143 => kernel_rfl
        case hw143 => rfl
        case hy143 => (intro w hSw; (try dsimp only at hSw); go_simp; all_goals (first | done | with_reducible rfl))
        case hQ143 => exact fun _ _ _ h => h
        simp only [Act.put, List.setIfInBounds_toArray, List.set_cons_zero, List.set_cons_succ]
        refine wpAnyH_take (i := 20) (oi := ?oi144) (v := ?v144) ?hi144 (by kernel_rfl) ?hf144 ?hr144 ?hQ144 (Or.inl ⟨?hw144, ?hy144⟩) (by assumption) ?rest144
        case hi144 => simp only [List.getElem?_toArray, List.getElem?_cons_succ, List.getElem?_cons_zero]; rfl
        case hf144 => kernel_rfl
        case hr144 => kernel_rfl
        case hw144 => rfl
        case hy144 => (intro w hSw; (try dsimp only at hSw); go_simp; all_goals (first | done | with_reducible rfl))
        case hQ144 => exact fun _ _ _ h => h
        simp only [Act.put, List.setIfInBounds_toArray, List.set_cons_zero, List.set_cons_succ]
        refine wpAnyH_take (i := 21) (oi := ?oi145) (v := ?v145) ?hi145 (by kernel_rfl) ?hf145 ?hr145 ?hQ145 (Or.inl ⟨?hw145, ?hy145⟩) (by assumption) ?rest145
        case hi145 => simp only [List.getElem?_toArray, List.getElem?_cons_succ, List.getElem?_cons_zero]; rfl
        case hf145 => kernel_rfl
        case hr145 => kernel_rfl
        case hw145 => rfl
        case hy145 => (intro w hSw; (try dsimp only at hSw); go_simp; all_goals (first | done | with_reducible rfl))
        case hQ145 => exact fun _ _ _ h => h
        simp only [Act.put, List.setIfInBounds_toArray, List.set_cons_zero, List.set_cons_succ]
        refine wpAnyH_take (i := 22) (oi := ?oi146) (v := ?v146) ?hi146 (by kernel_rfl) ?hf146 ?hr146 ?hQ146 (Or.inl ⟨?hw146, ?hy146⟩) (by assumption) ?rest146
        case hi146 => simp only [List.getElem?_toArray, List.getElem?_cons_succ, List.getElem?_cons_zero]; rfl
        case hf146 => kernel_rfl
        case hr146 => kernel_rfl
        case hw146 => rfl
        case hy146 => (intro w hSw; (try dsimp only at hSw); go_simp; all_goals (first | done | with_reducible rfl))
        case hQ146 => exact fun _ _ _ h => h
        simp only [Act.put, List.setIfInBounds_toArray, List.set_cons_zero, List.set_cons_succ]
        refine wpAnyH_done (by kernel_rfl) ?_ _
        clear hS S0
        go_wp2_with fail
        go_ret
        exact ⟨rfl, HB.out.trans ((HWA.out.trans (HR3.out.mono HWA.out.size)).mono HB.out.size)⟩
    · have hp0 : 0 < (branchT L H q to.data.toList).length := List.length_pos_iff.2 hbr
      clear hX hmv hbr hok hok2
      generalize branchT L H q to.data.toList = P0 at *
      have hpi : (0 : Int) < (P0.length : Int) := by omega
      clear hp0
      go_wp2_with fail
      refine (CB1.out _ HW7.out).mono ?_
      rintro e w8 ⟨v8, rfl, ho8, hb⟩
      obtain ⟨A9, c9, rfl, _, _⟩ := (Sl.of_own ho8).form
      have HW8 := hid (HW7.out.trans (hb.mono HW7.out.size))
      have HO8 := hid (HO7.out.trans (hb.mono HO7.out.size))
      clear hb ho8 d0 d1 d2
      have d0 := ((KB.out.to HW8.out).2 0 _ rfl).1
      have o0 := ((KO.out.to HO8.out).2 0 _ rfl).1
      have o1 := ((KO.out.to HO8.out).2 1 _ rfl).1
      have o2 := ((KO.out.to HO8.out).2 2 _ rfl).1
      go_wp2_with fail
      refine (CV.out _ HO8.out).mono ?_
      rintro e w9 ⟨rfl, hb⟩
      have HW9 := hid (HW8.out.trans (hb.mono HW8.out.size))
      clear hb d0 o0 o1 o2
      go_wp2_with fail
      go_ret
      exact ⟨rfl, HB.out.trans (HW9.out.mono HB.out.size)⟩
end Go.Proofs.Ytcgcbgbmofooiaa
