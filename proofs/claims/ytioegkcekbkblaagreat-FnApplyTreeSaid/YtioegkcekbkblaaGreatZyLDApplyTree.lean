/-
  WALK: the law FnApplyTree. By gen_dapply.py.
-/
import Derived.Test.YtioegkcekbkblaaGreatZyE37
import Derived.Test.YtioegkcekbkblaaGreatZySA0
import Derived.Test.YtioegkcekbkblaaGreatZyAP3
import Derived.Test.YtioegkcekbkblaaGreatZyE13
import Derived.Test.YtioegkcekbkblaaGreatZySN9
import Derived.Test.YtioegkcekbkblaaGreatZyEqSent
import Derived.Test.YtioegkcekbkblaaGreatZyLookI
import Derived.Test.YtioegkcekbkblaaGreatZySpotLaws
namespace Go.Proofs.YtioegkcekbkblaaGreat
open Go.RowKit Go.Proofs.YtioegkcekbkblaaGreat.Nm
set_option linter.unusedSimpArgs false
set_option linter.unusedVariables false

theorem fit_noneA : dataFit [] [] := ⟨⟨by simp, by simp⟩, ⟨by simp, by simp⟩⟩
theorem ns_left {L N : List Lgr} {k : Nat} (hk : k < L.length) : (nsOf (L ++ N)).getD k [] = (nsOf L).getD k [] := by
  unfold nsOf
  rw [List.map_append, List.getD_eq_getElem?_getD, List.getD_eq_getElem?_getD, List.getElem?_append_left (by simpa using hk)]
theorem lgrCells {W : World} {B g o n1 k1 n2 k2 : Nat} {A2 : Option Addr} {L : List Lgr} {H : List Hnd} {q : Int} (h : TreeIn W B (.agg #[.slice (some ⟨g, o, none⟩) n1 k1, .slice A2 n2 k2, .int .i64 q]) L H q) {k : Nat} (hk : k < n1) :
    ∃ (p : ByteArray) (A7 : Option Addr) (hn k7 : Nat) (A8 : Option Addr) (fn k8 : Nat), p.data.toList = (nsOf L).getD k [] ∧ p.size ≤ maxTxt ∧
      W.cell? ⟨g, o + k * 6, none⟩ = some (.string p) ∧ W.cell? ⟨g, o + k * 6 + 1, none⟩ = some (.int .i64 (lvAt L k)) ∧ W.cell? ⟨g, o + k * 6 + 2, none⟩ = some (.slice A7 hn k7) ∧ W.cell? ⟨g, o + k * 6 + 3, none⟩ = some (.slice A8 fn k8) ∧
      W.cell? ⟨g, o + k * 6 + 4, none⟩ = some (.bool (stopAt L k)) ∧ W.cell? ⟨g, o + k * 6 + 5, none⟩ = some (.bool (offAt L k)) := by
  obtain ⟨ls, hl, hL⟩ := h.loggers
  obtain ⟨p, A3, hn, k3, A4, fn, k4, h1, h2, _, _, c⟩ := logger_at hl hL hk
  exact ⟨p, A3, hn, k3, A4, fn, k4, h1, h2, c⟩
theorem tree_open {W : World} {B n1 k1 n2 k2 : Nat} {A1 A2 : Option Addr} {L : List Lgr} {H : List Hnd} {q : Int} (h : TreeIn W B (.agg #[.slice A1 n1 k1, .slice A2 n2 k2, .int .i64 q]) L H q) (hok : treeOk L H q = true) : (∃ g o, A1 = some ⟨g, o, none⟩) ∧ n1 = L.length ∧ n1 ≤ 8 ∧ n1 ≤ k1 ∧ k1 ≤ maxLen := by
  obtain ⟨b, o, n', k', A', n'', k'', ls, he, hl, _, _, hn, h8, _, _⟩ := h.opened hok
  obtain ⟨A9, c9, e9, h91, h92⟩ := hl.1.form
  simp at he e9
  obtain ⟨⟨e1, e2, e3⟩, _⟩ := he
  refine ⟨⟨b, o, e1⟩, by omega, by omega, ?_, ?_⟩
  · rw [e2, e3, e9.2]; exact h91
  · rw [e3, e9.2]; exact h92
set_option maxHeartbeats 16000000 in
set_option maxRecDepth 100000 in
theorem walk_FnApplyTree (a0 : Option Addr) (len0 cap0 : Nat) (z0 : List Int) (w : World) (w0 : IsRow .u8 w a0 len0 cap0 z0) :
    Calls Tryz.prog 10 #[.slice a0 len0 cap0] w (BoolPost w true) := by
  have hb0 := w0.leT
  by_cases h1 : (1048576 : Int) < (len0 : Int)
  · go_enter Tryz.func10, Tryz.ntmps10
    go_wp2_with fail
    go_ret
    exact ⟨rfl, Below.refl _ _⟩
  have DR := hid (drawApplyTree_c a0 len0 cap0 z0 w w0)
  clear w0
  go_enter Tryz.func10, Tryz.ntmps10
  go_wp2_with fail
  refine DR.out.mono ?_
  rintro e w1 ⟨v, rs, La, Ha, qa, vb, rsb, L, H, q, rfl, hs, hsm, hsb, hsmb, hr, hrb, hb⟩
  obtain ⟨A1, n1, k1, A2, n2, k2, rfl, hn1, hn2⟩ := hs.form_ hr
  obtain ⟨B1, m1, j1, B2, m2, j2, rfl, hm1, hm2⟩ := hsb.form_ hrb
  have hd := sm_fit hsm (by omega)
  have hdb := sm_fit hsmb (by omega)
  have hbx : Below w1.heap.size w1 ((w1.alloc (.cells #[.slice A1 n1 k1, .slice A2 n2 k2, .int .i64 qa] 26)).alloc (.cells #[.slice B1 m1 j1, .slice B2 m2 j2, .int .i64 q] 26)) := ((Below.refl _ _).alloc (Nat.le_refl _) _).alloc (by simp) _
  have TI := hid ((hs.at_ hr hd).below hbx (Nat.le_refl _))
  have TJ := hid ((hsb.at_ hrb hdb).below hbx (Nat.le_refl _))
  have KA := hid ((Blk.new w1 #[.slice A1 n1 k1, .slice A2 n2 k2, .int .i64 qa] 26).alloc (.cells #[.slice B1 m1 j1, .slice B2 m2 j2, .int .i64 q] 26))
  have KB := hid (Blk.new (w1.alloc (.cells #[.slice A1 n1 k1, .slice A2 n2 k2, .int .i64 qa] 26)) #[.slice B1 m1 j1, .slice B2 m2 j2, .int .i64 q] 26)
  simp only [World.size_alloc] at KB
  have HB := hid (hb.trans (hbx.mono hb.size))
  have hl1 : w1.heap.size ≤ ((w1.alloc (.cells #[.slice A1 n1 k1, .slice A2 n2 k2, .int .i64 qa] 26)).alloc (.cells #[.slice B1 m1 j1, .slice B2 m2 j2, .int .i64 q] 26)).heap.size := by simp; omega
  have DX := hid (app_res_fit La Ha qa L H q)
  have HD := hid hdb
  clear hs hr hb hsm hsb hrb hsmb hn1 hn2 hm1 hm2 hbx DR hd hdb
  have d0 := (KA.out.2 0 _ rfl).1
  have d1 := (KA.out.2 1 _ rfl).1
  have d2 := (KA.out.2 2 _ rfl).1
  have e0 := (KB.out.2 0 _ rfl).1
  have e1 := (KB.out.2 1 _ rfl).1
  have e2 := (KB.out.2 2 _ rfl).1
  go_wp2_with fail
  generalize hbb : w1.heap.size + 1 = bb at *
  generalize hba : w1.heap.size = ba at *
  generalize ((w1.alloc (.cells #[.slice A1 n1 k1, .slice A2 n2 k2, .int .i64 qa] 26)).alloc (.cells #[.slice B1 m1 j1, .slice B2 m2 j2, .int .i64 q] 26)) = w2 at *
  clear hbb hba
  have HW2 := hid (Below.refl w2.heap.size w2)
  have TA := hid (fun (W : World) (hW : Below w2.heap.size w2 W) => (And.intro (TI.out.below hW hl1) (Nat.le_trans hl1 hW.size)))
  have TB := hid (fun (W : World) (hW : Below w2.heap.size w2 W) => (And.intro (TJ.out.below hW hl1) (Nat.le_trans hl1 hW.size)))
  rcases app_cases La Ha qa L H q with hX | ⟨hok, hok2, hX⟩
  · have CI := hid (fun (W : World) (hW : Below w2.heap.size w2 W) => (show Calls Tryz.prog 39 #[.agg #[.slice A1 n1 k1, .slice A2 n2 k2, .int .i64 qa], .agg #[.slice B1 m1 j1, .slice B2 m2 j2, .int .i64 q]] W (fun e w' => ∃ v2 rs2, e = .returned (.tuple #[v2, .bool false]) ∧ TreeS rs2 v2 [] [] 0 ∧ Rows w' W.heap.size rs2 ∧ Below W.heap.size W w') from by have h9 := implApplyTree_c (TA.out W hW).1 (TA.out W hW).2 (TB.out W hW).1 (TB.out W hW).2; rw [hX] at h9; exact h9))
    have CS := hid (fun (W : World) (hW : Below w2.heap.size w2 W) => (show Calls Tryz.prog 40 #[.agg #[.slice A1 n1 k1, .slice A2 n2 k2, .int .i64 qa], .agg #[.slice B1 m1 j1, .slice B2 m2 j2, .int .i64 q]] W (fun e w' => ∃ v2 rs2, e = .returned (.tuple #[v2, .bool false]) ∧ TreeS rs2 v2 [] [] 0 ∧ Rows w' W.heap.size rs2 ∧ Below W.heap.size W w') from by have h9 := specApplyTree_c (TA.out W hW).1 (TA.out W hW).2 (TB.out W hW).1 (TB.out W hW).2; rw [hX] at h9; exact h9))
    clear hX DX
    refine (CI.out _ HW2.out).mono ?_
    rintro e w3 ⟨v3, rs3, rfl, hs3, hr3, hb⟩
    obtain ⟨A3, n3, k3, A4, n4, k4, rfl, -, -⟩ := hs3.form_ hr3
    have TO0 := hs3.at_ hr3 fit_noneA
    have hbx3 : Below w3.heap.size w3 (w3.alloc (.cells #[.slice A3 n3 k3, .slice A4 n4 k4, .int .i64 0] 26)) := (Below.refl _ _).alloc (Nat.le_refl _) _
    have TO := hid (TO0.below hbx3 (Nat.le_refl _))
    have KO := hid (Blk.new w3 #[.slice A3 n3 k3, .slice A4 n4 k4, .int .i64 0] 26)
    have HW4 := hid (HW2.out.trans ((hb.trans (hbx3.mono hb.size)).mono HW2.out.size))
    have hlo : w3.heap.size ≤ (w3.alloc (.cells #[.slice A3 n3 k3, .slice A4 n4 k4, .int .i64 0] 26)).heap.size := by simp
    clear hs3 hr3 hb hbx3 d0 d1 d2 e0 e1 e2 TO0
    have d0 := ((KA.out.to HW4.out).2 0 _ rfl).1
    have d1 := ((KA.out.to HW4.out).2 1 _ rfl).1
    have d2 := ((KA.out.to HW4.out).2 2 _ rfl).1
    have e0 := ((KB.out.to HW4.out).2 0 _ rfl).1
    have e1 := ((KB.out.to HW4.out).2 1 _ rfl).1
    have e2 := ((KB.out.to HW4.out).2 2 _ rfl).1
    go_wp2_with fail
    generalize hbo : w3.heap.size = bo at *
    generalize w3.alloc (.cells #[.slice A3 n3 k3, .slice A4 n4 k4, .int .i64 0] 26) = w4 at *
    clear hbo
    refine (CS.out _ HW4.out).mono ?_
    rintro e w5 ⟨v5, rs5, rfl, hs5, hr5, hb⟩
    obtain ⟨P1, pn1, pk1, P2, pn2, pk2, rfl, -, -⟩ := hs5.form_ hr5
    have TP0 := hs5.at_ hr5 fit_noneA
    have hbx5 : Below w5.heap.size w5 (w5.alloc (.cells #[.slice P1 pn1 pk1, .slice P2 pn2 pk2, .int .i64 0] 26)) := (Below.refl _ _).alloc (Nat.le_refl _) _
    have TPw := hid (TP0.below hbx5 (Nat.le_refl _))
    have KP := hid (Blk.new w5 #[.slice P1 pn1 pk1, .slice P2 pn2 pk2, .int .i64 0] 26)
    have hb46 := (hb.trans (hbx5.mono hb.size))
    have HB46 := hid hb46
    have HW6 := hid (HW4.out.trans (hb46.mono HW4.out.size))
    have hlp : w5.heap.size ≤ (w5.alloc (.cells #[.slice P1 pn1 pk1, .slice P2 pn2 pk2, .int .i64 0] 26)).heap.size := by simp
    clear hs5 hr5 hb hbx5 hb46 d0 d1 d2 e0 e1 e2 TP0
    have o0 := ((KO.out.to HB46.out).2 0 _ rfl).1
    have o1 := ((KO.out.to HB46.out).2 1 _ rfl).1
    have o2 := ((KO.out.to HB46.out).2 2 _ rfl).1
    have p0 := (KP.out.2 0 _ rfl).1
    have p1 := (KP.out.2 1 _ rfl).1
    have p2 := (KP.out.2 2 _ rfl).1
    go_wp2_with fail
    generalize hbp : w5.heap.size = bp at *
    generalize w5.alloc (.cells #[.slice P1 pn1 pk1, .slice P2 pn2 pk2, .int .i64 0] 26) = w6 at *
    clear hbp
    have TN := hid (fun (W : World) (hO : Below w6.heap.size w6 W) => (And.intro (TO.out.below (HB46.out.trans (hO.mono HB46.out.size)) hlo) (Nat.le_trans hlo (HB46.out.trans (hO.mono HB46.out.size)).size)))
    have TQ := hid (fun (W : World) (hO : Below w6.heap.size w6 W) => (And.intro (TPw.out.below hO hlp) (Nat.le_trans hlp hO.size)))
    have CQ := hid (fun (W : World) (hO : Below w6.heap.size w6 W) => equalTree_c (TN.out W hO).1 (TQ.out W hO).1 (TN.out W hO).2 (TQ.out W hO).2)
    have KO6 := hid (KO.out.to HB46.out)
    have HO6 := hid (Below.refl w6.heap.size w6)
    clear o0 o1 o2 p0 p1 p2
    refine (CQ.out _ HO6.out).mono ?_
    rintro e w7 ⟨rfl, hb⟩
    have HO7 := hid hb
    clear hb
    have o0 := ((KO6.out.to HO7.out).2 0 _ rfl).1
    have o1 := ((KO6.out.to HO7.out).2 1 _ rfl).1
    have o2 := ((KO6.out.to HO7.out).2 2 _ rfl).1
    have p0 := ((KP.out.to HO7.out).2 0 _ rfl).1
    have p1 := ((KP.out.to HO7.out).2 1 _ rfl).1
    have p2 := ((KP.out.to HO7.out).2 2 _ rfl).1
    go_wp2_with fail
    refine (CQ.out _ HO7.out).mono ?_
    rintro e w8 ⟨rfl, hb⟩
    have HO8 := hid (HO7.out.trans (hb.mono HO7.out.size))
    clear hb
    go_wp2_with fail
    go_ret
    exact ⟨rfl, HB.out.trans ((HW6.out.trans (HO8.out.mono HW6.out.size)).mono HB.out.size)⟩
  · have hSn := @app_sends La L H q hok hok2
    have hself := app_self hok
    have DX2 : dataFit (L ++ restL La L) H := by have h9 := DX.out; rw [hX] at h9; exact h9
    have CI := hid (fun (W : World) (hW : Below w2.heap.size w2 W) => (show Calls Tryz.prog 39 #[.agg #[.slice A1 n1 k1, .slice A2 n2 k2, .int .i64 qa], .agg #[.slice B1 m1 j1, .slice B2 m2 j2, .int .i64 q]] W (fun e w' => ∃ v2 rs2, e = .returned (.tuple #[v2, .bool true]) ∧ TreeS rs2 v2 (L ++ restL La L) H q ∧ Rows w' W.heap.size rs2 ∧ Below W.heap.size W w') from by have h9 := implApplyTree_c (TA.out W hW).1 (TA.out W hW).2 (TB.out W hW).1 (TB.out W hW).2; rw [hX] at h9; exact h9))
    have CS := hid (fun (W : World) (hW : Below w2.heap.size w2 W) => (show Calls Tryz.prog 40 #[.agg #[.slice A1 n1 k1, .slice A2 n2 k2, .int .i64 qa], .agg #[.slice B1 m1 j1, .slice B2 m2 j2, .int .i64 q]] W (fun e w' => ∃ v2 rs2, e = .returned (.tuple #[v2, .bool true]) ∧ TreeS rs2 v2 (L ++ restL La L) H q ∧ Rows w' W.heap.size rs2 ∧ Below W.heap.size W w') from by have h9 := specApplyTree_c (TA.out W hW).1 (TA.out W hW).2 (TB.out W hW).1 (TB.out W hW).2; rw [hX] at h9; exact h9))
    obtain ⟨⟨g1, o1, rfl⟩, hm1, hm8, hmj, hjm⟩ := tree_open TJ.out hok
    unfold maxLen at hjm
    have hLe : L.length = m1 := hm1.symm
    have hML : ∀ k, k < L.length → (nsOf (L ++ restL La L)).getD k [] = (nsOf L).getD k [] := fun k hk => ns_left hk
    have hMl : L.length ≤ (L ++ restL La L).length := by rw [List.length_append]; omega
    generalize L ++ restL La L = M at *
    have HS := hid (And.intro hSn (And.intro hML (And.intro hLe hMl)))
    have HSelf := hid hself
    have HOk := hid (And.intro hok hok2)
    replace DX2 := hid DX2
    clear hX DX hSn hself hok hok2 hML hm1 hLe hMl
    refine (CI.out _ HW2.out).mono ?_
    rintro e w3 ⟨v3, rs3, rfl, hs3, hr3, hb⟩
    obtain ⟨A3, n3, k3, A4, n4, k4, rfl, -, -⟩ := hs3.form_ hr3
    have TO0 := hs3.at_ hr3 DX2.out
    obtain ⟨⟨g3, o3, rfl⟩, hn3, hn8, hnk, hkm⟩ := tree_open TO0 HOk.out.2
    unfold maxLen at hkm
    replace hn3 := hid hn3
    have hbx3 : Below w3.heap.size w3 (w3.alloc (.cells #[.slice (some ⟨g3, o3, none⟩) n3 k3, .slice A4 n4 k4, .int .i64 q] 26)) := (Below.refl _ _).alloc (Nat.le_refl _) _
    have TO := hid (TO0.below hbx3 (Nat.le_refl _))
    have KO := hid (Blk.new w3 #[.slice (some ⟨g3, o3, none⟩) n3 k3, .slice A4 n4 k4, .int .i64 q] 26)
    have HW4 := hid (HW2.out.trans ((hb.trans (hbx3.mono hb.size)).mono HW2.out.size))
    have hlo : w3.heap.size ≤ (w3.alloc (.cells #[.slice (some ⟨g3, o3, none⟩) n3 k3, .slice A4 n4 k4, .int .i64 q] 26)).heap.size := by simp
    clear hs3 hr3 hb hbx3 d0 d1 d2 e0 e1 e2 TO0
    have d0 := ((KA.out.to HW4.out).2 0 _ rfl).1
    have d1 := ((KA.out.to HW4.out).2 1 _ rfl).1
    have d2 := ((KA.out.to HW4.out).2 2 _ rfl).1
    have e0 := ((KB.out.to HW4.out).2 0 _ rfl).1
    have e1 := ((KB.out.to HW4.out).2 1 _ rfl).1
    have e2 := ((KB.out.to HW4.out).2 2 _ rfl).1
    go_wp2_with fail
    generalize hbo : w3.heap.size = bo at *
    generalize w3.alloc (.cells #[.slice (some ⟨g3, o3, none⟩) n3 k3, .slice A4 n4 k4, .int .i64 q] 26) = w4 at *
    clear hbo
    refine (CS.out _ HW4.out).mono ?_
    rintro e w5 ⟨v5, rs5, rfl, hs5, hr5, hb⟩
    obtain ⟨P1, pn1, pk1, P2, pn2, pk2, rfl, -, -⟩ := hs5.form_ hr5
    have TP0 := hs5.at_ hr5 DX2.out
    have hbx5 : Below w5.heap.size w5 (w5.alloc (.cells #[.slice P1 pn1 pk1, .slice P2 pn2 pk2, .int .i64 q] 26)) := (Below.refl _ _).alloc (Nat.le_refl _) _
    have TPw := hid (TP0.below hbx5 (Nat.le_refl _))
    have KP := hid (Blk.new w5 #[.slice P1 pn1 pk1, .slice P2 pn2 pk2, .int .i64 q] 26)
    have hb46 := (hb.trans (hbx5.mono hb.size))
    have HB46 := hid hb46
    have HW6 := hid (HW4.out.trans (hb46.mono HW4.out.size))
    have hlp : w5.heap.size ≤ (w5.alloc (.cells #[.slice P1 pn1 pk1, .slice P2 pn2 pk2, .int .i64 q] 26)).heap.size := by simp
    clear hs5 hr5 hb hbx5 hb46 d0 d1 d2 e0 e1 e2 TP0
    have o0 := ((KO.out.to HB46.out).2 0 _ rfl).1
    have o1 := ((KO.out.to HB46.out).2 1 _ rfl).1
    have o2 := ((KO.out.to HB46.out).2 2 _ rfl).1
    have p0 := (KP.out.2 0 _ rfl).1
    have p1 := (KP.out.2 1 _ rfl).1
    have p2 := (KP.out.2 2 _ rfl).1
    go_wp2_with fail
    generalize hbp : w5.heap.size = bp at *
    generalize w5.alloc (.cells #[.slice P1 pn1 pk1, .slice P2 pn2 pk2, .int .i64 q] 26) = w6 at *
    clear hbp
    have TN := hid (fun (W : World) (hO : Below w6.heap.size w6 W) => (And.intro (TO.out.below (HB46.out.trans (hO.mono HB46.out.size)) hlo) (Nat.le_trans hlo (HB46.out.trans (hO.mono HB46.out.size)).size)))
    have TQ := hid (fun (W : World) (hO : Below w6.heap.size w6 W) => (And.intro (TPw.out.below hO hlp) (Nat.le_trans hlp hO.size)))
    have CQ := hid (fun (W : World) (hO : Below w6.heap.size w6 W) => equalTree_c (TN.out W hO).1 (TQ.out W hO).1 (TN.out W hO).2 (TQ.out W hO).2)
    have KO6 := hid (KO.out.to HB46.out)
    have HO6 := hid (Below.refl w6.heap.size w6)
    clear o0 o1 o2 p0 p1 p2
    refine (CQ.out _ HO6.out).mono ?_
    rintro e w7 ⟨rfl, hb⟩
    have HO7 := hid hb
    clear hb
    have KB6 := hid (KB.out.to HW6.out)
    have SG := hid (fun (W : World) (hO : Below w6.heap.size w6 W) => (show (fun w' : World => (w'.cell? ⟨bo, 0, none⟩ = some (.slice (some ⟨g3, o3, none⟩) n3 k3) ∧ w'.cell? ⟨bo, 1, none⟩ = some (.slice A4 n4 k4) ∧ w'.cell? ⟨bo, 2, none⟩ = some (.int .i64 q)) ∧ (w'.cell? ⟨bb, 0, none⟩ = some (.slice (some ⟨g1, o1, none⟩) m1 j1) ∧ w'.cell? ⟨bb, 1, none⟩ = some (.slice B2 m2 j2) ∧ w'.cell? ⟨bb, 2, none⟩ = some (.int .i64 q))) W from ⟨⟨((KO6.out.to hO).2 0 _ rfl).1, ((KO6.out.to hO).2 1 _ rfl).1, ((KO6.out.to hO).2 2 _ rfl).1⟩, ((KB6.out.to hO).2 0 _ rfl).1, ((KB6.out.to hO).2 1 _ rfl).1, ((KB6.out.to hO).2 2 _ rfl).1⟩))
    have TM := hid (fun (W : World) (hO : Below w6.heap.size w6 W) => TB.out W (HW6.out.trans (hO.mono HW6.out.size)))
    have CB := hid (fun (W : World) (hO : Below w6.heap.size w6 W) => (show Calls Tryz.prog 39 #[.agg #[.slice (some ⟨g1, o1, none⟩) m1 j1, .slice B2 m2 j2, .int .i64 q], .agg #[.slice (some ⟨g1, o1, none⟩) m1 j1, .slice B2 m2 j2, .int .i64 q]] W (fun e w' => ∃ v2 rs2, e = .returned (.tuple #[v2, .bool true]) ∧ TreeS rs2 v2 L H q ∧ Rows w' W.heap.size rs2 ∧ Below W.heap.size W w') from by have h9 := implApplyTree_c (TM.out W hO).1 (TM.out W hO).2 (TM.out W hO).1 (TM.out W hO).2; rw [HSelf.out] at h9; exact h9))
    clear CQ CI CS TA TB TI TJ KA KB KP TPw TQ TO
    go_wp2_with fail
    go_loopw [9] (fun iv wr => ∃ (k : Nat), iv = .int .i64 k ∧ k ≤ m1 ∧ Hid (Below w6.heap.size w6 wr)) (fun iv _ => m1 - (intOf iv).toNat)
    case atStart => exact ⟨0, rfl, by omega, HO7⟩
    case round =>
      obtain ⟨k, rfl, hk, HOr⟩ := hrel
      obtain ⟨_, e0, _⟩ := SG.out _ HOr.out
      by_cases hlt : k < m1
      · obtain ⟨p, A7, hn, k7, A8, fn, k8, hpn, hp9, c0, _⟩ := lgrCells (TM.out wr HOr.out).1 hlt
        unfold maxTxt at hp9
        have HPn := hid hpn
        have s0 : (0 : Int) ≤ (k : Int) := by omega
        have s1 : (k : Int) < (m1 : Int) := by omega
        have s2 : ((k : Int)).toNat = k := by simp
        have KR := hid (Blk.new wr #[.string p, .int .i64 30, .string ⟨#[120]⟩, .int .i64 0] 28)
        have hbq : Below wr.heap.size wr (wr.alloc (.cells #[.string p, .int .i64 30, .string ⟨#[120]⟩, .int .i64 0] 28)) := (Below.refl _ _).alloc (Nat.le_refl _) _
        have HOq := hid (HOr.out.trans (hbq.mono HOr.out.size))
        clear hpn hbq
        go_wp2_with fail
        generalize hrb : wr.heap.size = rb at *
        generalize wr.alloc (.cells #[.string p, .int .i64 30, .string ⟨#[120]⟩, .int .i64 0] 28) = wq at *
        clear hrb c0 e0
        have SR := hid (fun (W : World) (hO : Below wq.heap.size wq W) => (show (fun w' : World => ((w'.cell? ⟨bo, 0, none⟩ = some (.slice (some ⟨g3, o3, none⟩) n3 k3) ∧ w'.cell? ⟨bo, 1, none⟩ = some (.slice A4 n4 k4) ∧ w'.cell? ⟨bo, 2, none⟩ = some (.int .i64 q)) ∧ (w'.cell? ⟨bb, 0, none⟩ = some (.slice (some ⟨g1, o1, none⟩) m1 j1) ∧ w'.cell? ⟨bb, 1, none⟩ = some (.slice B2 m2 j2) ∧ w'.cell? ⟨bb, 2, none⟩ = some (.int .i64 q))) ∧ (w'.cell? ⟨rb, 0, none⟩ = some (.string p) ∧ w'.cell? ⟨rb, 1, none⟩ = some (.int .i64 30) ∧ w'.cell? ⟨rb, 2, none⟩ = some (.string ⟨#[120]⟩) ∧ w'.cell? ⟨rb, 3, none⟩ = some (.int .i64 0))) W from ⟨SG.out W (HOq.out.trans (hO.mono HOq.out.size)), ((KR.out.to hO).2 0 _ rfl).1, ((KR.out.to hO).2 1 _ rfl).1, ((KR.out.to hO).2 2 _ rfl).1, ((KR.out.to hO).2 3 _ rfl).1⟩))
        obtain ⟨X, hX⟩ : ∃ X, sendX L H q ⟨p.data.toList, 30, (⟨#[120]⟩ : ByteArray).data.toList, 0⟩ = X := ⟨_, rfl⟩
        have hY : sendX M H q ⟨p.data.toList, 30, (⟨#[120]⟩ : ByteArray).data.toList, 0⟩ = X := by
          rw [← hX]
          have hkL : k < L.length := by rw [HS.out.2.2.1]; exact hlt
          exact (HS.out.1 k ⟨p.data.toList, 30, (⟨#[120]⟩ : ByteArray).data.toList, 0⟩ (by rw [HS.out.2.1 k hkL]; exact HPn.out) (Nat.lt_of_lt_of_le hkL HS.out.2.2.2)).1 (.inl hkL)
        have C1 := hid (fun (W : World) (hO : Below wq.heap.size wq W) => (show Calls Tryz.prog 12 #[.agg #[.slice (some ⟨g3, o3, none⟩) n3 k3, .slice A4 n4 k4, .int .i64 q], .agg #[.string p, .int .i64 30, .string ⟨#[120]⟩, .int .i64 0]] W (RowPost W 41 6 X.length (X.flatMap sncells)) from by
          have h9 := implSendRecord_c p ⟨#[120]⟩ 30 0 (TN.out W (HOq.out.trans (hO.mono HOq.out.size))).1 (TN.out W (HOq.out.trans (hO.mono HOq.out.size))).2 hp9 (by decide)
          rw [hY] at h9
          exact h9))
        have C2 := hid (fun (W : World) (hO : Below wq.heap.size wq W) => (show Calls Tryz.prog 12 #[.agg #[.slice (some ⟨g1, o1, none⟩) m1 j1, .slice B2 m2 j2, .int .i64 q], .agg #[.string p, .int .i64 30, .string ⟨#[120]⟩, .int .i64 0]] W (RowPost W 41 6 X.length (X.flatMap sncells)) from by
          have h9 := implSendRecord_c p ⟨#[120]⟩ 30 0 (TM.out W (HOq.out.trans (hO.mono HOq.out.size))).1 (TM.out W (HOq.out.trans (hO.mono HOq.out.size))).2 hp9 (by decide)
          rw [hX] at h9
          exact h9))
        have HQ0 := hid (Below.refl wq.heap.size wq)
        have HQd := hid (HQ0.out.drew)
        clear hX hY HPn
        refine wp_region_held_drew (S := (fun w' : World => ((w'.cell? ⟨bo, 0, none⟩ = some (.slice (some ⟨g3, o3, none⟩) n3 k3) ∧ w'.cell? ⟨bo, 1, none⟩ = some (.slice A4 n4 k4) ∧ w'.cell? ⟨bo, 2, none⟩ = some (.int .i64 q)) ∧ (w'.cell? ⟨bb, 0, none⟩ = some (.slice (some ⟨g1, o1, none⟩) m1 j1) ∧ w'.cell? ⟨bb, 1, none⟩ = some (.slice B2 m2 j2) ∧ w'.cell? ⟨bb, 2, none⟩ = some (.int .i64 q))) ∧ (w'.cell? ⟨rb, 0, none⟩ = some (.string p) ∧ w'.cell? ⟨rb, 1, none⟩ = some (.int .i64 30) ∧ w'.cell? ⟨rb, 2, none⟩ = some (.string ⟨#[120]⟩) ∧ w'.cell? ⟨rb, 3, none⟩ = some (.int .i64 0)))) (by kernel_rfl) (SR.out _ HQd.out) (fun hS => ?_)
        refine wpAnyH_take (i := 0) (oi := ?oi101) (v := ?v101) ?hi101 (by kernel_rfl) ?hf101 ?hr101 ?hQ101 (Or.inl ⟨?hw101, ?hy101⟩) (by assumption) ?rest101
        case hi101 => simp only [List.getElem?_toArray, List.getElem?_cons_succ, List.getElem?_cons_zero]; rfl
        case hf101 => kernel_rfl
        case hr101 => kernel_rfl
        case hw101 => rfl
        case hy101 => (intro w hSw; (try dsimp only at hSw); go_simp; all_goals (first | done | with_reducible rfl))
        case hQ101 => exact fun _ _ _ h => h
        simp only [Act.put, List.setIfInBounds_toArray, List.set_cons_zero, List.set_cons_succ]
        refine wpAnyH_take (i := 1) (oi := ?oi102) (v := ?v102) ?hi102 (by kernel_rfl) ?hf102 ?hr102 ?hQ102 (Or.inl ⟨?hw102, ?hy102⟩) (by assumption) ?rest102
        case hi102 => simp only [List.getElem?_toArray, List.getElem?_cons_succ, List.getElem?_cons_zero]; rfl
        case hf102 => kernel_rfl
        case hr102 => kernel_rfl
        case hw102 => rfl
        case hy102 => (intro w hSw; (try dsimp only at hSw); go_simp; all_goals (first | done | with_reducible rfl))
        case hQ102 => exact fun _ _ _ h => h
        simp only [Act.put, List.setIfInBounds_toArray, List.set_cons_zero, List.set_cons_succ]
        refine wpAnyH_take (i := 3) (oi := ?oi103) (v := ?v103) ?hi103 (by kernel_rfl) ?hf103 ?hr103 ?hQ103 (Or.inl ⟨?hw103, ?hy103⟩) (by assumption) ?rest103
        case hi103 => simp only [List.getElem?_toArray, List.getElem?_cons_succ, List.getElem?_cons_zero]; rfl
        case hf103 => kernel_rfl
        case hr103 => kernel_rfl
        case hw103 => rfl
        case hy103 => (intro w hSw; (try dsimp only at hSw); go_simp; all_goals (first | done | with_reducible rfl))
        case hQ103 => exact fun _ _ _ h => h
        simp only [Act.put, List.setIfInBounds_toArray, List.set_cons_zero, List.set_cons_succ]
        refine wpAnyH_take (i := 4) (oi := ?oi104) (v := ?v104) ?hi104 (by kernel_rfl) ?hf104 ?hr104 ?hQ104 (Or.inl ⟨?hw104, ?hy104⟩) (by assumption) ?rest104
        case hi104 => simp only [List.getElem?_toArray, List.getElem?_cons_succ, List.getElem?_cons_zero]; rfl
        case hf104 => kernel_rfl
        case hr104 => kernel_rfl
        case hw104 => rfl
        case hy104 => (intro w hSw; (try dsimp only at hSw); go_simp; all_goals (first | done | with_reducible rfl))
        case hQ104 => exact fun _ _ _ h => h
        simp only [Act.put, List.setIfInBounds_toArray, List.set_cons_zero, List.set_cons_succ]
        refine wpAnyH_ready (rs := [2]) (by kernel_rfl) (by simp) ?_
        refine AllReadyH.cons (o := ?oi105) ?hi105 (fun K hK => ?step105) AllReadyH.nil
        case hi105 => simp only [List.getElem?_toArray, List.getElem?_cons_succ, List.getElem?_cons_zero]; rfl
        rw [if_pos (by rfl)]
        go_simp
        go_at_call 12
        refine (C1.out _ HQd.out).mono ?_
        rintro e w31 ⟨v31, rfl, ho, hb⟩
        have HQ31 := hid (HQd.out.trans (hb.mono HQd.out.size))
        obtain ⟨A31, c31, rfl, _, _⟩ := (Sl.of_own ho).form
        have O31 := hid (Sl.of_own ho)
        clear ho
        clear hb
        refine hK.out _ _ (SR.out _ HQ31.out) (fun hS => ?_)
        refine wpAnyH_ready (rs := [5]) (by kernel_rfl) (by simp) ?_
        refine AllReadyH.cons (o := ?oi106) ?hi106 (fun K hK => ?step106) AllReadyH.nil
        case hi106 => simp only [List.getElem?_toArray, List.getElem?_cons_succ, List.getElem?_cons_zero]; rfl
        rw [if_pos (by rfl)]
        go_simp
        go_at_call 12
        refine (C2.out _ HQ31.out).mono ?_
        rintro e w32 ⟨v32, rfl, ho, hb⟩
        have HQ32 := hid (HQ31.out.trans (hb.mono HQ31.out.size))
        obtain ⟨A32, c32, rfl, _, _⟩ := (Sl.of_own ho).form
        have O32 := hid (Sl.of_own ho)
        have CQ3 := hid (equalSent_c _ _ X.length w32.heap.size X w32 ((O31.out.below hb (Nat.le_refl _)).more hb.size) O32.out (Nat.le_refl _))
        clear ho
        clear hb
        refine hK.out _ _ (SR.out _ HQ32.out) (fun hS => ?_)
        refine wpAnyH_ready (rs := [6]) (by kernel_rfl) (by simp) ?_
        refine AllReadyH.cons (o := ?oi107) ?hi107 (fun K hK => ?step107) AllReadyH.nil
        case hi107 => simp only [List.getElem?_toArray, List.getElem?_cons_succ, List.getElem?_cons_zero]; rfl
        rw [if_pos (by rfl)]
        go_simp
        go_at_call 13
        refine (CQ3.out).mono ?_
        rintro e w33 ⟨rfl, hb⟩
        have HQ33 := hid (HQ32.out.trans (hb.mono HQ32.out.size))
        clear hb
        refine hK.out _ _ (SR.out _ HQ33.out) (fun hS => ?_)
        refine wpAnyH_take (i := 7) (oi := ?oi108) (v := ?v108) ?hi108 (by kernel_rfl) ?hf108 ?hr108 ?hQ108 (Or.inl ⟨?hw108, ?hy108⟩) (by assumption) ?rest108
        case hi108 => simp only [List.getElem?_toArray, List.getElem?_cons_succ, List.getElem?_cons_zero]; rfl
        case hf108 => kernel_rfl
        case hr108 => kernel_rfl
        case hw108 => rfl
        case hy108 => (intro w hSw; (try dsimp only at hSw); go_simp; all_goals (first | done | with_reducible rfl))
        case hQ108 => exact fun _ _ _ h => h
        simp only [Act.put, List.setIfInBounds_toArray, List.set_cons_zero, List.set_cons_succ]
        refine wpAnyH_done (by kernel_rfl) ?_ _
        clear hS CQ3
        go_wp2_with fail
        go_roundw
        case rel => exact ⟨k + 1, by go_num, by omega, HOq.out.trans (HQ33.out.mono HOq.out.size)⟩
        case measure => simp [intOf]; omega
      · obtain rfl : m1 = k := by omega
        clear hlt hk
        go_wp2_with fail
        go_loopw [11] (fun iv wr => ∃ (k : Nat), iv = .int .i64 k ∧ Hid (L.length ≤ k) ∧ k ≤ max L.length n3 ∧ Hid (Below w6.heap.size w6 wr)) (fun iv _ => n3 - (intOf iv).toNat)
        case atStart => exact ⟨L.length, by rw [HS.out.2.2.1], Nat.le_refl _, Nat.le_max_left _ _, HOr⟩
        case round =>
          clear HOr e0
          obtain ⟨k, rfl, hkL, hk, HOr⟩ := hrel
          obtain ⟨⟨e0, _⟩, f0, f1, f2⟩ := SG.out _ HOr.out
          by_cases hlt : k < n3
          · obtain ⟨p, A7, hn, k7, A8, fn, k8, hpn, hp9, c0, c1, c2, c3, c4, c5⟩ := lgrCells (TN.out wr HOr.out).1 hlt
            unfold maxTxt at hp9
            have hsn := HS.out.1 k ⟨p.data.toList, 30, (⟨#[120]⟩ : ByteArray).data.toList, 0⟩ hpn (by rw [← hn3.out]; exact hlt)
            generalize offAt M k = off at *
            generalize lvAt M k = lv at *
            generalize stopAt M k = st at *
            have HSn := hid hsn
            have s0 : (0 : Int) ≤ (k : Int) := by omega
            have s1 : (k : Int) < (n3 : Int) := by omega
            have s2 : ((k : Int)).toNat = k := by simp
            have KX := hid ((Blk.new wr #[.string p, .int .i64 lv, .slice A7 hn k7, .slice A8 fn k8, .bool st, .bool off] 72).alloc (.cells #[.string p, .int .i64 30, .string ⟨#[120]⟩, .int .i64 0] 28))
            have KR := hid (Blk.new (wr.alloc (.cells #[.string p, .int .i64 lv, .slice A7 hn k7, .slice A8 fn k8, .bool st, .bool off] 72)) #[.string p, .int .i64 30, .string ⟨#[120]⟩, .int .i64 0] 28)
            simp only [World.size_alloc] at KR
            have hbq : Below wr.heap.size wr ((wr.alloc (.cells #[.string p, .int .i64 lv, .slice A7 hn k7, .slice A8 fn k8, .bool st, .bool off] 72)).alloc (.cells #[.string p, .int .i64 30, .string ⟨#[120]⟩, .int .i64 0] 28)) := ((Below.refl _ _).alloc (Nat.le_refl _) _).alloc (by simp) _
            have HOq := hid (HOr.out.trans (hbq.mono HOr.out.size))
            clear hpn hbq hsn f0 f1 f2
            go_wp2_with fail
            generalize hrb : wr.heap.size + 1 = rb at *
            generalize hrx : wr.heap.size = rx at *
            generalize (wr.alloc (.cells #[.string p, .int .i64 lv, .slice A7 hn k7, .slice A8 fn k8, .bool st, .bool off] 72)).alloc (.cells #[.string p, .int .i64 30, .string ⟨#[120]⟩, .int .i64 0] 28) = wq at *
            clear hrb hrx c0 c1 c2 c3 c4 c5 e0
            have SR := hid (fun (W : World) (hO : Below wq.heap.size wq W) => (show (fun w' : World => (((w'.cell? ⟨bo, 0, none⟩ = some (.slice (some ⟨g3, o3, none⟩) n3 k3) ∧ w'.cell? ⟨bo, 1, none⟩ = some (.slice A4 n4 k4) ∧ w'.cell? ⟨bo, 2, none⟩ = some (.int .i64 q)) ∧ (w'.cell? ⟨bb, 0, none⟩ = some (.slice (some ⟨g1, o1, none⟩) m1 j1) ∧ w'.cell? ⟨bb, 1, none⟩ = some (.slice B2 m2 j2) ∧ w'.cell? ⟨bb, 2, none⟩ = some (.int .i64 q))) ∧ (w'.cell? ⟨rb, 0, none⟩ = some (.string p) ∧ w'.cell? ⟨rb, 1, none⟩ = some (.int .i64 30) ∧ w'.cell? ⟨rb, 2, none⟩ = some (.string ⟨#[120]⟩) ∧ w'.cell? ⟨rb, 3, none⟩ = some (.int .i64 0))) ∧ w'.cell? ⟨rx, 5, none⟩ = some (.bool off)) W from ⟨⟨SG.out W (HOq.out.trans (hO.mono HOq.out.size)), ((KR.out.to hO).2 0 _ rfl).1, ((KR.out.to hO).2 1 _ rfl).1, ((KR.out.to hO).2 2 _ rfl).1, ((KR.out.to hO).2 3 _ rfl).1⟩, ((KX.out.to hO).2 5 _ rfl).1⟩))
            have HQ0 := hid (Below.refl wq.heap.size wq)
            have HQd := hid (HQ0.out.drew)
            cases off with
            | true =>
              have hY := HSn.out.2 rfl
              have C1 := hid (fun (W : World) (hO : Below wq.heap.size wq W) => (show Calls Tryz.prog 12 #[.agg #[.slice (some ⟨g3, o3, none⟩) n3 k3, .slice A4 n4 k4, .int .i64 q], .agg #[.string p, .int .i64 30, .string ⟨#[120]⟩, .int .i64 0]] W (RowPost W 41 6 ([] : List Snt).length (([] : List Snt).flatMap sncells)) from by
                have h9 := implSendRecord_c p ⟨#[120]⟩ 30 0 (TN.out W (HOq.out.trans (hO.mono HOq.out.size))).1 (TN.out W (HOq.out.trans (hO.mono HOq.out.size))).2 hp9 (by decide)
                rw [hY] at h9
                exact h9))
              clear hY HSn
              refine wp_region_held_drew (S := (fun w' : World => (((w'.cell? ⟨bo, 0, none⟩ = some (.slice (some ⟨g3, o3, none⟩) n3 k3) ∧ w'.cell? ⟨bo, 1, none⟩ = some (.slice A4 n4 k4) ∧ w'.cell? ⟨bo, 2, none⟩ = some (.int .i64 q)) ∧ (w'.cell? ⟨bb, 0, none⟩ = some (.slice (some ⟨g1, o1, none⟩) m1 j1) ∧ w'.cell? ⟨bb, 1, none⟩ = some (.slice B2 m2 j2) ∧ w'.cell? ⟨bb, 2, none⟩ = some (.int .i64 q))) ∧ (w'.cell? ⟨rb, 0, none⟩ = some (.string p) ∧ w'.cell? ⟨rb, 1, none⟩ = some (.int .i64 30) ∧ w'.cell? ⟨rb, 2, none⟩ = some (.string ⟨#[120]⟩) ∧ w'.cell? ⟨rb, 3, none⟩ = some (.int .i64 0))) ∧ w'.cell? ⟨rx, 5, none⟩ = some (.bool true))) (by kernel_rfl) (SR.out _ HQd.out) (fun hS => ?_)
              refine wpAnyH_take (i := 0) (oi := ?oi109) (v := ?v109) ?hi109 (by kernel_rfl) ?hf109 ?hr109 ?hQ109 (Or.inl ⟨?hw109, ?hy109⟩) (by assumption) ?rest109
              case hi109 => simp only [List.getElem?_toArray, List.getElem?_cons_succ, List.getElem?_cons_zero]; rfl
              case hf109 => kernel_rfl
              case hr109 => kernel_rfl
              case hw109 => rfl
              case hy109 => (intro w hSw; (try dsimp only at hSw); go_simp; all_goals (first | done | with_reducible rfl))
              case hQ109 => exact fun _ _ _ h => h
              simp only [Act.put, List.setIfInBounds_toArray, List.set_cons_zero, List.set_cons_succ]
              refine wpAnyH_take (i := 1) (oi := ?oi110) (v := ?v110) ?hi110 (by kernel_rfl) ?hf110 ?hr110 ?hQ110 (Or.inl ⟨?hw110, ?hy110⟩) (by assumption) ?rest110
              case hi110 => simp only [List.getElem?_toArray, List.getElem?_cons_succ, List.getElem?_cons_zero]; rfl
              case hf110 => kernel_rfl
              case hr110 => kernel_rfl
              case hw110 => rfl
              case hy110 => (intro w hSw; (try dsimp only at hSw); go_simp; all_goals (first | done | with_reducible rfl))
              case hQ110 => exact fun _ _ _ h => h
              simp only [Act.put, List.setIfInBounds_toArray, List.set_cons_zero, List.set_cons_succ]
              refine wpAnyH_take (i := 2) (oi := ?oi111) (v := ?v111) ?hi111 (by kernel_rfl) ?hf111 ?hr111 ?hQ111 (Or.inl ⟨?hw111, ?hy111⟩) (by assumption) ?rest111
              case hi111 => simp only [List.getElem?_toArray, List.getElem?_cons_succ, List.getElem?_cons_zero]; rfl
              case hf111 => kernel_rfl
              case hr111 => kernel_rfl
              case hw111 => rfl
              case hy111 => (intro w hSw; (try dsimp only at hSw); go_simp; all_goals (first | done | with_reducible rfl))
              case hQ111 => exact fun _ _ _ h => h
              simp only [Act.put, List.setIfInBounds_toArray, List.set_cons_zero, List.set_cons_succ]
              refine wpAnyH_take (i := 3) (oi := ?oi112) (v := ?v112) ?hi112 (by kernel_rfl) ?hf112 ?hr112 ?hQ112 (Or.inl ⟨?hw112, ?hy112⟩) (by assumption) ?rest112
              case hi112 => simp only [List.getElem?_toArray, List.getElem?_cons_succ, List.getElem?_cons_zero]; rfl
              case hf112 => kernel_rfl
              case hr112 => kernel_rfl
              case hw112 => rfl
              case hy112 => (intro w hSw; (try dsimp only at hSw); go_simp; all_goals (first | done | with_reducible rfl))
              case hQ112 => exact fun _ _ _ h => h
              simp only [Act.put, List.setIfInBounds_toArray, List.set_cons_zero, List.set_cons_succ]
              refine wpAnyH_take (i := 4) (oi := ?oi113) (v := ?v113) ?hi113 (by kernel_rfl) ?hf113 ?hr113 ?hQ113 (Or.inl ⟨?hw113, ?hy113⟩) (by assumption) ?rest113
              case hi113 => simp only [List.getElem?_toArray, List.getElem?_cons_succ, List.getElem?_cons_zero]; rfl
              case hf113 => kernel_rfl
              case hr113 => kernel_rfl
              case hw113 => rfl
              case hy113 => (intro w hSw; (try dsimp only at hSw); go_simp; all_goals (first | done | with_reducible rfl))
              case hQ113 => exact fun _ _ _ h => h
              simp only [Act.put, List.setIfInBounds_toArray, List.set_cons_zero, List.set_cons_succ]
              refine wpAnyH_ready (rs := [5]) (by kernel_rfl) (by simp) ?_
              refine AllReadyH.cons (o := ?oi114) ?hi114 (fun K hK => ?step114) AllReadyH.nil
              case hi114 => simp only [List.getElem?_toArray, List.getElem?_cons_succ, List.getElem?_cons_zero]; rfl
              rw [if_pos (by rfl)]
              go_simp
              go_at_call 12
              refine (C1.out _ HQd.out).mono ?_
              rintro e w31 ⟨v31, rfl, ho, hb⟩
              have HQ31 := hid (HQd.out.trans (hb.mono HQd.out.size))
              obtain ⟨A31, c31, rfl, _, _⟩ := (Sl.of_own ho).form
              have O31 := hid (Sl.of_own ho)
              clear ho
              clear hb
              refine hK.out _ _ (SR.out _ HQ31.out) (fun hS => ?_)
              refine wpAnyH_take (i := 6) (oi := ?oi115) (v := ?v115) ?hi115 (by kernel_rfl) ?hf115 ?hr115 ?hQ115 (Or.inl ⟨?hw115, ?hy115⟩) (by assumption) ?rest115
              case hi115 => simp only [List.getElem?_toArray, List.getElem?_cons_succ, List.getElem?_cons_zero]; rfl
              case hf115 => kernel_rfl
              case hr115 => kernel_rfl
              case hw115 => rfl
              case hy115 => (intro w hSw; (try dsimp only at hSw); go_simp; all_goals (first | done | with_reducible rfl))
              case hQ115 => exact fun _ _ _ h => h
              simp only [Act.put, List.setIfInBounds_toArray, List.set_cons_zero, List.set_cons_succ]
              refine wpAnyH_take (i := 7) (oi := ?oi116) (v := ?v116) ?hi116 (by kernel_rfl) ?hf116 ?hr116 ?hQ116 (Or.inl ⟨?hw116, ?hy116⟩) (by assumption) ?rest116
              case hi116 => simp only [List.getElem?_toArray, List.getElem?_cons_succ, List.getElem?_cons_zero]; rfl
              case hf116 => kernel_rfl
              case hr116 => kernel_rfl
              case hw116 => rfl
              case hy116 => (intro w hSw; (try dsimp only at hSw); go_simp; all_goals (first | done | with_reducible rfl))
              case hQ116 => exact fun _ _ _ h => h
              simp only [Act.put, List.setIfInBounds_toArray, List.set_cons_zero, List.set_cons_succ]
              refine wpAnyH_take (i := 8) (oi := ?oi117) (v := ?v117) ?hi117 (by kernel_rfl) ?hf117 ?hr117 ?hQ117 (Or.inl ⟨?hw117, ?hy117⟩) (by assumption) ?rest117
              case hi117 => simp only [List.getElem?_toArray, List.getElem?_cons_succ, List.getElem?_cons_zero]; rfl
              case hf117 => kernel_rfl
              case hr117 => kernel_rfl
              case hw117 => rfl
              case hy117 => (intro w hSw; (try dsimp only at hSw); go_simp; all_goals (first | done | with_reducible rfl))
              case hQ117 => exact fun _ _ _ h => h
              simp only [Act.put, List.setIfInBounds_toArray, List.set_cons_zero, List.set_cons_succ]
              refine wpAnyH_take (i := 9) (oi := ?oi118) (v := ?v118) ?hi118 (by kernel_rfl) ?hf118 ?hr118 ?hQ118 (Or.inl ⟨?hw118, ?hy118⟩) (by assumption) ?rest118
              case hi118 => simp only [List.getElem?_toArray, List.getElem?_cons_succ, List.getElem?_cons_zero]; rfl
              case hf118 => kernel_rfl
              case hr118 => kernel_rfl
              case hw118 => rfl
              case hy118 => (intro w hSw; (try dsimp only at hSw); go_simp; all_goals (first | done | with_reducible rfl))
              case hQ118 => exact fun _ _ _ h => h
              simp only [Act.put, List.setIfInBounds_toArray, List.set_cons_zero, List.set_cons_succ]
              refine wpAnyH_take (i := 10) (oi := ?oi119) (v := ?v119) ?hi119 (by kernel_rfl) ?hf119 ?hr119 ?hQ119 (Or.inl ⟨?hw119, ?hy119⟩) (by assumption) ?rest119
              case hi119 => simp only [List.getElem?_toArray, List.getElem?_cons_succ, List.getElem?_cons_zero]; rfl
              case hf119 => kernel_rfl
              case hr119 => kernel_rfl
              case hw119 => rfl
              case hy119 => (intro w hSw; (try dsimp only at hSw); go_simp; all_goals (first | done | with_reducible rfl))
              case hQ119 => exact fun _ _ _ h => h
              simp only [Act.put, List.setIfInBounds_toArray, List.set_cons_zero, List.set_cons_succ]
              refine wpAnyH_take (i := 11) (oi := ?oi120) (v := ?v120) ?hi120 (by kernel_rfl) ?hf120 ?hr120 ?hQ120 (Or.inl ⟨?hw120, ?hy120⟩) (by assumption) ?rest120
              case hi120 => simp only [List.getElem?_toArray, List.getElem?_cons_succ, List.getElem?_cons_zero]; rfl
              case hf120 => kernel_rfl
              case hr120 => kernel_rfl
              case hw120 => rfl
              case hy120 => (intro w hSw; (try dsimp only at hSw); go_simp; all_goals (first | done | with_reducible rfl))
              case hQ120 => exact fun _ _ _ h => h
              simp only [Act.put, List.setIfInBounds_toArray, List.set_cons_zero, List.set_cons_succ]
              refine wpAnyH_take (i := 12) (oi := ?oi121) (v := ?v121) ?hi121 (by kernel_rfl) ?hf121 ?hr121 ?hQ121 (Or.inl ⟨?hw121, ?hy121⟩) (by assumption) ?rest121
              case hi121 => simp only [List.getElem?_toArray, List.getElem?_cons_succ, List.getElem?_cons_zero]; rfl
              case hf121 => kernel_rfl
              case hr121 => kernel_rfl
              case hw121 => rfl
              case hy121 => (intro w hSw; (try dsimp only at hSw); go_simp; all_goals (first | done | with_reducible rfl))
              case hQ121 => exact fun _ _ _ h => h
              simp only [Act.put, List.setIfInBounds_toArray, List.set_cons_zero, List.set_cons_succ]
              refine wpAnyH_take (i := 13) (oi := ?oi122) (v := ?v122) ?hi122 (by kernel_rfl) ?hf122 ?hr122 ?hQ122 (Or.inl ⟨?hw122, ?hy122⟩) (by assumption) ?rest122
              case hi122 => simp only [List.getElem?_toArray, List.getElem?_cons_succ, List.getElem?_cons_zero]; rfl
              case hf122 => kernel_rfl
              case hr122 => kernel_rfl
              case hw122 => rfl
              case hy122 => (intro w hSw; (try dsimp only at hSw); go_simp; all_goals (first | done | with_reducible rfl))
              case hQ122 => exact fun _ _ _ h => h
              simp only [Act.put, List.setIfInBounds_toArray, List.set_cons_zero, List.set_cons_succ]
              refine wpAnyH_take (i := 14) (oi := ?oi123) (v := undef) ?hi123 (by kernel_rfl) ?hf123 ?hr123 ?hQ123 (Or.inr ⟨?hw123, rfl⟩) (by assumption) ?rest123
              case hi123 => simp only [List.getElem?_toArray, List.getElem?_cons_succ, List.getElem?_cons_zero]; rfl
              case hf123 => kernel_rfl
              case hr123 => kernel_rfl
              case hw123 => rfl
              case hQ123 => exact fun _ _ _ h => h
              simp only [Act.put, List.setIfInBounds_toArray, List.set_cons_zero, List.set_cons_succ]
              refine wpAnyH_take (i := 15) (oi := ?oi124) (v := undef) ?hi124 (by kernel_rfl) ?hf124 ?hr124 ?hQ124 (Or.inr ⟨?hw124, rfl⟩) (by assumption) ?rest124
              case hi124 => simp only [List.getElem?_toArray, List.getElem?_cons_succ, List.getElem?_cons_zero]; rfl
              case hf124 => kernel_rfl
              case hr124 => kernel_rfl
              case hw124 => rfl
              case hQ124 => exact fun _ _ _ h => h
              simp only [Act.put, List.setIfInBounds_toArray, List.set_cons_zero, List.set_cons_succ]
              refine wpAnyH_take (i := 16) (oi := ?oi125) (v := undef) ?hi125 (by kernel_rfl) ?hf125 ?hr125 ?hQ125 (Or.inr ⟨?hw125, rfl⟩) (by assumption) ?rest125
              case hi125 => simp only [List.getElem?_toArray, List.getElem?_cons_succ, List.getElem?_cons_zero]; rfl
              case hf125 => kernel_rfl
              case hr125 => kernel_rfl
              case hw125 => rfl
              case hQ125 => exact fun _ _ _ h => h
              simp only [Act.put, List.setIfInBounds_toArray, List.set_cons_zero, List.set_cons_succ]
              refine wpAnyH_take (i := 17) (oi := ?oi126) (v := undef) ?hi126 (by kernel_rfl) ?hf126 ?hr126 ?hQ126 (Or.inr ⟨?hw126, rfl⟩) (by assumption) ?rest126
              case hi126 => simp only [List.getElem?_toArray, List.getElem?_cons_succ, List.getElem?_cons_zero]; rfl
              case hf126 => kernel_rfl
              case hr126 => kernel_rfl
              case hw126 => rfl
              case hQ126 => exact fun _ _ _ h => h
              simp only [Act.put, List.setIfInBounds_toArray, List.set_cons_zero, List.set_cons_succ]
              refine wpAnyH_take (i := 18) (oi := ?oi127) (v := undef) ?hi127 (by kernel_rfl) ?hf127 ?hr127 ?hQ127 (Or.inr ⟨?hw127, rfl⟩) (by assumption) ?rest127
              case hi127 => simp only [List.getElem?_toArray, List.getElem?_cons_succ, List.getElem?_cons_zero]; rfl
              case hf127 => kernel_rfl
              case hr127 => kernel_rfl
              case hw127 => rfl
              case hQ127 => exact fun _ _ _ h => h
              simp only [Act.put, List.setIfInBounds_toArray, List.set_cons_zero, List.set_cons_succ]
              refine wpAnyH_take (i := 19) (oi := ?oi128) (v := undef) ?hi128 (by kernel_rfl) ?hf128 ?hr128 ?hQ128 (Or.inr ⟨?hw128, rfl⟩) (by assumption) ?rest128
              case hi128 => simp only [List.getElem?_toArray, List.getElem?_cons_succ, List.getElem?_cons_zero]; rfl
              case hf128 => kernel_rfl
              case hr128 => kernel_rfl
              case hw128 => rfl
              case hQ128 => exact fun _ _ _ h => h
              simp only [Act.put, List.setIfInBounds_toArray, List.set_cons_zero, List.set_cons_succ]
              refine wpAnyH_take (i := 20) (oi := ?oi129) (v := undef) ?hi129 (by kernel_rfl) ?hf129 ?hr129 ?hQ129 (Or.inr ⟨?hw129, rfl⟩) (by assumption) ?rest129
              case hi129 => simp only [List.getElem?_toArray, List.getElem?_cons_succ, List.getElem?_cons_zero]; rfl
              case hf129 => kernel_rfl
              case hr129 => kernel_rfl
              case hw129 => rfl
              case hQ129 => exact fun _ _ _ h => h
              simp only [Act.put, List.setIfInBounds_toArray, List.set_cons_zero, List.set_cons_succ]
              refine wpAnyH_take (i := 21) (oi := ?oi130) (v := undef) ?hi130 (by kernel_rfl) ?hf130 ?hr130 ?hQ130 (Or.inr ⟨?hw130, rfl⟩) (by assumption) ?rest130
              case hi130 => simp only [List.getElem?_toArray, List.getElem?_cons_succ, List.getElem?_cons_zero]; rfl
              case hf130 => kernel_rfl
              case hr130 => kernel_rfl
              case hw130 => rfl
              case hQ130 => exact fun _ _ _ h => h
              simp only [Act.put, List.setIfInBounds_toArray, List.set_cons_zero, List.set_cons_succ]
              refine wpAnyH_take (i := 22) (oi := ?oi131) (v := ?v131) ?hi131 (by kernel_rfl) ?hf131 ?hr131 ?hQ131 (Or.inl ⟨?hw131, ?hy131⟩) (by assumption) ?rest131
              case hi131 => simp only [List.getElem?_toArray, List.getElem?_cons_succ, List.getElem?_cons_zero]; rfl
              case hf131 => kernel_rfl
              case hr131 => kernel_rfl
              case hw131 => rfl
              case hy131 => (intro w hSw; (try dsimp only at hSw); go_simp; all_goals (first | done | with_reducible rfl))
              case hQ131 => exact fun _ _ _ h => h
              simp only [Act.put, List.setIfInBounds_toArray, List.set_cons_zero, List.set_cons_succ]
              refine wpAnyH_take (i := 23) (oi := ?oi132) (v := ?v132) ?hi132 (by kernel_rfl) ?hf132 ?hr132 ?hQ132 (Or.inl ⟨?hw132, ?hy132⟩) (by assumption) ?rest132
              case hi132 => simp only [List.getElem?_toArray, List.getElem?_cons_succ, List.getElem?_cons_zero]; rfl
              case hf132 => kernel_rfl
              case hr132 => kernel_rfl
              case hw132 => rfl
              case hy132 => (intro w hSw; (try dsimp only at hSw); go_simp; all_goals (first | done | with_reducible rfl))
              case hQ132 => exact fun _ _ _ h => h
              simp only [Act.put, List.setIfInBounds_toArray, List.set_cons_zero, List.set_cons_succ]
              refine wpAnyH_done (by kernel_rfl) ?_ _
              clear hS
              go_wp2_with fail
              go_roundw
              case rel => exact ⟨k + 1, by go_num, (show L.length ≤ k + 1 from Nat.le_succ_of_le hkL.out), by omega, HOq.out.trans (HQ31.out.mono HOq.out.size)⟩
              case measure => simp [intOf]; omega
            | false =>
              obtain ⟨X, hX⟩ : ∃ X, sendX L H q ⟨p.data.toList, 30, (⟨#[120]⟩ : ByteArray).data.toList, 0⟩ = X := ⟨_, rfl⟩
              have hY := HSn.out.1 (.inr rfl)
              rw [hX] at hY
              have C1 := hid (fun (W : World) (hO : Below wq.heap.size wq W) => (show Calls Tryz.prog 12 #[.agg #[.slice (some ⟨g3, o3, none⟩) n3 k3, .slice A4 n4 k4, .int .i64 q], .agg #[.string p, .int .i64 30, .string ⟨#[120]⟩, .int .i64 0]] W (RowPost W 41 6 X.length (X.flatMap sncells)) from by
                have h9 := implSendRecord_c p ⟨#[120]⟩ 30 0 (TN.out W (HOq.out.trans (hO.mono HOq.out.size))).1 (TN.out W (HOq.out.trans (hO.mono HOq.out.size))).2 hp9 (by decide)
                rw [hY] at h9
                exact h9))
              have C2 := hid (fun (W : World) (hO : Below wq.heap.size wq W) => (show Calls Tryz.prog 12 #[.agg #[.slice (some ⟨g1, o1, none⟩) m1 j1, .slice B2 m2 j2, .int .i64 q], .agg #[.string p, .int .i64 30, .string ⟨#[120]⟩, .int .i64 0]] W (RowPost W 41 6 X.length (X.flatMap sncells)) from by
                have h9 := implSendRecord_c p ⟨#[120]⟩ 30 0 (TM.out W (HOq.out.trans (hO.mono HOq.out.size))).1 (TM.out W (HOq.out.trans (hO.mono HOq.out.size))).2 hp9 (by decide)
                rw [hX] at h9
                exact h9))
              clear hX hY HSn
              refine wp_region_held_drew (S := (fun w' : World => (((w'.cell? ⟨bo, 0, none⟩ = some (.slice (some ⟨g3, o3, none⟩) n3 k3) ∧ w'.cell? ⟨bo, 1, none⟩ = some (.slice A4 n4 k4) ∧ w'.cell? ⟨bo, 2, none⟩ = some (.int .i64 q)) ∧ (w'.cell? ⟨bb, 0, none⟩ = some (.slice (some ⟨g1, o1, none⟩) m1 j1) ∧ w'.cell? ⟨bb, 1, none⟩ = some (.slice B2 m2 j2) ∧ w'.cell? ⟨bb, 2, none⟩ = some (.int .i64 q))) ∧ (w'.cell? ⟨rb, 0, none⟩ = some (.string p) ∧ w'.cell? ⟨rb, 1, none⟩ = some (.int .i64 30) ∧ w'.cell? ⟨rb, 2, none⟩ = some (.string ⟨#[120]⟩) ∧ w'.cell? ⟨rb, 3, none⟩ = some (.int .i64 0))) ∧ w'.cell? ⟨rx, 5, none⟩ = some (.bool false))) (by kernel_rfl) (SR.out _ HQd.out) (fun hS => ?_)
              refine wpAnyH_take (i := 0) (oi := ?oi133) (v := ?v133) ?hi133 (by kernel_rfl) ?hf133 ?hr133 ?hQ133 (Or.inl ⟨?hw133, ?hy133⟩) (by assumption) ?rest133
              case hi133 => simp only [List.getElem?_toArray, List.getElem?_cons_succ, List.getElem?_cons_zero]; rfl
              case hf133 => kernel_rfl
              case hr133 => kernel_rfl
              case hw133 => rfl
              case hy133 => (intro w hSw; (try dsimp only at hSw); go_simp; all_goals (first | done | with_reducible rfl))
              case hQ133 => exact fun _ _ _ h => h
              simp only [Act.put, List.setIfInBounds_toArray, List.set_cons_zero, List.set_cons_succ]
              refine wpAnyH_take (i := 1) (oi := ?oi134) (v := ?v134) ?hi134 (by kernel_rfl) ?hf134 ?hr134 ?hQ134 (Or.inl ⟨?hw134, ?hy134⟩) (by assumption) ?rest134
              case hi134 => simp only [List.getElem?_toArray, List.getElem?_cons_succ, List.getElem?_cons_zero]; rfl
              case hf134 => kernel_rfl
              case hr134 => kernel_rfl
              case hw134 => rfl
              case hy134 => (intro w hSw; (try dsimp only at hSw); go_simp; all_goals (first | done | with_reducible rfl))
              case hQ134 => exact fun _ _ _ h => h
              simp only [Act.put, List.setIfInBounds_toArray, List.set_cons_zero, List.set_cons_succ]
              refine wpAnyH_take (i := 2) (oi := ?oi135) (v := ?v135) ?hi135 (by kernel_rfl) ?hf135 ?hr135 ?hQ135 (Or.inl ⟨?hw135, ?hy135⟩) (by assumption) ?rest135
              case hi135 => simp only [List.getElem?_toArray, List.getElem?_cons_succ, List.getElem?_cons_zero]; rfl
              case hf135 => kernel_rfl
              case hr135 => kernel_rfl
              case hw135 => rfl
              case hy135 => (intro w hSw; (try dsimp only at hSw); go_simp; all_goals (first | done | with_reducible rfl))
              case hQ135 => exact fun _ _ _ h => h
              simp only [Act.put, List.setIfInBounds_toArray, List.set_cons_zero, List.set_cons_succ]
              refine wpAnyH_take (i := 3) (oi := ?oi136) (v := undef) ?hi136 (by kernel_rfl) ?hf136 ?hr136 ?hQ136 (Or.inr ⟨?hw136, rfl⟩) (by assumption) ?rest136
              case hi136 => simp only [List.getElem?_toArray, List.getElem?_cons_succ, List.getElem?_cons_zero]; rfl
              case hf136 => kernel_rfl
              case hr136 => kernel_rfl
              case hw136 => rfl
              case hQ136 => exact fun _ _ _ h => h
              simp only [Act.put, List.setIfInBounds_toArray, List.set_cons_zero, List.set_cons_succ]
              refine wpAnyH_take (i := 4) (oi := ?oi137) (v := undef) ?hi137 (by kernel_rfl) ?hf137 ?hr137 ?hQ137 (Or.inr ⟨?hw137, rfl⟩) (by assumption) ?rest137
              case hi137 => simp only [List.getElem?_toArray, List.getElem?_cons_succ, List.getElem?_cons_zero]; rfl
              case hf137 => kernel_rfl
              case hr137 => kernel_rfl
              case hw137 => rfl
              case hQ137 => exact fun _ _ _ h => h
              simp only [Act.put, List.setIfInBounds_toArray, List.set_cons_zero, List.set_cons_succ]
              refine wpAnyH_take (i := 5) (oi := ?oi138) (v := undef) ?hi138 (by kernel_rfl) ?hf138 ?hr138 ?hQ138 (Or.inr ⟨?hw138, rfl⟩) (by assumption) ?rest138
              case hi138 => simp only [List.getElem?_toArray, List.getElem?_cons_succ, List.getElem?_cons_zero]; rfl
              case hf138 => kernel_rfl
              case hr138 => kernel_rfl
              case hw138 => rfl
              case hQ138 => exact fun _ _ _ h => h
              simp only [Act.put, List.setIfInBounds_toArray, List.set_cons_zero, List.set_cons_succ]
              refine wpAnyH_take (i := 6) (oi := ?oi139) (v := undef) ?hi139 (by kernel_rfl) ?hf139 ?hr139 ?hQ139 (Or.inr ⟨?hw139, rfl⟩) (by assumption) ?rest139
              case hi139 => simp only [List.getElem?_toArray, List.getElem?_cons_succ, List.getElem?_cons_zero]; rfl
              case hf139 => kernel_rfl
              case hr139 => kernel_rfl
              case hw139 => rfl
              case hQ139 => exact fun _ _ _ h => h
              simp only [Act.put, List.setIfInBounds_toArray, List.set_cons_zero, List.set_cons_succ]
              refine wpAnyH_take (i := 7) (oi := ?oi140) (v := undef) ?hi140 (by kernel_rfl) ?hf140 ?hr140 ?hQ140 (Or.inr ⟨?hw140, rfl⟩) (by assumption) ?rest140
              case hi140 => simp only [List.getElem?_toArray, List.getElem?_cons_succ, List.getElem?_cons_zero]; rfl
              case hf140 => kernel_rfl
              case hr140 => kernel_rfl
              case hw140 => rfl
              case hQ140 => exact fun _ _ _ h => h
              simp only [Act.put, List.setIfInBounds_toArray, List.set_cons_zero, List.set_cons_succ]
              refine wpAnyH_take (i := 8) (oi := ?oi141) (v := ?v141) ?hi141 (by kernel_rfl) ?hf141 ?hr141 ?hQ141 (Or.inl ⟨?hw141, ?hy141⟩) (by assumption) ?rest141
              case hi141 => simp only [List.getElem?_toArray, List.getElem?_cons_succ, List.getElem?_cons_zero]; rfl
              case hf141 => kernel_rfl
              case hr141 => kernel_rfl
              case hw141 => rfl
              case hy141 => (intro w hSw; (try dsimp only at hSw); go_simp; all_goals (first | done | with_reducible rfl))
              case hQ141 => exact fun _ _ _ h => h
              simp only [Act.put, List.setIfInBounds_toArray, List.set_cons_zero, List.set_cons_succ]
              refine wpAnyH_take (i := 9) (oi := ?oi142) (v := ?v142) ?hi142 (by kernel_rfl) ?hf142 ?hr142 ?hQ142 (Or.inl ⟨?hw142, ?hy142⟩) (by assumption) ?rest142
              case hi142 => simp only [List.getElem?_toArray, List.getElem?_cons_succ, List.getElem?_cons_zero]; rfl
              case hf142 => kernel_rfl
              case hr142 => kernel_rfl
              case hw142 => rfl
              case hy142 => (intro w hSw; (try dsimp only at hSw); go_simp; all_goals (first | done | with_reducible rfl))
              case hQ142 => exact fun _ _ _ h => h
              simp only [Act.put, List.setIfInBounds_toArray, List.set_cons_zero, List.set_cons_succ]
              refine wpAnyH_take (i := 10) (oi := ?oi143) (v := ?v143) ?hi143 (by kernel_rfl) ?hf143 ?hr143 ?hQ143 (Or.inl ⟨?hw143, ?hy143⟩) (by assumption) ?rest143
              case hi143 => simp only [List.getElem?_toArray, List.getElem?_cons_succ, List.getElem?_cons_zero]; rfl
              case hf143 => kernel_rfl
              case hr143 => kernel_rfl
              case hw143 => rfl
              case hy143 => (intro w hSw; (try dsimp only at hSw); go_simp; all_goals (first | done | with_reducible rfl))
              case hQ143 => exact fun _ _ _ h => h
              simp only [Act.put, List.setIfInBounds_toArray, List.set_cons_zero, List.set_cons_succ]
              refine wpAnyH_take (i := 11) (oi := ?oi144) (v := ?v144) ?hi144 (by kernel_rfl) ?hf144 ?hr144 ?hQ144 (Or.inl ⟨?hw144, ?hy144⟩) (by assumption) ?rest144
              case hi144 => simp only [List.getElem?_toArray, List.getElem?_cons_succ, List.getElem?_cons_zero]; rfl
              case hf144 => kernel_rfl
              case hr144 => kernel_rfl
              case hw144 => rfl
              case hy144 => (intro w hSw; (try dsimp only at hSw); go_simp; all_goals (first | done | with_reducible rfl))
              case hQ144 => exact fun _ _ _ h => h
              simp only [Act.put, List.setIfInBounds_toArray, List.set_cons_zero, List.set_cons_succ]
              refine wpAnyH_take (i := 12) (oi := ?oi145) (v := ?v145) ?hi145 (by kernel_rfl) ?hf145 ?hr145 ?hQ145 (Or.inl ⟨?hw145, ?hy145⟩) (by assumption) ?rest145
              case hi145 => simp only [List.getElem?_toArray, List.getElem?_cons_succ, List.getElem?_cons_zero]; rfl
              case hf145 => kernel_rfl
              case hr145 => kernel_rfl
              case hw145 => rfl
              case hy145 => (intro w hSw; (try dsimp only at hSw); go_simp; all_goals (first | done | with_reducible rfl))
              case hQ145 => exact fun _ _ _ h => h
              simp only [Act.put, List.setIfInBounds_toArray, List.set_cons_zero, List.set_cons_succ]
              refine wpAnyH_take (i := 13) (oi := ?oi146) (v := ?v146) ?hi146 (by kernel_rfl) ?hf146 ?hr146 ?hQ146 (Or.inl ⟨?hw146, ?hy146⟩) (by assumption) ?rest146
              case hi146 => simp only [List.getElem?_toArray, List.getElem?_cons_succ, List.getElem?_cons_zero]; rfl
              case hf146 => kernel_rfl
              case hr146 => kernel_rfl
              case hw146 => rfl
              case hy146 => (intro w hSw; (try dsimp only at hSw); go_simp; all_goals (first | done | with_reducible rfl))
              case hQ146 => exact fun _ _ _ h => h
              simp only [Act.put, List.setIfInBounds_toArray, List.set_cons_zero, List.set_cons_succ]
              refine wpAnyH_take (i := 14) (oi := ?oi147) (v := ?v147) ?hi147 (by kernel_rfl) ?hf147 ?hr147 ?hQ147 (Or.inl ⟨?hw147, ?hy147⟩) (by assumption) ?rest147
              case hi147 => simp only [List.getElem?_toArray, List.getElem?_cons_succ, List.getElem?_cons_zero]; rfl
              case hf147 => kernel_rfl
              case hr147 => kernel_rfl
              case hw147 => rfl
              case hy147 => (intro w hSw; (try dsimp only at hSw); go_simp; all_goals (first | done | with_reducible rfl))
              case hQ147 => exact fun _ _ _ h => h
              simp only [Act.put, List.setIfInBounds_toArray, List.set_cons_zero, List.set_cons_succ]
              refine wpAnyH_take (i := 15) (oi := ?oi148) (v := ?v148) ?hi148 (by kernel_rfl) ?hf148 ?hr148 ?hQ148 (Or.inl ⟨?hw148, ?hy148⟩) (by assumption) ?rest148
              case hi148 => simp only [List.getElem?_toArray, List.getElem?_cons_succ, List.getElem?_cons_zero]; rfl
              case hf148 => kernel_rfl
              case hr148 => kernel_rfl
              case hw148 => rfl
              case hy148 => (intro w hSw; (try dsimp only at hSw); go_simp; all_goals (first | done | with_reducible rfl))
              case hQ148 => exact fun _ _ _ h => h
              simp only [Act.put, List.setIfInBounds_toArray, List.set_cons_zero, List.set_cons_succ]
              refine wpAnyH_take (i := 17) (oi := ?oi149) (v := ?v149) ?hi149 (by kernel_rfl) ?hf149 ?hr149 ?hQ149 (Or.inl ⟨?hw149, ?hy149⟩) (by assumption) ?rest149
              case hi149 => simp only [List.getElem?_toArray, List.getElem?_cons_succ, List.getElem?_cons_zero]; rfl
              case hf149 => kernel_rfl
              case hr149 => kernel_rfl
              case hw149 => rfl
              case hy149 => (intro w hSw; (try dsimp only at hSw); go_simp; all_goals (first | done | with_reducible rfl))
              case hQ149 => exact fun _ _ _ h => h
              simp only [Act.put, List.setIfInBounds_toArray, List.set_cons_zero, List.set_cons_succ]
              refine wpAnyH_take (i := 18) (oi := ?oi150) (v := ?v150) ?hi150 (by kernel_rfl) ?hf150 ?hr150 ?hQ150 (Or.inl ⟨?hw150, ?hy150⟩) (by assumption) ?rest150
              case hi150 => simp only [List.getElem?_toArray, List.getElem?_cons_succ, List.getElem?_cons_zero]; rfl
              case hf150 => kernel_rfl
              case hr150 => kernel_rfl
              case hw150 => rfl
              case hy150 => (intro w hSw; (try dsimp only at hSw); go_simp; all_goals (first | done | with_reducible rfl))
              case hQ150 => exact fun _ _ _ h => h
              simp only [Act.put, List.setIfInBounds_toArray, List.set_cons_zero, List.set_cons_succ]
              refine wpAnyH_ready (rs := [16]) (by kernel_rfl) (by simp) ?_
              refine AllReadyH.cons (o := ?oi151) ?hi151 (fun K hK => ?step151) AllReadyH.nil
              case hi151 => simp only [List.getElem?_toArray, List.getElem?_cons_succ, List.getElem?_cons_zero]; rfl
              rw [if_pos (by rfl)]
              go_simp
              go_at_call 12
              refine (C1.out _ HQd.out).mono ?_
              rintro e w31 ⟨v31, rfl, ho, hb⟩
              have HQ31 := hid (HQd.out.trans (hb.mono HQd.out.size))
              obtain ⟨A31, c31, rfl, _, _⟩ := (Sl.of_own ho).form
              have O31 := hid (Sl.of_own ho)
              clear ho
              clear hb
              refine hK.out _ _ (SR.out _ HQ31.out) (fun hS => ?_)
              refine wpAnyH_ready (rs := [19]) (by kernel_rfl) (by simp) ?_
              refine AllReadyH.cons (o := ?oi152) ?hi152 (fun K hK => ?step152) AllReadyH.nil
              case hi152 => simp only [List.getElem?_toArray, List.getElem?_cons_succ, List.getElem?_cons_zero]; rfl
              rw [if_pos (by rfl)]
              go_simp
              go_at_call 12
              refine (C2.out _ HQ31.out).mono ?_
              rintro e w32 ⟨v32, rfl, ho, hb⟩
              have HQ32 := hid (HQ31.out.trans (hb.mono HQ31.out.size))
              obtain ⟨A32, c32, rfl, _, _⟩ := (Sl.of_own ho).form
              have O32 := hid (Sl.of_own ho)
              have CQ3 := hid (equalSent_c _ _ X.length w32.heap.size X w32 ((O31.out.below hb (Nat.le_refl _)).more hb.size) O32.out (Nat.le_refl _))
              clear ho
              clear hb
              refine hK.out _ _ (SR.out _ HQ32.out) (fun hS => ?_)
              refine wpAnyH_ready (rs := [20]) (by kernel_rfl) (by simp) ?_
              refine AllReadyH.cons (o := ?oi153) ?hi153 (fun K hK => ?step153) AllReadyH.nil
              case hi153 => simp only [List.getElem?_toArray, List.getElem?_cons_succ, List.getElem?_cons_zero]; rfl
              rw [if_pos (by rfl)]
              go_simp
              go_at_call 13
              refine (CQ3.out).mono ?_
              rintro e w33 ⟨rfl, hb⟩
              have HQ33 := hid (HQ32.out.trans (hb.mono HQ32.out.size))
              clear hb
              refine hK.out _ _ (SR.out _ HQ33.out) (fun hS => ?_)
              refine wpAnyH_take (i := 21) (oi := ?oi154) (v := ?v154) ?hi154 (by kernel_rfl) ?hf154 ?hr154 ?hQ154 (Or.inl ⟨?hw154, ?hy154⟩) (by assumption) ?rest154
              case hi154 => simp only [List.getElem?_toArray, List.getElem?_cons_succ, List.getElem?_cons_zero]; rfl
              case hf154 => kernel_rfl
              case hr154 => kernel_rfl
              case hw154 => rfl
              case hy154 => (intro w hSw; (try dsimp only at hSw); go_simp; all_goals (first | done | with_reducible rfl))
              case hQ154 => exact fun _ _ _ h => h
              simp only [Act.put, List.setIfInBounds_toArray, List.set_cons_zero, List.set_cons_succ]
              refine wpAnyH_take (i := 22) (oi := ?oi155) (v := ?v155) ?hi155 (by kernel_rfl) ?hf155 ?hr155 ?hQ155 (Or.inl ⟨?hw155, ?hy155⟩) (by assumption) ?rest155
              case hi155 => simp only [List.getElem?_toArray, List.getElem?_cons_succ, List.getElem?_cons_zero]; rfl
              case hf155 => kernel_rfl
              case hr155 => kernel_rfl
              case hw155 => rfl
              case hy155 => (intro w hSw; (try dsimp only at hSw); go_simp; all_goals (first | done | with_reducible rfl))
              case hQ155 => exact fun _ _ _ h => h
              simp only [Act.put, List.setIfInBounds_toArray, List.set_cons_zero, List.set_cons_succ]
              refine wpAnyH_take (i := 23) (oi := ?oi156) (v := ?v156) ?hi156 (by kernel_rfl) ?hf156 ?hr156 ?hQ156 (Or.inl ⟨?hw156, ?hy156⟩) (by assumption) ?rest156
              case hi156 => simp only [List.getElem?_toArray, List.getElem?_cons_succ, List.getElem?_cons_zero]; rfl
              case hf156 => kernel_rfl
              case hr156 => kernel_rfl
              case hw156 => rfl
              case hy156 => (intro w hSw; (try dsimp only at hSw); go_simp; all_goals (first | done | with_reducible rfl))
              case hQ156 => exact fun _ _ _ h => h
              simp only [Act.put, List.setIfInBounds_toArray, List.set_cons_zero, List.set_cons_succ]
              refine wpAnyH_done (by kernel_rfl) ?_ _
              clear hS CQ3
              go_wp2_with fail
              go_roundw
              case rel => exact ⟨k + 1, by go_num, (show L.length ≤ k + 1 from Nat.le_succ_of_le hkL.out), by omega, HOq.out.trans (HQ33.out.mono HOq.out.size)⟩
              case measure => simp [intOf]; omega
          · go_wp2_with fail
            refine (CB.out _ HOr.out).mono ?_
            rintro e w20 ⟨v20, rs20, rfl, hs20, hr20, hb⟩
            obtain ⟨P3, pn3, pk3, P4, pn4, pk4, rfl, -, -⟩ := hs20.form_ hr20
            have hbx9 : Below w20.heap.size w20 (w20.alloc (.cells #[.slice P3 pn3 pk3, .slice P4 pn4 pk4, .int .i64 q] 26)) := (Below.refl _ _).alloc (Nat.le_refl _) _
            have TS := hid ((hs20.at_ hr20 HD.out).below hbx9 (Nat.le_refl _))
            have KS := Blk.new w20 #[.slice P3 pn3 pk3, .slice P4 pn4 pk4, .int .i64 q] 26
            have HO20 := hid (HOr.out.trans ((hb.trans (hbx9.mono hb.size)).mono HOr.out.size))
            have h20 : w20.heap.size ≤ (w20.alloc (.cells #[.slice P3 pn3 pk3, .slice P4 pn4 pk4, .int .i64 q] 26)).heap.size := by simp
            have CQ9 := hid (equalTree_c TS.out (TM.out _ HO20.out).1 h20 (TM.out _ HO20.out).2)
            clear e0 f0 f1 f2
            obtain ⟨_, f0, f1, f2⟩ := SG.out _ HO20.out
            have x0 := (KS.2 0 _ rfl).1
            have x1 := (KS.2 1 _ rfl).1
            have x2 := (KS.2 2 _ rfl).1
            clear hs20 hr20 hb hbx9 KS
            go_wp2_with fail
            refine CQ9.out.mono ?_
            rintro e w21 ⟨rfl, hb⟩
            have HO21 := hid (HO20.out.trans (hb.mono HO20.out.size))
            clear hb
            go_wp2_with fail
            go_ret
            exact ⟨rfl, HB.out.trans ((HW6.out.trans (HO21.out.mono HW6.out.size)).mono HB.out.size)⟩
end Go.Proofs.YtioegkcekbkblaaGreat
