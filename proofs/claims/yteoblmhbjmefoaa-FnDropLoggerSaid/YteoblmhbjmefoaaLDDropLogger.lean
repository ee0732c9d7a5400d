/-
  WALK: the law FnDropLogger. By gen_t.py.
-/
import Derived.Test.YteoblmhbjmefoaaDLM
import Derived.Test.YteoblmhbjmefoaaE19
import Derived.Test.YteoblmhbjmefoaaE13
import Derived.Test.YteoblmhbjmefoaaLookI
import Derived.Test.YteoblmhbjmefoaaLookS
namespace Go.Proofs.Yteoblmhbjmefoaa
open Go.RowKit Nm
set_option linter.unusedSimpArgs false
set_option linter.unusedVariables false

theorem fit_none : dataFit [] [] := ⟨⟨by simp, by simp⟩, ⟨by simp, by simp⟩⟩

set_option maxHeartbeats 8000000 in
set_option maxRecDepth 100000 in
theorem walk_FnDropLogger (a0 : Option Addr) (len0 cap0 : Nat) (z0 : List Int) (w : World) (w0 : IsRow .u8 w a0 len0 cap0 z0) :
    Calls Try.prog 7 #[.slice a0 len0 cap0] w (BoolPost w true) := by
  have hb0 := w0.leT
  by_cases h1 : (1048576 : Int) < (len0 : Int)
  · go_enter Try.func7, Try.ntmps7
    go_wp2_with fail
    go_ret
    exact ⟨rfl, Below.refl _ _⟩
  have DR := hid (drawDropLogger_c a0 len0 cap0 z0 w w0)
  clear w0
  go_enter Try.func7, Try.ntmps7
  go_wp2_with fail
  refine DR.out.mono ?_
  rintro e w1 ⟨v, rs, L, H, q, nm, rfl, hs, hsm, hnm, hr, hb⟩
  obtain ⟨A1, n1, k1, A2, n2, k2, rfl, hn1, hn2⟩ := hs.form_ hr
  have hd := sm_fit hsm (by omega)
  have TI0 := hs.at_ hr hd
  have hbx : Below w1.heap.size w1 (w1.alloc (.cells #[.slice A1 n1 k1, .slice A2 n2 k2, .int .i64 q] 30)) := (Below.refl _ _).alloc (Nat.le_refl _) _
  have TI := hid (TI0.below hbx (Nat.le_refl _))
  have KB := hid (Blk.new w1 #[.slice A1 n1 k1, .slice A2 n2 k2, .int .i64 q] 30)
  have HB := hid (hb.trans (hbx.mono hb.size))
  have hl1 : w1.heap.size < (w1.alloc (.cells #[.slice A1 n1 k1, .slice A2 n2 k2, .int .i64 q] 30)).heap.size := by simp
  have HL := hid (And.intro hn1 (And.intro hsm.1 hsm.2.1.1))
  replace hd := hid hd
  clear hs hr hb hn1 hn2 hsm TI0 hbx DR
  go_wp2_with fail
  generalize hbb : w1.heap.size = bb at *
  generalize w1.alloc (.cells #[.slice A1 n1 k1, .slice A2 n2 k2, .int .i64 q] 30) = w2 at *
  clear hbb
  have d0 := (KB.out.2 0 _ rfl).1
  have d1 := (KB.out.2 1 _ rfl).1
  have d2 := (KB.out.2 2 _ rfl).1
  have HW := hid (Below.refl w2.heap.size w2)
  have TT := hid (fun (W : World) (hW : Below w2.heap.size w2 W) => (And.intro (TI.out.below hW (Nat.le_of_lt hl1)) (Nat.le_trans (Nat.le_of_lt hl1) hW.size)))
  rcases drop_cases L H q nm.data.toList with hX | ⟨kx, lx, hok, hkx, hlx, hnx, hX⟩
  · clear hd
    have CI := hid (fun (W : World) (hW : Below w2.heap.size w2 W) => (show Calls Try.prog 15 #[.agg #[.slice A1 n1 k1, .slice A2 n2 k2, .int .i64 q], .string nm] W (fun e w' => ∃ v2 rs, e = .returned (.tuple #[v2, .bool false]) ∧ TreeS rs v2 ([]) [] 0 ∧ Rows w' W.heap.size rs ∧ Below W.heap.size W w') from by have h9 := implDropLogger_c nm (TT.out W hW).1 (TT.out W hW).2; rw [hX] at h9; exact h9))
    have CS := hid (fun (W : World) (hW : Below w2.heap.size w2 W) => (show Calls Try.prog 13 #[.agg #[.slice A1 n1 k1, .slice A2 n2 k2, .int .i64 q], .string nm] W (fun e w' => ∃ v2 rs, e = .returned (.tuple #[v2, .bool false]) ∧ TreeS rs v2 ([]) [] 0 ∧ Rows w' W.heap.size rs ∧ Below W.heap.size W w') from by have h9 := specDropLogger_c nm (TT.out W hW).1 (TT.out W hW).2; rw [hX] at h9; exact h9))
    go_wp2_with fail
    refine (CI.out _ HW.out).mono ?_
    rintro e w3 ⟨v3, rs3, rfl, hs3, hr3, hb⟩
    obtain ⟨A3, n3, k3, A4, n4, k4, rfl, -, -⟩ := hs3.form_ hr3
    have hbx3 : Below w3.heap.size w3 (w3.alloc (.cells #[.slice A3 n3 k3, .slice A4 n4 k4, .int .i64 0] 30)) := (Below.refl _ _).alloc (Nat.le_refl _) _
    have TO := hid ((hs3.at_ hr3 fit_none).below hbx3 (Nat.le_refl _))
    have KO := hid (Blk.new w3 #[.slice A3 n3 k3, .slice A4 n4 k4, .int .i64 0] 30)
    have HW4 := hid (HW.out.trans ((hb.trans (hbx3.mono hb.size)).mono HW.out.size))
    have hlo : w3.heap.size < (w3.alloc (.cells #[.slice A3 n3 k3, .slice A4 n4 k4, .int .i64 0] 30)).heap.size := by simp
    clear hs3 hr3 hb hbx3 d0 d1 d2
    obtain ⟨⟨d0, _⟩, ⟨d1, _⟩, ⟨d2, _⟩⟩ := (And.intro ((KB.out.to HW4.out).2 0 _ rfl) (And.intro ((KB.out.to HW4.out).2 1 _ rfl) ((KB.out.to HW4.out).2 2 _ rfl)))
    go_wp2_with fail
    generalize hbo : w3.heap.size = bo at *
    generalize w3.alloc (.cells #[.slice A3 n3 k3, .slice A4 n4 k4, .int .i64 0] 30) = w4 at *
    clear hbo
    refine (CS.out _ HW4.out).mono ?_
    rintro e w5 ⟨v5, rs5, rfl, hs5, hr5, hb⟩
    obtain ⟨A5, n5, k5, A6, n6, k6, rfl, -, -⟩ := hs5.form_ hr5
    have hbx5 : Below w5.heap.size w5 (w5.alloc (.cells #[.slice A5 n5 k5, .slice A6 n6 k6, .int .i64 0] 30)) := (Below.refl _ _).alloc (Nat.le_refl _) _
    have hb46 : Below w4.heap.size w4 (w5.alloc (.cells #[.slice A5 n5 k5, .slice A6 n6 k6, .int .i64 0] 30)) := hb.trans (hbx5.mono hb.size)
    have TW := hid ((hs5.at_ hr5 fit_none).below hbx5 (Nat.le_refl _))
    have KW := hid (Blk.new w5 #[.slice A5 n5 k5, .slice A6 n6 k6, .int .i64 0] 30)
    have HO6 := hid hb46
    have HW6 := hid (HW4.out.trans (hb46.mono HW4.out.size))
    have hlw : w5.heap.size < (w5.alloc (.cells #[.slice A5 n5 k5, .slice A6 n6 k6, .int .i64 0] 30)).heap.size := by simp
    clear hs5 hr5 hb hbx5 hb46 d0 d1 d2
    have o0 := ((KO.out.to HO6.out).2 0 _ rfl).1
    have o1 := ((KO.out.to HO6.out).2 1 _ rfl).1
    have o2 := ((KO.out.to HO6.out).2 2 _ rfl).1
    have p0 := (KW.out.2 0 _ rfl).1
    have p1 := (KW.out.2 1 _ rfl).1
    have p2 := (KW.out.2 2 _ rfl).1
    go_wp2_with fail
    generalize hbw : w5.heap.size = bw at *
    generalize w5.alloc (.cells #[.slice A5 n5 k5, .slice A6 n6 k6, .int .i64 0] 30) = w6 at *
    clear hbw
    have CE := hid (fun (W : World) (hW : Below w6.heap.size w6 W) => equalTree_c (TO.out.below (HO6.out.trans (hW.mono HO6.out.size)) (Nat.le_of_lt hlo)) (TW.out.below hW (Nat.le_of_lt hlw)) (Nat.le_trans (Nat.le_of_lt hlo) (Nat.le_trans HO6.out.size hW.size)) (Nat.le_trans (Nat.le_of_lt hlw) hW.size))
    refine (CE.out _ (Below.refl _ _)).mono ?_
    rintro e w7 ⟨rfl, hb⟩
    have HE7 := hid hb
    have HO7 := hid (HO6.out.trans (hb.mono HO6.out.size))
    have HW7 := hid (HW6.out.trans (hb.mono HW6.out.size))
    clear hb o0 o1 o2 p0 p1 p2
    have o0 := ((KO.out.to HO7.out).2 0 _ rfl).1
    have o1 := ((KO.out.to HO7.out).2 1 _ rfl).1
    have o2 := ((KO.out.to HO7.out).2 2 _ rfl).1
    have p0 := ((KW.out.to HE7.out).2 0 _ rfl).1
    have p1 := ((KW.out.to HE7.out).2 1 _ rfl).1
    have p2 := ((KW.out.to HE7.out).2 2 _ rfl).1
    go_wp2_with fail
    refine (CE.out _ HE7.out).mono ?_
    rintro e w8 ⟨rfl, hb⟩
    have HW8 := hid (HW7.out.trans (hb.mono HW7.out.size))
    clear hb o0 o1 o2 p0 p1 p2
    go_wp2_with fail
    go_ret
    exact ⟨rfl, HB.out.trans (HW8.out.mono HB.out.size)⟩
  · have DX : dataFit (L.eraseIdx kx) H := by have h9 := drop_res_fit L H q nm.data.toList; rw [hX] at h9; exact h9
    replace DX := hid DX
    have CI := hid (fun (W : World) (hW : Below w2.heap.size w2 W) => (show Calls Try.prog 15 #[.agg #[.slice A1 n1 k1, .slice A2 n2 k2, .int .i64 q], .string nm] W (fun e w' => ∃ v2 rs, e = .returned (.tuple #[v2, .bool true]) ∧ TreeS rs v2 ((L.eraseIdx kx)) H q ∧ Rows w' W.heap.size rs ∧ Below W.heap.size W w') from by have h9 := implDropLogger_c nm (TT.out W hW).1 (TT.out W hW).2; rw [hX] at h9; exact h9))
    have CS := hid (fun (W : World) (hW : Below w2.heap.size w2 W) => (show Calls Try.prog 13 #[.agg #[.slice A1 n1 k1, .slice A2 n2 k2, .int .i64 q], .string nm] W (fun e w' => ∃ v2 rs, e = .returned (.tuple #[v2, .bool true]) ∧ TreeS rs v2 ((L.eraseIdx kx)) H q ∧ Rows w' W.heap.size rs ∧ Below W.heap.size W w') from by have h9 := specDropLogger_c nm (TT.out W hW).1 (TT.out W hW).2; rw [hX] at h9; exact h9))
    go_wp2_with fail
    refine (CI.out _ HW.out).mono ?_
    rintro e w3 ⟨v3, rs3, rfl, hs3, hr3, hb⟩
    obtain ⟨A3, n3, k3, A4, n4, k4, rfl, -, -⟩ := hs3.form_ hr3
    have hbx3 : Below w3.heap.size w3 (w3.alloc (.cells #[.slice A3 n3 k3, .slice A4 n4 k4, .int .i64 q] 30)) := (Below.refl _ _).alloc (Nat.le_refl _) _
    have TO := hid ((hs3.at_ hr3 DX.out).below hbx3 (Nat.le_refl _))
    have KO := hid (Blk.new w3 #[.slice A3 n3 k3, .slice A4 n4 k4, .int .i64 q] 30)
    have HW4 := hid (HW.out.trans ((hb.trans (hbx3.mono hb.size)).mono HW.out.size))
    have hlo : w3.heap.size < (w3.alloc (.cells #[.slice A3 n3 k3, .slice A4 n4 k4, .int .i64 q] 30)).heap.size := by simp
    clear hs3 hr3 hb hbx3 d0 d1 d2
    obtain ⟨⟨d0, _⟩, ⟨d1, _⟩, ⟨d2, _⟩⟩ := (And.intro ((KB.out.to HW4.out).2 0 _ rfl) (And.intro ((KB.out.to HW4.out).2 1 _ rfl) ((KB.out.to HW4.out).2 2 _ rfl)))
    go_wp2_with fail
    generalize hbo : w3.heap.size = bo at *
    generalize w3.alloc (.cells #[.slice A3 n3 k3, .slice A4 n4 k4, .int .i64 q] 30) = w4 at *
    clear hbo
    refine (CS.out _ HW4.out).mono ?_
    rintro e w5 ⟨v5, rs5, rfl, hs5, hr5, hb⟩
    obtain ⟨A5, n5, k5, A6, n6, k6, rfl, -, -⟩ := hs5.form_ hr5
    have hbx5 : Below w5.heap.size w5 (w5.alloc (.cells #[.slice A5 n5 k5, .slice A6 n6 k6, .int .i64 q] 30)) := (Below.refl _ _).alloc (Nat.le_refl _) _
    have hb46 : Below w4.heap.size w4 (w5.alloc (.cells #[.slice A5 n5 k5, .slice A6 n6 k6, .int .i64 q] 30)) := hb.trans (hbx5.mono hb.size)
    have TW := hid ((hs5.at_ hr5 DX.out).below hbx5 (Nat.le_refl _))
    have KW := hid (Blk.new w5 #[.slice A5 n5 k5, .slice A6 n6 k6, .int .i64 q] 30)
    have HO6 := hid hb46
    have HW6 := hid (HW4.out.trans (hb46.mono HW4.out.size))
    have hlw : w5.heap.size < (w5.alloc (.cells #[.slice A5 n5 k5, .slice A6 n6 k6, .int .i64 q] 30)).heap.size := by simp
    clear hs5 hr5 hb hbx5 hb46 d0 d1 d2
    have o0 := ((KO.out.to HO6.out).2 0 _ rfl).1
    have o1 := ((KO.out.to HO6.out).2 1 _ rfl).1
    have o2 := ((KO.out.to HO6.out).2 2 _ rfl).1
    have p0 := (KW.out.2 0 _ rfl).1
    have p1 := (KW.out.2 1 _ rfl).1
    have p2 := (KW.out.2 2 _ rfl).1
    go_wp2_with fail
    generalize hbw : w5.heap.size = bw at *
    generalize w5.alloc (.cells #[.slice A5 n5 k5, .slice A6 n6 k6, .int .i64 q] 30) = w6 at *
    clear hbw
    have CE := hid (fun (W : World) (hW : Below w6.heap.size w6 W) => equalTree_c (TO.out.below (HO6.out.trans (hW.mono HO6.out.size)) (Nat.le_of_lt hlo)) (TW.out.below hW (Nat.le_of_lt hlw)) (Nat.le_trans (Nat.le_of_lt hlo) (Nat.le_trans HO6.out.size hW.size)) (Nat.le_trans (Nat.le_of_lt hlw) hW.size))
    refine (CE.out _ (Below.refl _ _)).mono ?_
    rintro e w7 ⟨rfl, hb⟩
    have HE7 := hid hb
    have HO7 := hid (HO6.out.trans (hb.mono HO6.out.size))
    have HW7 := hid (HW6.out.trans (hb.mono HW6.out.size))
    clear hb o0 o1 o2 p0 p1 p2
    have hok2 := drop_ok hok hkx
    have TN := hid (fun (W : World) (hO : Below w4.heap.size w4 W) => (And.intro (TO.out.below hO (Nat.le_of_lt hlo)) (Nat.le_trans (Nat.le_of_lt hlo) hO.size)))
    have FP := hid (fun (x : Name) (hx : x ∈ nsOf (L.eraseIdx kx)) (hne : x ≠ []) => (show parentB (L.eraseIdx kx) H q x = true ∧ parentT (L.eraseIdx kx) H q x = if parentT L H q x = nm.data.toList then parentT L H q nm.data.toList else parentT L H q x from by have h9 := drop_parent hok hkx hlx hx hne; rw [hnx] at h9; exact h9))
    have hkL : kx < L.length := (List.getElem?_eq_some_iff.1 hlx).1
    have hn13 : n1 = n3 + 1 := by
      have h3 := (TN.out _ (Below.refl _ _)).1.lens.1
      have := HL.out.1
      rw [List.length_eraseIdx, if_pos hkL] at h3
      omega
    have hn8 : n1 ≤ 8 := by rw [HL.out.1]; exact HL.out.2.2
    have HLN := hid (tree_ns hok2)
    have CPn := hid (fun (W : World) (hW : Below w2.heap.size w2 W) => implParentOf_c nm (TT.out W hW).1 (TT.out W hW).2 (by unfold maxLen; omega))
    have CP1 := hid (fun (s : ByteArray) (hs : s.size ≤ maxLen) (W : World) (hW : Below w2.heap.size w2 W) => implParentOf_c s (TT.out W hW).1 (TT.out W hW).2 hs)
    have CP2 := hid (fun (s : ByteArray) (hs : s.size ≤ maxLen) (W : World) (hO : Below w4.heap.size w4 W) => implParentOf_c s (TN.out W hO).1 (TN.out W hO).2 hs)
    have CL := hid (fun (W : World) (hO : Below w4.heap.size w4 W) => (show Calls Try.prog 28 #[.agg #[.slice A3 n3 k3, .slice A4 n4 k4, .int .i64 q], .string nm] W (fun e w' => e = .returned (.int .i64 (-1)) ∧ Below W.heap.size W w') from by have h9 := implLoggerAtX_c nm (TN.out W hO).1 (TN.out W hO).2; rw [hok2, if_pos rfl, ← hnx, drop_gone hok hlx] at h9; rw [← hnx] at *; exact h9))
    have CVT := hid (fun (W : World) (hO : Below w4.heap.size w4 W) => (show Calls Try.prog 29 #[.agg #[.slice A3 n3 k3, .slice A4 n4 k4, .int .i64 q]] W (BoolPost W true) from by have h9 := implValidTreeX_c (TN.out W hO).1 (TN.out W hO).2; rw [hok2] at h9; exact h9))
    generalize L.eraseIdx kx = Le at *
    generalize hup0 : parentT L H q nm.data.toList = pn at *
    obtain ⟨up, hup, hup2⟩ := txt_mk pn
    rw [hup] at CPn
    have HUP := hid (And.intro hup hup2)
    have d0 := ((KB.out.to HW7.out).2 0 _ rfl).1
    have d1 := ((KB.out.to HW7.out).2 1 _ rfl).1
    have d2 := ((KB.out.to HW7.out).2 2 _ rfl).1
    have HNN := hid hn13
    have hn38 : n3 ≤ 8 := by omega
    clear hn13
    clear hX hok hok2 hkx hlx hnx hup0 hup hup2 hkL
    go_wp2_with fail
    refine (CPn.out _ HW7.out).mono ?_
    rintro e w8 ⟨rfl, hb⟩
    have HW8 := hid (HW7.out.trans (hb.mono HW7.out.size))
    have HO8 := hid (HO7.out.trans (hb.mono HO7.out.size))
    clear hb d0 d1 d2
    have o0 := ((KO.out.to HO8.out).2 0 _ rfl).1
    go_wp2_with fail
    clear o0
    go_loopw [11] (fun kv wr => ∃ k : Nat, kv = .int .i64 k ∧ 1 ≤ k ∧ k ≤ n3 + 1 ∧ Hid (Below w2.heap.size w2 wr) ∧ Hid (Below w4.heap.size w4 wr)) (fun kv _ => n3 + 1 - (intOf kv).toNat)
    case atStart => exact ⟨1, rfl, by omega, by omega, HW8.out, HO8.out⟩
    case round =>
      obtain ⟨k, rfl, hk1, hk, HWr, HOr⟩ := hrel
      have o0 := ((KO.out.to HOr.out).2 0 _ rfl).1
      by_cases hkn : k < n3
      · obtain ⟨b, o, x, s, rfl, hbB, hx, hsx, hsz, c0, -⟩ := (TN.out _ HOr.out).1.name hkn
        unfold maxTxt at hsz
        have hxm : s.data.toList ∈ nsOf Le := by rw [hsx]; exact List.mem_map.2 ⟨x, List.mem_of_getElem? hx, rfl⟩
        have hxe : s.data.toList ≠ [] := fun e => by
          obtain ⟨h0, hnd, _, hlen, _, _⟩ := HLN.out
          have hkl := (List.getElem?_eq_some_iff.1 hx).1
          have g : (nsOf Le).getD k [] = s.data.toList := by rw [hsx]; unfold nsOf; simp [List.getD, hx]
          have hz : (nsOf Le).getD 0 [] = [] := by simp [List.getD, h0]
          have := nodup_at hnd (i := k) (j := 0) (by omega) (by omega) (by rw [g, hz, e])
          omega
        obtain ⟨f1, f2⟩ := FP.out _ hxm hxe
        have C1 := CP1.out s (by unfold maxLen; omega) wr HWr.out
        have C2 := fun (W : World) (hO : Below w4.heap.size w4 W) => CP2.out s (by unfold maxLen; omega) W hO
        simp only [f1, f2] at C2
        generalize parentT L H q s.data.toList = px at *
        generalize parentB L H q s.data.toList = bx at *
        obtain ⟨po, hpo, hpo2⟩ := txt_mk px
        rw [hpo] at C1
        replace C1 := hid C1
        have s0 : (0 : Int) ≤ (k : Int) := by omega
        have s1 : (k : Int) < (n3 : Int) := by omega
        have s2 : ((k : Int)).toNat = k := by simp
        have d0 := ((KB.out.to HWr.out).2 0 _ rfl).1
        have d1 := ((KB.out.to HWr.out).2 1 _ rfl).1
        have d2 := ((KB.out.to HWr.out).2 2 _ rfl).1
        by_cases he : px = nm.data.toList
        · have e1 := eq_true_of (a := po) (b := nm) (by rw [hpo2]; exact he)
          simp only [if_pos he, HUP.out.1] at C2
          have b1 : (up.toList == up.toList) = true := by simp
          replace C2 := hid C2
          clear he hpo hpo2 f1 f2 hxm hxe hx hsx
          go_wp2_with fail
          refine (C1.out).mono ?_
          rintro e w9 ⟨rfl, hb⟩
          have HW9 := hid (HWr.out.trans (hb.mono HWr.out.size))
          have HO9 := hid (HOr.out.trans (hb.mono HOr.out.size))
          clear hb d0 d1 d2 c0 o0
          have o0 := ((KO.out.to HO9.out).2 0 _ rfl).1
          have o1 := ((KO.out.to HO9.out).2 1 _ rfl).1
          have o2 := ((KO.out.to HO9.out).2 2 _ rfl).1
          go_wp2_with fail
          refine (C2.out _ HO9.out).mono ?_
          rintro e wx ⟨rfl, hb⟩
          have HWx := hid (HW9.out.trans (hb.mono HW9.out.size))
          have HOx := hid (HO9.out.trans (hb.mono HO9.out.size))
          clear hb o0 o1 o2
          go_wp2_with fail
          go_roundw
          case rel => exact ⟨k + 1, by go_num, by omega, by omega, HWx.out, HOx.out⟩
          case measure => simp [intOf]; omega
        · have e1 := eq_false_of (a := po) (b := nm) (by rw [hpo2]; exact he)
          simp only [if_neg he, hpo] at C2
          have b1 : (po.toList == po.toList) = true := by simp
          replace C2 := hid C2
          clear he hpo hpo2 f1 f2 hxm hxe hx hsx
          go_wp2_with fail
          refine (C1.out).mono ?_
          rintro e w9 ⟨rfl, hb⟩
          have HW9 := hid (HWr.out.trans (hb.mono HWr.out.size))
          have HO9 := hid (HOr.out.trans (hb.mono HOr.out.size))
          clear hb d0 d1 d2 c0 o0
          have o0 := ((KO.out.to HO9.out).2 0 _ rfl).1
          have o1 := ((KO.out.to HO9.out).2 1 _ rfl).1
          have o2 := ((KO.out.to HO9.out).2 2 _ rfl).1
          go_wp2_with fail
          refine (C2.out _ HO9.out).mono ?_
          rintro e wx ⟨rfl, hb⟩
          have HWx := hid (HW9.out.trans (hb.mono HW9.out.size))
          have HOx := hid (HO9.out.trans (hb.mono HO9.out.size))
          clear hb o0 o1 o2
          go_wp2_with fail
          go_roundw
          case rel => exact ⟨k + 1, by go_num, by omega, by omega, HWx.out, HOx.out⟩
          case measure => simp [intOf]; omega
      · have o1 := ((KO.out.to HOr.out).2 1 _ rfl).1
        have o2 := ((KO.out.to HOr.out).2 2 _ rfl).1
        go_wp2_with fail
        refine (CL.out _ HOr.out).mono ?_
        rintro e wl ⟨rfl, hb⟩
        have HWl := hid (HWr.out.trans (hb.mono HWr.out.size))
        have HOl := hid (HOr.out.trans (hb.mono HOr.out.size))
        clear hb o0 o1 o2
        have o0 := ((KO.out.to HOl.out).2 0 _ rfl).1
        have o1 := ((KO.out.to HOl.out).2 1 _ rfl).1
        have o2 := ((KO.out.to HOl.out).2 2 _ rfl).1
        have d0 := ((KB.out.to HWl.out).2 0 _ rfl).1
        have q1 : IntKind.i64.wrap ((n1 : Int) - 1) = (n1 : Int) - 1 := by rw [IntKind.wrap_i64]; omega
        have q2 : ((n3 : Int) == (n1 : Int) - 1) = true := by have := HNN.out; simp; omega
        go_wp2_with fail
        refine (CVT.out _ HOl.out).mono ?_
        rintro e wv ⟨rfl, hb⟩
        have HWv := hid (HWl.out.trans (hb.mono HWl.out.size))
        clear hb o0 o1 o2 d0
        go_wp2_with fail
        go_ret
        exact ⟨rfl, HB.out.trans (HWv.out.mono HB.out.size)⟩
end Go.Proofs.Yteoblmhbjmefoaa
