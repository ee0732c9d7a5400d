/-
  WALK: the law FnSetLevel. By gen_t.py.
-/
import Derived.Test.YtcgcbgbmofooiaaE14
import Derived.Test.YtcgcbgbmofooiaaE16
import Derived.Test.YtcgcbgbmofooiaaE7
import Derived.Test.YtcgcbgbmofooiaaC9
import Derived.Test.YtcgcbgbmofooiaaLookI
namespace Go.Proofs.Ytcgcbgbmofooiaa
open Go.RowKit Nm
set_option linter.unusedSimpArgs false
set_option linter.unusedVariables false

theorem fit_none : dataFit [] [] := ⟨⟨by simp, by simp⟩, ⟨by simp, by simp⟩⟩

set_option maxHeartbeats 8000000 in
set_option maxRecDepth 100000 in
theorem walk_FnSetLevel (a0 : Option Addr) (len0 cap0 : Nat) (z0 : List Int) (w : World) (w0 : IsRow .u8 w a0 len0 cap0 z0) :
    Calls Try.prog 6 #[.slice a0 len0 cap0] w (BoolPost w true) := by
  have hb0 := w0.leT
  by_cases h1 : (1048576 : Int) < (len0 : Int)
  · go_enter Try.func6, Try.ntmps6
    go_wp2_with fail
    go_ret
    exact ⟨rfl, Below.refl _ _⟩
  have DR := hid (drawSetLevel_c a0 len0 cap0 z0 w w0)
  clear w0
  go_enter Try.func6, Try.ntmps6
  go_wp2_with fail
  refine DR.out.mono ?_
  rintro e w1 ⟨v, rs, L, H, q, nm, lv, rfl, hs, hsm, hnm, hlv, hr, hb⟩
  obtain ⟨A1, n1, k1, A2, n2, k2, rfl, hn1, hn2⟩ := hs.form_ hr
  have hd := sm_fit hsm (by omega)
  have TI0 := hs.at_ hr hd
  have hbx : Below w1.heap.size w1 (w1.alloc (.cells #[.slice A1 n1 k1, .slice A2 n2 k2, .int .i64 q] 26)) := (Below.refl _ _).alloc (Nat.le_refl _) _
  have TI := hid (TI0.below hbx (Nat.le_refl _))
  have KB := hid (Blk.new w1 #[.slice A1 n1 k1, .slice A2 n2 k2, .int .i64 q] 26)
  have HB := hid (hb.trans (hbx.mono hb.size))
  have hl1 : w1.heap.size < (w1.alloc (.cells #[.slice A1 n1 k1, .slice A2 n2 k2, .int .i64 q] 26)).heap.size := by simp
  have HL := hid (And.intro hn1 (And.intro hsm.1 hsm.2.1.1))
  replace hd := hid hd
  clear hs hr hb hn1 hn2 hsm TI0 hbx DR
  go_wp2_with fail
  generalize hbb : w1.heap.size = bb at *
  generalize w1.alloc (.cells #[.slice A1 n1 k1, .slice A2 n2 k2, .int .i64 q] 26) = w2 at *
  clear hbb
  have d0 := (KB.out.2 0 _ rfl).1
  have d1 := (KB.out.2 1 _ rfl).1
  have d2 := (KB.out.2 2 _ rfl).1
  have HW := hid (Below.refl w2.heap.size w2)
  have TT := hid (fun (W : World) (hW : Below w2.heap.size w2 W) => (And.intro (TI.out.below hW (Nat.le_of_lt hl1)) (Nat.le_trans (Nat.le_of_lt hl1) hW.size)))
  have hn8 : n1 ≤ 8 := by rw [HL.out.1]; exact HL.out.2.2
  rcases lv_cases L H q nm.data.toList lv with hX | ⟨kx, lx, hlx, hnx, hix, hok, hok2, hX, hXb⟩
  · clear hd
    have CI := hid (fun (W : World) (hW : Below w2.heap.size w2 W) => (show Calls Try.prog 28 #[.agg #[.slice A1 n1 k1, .slice A2 n2 k2, .int .i64 q], .string nm, .int .i64 lv] W (fun e w' => ∃ v2 rs, e = .returned (.tuple #[v2, .bool false]) ∧ TreeS rs v2 ([]) [] 0 ∧ Rows w' W.heap.size rs ∧ Below W.heap.size W w') from by have h9 := implSetLevel_c nm lv (TT.out W hW).1 (TT.out W hW).2; rw [hX] at h9; exact h9))
    have CS := hid (fun (W : World) (hW : Below w2.heap.size w2 W) => (show Calls Try.prog 29 #[.agg #[.slice A1 n1 k1, .slice A2 n2 k2, .int .i64 q], .string nm, .int .i64 lv] W (fun e w' => ∃ v2 rs, e = .returned (.tuple #[v2, .bool false]) ∧ TreeS rs v2 ([]) [] 0 ∧ Rows w' W.heap.size rs ∧ Below W.heap.size W w') from by have h9 := specSetLevel_c nm lv (TT.out W hW).1 (TT.out W hW).2; rw [hX] at h9; exact h9))
    go_wp2_with fail
    refine (CI.out _ HW.out).mono ?_
    rintro e w3 ⟨v3, rs3, rfl, hs3, hr3, hb⟩
    obtain ⟨A3, n3, k3, A4, n4, k4, rfl, -, -⟩ := hs3.form_ hr3
    have hbx3 : Below w3.heap.size w3 (w3.alloc (.cells #[.slice A3 n3 k3, .slice A4 n4 k4, .int .i64 0] 26)) := (Below.refl _ _).alloc (Nat.le_refl _) _
    have TO := hid ((hs3.at_ hr3 fit_none).below hbx3 (Nat.le_refl _))
    have KO := hid (Blk.new w3 #[.slice A3 n3 k3, .slice A4 n4 k4, .int .i64 0] 26)
    have HW4 := hid (HW.out.trans ((hb.trans (hbx3.mono hb.size)).mono HW.out.size))
    have hlo : w3.heap.size < (w3.alloc (.cells #[.slice A3 n3 k3, .slice A4 n4 k4, .int .i64 0] 26)).heap.size := by simp
    clear hs3 hr3 hb hbx3 d0 d1 d2
    obtain ⟨⟨d0, _⟩, ⟨d1, _⟩, ⟨d2, _⟩⟩ := (And.intro ((KB.out.to HW4.out).2 0 _ rfl) (And.intro ((KB.out.to HW4.out).2 1 _ rfl) ((KB.out.to HW4.out).2 2 _ rfl)))
    go_wp2_with fail
    generalize hbo : w3.heap.size = bo at *
    generalize w3.alloc (.cells #[.slice A3 n3 k3, .slice A4 n4 k4, .int .i64 0] 26) = w4 at *
    clear hbo
    refine (CS.out _ HW4.out).mono ?_
    rintro e w5 ⟨v5, rs5, rfl, hs5, hr5, hb⟩
    obtain ⟨A5, n5, k5, A6, n6, k6, rfl, -, -⟩ := hs5.form_ hr5
    have hbx5 : Below w5.heap.size w5 (w5.alloc (.cells #[.slice A5 n5 k5, .slice A6 n6 k6, .int .i64 0] 26)) := (Below.refl _ _).alloc (Nat.le_refl _) _
    have hb46 : Below w4.heap.size w4 (w5.alloc (.cells #[.slice A5 n5 k5, .slice A6 n6 k6, .int .i64 0] 26)) := hb.trans (hbx5.mono hb.size)
    have TW := hid ((hs5.at_ hr5 fit_none).below hbx5 (Nat.le_refl _))
    have KW := hid (Blk.new w5 #[.slice A5 n5 k5, .slice A6 n6 k6, .int .i64 0] 26)
    have HO6 := hid hb46
    have HW6 := hid (HW4.out.trans (hb46.mono HW4.out.size))
    have hlw : w5.heap.size < (w5.alloc (.cells #[.slice A5 n5 k5, .slice A6 n6 k6, .int .i64 0] 26)).heap.size := by simp
    clear hs5 hr5 hb hbx5 hb46 d0 d1 d2
    have o0 := ((KO.out.to HO6.out).2 0 _ rfl).1
    have o1 := ((KO.out.to HO6.out).2 1 _ rfl).1
    have o2 := ((KO.out.to HO6.out).2 2 _ rfl).1
    have p0 := (KW.out.2 0 _ rfl).1
    have p1 := (KW.out.2 1 _ rfl).1
    have p2 := (KW.out.2 2 _ rfl).1
    go_wp2_with fail
    generalize hbw : w5.heap.size = bw at *
    generalize w5.alloc (.cells #[.slice A5 n5 k5, .slice A6 n6 k6, .int .i64 0] 26) = w6 at *
    clear hbw
    have CE := hid (fun (W : World) (hW : Below w6.heap.size w6 W) => equalTree_c (TO.out.below (HO6.out.trans (hW.mono HO6.out.size)) (Nat.le_of_lt hlo)) (TW.out.below hW (Nat.le_of_lt hlw)) (Nat.le_trans (Nat.le_of_lt hlo) (Nat.le_trans HO6.out.size hW.size)) (Nat.le_trans (Nat.le_of_lt hlw) hW.size))
    refine (CE.out _ (Below.refl _ _)).mono ?_
    rintro e w7 ⟨rfl, hb⟩
    have HE7 := hid hb
    have HO7 := hid (HO6.out.trans (hb.mono HO6.out.size))
    have HW7 := hid (HW6.out.trans (hb.mono HW6.out.size))
    clear hb o0 o1 o2 p0 p1 p2
    have o0 := ((KO.out.to HO7.out).2 0 _ rfl).1
    have o1 := ((KO.out.to HO7.out).2 1 _ rfl).1
    have o2 := ((KO.out.to HO7.out).2 2 _ rfl).1
    have p0 := ((KW.out.to HE7.out).2 0 _ rfl).1
    have p1 := ((KW.out.to HE7.out).2 1 _ rfl).1
    have p2 := ((KW.out.to HE7.out).2 2 _ rfl).1
    go_wp2_with fail
    refine (CE.out _ HE7.out).mono ?_
    rintro e w8 ⟨rfl, hb⟩
    have HW8 := hid (HW7.out.trans (hb.mono HW7.out.size))
    clear hb o0 o1 o2 p0 p1 p2
    go_wp2_with fail
    go_ret
    exact ⟨rfl, HB.out.trans (HW8.out.mono HB.out.size)⟩
  · have DX : dataFit (updL L kx (setLevelF lv)) H := by have h9 := lgr_fit L H q nm.data.toList (setLevelF lv); rw [hX] at h9; exact h9
    replace DX := hid DX
    have CI := hid (fun (W : World) (hW : Below w2.heap.size w2 W) => (show Calls Try.prog 28 #[.agg #[.slice A1 n1 k1, .slice A2 n2 k2, .int .i64 q], .string nm, .int .i64 lv] W (fun e w' => ∃ v2 rs, e = .returned (.tuple #[v2, .bool true]) ∧ TreeS rs v2 (updL L kx (setLevelF lv)) H q ∧ Rows w' W.heap.size rs ∧ Below W.heap.size W w') from by have h9 := implSetLevel_c nm lv (TT.out W hW).1 (TT.out W hW).2; rw [hX] at h9; exact h9))
    have CS := hid (fun (W : World) (hW : Below w2.heap.size w2 W) => (show Calls Try.prog 29 #[.agg #[.slice A1 n1 k1, .slice A2 n2 k2, .int .i64 q], .string nm, .int .i64 lv] W (fun e w' => ∃ v2 rs, e = .returned (.tuple #[v2, .bool true]) ∧ TreeS rs v2 (updL L kx (setLevelF lv)) H q ∧ Rows w' W.heap.size rs ∧ Below W.heap.size W w') from by have h9 := specSetLevel_c nm lv (TT.out W hW).1 (TT.out W hW).2; rw [hX] at h9; exact h9))
    go_wp2_with fail
    refine (CI.out _ HW.out).mono ?_
    rintro e w3 ⟨v3, rs3, rfl, hs3, hr3, hb⟩
    obtain ⟨A3, n3, k3, A4, n4, k4, rfl, -, -⟩ := hs3.form_ hr3
    have hbx3 : Below w3.heap.size w3 (w3.alloc (.cells #[.slice A3 n3 k3, .slice A4 n4 k4, .int .i64 q] 26)) := (Below.refl _ _).alloc (Nat.le_refl _) _
    have TO := hid ((hs3.at_ hr3 DX.out).below hbx3 (Nat.le_refl _))
    have KO := hid (Blk.new w3 #[.slice A3 n3 k3, .slice A4 n4 k4, .int .i64 q] 26)
    have HW4 := hid (HW.out.trans ((hb.trans (hbx3.mono hb.size)).mono HW.out.size))
    have hlo : w3.heap.size < (w3.alloc (.cells #[.slice A3 n3 k3, .slice A4 n4 k4, .int .i64 q] 26)).heap.size := by simp
    clear hs3 hr3 hb hbx3 d0 d1 d2
    obtain ⟨⟨d0, _⟩, ⟨d1, _⟩, ⟨d2, _⟩⟩ := (And.intro ((KB.out.to HW4.out).2 0 _ rfl) (And.intro ((KB.out.to HW4.out).2 1 _ rfl) ((KB.out.to HW4.out).2 2 _ rfl)))
    go_wp2_with fail
    generalize hbo : w3.heap.size = bo at *
    generalize w3.alloc (.cells #[.slice A3 n3 k3, .slice A4 n4 k4, .int .i64 q] 26) = w4 at *
    clear hbo
    refine (CS.out _ HW4.out).mono ?_
    rintro e w5 ⟨v5, rs5, rfl, hs5, hr5, hb⟩
    obtain ⟨A5, n5, k5, A6, n6, k6, rfl, -, -⟩ := hs5.form_ hr5
    have hbx5 : Below w5.heap.size w5 (w5.alloc (.cells #[.slice A5 n5 k5, .slice A6 n6 k6, .int .i64 q] 26)) := (Below.refl _ _).alloc (Nat.le_refl _) _
    have hb46 : Below w4.heap.size w4 (w5.alloc (.cells #[.slice A5 n5 k5, .slice A6 n6 k6, .int .i64 q] 26)) := hb.trans (hbx5.mono hb.size)
    have TW := hid ((hs5.at_ hr5 DX.out).below hbx5 (Nat.le_refl _))
    have KW := hid (Blk.new w5 #[.slice A5 n5 k5, .slice A6 n6 k6, .int .i64 q] 26)
    have HO6 := hid hb46
    have HW6 := hid (HW4.out.trans (hb46.mono HW4.out.size))
    have hlw : w5.heap.size < (w5.alloc (.cells #[.slice A5 n5 k5, .slice A6 n6 k6, .int .i64 q] 26)).heap.size := by simp
    clear hs5 hr5 hb hbx5 hb46 d0 d1 d2
    have o0 := ((KO.out.to HO6.out).2 0 _ rfl).1
    have o1 := ((KO.out.to HO6.out).2 1 _ rfl).1
    have o2 := ((KO.out.to HO6.out).2 2 _ rfl).1
    have p0 := (KW.out.2 0 _ rfl).1
    have p1 := (KW.out.2 1 _ rfl).1
    have p2 := (KW.out.2 2 _ rfl).1
    go_wp2_with fail
    generalize hbw : w5.heap.size = bw at *
    generalize w5.alloc (.cells #[.slice A5 n5 k5, .slice A6 n6 k6, .int .i64 q] 26) = w6 at *
    clear hbw
    have CE := hid (fun (W : World) (hW : Below w6.heap.size w6 W) => equalTree_c (TO.out.below (HO6.out.trans (hW.mono HO6.out.size)) (Nat.le_of_lt hlo)) (TW.out.below hW (Nat.le_of_lt hlw)) (Nat.le_trans (Nat.le_of_lt hlo) (Nat.le_trans HO6.out.size hW.size)) (Nat.le_trans (Nat.le_of_lt hlw) hW.size))
    refine (CE.out _ (Below.refl _ _)).mono ?_
    rintro e w7 ⟨rfl, hb⟩
    have HE7 := hid hb
    have HO7 := hid (HO6.out.trans (hb.mono HO6.out.size))
    have HW7 := hid (HW6.out.trans (hb.mono HW6.out.size))
    clear hb o0 o1 o2 p0 p1 p2
    have TN := hid (fun (W : World) (hO : Below w4.heap.size w4 W) => (And.intro (TO.out.below hO (Nat.le_of_lt hlo)) (Nat.le_trans (Nat.le_of_lt hlo) hO.size)))
    have CB := hid (fun (s : ByteArray) (hs : s.size ≤ 1048576) (W : World) => implIsBelow_c s nm W hs (by omega))
    have CE1 := hid (fun (s : ByteArray) (hs : s.size ≤ 1048576) (W : World) (hO : Below w4.heap.size w4 W) => implEffectiveLevel_c s (TN.out W hO).1 (TN.out W hO).2 (by unfold maxLen; omega))
    have CE2 := hid (fun (s : ByteArray) (hs : s.size ≤ 1048576) (W : World) (hW : Below w2.heap.size w2 W) => implEffectiveLevel_c s (TT.out W hW).1 (TT.out W hW).2 (by unfold maxLen; omega))
    have CE3 := hid (fun (W : World) (hO : Below w4.heap.size w4 W) => implEffectiveLevel_c nm (TN.out W hO).1 (TN.out W hO).2 (by unfold maxLen; omega))
    have CG := hid (fun (W : World) (hW : Below w2.heap.size w2 W) => (show Calls Try.prog 15 #[.agg #[.slice A1 n1 k1, .slice A2 n2 k2, .int .i64 q], .string nm] W (fun e w' => e = .returned (.int .i64 (kx : Int)) ∧ Below W.heap.size W w') from by have h9 := implLoggerAtX_c nm (TT.out W hW).1 (TT.out W hW).2; rw [hok, if_pos rfl, hix] at h9; exact h9))
    have CX := hid (fun (W : World) (hO : Below w4.heap.size w4 W) => (show Calls Try.prog 28 #[.agg #[.slice A3 n3 k3, .slice A4 n4 k4, .int .i64 q], .string nm, .int .i64 lx.lv] W (fun e w' => ∃ v2 rs, e = .returned (.tuple #[v2, .bool true]) ∧ TreeS rs v2 (L) H q ∧ Rows w' W.heap.size rs ∧ Below W.heap.size W w') from by have h9 := implSetLevel_c nm lx.lv (TN.out W hO).1 (TN.out W hO).2; rw [hXb] at h9; exact h9))
    have FE := hid (fun (x : Name) (hx : x ∈ nsOf L) (hb : isB x nm.data.toList = false) => lv_same lv hok hok2 hlx hx (by rw [hnx]; exact hb))
    have FL := hid (fun (ha : ¬ lv = 0) => (show levelT (updL L kx (setLevelF lv)) H q nm.data.toList = lv by have h9 := lv_set hok hok2 hlx ha; rw [hnx] at h9; exact h9))
    have hkx : kx < n1 := by rw [HL.out.1]; exact (List.getElem?_eq_some_iff.1 hlx).1
    have HLX := hid hlx
    have d0 := ((KB.out.to HW7.out).2 0 _ rfl).1
    clear hlx hnx hX hXb hok hok2 hix
    go_wp2_with fail
    clear d0
    go_loopw [10, 11] (fun kv sv wr => ∃ (k : Nat) (u : Value), kv = .int .i64 k ∧ sv = u ∧ k ≤ n1 ∧ Hid (Below w2.heap.size w2 wr) ∧ Hid (Below w4.heap.size w4 wr)) (fun kv _ _ => n1 - (intOf kv).toNat)
    case atStart => exact ⟨0, _, rfl, rfl, Nat.zero_le _, HW7.out, HO7.out⟩
    case round =>
      obtain ⟨k, u, rfl, rfl, hk, HWr, HOr⟩ := hrel
      have d0 := ((KB.out.to HWr.out).2 0 _ rfl).1
      by_cases hkn : k < n1
      · obtain ⟨b, o, x, s, rfl, hbB, hx, hsx, hsz, c0, -⟩ := (TT.out _ HWr.out).1.name hkn
        unfold maxTxt at hsz
        have hxm : s.data.toList ∈ nsOf L := by rw [hsx]; exact List.mem_map.2 ⟨x, List.mem_of_getElem? hx, rfl⟩
        have s0 : (0 : Int) ≤ (k : Int) := by omega
        have s1 : (k : Int) < (n1 : Int) := by omega
        have s2 : ((k : Int)).toNat = k := by simp
        clear hx hsx
        have d1 := ((KB.out.to HWr.out).2 1 _ rfl).1
        have d2 := ((KB.out.to HWr.out).2 2 _ rfl).1
        have o0 := ((KO.out.to HOr.out).2 0 _ rfl).1
        have o1 := ((KO.out.to HOr.out).2 1 _ rfl).1
        have o2 := ((KO.out.to HOr.out).2 2 _ rfl).1
        have HWd := hid (HWr.out.drew)
        have HOd := hid (HOr.out.drew)
        have SG := hid (fun (W : World) (hW : Below w2.heap.size w2 W) (hO : Below w4.heap.size w4 W) => (show (W.cell? ⟨bo, 0, none⟩ = some (.slice A3 n3 k3) ∧ W.cell? ⟨bo, 1, none⟩ = some (.slice A4 n4 k4) ∧ W.cell? ⟨bo, 2, none⟩ = some (.int .i64 q)) ∧ (W.cell? ⟨bb, 0, none⟩ = some (.slice (some ⟨b, o, none⟩) n1 k1) ∧ W.cell? ⟨bb, 1, none⟩ = some (.slice A2 n2 k2) ∧ W.cell? ⟨bb, 2, none⟩ = some (.int .i64 q)) from ⟨⟨((KO.out.to hO).2 0 _ rfl).1, ((KO.out.to hO).2 1 _ rfl).1, ((KO.out.to hO).2 2 _ rfl).1⟩, ⟨((KB.out.to hW).2 0 _ rfl).1, ((KB.out.to hW).2 1 _ rfl).1, ((KB.out.to hW).2 2 _ rfl).1⟩⟩))
        have C0 := hid (CB.out s hsz wr.drew)
        cases hBz : isB s.data.toList nm.data.toList with
        | true =>
          rw [hBz] at C0
          clear hBz hxm
          go_wp2_with fail
          refine wp_region_held_drew (S := (fun w' : World => (w'.cell? ⟨bo, 0, none⟩ = some (.slice A3 n3 k3) ∧ w'.cell? ⟨bo, 1, none⟩ = some (.slice A4 n4 k4) ∧ w'.cell? ⟨bo, 2, none⟩ = some (.int .i64 q)) ∧ w'.cell? ⟨bb, 0, none⟩ = some (.slice (some ⟨b, o, none⟩) n1 k1) ∧ w'.cell? ⟨bb, 1, none⟩ = some (.slice A2 n2 k2) ∧ w'.cell? ⟨bb, 2, none⟩ = some (.int .i64 q))) (by kernel_rfl) ⟨⟨o0, o1, o2⟩, d0, d1, d2⟩ (fun hS => ?_)
          refine wpAnyH_take (i := 0) (oi := ?oi101) (v := ?v101) ?hi101 (by kernel_rfl) ?hf101 ?hr101 ?hQ101 (Or.inl ⟨?hw101, ?hy101⟩) (by assumption) ?rest101
          case hi101 => simp only [List.getElem?_toArray, List.getElem?_cons_succ, List.getElem?_cons_zero]; rfl
          case hf101 => kernel_rfl
          case hr101 => kernel_rfl
          case hw101 => rfl
          case hy101 => (intro w hSw; (try dsimp only at hSw); go_simp; all_goals (first | done | with_reducible rfl))
          case hQ101 => exact fun _ _ _ h => h
          simp only [Act.put, List.setIfInBounds_toArray, List.set_cons_zero, List.set_cons_succ]
          refine wpAnyH_take (i := 1) (oi := ?oi102) (v := ?v102) ?hi102 (by kernel_rfl) ?hf102 ?hr102 ?hQ102 (Or.inl ⟨?hw102, ?hy102⟩) (by assumption) ?rest102
          case hi102 => simp only [List.getElem?_toArray, List.getElem?_cons_succ, List.getElem?_cons_zero]; rfl
          case hf102 => kernel_rfl
          case hr102 => kernel_rfl
          case hw102 => rfl
          case hy102 => (intro w hSw; (try dsimp only at hSw); go_simp; all_goals (first | done | with_reducible rfl))
          case hQ102 => exact fun _ _ _ h => h
          simp only [Act.put, List.setIfInBounds_toArray, List.set_cons_zero, List.set_cons_succ]
          refine wpAnyH_ready (rs := [2]) (by kernel_rfl) (by simp) ?_
          refine AllReadyH.cons (o := ?oi103) ?hi103 (fun K hK => ?step103) AllReadyH.nil
          case hi103 => simp only [List.getElem?_toArray, List.getElem?_cons_succ, List.getElem?_cons_zero]; rfl
          rw [if_pos (by rfl)]
          go_simp
          go_at_call 30
          refine (C0.out).mono ?_
          rintro e w27 ⟨rfl, hb⟩
          have HW27 := hid (HWd.out.trans (hb.mono HWd.out.size))
          have HO27 := hid (HOd.out.trans (hb.mono HOd.out.size))
          clear hb
          refine hK.out _ _ (SG.out _ HW27.out HO27.out) (fun hS => ?_)
          refine wpAnyH_take (i := 3) (oi := ?oi104) (v := ?v104) ?hi104 (by kernel_rfl) ?hf104 ?hr104 ?hQ104 (Or.inl ⟨?hw104, ?hy104⟩) (by assumption) ?rest104
          case hi104 => simp only [List.getElem?_toArray, List.getElem?_cons_succ, List.getElem?_cons_zero]; rfl
          case hf104 => kernel_rfl
          case hr104 => kernel_rfl
          case hw104 => rfl
          case hy104 => (intro w hSw; (try dsimp only at hSw); go_simp; all_goals (first | done | with_reducible rfl))
          case hQ104 => exact fun _ _ _ h => h
          simp only [Act.put, List.setIfInBounds_toArray, List.set_cons_zero, List.set_cons_succ]
          refine wpAnyH_take (i := 4) (oi := ?oi105) (v := ?v105) ?hi105 (by kernel_rfl) ?hf105 ?hr105 ?hQ105 (Or.inl ⟨?hw105, ?hy105⟩) (by assumption) ?rest105
          case hi105 => simp only [List.getElem?_toArray, List.getElem?_cons_succ, List.getElem?_cons_zero]; rfl
          case hf105 => kernel_rfl
          case hr105 => kernel_rfl
          case hw105 => rfl
          case hy105 => (intro w hSw; (try dsimp only at hSw); go_simp; all_goals (first | done | with_reducible rfl))
          case hQ105 => exact fun _ _ _ h => h
          simp only [Act.put, List.setIfInBounds_toArray, List.set_cons_zero, List.set_cons_succ]
          refine wpAnyH_take (i := 5) (oi := ?oi106) (v := undef) ?hi106 (by kernel_rfl) ?hf106 ?hr106 ?hQ106 (Or.inr ⟨?hw106, rfl⟩) (by assumption) ?rest106
          case hi106 => simp only [List.getElem?_toArray, List.getElem?_cons_succ, List.getElem?_cons_zero]; rfl
          case hf106 => kernel_rfl
          case hr106 => kernel_rfl
          case hw106 => rfl
          case hQ106 => exact fun _ _ _ h => h
          simp only [Act.put, List.setIfInBounds_toArray, List.set_cons_zero, List.set_cons_succ]
          refine wpAnyH_take (i := 6) (oi := ?oi107) (v := undef) ?hi107 (by kernel_rfl) ?hf107 ?hr107 ?hQ107 (Or.inr ⟨?hw107, rfl⟩) (by assumption) ?rest107
          case hi107 => simp only [List.getElem?_toArray, List.getElem?_cons_succ, List.getElem?_cons_zero]; rfl
          case hf107 => kernel_rfl
          case hr107 => kernel_rfl
          case hw107 => rfl
          case hQ107 => exact fun _ _ _ h => h
          simp only [Act.put, List.setIfInBounds_toArray, List.set_cons_zero, List.set_cons_succ]
          refine wpAnyH_take (i := 7) (oi := ?oi108) (v := undef) ?hi108 (by kernel_rfl) ?hf108 ?hr108 ?hQ108 (Or.inr ⟨?hw108, rfl⟩) (by assumption) ?rest108
          case hi108 => simp only [List.getElem?_toArray, List.getElem?_cons_succ, List.getElem?_cons_zero]; rfl
          case hf108 => kernel_rfl
          case hr108 => kernel_rfl
          case hw108 => rfl
          case hQ108 => exact fun _ _ _ h => h
          simp only [Act.put, List.setIfInBounds_toArray, List.set_cons_zero, List.set_cons_succ]
          refine wpAnyH_take (i := 8) (oi := ?oi109) (v := undef) ?hi109 (by kernel_rfl) ?hf109 ?hr109 ?hQ109 (Or.inr ⟨?hw109, rfl⟩) (by assumption) ?rest109
          case hi109 => simp only [List.getElem?_toArray, List.getElem?_cons_succ, List.getElem?_cons_zero]; rfl
          case hf109 => kernel_rfl
          case hr109 => kernel_rfl
          case hw109 => rfl
          case hQ109 => exact fun _ _ _ h => h
          simp only [Act.put, List.setIfInBounds_toArray, List.set_cons_zero, List.set_cons_succ]
          refine wpAnyH_take (i := 9) (oi := ?oi110) (v := undef) ?hi110 (by kernel_rfl) ?hf110 ?hr110 ?hQ110 (Or.inr ⟨?hw110, rfl⟩) (by assumption) ?rest110
          case hi110 => simp only [List.getElem?_toArray, List.getElem?_cons_succ, List.getElem?_cons_zero]; rfl
          case hf110 => kernel_rfl
          case hr110 => kernel_rfl
          case hw110 => rfl
          case hQ110 => exact fun _ _ _ h => h
          simp only [Act.put, List.setIfInBounds_toArray, List.set_cons_zero, List.set_cons_succ]
          refine wpAnyH_take (i := 10) (oi := ?oi111) (v := undef) ?hi111 (by kernel_rfl) ?hf111 ?hr111 ?hQ111 (Or.inr ⟨?hw111, rfl⟩) (by assumption) ?rest111
          case hi111 => simp only [List.getElem?_toArray, List.getElem?_cons_succ, List.getElem?_cons_zero]; rfl
          case hf111 => kernel_rfl
          case hr111 => kernel_rfl
          case hw111 => rfl
          case hQ111 => exact fun _ _ _ h => h
          simp only [Act.put, List.setIfInBounds_toArray, List.set_cons_zero, List.set_cons_succ]
          refine wpAnyH_take (i := 11) (oi := ?oi112) (v := undef) ?hi112 (by kernel_rfl) ?hf112 ?hr112 ?hQ112 (Or.inr ⟨?hw112, rfl⟩) (by assumption) ?rest112
          case hi112 => simp only [List.getElem?_toArray, List.getElem?_cons_succ, List.getElem?_cons_zero]; rfl
          case hf112 => kernel_rfl
          case hr112 => kernel_rfl
          case hw112 => rfl
          case hQ112 => exact fun _ _ _ h => h
          simp only [Act.put, List.setIfInBounds_toArray, List.set_cons_zero, List.set_cons_succ]
          refine wpAnyH_take (i := 12) (oi := ?oi113) (v := ?v113) ?hi113 (by kernel_rfl) ?hf113 ?hr113 ?hQ113 (Or.inl ⟨?hw113, ?hy113⟩) (by assumption) ?rest113
          case hi113 => simp only [List.getElem?_toArray, List.getElem?_cons_succ, List.getElem?_cons_zero]; rfl
          case hf113 => kernel_rfl
          case hr113 => kernel_rfl
          case hw113 => rfl
          case hy113 => (intro w hSw; (try dsimp only at hSw); go_simp; all_goals (first | done | with_reducible rfl))
          case hQ113 => exact fun _ _ _ h => h
          simp only [Act.put, List.setIfInBounds_toArray, List.set_cons_zero, List.set_cons_succ]
          refine wpAnyH_done (by kernel_rfl) ?_ _
          clear d0 d1 d2 o0 o1 o2 c0
          go_wp2_with fail
          go_roundw
          case rel => exact ⟨k + 1, _, by go_num, rfl, by omega, HW27.out, HO27.out⟩
          case measure => simp [intOf]; omega
        | false =>
          rw [hBz] at C0
          have hE := FE.out _ hxm hBz
          have C3 := hid (CE1.out s hsz)
          have C4 := hid (CE2.out s hsz)
          rw [hE] at C3
          clear hBz hxm hE
          generalize levelT L H q s.data.toList = z at *
          have b0 : (z != z) = false := by simp
          go_wp2_with fail
          refine wp_region_held_drew (S := (fun w' : World => (w'.cell? ⟨bo, 0, none⟩ = some (.slice A3 n3 k3) ∧ w'.cell? ⟨bo, 1, none⟩ = some (.slice A4 n4 k4) ∧ w'.cell? ⟨bo, 2, none⟩ = some (.int .i64 q)) ∧ w'.cell? ⟨bb, 0, none⟩ = some (.slice (some ⟨b, o, none⟩) n1 k1) ∧ w'.cell? ⟨bb, 1, none⟩ = some (.slice A2 n2 k2) ∧ w'.cell? ⟨bb, 2, none⟩ = some (.int .i64 q))) (by kernel_rfl) ⟨⟨o0, o1, o2⟩, d0, d1, d2⟩ (fun hS => ?_)
          refine wpAnyH_take (i := 0) (oi := ?oi114) (v := ?v114) ?hi114 (by kernel_rfl) ?hf114 ?hr114 ?hQ114 (Or.inl ⟨?hw114, ?hy114⟩) (by assumption) ?rest114
          case hi114 => simp only [List.getElem?_toArray, List.getElem?_cons_succ, List.getElem?_cons_zero]; rfl
          case hf114 => kernel_rfl
          case hr114 => kernel_rfl
          case hw114 => rfl
          case hy114 => (intro w hSw; (try dsimp only at hSw); go_simp; all_goals (first | done | with_reducible rfl))
          case hQ114 => exact fun _ _ _ h => h
          simp only [Act.put, List.setIfInBounds_toArray, List.set_cons_zero, List.set_cons_succ]
          refine wpAnyH_take (i := 1) (oi := ?oi115) (v := ?v115) ?hi115 (by kernel_rfl) ?hf115 ?hr115 ?hQ115 (Or.inl ⟨?hw115, ?hy115⟩) (by assumption) ?rest115
          case hi115 => simp only [List.getElem?_toArray, List.getElem?_cons_succ, List.getElem?_cons_zero]; rfl
          case hf115 => kernel_rfl
          case hr115 => kernel_rfl
          case hw115 => rfl
          case hy115 => (intro w hSw; (try dsimp only at hSw); go_simp; all_goals (first | done | with_reducible rfl))
          case hQ115 => exact fun _ _ _ h => h
          simp only [Act.put, List.setIfInBounds_toArray, List.set_cons_zero, List.set_cons_succ]
          refine wpAnyH_ready (rs := [2]) (by kernel_rfl) (by simp) ?_
          refine AllReadyH.cons (o := ?oi116) ?hi116 (fun K hK => ?step116) AllReadyH.nil
          case hi116 => simp only [List.getElem?_toArray, List.getElem?_cons_succ, List.getElem?_cons_zero]; rfl
          rw [if_pos (by rfl)]
          go_simp
          go_at_call 30
          refine (C0.out).mono ?_
          rintro e w27 ⟨rfl, hb⟩
          have HW27 := hid (HWd.out.trans (hb.mono HWd.out.size))
          have HO27 := hid (HOd.out.trans (hb.mono HOd.out.size))
          clear hb
          refine hK.out _ _ (SG.out _ HW27.out HO27.out) (fun hS => ?_)
          refine wpAnyH_take (i := 3) (oi := ?oi117) (v := ?v117) ?hi117 (by kernel_rfl) ?hf117 ?hr117 ?hQ117 (Or.inl ⟨?hw117, ?hy117⟩) (by assumption) ?rest117
          case hi117 => simp only [List.getElem?_toArray, List.getElem?_cons_succ, List.getElem?_cons_zero]; rfl
          case hf117 => kernel_rfl
          case hr117 => kernel_rfl
          case hw117 => rfl
          case hy117 => (intro w hSw; (try dsimp only at hSw); go_simp; all_goals (first | done | with_reducible rfl))
          case hQ117 => exact fun _ _ _ h => h
          simp only [Act.put, List.setIfInBounds_toArray, List.set_cons_zero, List.set_cons_succ]
          refine wpAnyH_take (i := 4) (oi := ?oi118) (v := ?v118) ?hi118 (by kernel_rfl) ?hf118 ?hr118 ?hQ118 (Or.inl ⟨?hw118, ?hy118⟩) (by assumption) ?rest118
          case hi118 => simp only [List.getElem?_toArray, List.getElem?_cons_succ, List.getElem?_cons_zero]; rfl
          case hf118 => kernel_rfl
          case hr118 => kernel_rfl
          case hw118 => rfl
          case hy118 => (intro w hSw; (try dsimp only at hSw); go_simp; all_goals (first | done | with_reducible rfl))
          case hQ118 => exact fun _ _ _ h => h
          simp only [Act.put, List.setIfInBounds_toArray, List.set_cons_zero, List.set_cons_succ]
          refine wpAnyH_take (i := 5) (oi := ?oi119) (v := ?v119) ?hi119 (by kernel_rfl) ?hf119 ?hr119 ?hQ119 (Or.inl ⟨?hw119, ?hy119⟩) (by assumption) ?rest119
          case hi119 => simp only [List.getElem?_toArray, List.getElem?_cons_succ, List.getElem?_cons_zero]; rfl
          case hf119 => kernel_rfl
          case hr119 => kernel_rfl
          case hw119 => rfl
          case hy119 => (intro w hSw; (try dsimp only at hSw); go_simp; all_goals (first | done | with_reducible rfl))
          case hQ119 => exact fun _ _ _ h => h
          simp only [Act.put, List.setIfInBounds_toArray, List.set_cons_zero, List.set_cons_succ]
          refine wpAnyH_take (i := 6) (oi := ?oi120) (v := ?v120) ?hi120 (by kernel_rfl) ?hf120 ?hr120 ?hQ120 (Or.inl ⟨?hw120, ?hy120⟩) (by assumption) ?rest120
          case hi120 => simp only [List.getElem?_toArray, List.getElem?_cons_succ, List.getElem?_cons_zero]; rfl
          case hf120 => kernel_rfl
          case hr120 => kernel_rfl
          case hw120 => rfl
          case hy120 => (intro w hSw; (try dsimp only at hSw); go_simp; all_goals (first | done | with_reducible rfl))
          case hQ120 => exact fun _ _ _ h => h
          simp only [Act.put, List.setIfInBounds_toArray, List.set_cons_zero, List.set_cons_succ]
          refine wpAnyH_take (i := 8) (oi := ?oi121) (v := ?v121) ?hi121 (by kernel_rfl) ?hf121 ?hr121 ?hQ121 (Or.inl ⟨?hw121, ?hy121⟩) (by assumption) ?rest121
          case hi121 => simp only [List.getElem?_toArray, List.getElem?_cons_succ, List.getElem?_cons_zero]; rfl
          case hf121 => kernel_rfl
          case hr121 => kernel_rfl
          case hw121 => rfl
          case hy121 => (intro w hSw; (try dsimp only at hSw); go_simp; all_goals (first | done | with_reducible rfl))
          case hQ121 => exact fun _ _ _ h => h
          simp only [Act.put, List.setIfInBounds_toArray, List.set_cons_zero, List.set_cons_succ]
          refine wpAnyH_take (i := 9) (oi := ?oi122) (v := ?v122) ?hi122 (by kernel_rfl) ?hf122 ?hr122 ?hQ122 (Or.inl ⟨?hw122, ?hy122⟩) (by assumption) ?rest122
          case hi122 => simp only [List.getElem?_toArray, List.getElem?_cons_succ, List.getElem?_cons_zero]; rfl
          case hf122 => kernel_rfl
          case hr122 => kernel_rfl
          case hw122 => rfl
          case hy122 => (intro w hSw; (try dsimp only at hSw); go_simp; all_goals (first | done | with_reducible rfl))
          case hQ122 => exact fun _ _ _ h => h
          simp only [Act.put, List.setIfInBounds_toArray, List.set_cons_zero, List.set_cons_succ]
          refine wpAnyH_ready (rs := [7]) (by kernel_rfl) (by simp) ?_
          refine AllReadyH.cons (o := ?oi123) ?hi123 (fun K hK => ?step123) AllReadyH.nil
          case hi123 => simp only [List.getElem?_toArray, List.getElem?_cons_succ, List.getElem?_cons_zero]; rfl
          rw [if_pos (by rfl)]
          go_simp
          go_at_call 31
          refine (C3.out _ HO27.out).mono ?_
          rintro e w28 ⟨rfl, hb⟩
          have HW28 := hid (HW27.out.trans (hb.mono HW27.out.size))
          have HO28 := hid (HO27.out.trans (hb.mono HO27.out.size))
          clear hb
          refine hK.out _ _ (SG.out _ HW28.out HO28.out) (fun hS => ?_)
          refine wpAnyH_ready (rs := [10]) (by kernel_rfl) (by simp) ?_
          refine AllReadyH.cons (o := ?oi124) ?hi124 (fun K hK => ?step124) AllReadyH.nil
          case hi124 => simp only [List.getElem?_toArray, List.getElem?_cons_succ, List.getElem?_cons_zero]; rfl
          rw [if_pos (by rfl)]
          go_simp
          go_at_call 31
          refine (C4.out _ HW28.out).mono ?_
          rintro e w29 ⟨rfl, hb⟩
          have HW29 := hid (HW28.out.trans (hb.mono HW28.out.size))
          have HO29 := hid (HO28.out.trans (hb.mono HO28.out.size))
          clear hb
          refine hK.out _ _ (SG.out _ HW29.out HO29.out) (fun hS => ?_)
          refine wpAnyH_take (i := 11) (oi := ?oi125) (v := ?v125) ?hi125 (by kernel_rfl) ?hf125 ?hr125 ?hQ125 (Or.inl ⟨?hw125, ?hy125⟩) (by assumption) ?rest125
          case hi125 => simp only [List.getElem?_toArray, List.getElem?_cons_succ, List.getElem?_cons_zero]; rfl
          case hf125 => kernel_rfl
          case hr125 => kernel_rfl
          case hw125 => rfl
          case hy125 => (intro w hSw; (try dsimp only at hSw); go_simp; all_goals (first | done | with_reducible rfl))
          case hQ125 => exact fun _ _ _ h => h
          simp only [Act.put, List.setIfInBounds_toArray, List.set_cons_zero, List.set_cons_succ]
          refine wpAnyH_take (i := 12) (oi := ?oi126) (v := ?v126) ?hi126 (by kernel_rfl) ?hf126 ?hr126 ?hQ126 (Or.inl ⟨?hw126, ?hy126⟩) (by assumption) ?rest126
          case hi126 => simp only [List.getElem?_toArray, List.getElem?_cons_succ, List.getElem?_cons_zero]; rfl
          case hf126 => kernel_rfl
          case hr126 => kernel_rfl
          case hw126 => rfl
          case hy126 => (intro w hSw; (try dsimp only at hSw); go_simp; all_goals (first | done | with_reducible rfl))
          case hQ126 => exact fun _ _ _ h => h
          simp only [Act.put, List.setIfInBounds_toArray, List.set_cons_zero, List.set_cons_succ]
          refine wpAnyH_done (by kernel_rfl) ?_ _
          clear d0 d1 d2 o0 o1 o2 c0
          go_wp2_with fail
          go_roundw
          case rel => exact ⟨k + 1, _, by go_num, rfl, by omega, HW29.out, HO29.out⟩
          case measure => simp [intOf]; omega
      · obtain ⟨b, o, x, s, rfl, hbB, hx, -, -, -, cL⟩ := (TT.out _ HWr.out).1.name hkx
        obtain rfl : x = lx := by have h9 := HLX.out; rw [hx] at h9; exact Option.some.inj h9
        have s0 : (0 : Int) ≤ (kx : Int) := by omega
        have s1 : (kx : Int) < (n1 : Int) := by omega
        have s2 : ((kx : Int)).toNat = kx := by simp
        have hbl := World.block_lt_of_cell? wr _ cL
        have SF := hid (fun (W : World) (hR : Below wr.heap.size wr W) => (show (W.cell? ⟨bo, 0, none⟩ = some (.slice A3 n3 k3) ∧ W.cell? ⟨bo, 1, none⟩ = some (.slice A4 n4 k4) ∧ W.cell? ⟨bo, 2, none⟩ = some (.int .i64 q)) ∧ (W.cell? ⟨bb, 0, none⟩ = some (.slice (some ⟨b, o, none⟩) n1 k1) ∧ W.cell? ⟨bb, 1, none⟩ = some (.slice A2 n2 k2) ∧ W.cell? ⟨bb, 2, none⟩ = some (.int .i64 q)) ∧ W.cell? ⟨b, o + kx * 6 + 1, none⟩ = some (.int .i64 x.lv) from ⟨⟨((KO.out.to (HOr.out.trans (hR.mono HOr.out.size))).2 0 _ rfl).1, ((KO.out.to (HOr.out.trans (hR.mono HOr.out.size))).2 1 _ rfl).1, ((KO.out.to (HOr.out.trans (hR.mono HOr.out.size))).2 2 _ rfl).1⟩, ⟨((KB.out.to (HWr.out.trans (hR.mono HWr.out.size))).2 0 _ rfl).1, ((KB.out.to (HWr.out.trans (hR.mono HWr.out.size))).2 1 _ rfl).1, ((KB.out.to (HWr.out.trans (hR.mono HWr.out.size))).2 2 _ rfl).1⟩, (hR.cell (p := ⟨b, o + kx * 6 + 1, none⟩) hbl).trans cL⟩))
        clear hx d0
        have S0 := SF.out _ (Below.refl _ _)
        obtain ⟨⟨o0, o1, o2⟩, ⟨d0, d1, d2⟩, -⟩ := S0
        go_wp2_with fail
        have HRd := hid ((Below.refl wr.heap.size wr).drew)
        refine wp_region_held_drew (S := (fun w' : World => (w'.cell? ⟨bo, 0, none⟩ = some (.slice A3 n3 k3) ∧ w'.cell? ⟨bo, 1, none⟩ = some (.slice A4 n4 k4) ∧ w'.cell? ⟨bo, 2, none⟩ = some (.int .i64 q)) ∧ (w'.cell? ⟨bb, 0, none⟩ = some (.slice (some ⟨b, o, none⟩) n1 k1) ∧ w'.cell? ⟨bb, 1, none⟩ = some (.slice A2 n2 k2) ∧ w'.cell? ⟨bb, 2, none⟩ = some (.int .i64 q)) ∧ w'.cell? ⟨b, o + kx * 6 + 1, none⟩ = some (.int .i64 x.lv))) (by kernel_rfl) ⟨⟨o0, o1, o2⟩, ⟨d0, d1, d2⟩, cL⟩ (fun hS => ?_)
        refine wpAnyH_take (i := 0) (oi := ?oi127) (v := ?v127) ?hi127 (by kernel_rfl) ?hf127 ?hr127 ?hQ127 (Or.inl ⟨?hw127, ?hy127⟩) (by assumption) ?rest127
        case hi127 => simp only [List.getElem?_toArray, List.getElem?_cons_succ, List.getElem?_cons_zero]; rfl
        case hf127 => kernel_rfl
        case hr127 => kernel_rfl
        case hw127 => rfl
        case hy127 => (intro w hSw; (try dsimp only at hSw); go_simp; all_goals (first | done | with_reducible rfl))
        case hQ127 => exact fun _ _ _ h => h
        simp only [Act.put, List.setIfInBounds_toArray, List.set_cons_zero, List.set_cons_succ]
        refine wpAnyH_take (i := 1) (oi := ?oi128) (v := ?v128) ?hi128 (by kernel_rfl) ?hf128 ?hr128 ?hQ128 (Or.inl ⟨?hw128, ?hy128⟩) (by assumption) ?rest128
        case hi128 => simp only [List.getElem?_toArray, List.getElem?_cons_succ, List.getElem?_cons_zero]; rfl
        case hf128 => kernel_rfl
        case hr128 => kernel_rfl
        case hw128 => rfl
        case hy128 => (intro w hSw; (try dsimp only at hSw); go_simp; all_goals (first | done | with_reducible rfl))
        case hQ128 => exact fun _ _ _ h => h
        simp only [Act.put, List.setIfInBounds_toArray, List.set_cons_zero, List.set_cons_succ]
        refine wpAnyH_take (i := 2) (oi := ?oi129) (v := ?v129) ?hi129 (by kernel_rfl) ?hf129 ?hr129 ?hQ129 (Or.inl ⟨?hw129, ?hy129⟩) (by assumption) ?rest129
        case hi129 => simp only [List.getElem?_toArray, List.getElem?_cons_succ, List.getElem?_cons_zero]; rfl
        case hf129 => kernel_rfl
        case hr129 => kernel_rfl
        case hw129 => rfl
        case hy129 => (intro w hSw; (try dsimp only at hSw); go_simp; all_goals (first | done | with_reducible rfl))
        case hQ129 => exact fun _ _ _ h => h
        simp only [Act.put, List.setIfInBounds_toArray, List.set_cons_zero, List.set_cons_succ]
        refine wpAnyH_take (i := 3) (oi := ?oi130) (v := ?v130) ?hi130 (by kernel_rfl) ?hf130 ?hr130 ?hQ130 (Or.inl ⟨?hw130, ?hy130⟩) (by assumption) ?rest130
        case hi130 => simp only [List.getElem?_toArray, List.getElem?_cons_succ, List.getElem?_cons_zero]; rfl
        case hf130 => kernel_rfl
        case hr130 => kernel_rfl
        case hw130 => rfl
        case hy130 => (intro w hSw; (try dsimp only at hSw); go_simp; all_goals (first | done | with_reducible rfl))
        case hQ130 => exact fun _ _ _ h => h
        simp only [Act.put, List.setIfInBounds_toArray, List.set_cons_zero, List.set_cons_succ]
        refine wpAnyH_take (i := 4) (oi := ?oi131) (v := ?v131) ?hi131 (by kernel_rfl) ?hf131 ?hr131 ?hQ131 (Or.inl ⟨?hw131, ?hy131⟩) (by assumption) ?rest131
        case hi131 => simp only [List.getElem?_toArray, List.getElem?_cons_succ, List.getElem?_cons_zero]; rfl
        case hf131 => kernel_rfl
        case hr131 => kernel_rfl
        case hw131 => rfl
        case hy131 => (intro w hSw; (try dsimp only at hSw); go_simp; all_goals (first | done | with_reducible rfl))
        case hQ131 => exact fun _ _ _ h => h
        simp only [Act.put, List.setIfInBounds_toArray, List.set_cons_zero, List.set_cons_succ]
        refine wpAnyH_take (i := 5) (oi := ?oi132) (v := ?v132) ?hi132 (by kernel_rfl) ?hf132 ?hr132 ?hQ132 (Or.inl ⟨?hw132, ?hy132⟩) (by assumption) ?rest132
        case hi132 => simp only [List.getElem?_toArray, List.getElem?_cons_succ, List.getElem?_cons_zero]; rfl
        case hf132 => kernel_rfl
        case hr132 => kernel_rfl
        case hw132 => rfl
        case hy132 => (intro w hSw; (try dsimp only at hSw); go_simp; all_goals (first | done | with_reducible rfl))
        case hQ132 => exact fun _ _ _ h => h
        simp only [Act.put, List.setIfInBounds_toArray, List.set_cons_zero, List.set_cons_succ]
        generalize hwd : wr.drew = wd at *
        clear hwd
        refine wpAnyH_ready (rs := [6, 14]) (by kernel_rfl) (by simp) ?_
        refine AllReadyH.cons (o := ?oi133) ?hi133 (fun K hK => ?stepA133) (AllReadyH.cons (o := ?oj133) ?hj133 (fun K hK => ?stepB133) AllReadyH.nil)
        case hi133 => simp only [List.getElem?_toArray, List.getElem?_cons_succ, List.getElem?_cons_zero]; rfl
        case hj133 => simp only [List.getElem?_toArray, List.getElem?_cons_succ, List.getElem?_cons_zero]; rfl
        all_goals rw [if_pos (by rfl)]
        all_goals go_simp
        · skip
          go_at_call 15
          refine (CG.out _ (HWr.out.trans ((HRd.out).mono HWr.out.size))).mono ?_
          rintro e wc1 ⟨rfl, hb⟩
          have HR1 := hid ((HRd.out).trans (hb.mono (HRd.out).size))
          clear hb
          refine hK.out _ _ (SF.out _ HR1.out) (fun hS => ?_)
          refine wpAnyH_take (i := 7) (oi := ?oi134) (v := ?v134) ?hi134 (by kernel_rfl) ?hf134 ?hr134 ?hQ134 (Or.inl ⟨?hw134, ?hy134⟩) (by assumption) ?rest134
          case hi134 => simp only [List.getElem?_toArray, List.getElem?_cons_succ, List.getElem?_cons_zero]; rfl
          case hf134 => kernel_rfl
          case hr134 => kernel_rfl
          case hw134 => rfl
          case hy134 => (intro w hSw; (try dsimp only at hSw); go_simp; all_goals (first | done | with_reducible rfl))
          case hQ134 => exact fun _ _ _ h => h
          simp only [Act.put, List.setIfInBounds_toArray, List.set_cons_zero, List.set_cons_succ]
          refine wpAnyH_take (i := 8) (oi := ?oi135) (v := ?v135) ?hi135 (by kernel_rfl) ?hf135 ?hr135 ?hQ135 (Or.inl ⟨?hw135, ?hy135⟩) (by assumption) ?rest135
          case hi135 => simp only [List.getElem?_toArray, List.getElem?_cons_succ, List.getElem?_cons_zero]; rfl
          case hf135 => kernel_rfl
          case hr135 => kernel_rfl
          case hw135 => rfl
          case hy135 => (intro w hSw; (try dsimp only at hSw); go_simp; all_goals (first | done | with_reducible rfl))
          case hQ135 => exact fun _ _ _ h => h
          simp only [Act.put, List.setIfInBounds_toArray, List.set_cons_zero, List.set_cons_succ]
          refine wpAnyH_take (i := 9) (oi := ?oi136) (v := ?v136) ?hi136 (by kernel_rfl) ?hf136 ?hr136 ?hQ136 (Or.inl ⟨?hw136, ?hy136⟩) (by assumption) ?rest136
          case hi136 => simp only [List.getElem?_toArray, List.getElem?_cons_succ, List.getElem?_cons_zero]; rfl
          case hf136 => kernel_rfl
          case hr136 => kernel_rfl
          case hw136 => rfl
          case hy136 => (intro w hSw; (try dsimp only at hSw); go_simp; all_goals (first | done | with_reducible rfl))
          case hQ136 => exact fun _ _ _ h => h
          simp only [Act.put, List.setIfInBounds_toArray, List.set_cons_zero, List.set_cons_succ]
          refine wpAnyH_ready (rs := [10, 14]) (by kernel_rfl) (by simp) ?_
          refine AllReadyH.cons (o := ?oi137) ?hi137 (fun K hK => ?stepA137) (AllReadyH.cons (o := ?oj137) ?hj137 (fun K hK => ?stepB137) AllReadyH.nil)
          case hi137 => simp only [List.getElem?_toArray, List.getElem?_cons_succ, List.getElem?_cons_zero]; rfl
          case hj137 => simp only [List.getElem?_toArray, List.getElem?_cons_succ, List.getElem?_cons_zero]; rfl
          all_goals rw [if_pos (by rfl)]
          all_goals go_simp
          · skip
            go_at_call 28
            refine (CX.out _ (HOr.out.trans ((HR1.out).mono HOr.out.size))).mono ?_
            rintro e wc2 ⟨v8, rs8, rfl, hs8, hr8, hb⟩
            obtain ⟨A7, n7, k7, A8, n8, k8, rfl, -, -⟩ := hs8.form_ hr8
            have HR2 := hid ((HR1.out).trans (hb.mono (HR1.out).size))
            clear hb
            refine hK.out _ _ (SF.out _ HR2.out) (fun hS => ?_)
            refine wpAnyH_take (i := 11) (oi := ?oi138) (v := ?v138) ?hi138 (by kernel_rfl) ?hf138 ?hr138 ?hQ138 (Or.inl ⟨?hw138, ?hy138⟩) (by assumption) ?rest138
            case hi138 => simp only [List.getElem?_toArray, List.getElem?_cons_succ, List.getElem?_cons_zero]; rfl
            case hf138 => kernel_rfl
            case hr138 => kernel_rfl
            case hw138 => rfl
            case hy138 => (intro w hSw; (try dsimp only at hSw); go_simp; all_goals (first | done | with_reducible rfl))
            case hQ138 => exact fun _ _ _ h => h
            simp only [Act.put, List.setIfInBounds_toArray, List.set_cons_zero, List.set_cons_succ]
            refine wpAnyH_take (i := 12) (oi := ?oi139) (v := ?v139) ?hi139 (by kernel_rfl) ?hf139 ?hr139 ?hQ139 (Or.inl ⟨?hw139, ?hy139⟩) (by assumption) ?rest139
            case hi139 => simp only [List.getElem?_toArray, List.getElem?_cons_succ, List.getElem?_cons_zero]; rfl
            case hf139 => kernel_rfl
            case hr139 => kernel_rfl
            case hw139 => rfl
            case hy139 => (intro w hSw; (try dsimp only at hSw); go_simp; all_goals (first | done | with_reducible rfl))
            case hQ139 => exact fun _ _ _ h => h
            simp only [Act.put, List.setIfInBounds_toArray, List.set_cons_zero, List.set_cons_succ]
            refine wpAnyH_take (i := 13) (oi := ?oi140) (v := ?v140) ?hi140 (by kernel_rfl) ?hf140 ?hr140 ?hQ140 (Or.inl ⟨?hw140, ?hy140⟩) (by assumption) ?rest140
            case hi140 => simp only [List.getElem?_toArray, List.getElem?_cons_succ, List.getElem?_cons_zero]; rfl
            case hf140 => kernel_rfl
            case hr140 => kernel_rfl
            case hw140 => rfl
            case hy140 => (intro w hSw; (try dsimp only at hSw); go_simp; all_goals (first | done | with_reducible rfl))
            case hQ140 => exact fun _ _ _ h => h
            simp only [Act.put, List.setIfInBounds_toArray, List.set_cons_zero, List.set_cons_succ]
            refine wpAnyH_ready (rs := [14]) (by kernel_rfl) (by simp) ?_
            refine AllReadyH.cons (o := ?oi141) ?hi141 (fun K hK => ?step141) AllReadyH.nil
            case hi141 => simp only [List.getElem?_toArray, List.getElem?_cons_succ, List.getElem?_cons_zero]; rfl
            rw [if_pos (by rfl)]
            go_simp
            have HR3 := hid ((HR2.out).alloc (HR2.out).size (.cells #[.slice none 0 0, .slice none 0 0, .int .i64 0] 26))
            have KX3 := hid (Blk.new wc2 #[.slice none 0 0, .slice none 0 0, .int .i64 0] 26)
            have hbx : wr.heap.size ≤ wc2.heap.size := (HR2.out).size
            have TX0 := hid (hs8.at_ hr8 hd.out)
            have TXB := hid ((Below.refl wc2.heap.size wc2).alloc (Nat.le_refl _) (.cells #[.slice none 0 0, .slice none 0 0, .int .i64 0] 26))
            refine hK.out _ _ (SF.out _ HR3.out) (fun hS => ?_)
            have hlx9 : wc2.heap.size < (wc2.alloc (.cells #[.slice none 0 0, .slice none 0 0, .int .i64 0] 26)).heap.size := by simp
            generalize hbxx : wc2.heap.size = bx at *
            generalize wc2.alloc (.cells #[.slice none 0 0, .slice none 0 0, .int .i64 0] 26) = wx3 at *
            clear hbxx
            obtain ⟨q0c, q0f⟩ := (KX3.out).2 0 _ rfl
            obtain ⟨q1c, q1f⟩ := (KX3.out).2 1 _ rfl
            obtain ⟨q2c, q2f⟩ := (KX3.out).2 2 _ rfl
            have HRF := hid ((((HR3.out).setCell (show wr.heap.size ≤ (⟨bx, 0, none⟩ : Addr).block from hbx) (.slice A7 n7 k7)).setCell (show wr.heap.size ≤ (⟨bx, 1, none⟩ : Addr).block from hbx) (.slice A8 n8 k8)).setCell (show wr.heap.size ≤ (⟨bx, 2, none⟩ : Addr).block from hbx) (.int .i64 q))
            refine wpAnyH_ready (rs := [15]) (by kernel_rfl) (by simp) ?_
            refine AllReadyH.cons (o := ?oi142) ?hi142 (fun K hK => ?step142) AllReadyH.nil
            case hi142 => simp only [List.getElem?_toArray, List.getElem?_cons_succ, List.getElem?_cons_zero]; rfl
            rw [if_pos (by rfl)]
            go_simp
            refine hK.out _ _ (SF.out _ HRF.out) (fun hS => ?_)
            refine wpAnyH_take (i := 16) (oi := ?oi143) (v := ?v143) ?hi143 (by kernel_rfl) ?hf143 ?hr143 ?hQ143 (Or.inl ⟨?hw143, ?hy143⟩) (by assumption) ?rest143
            case hi143 => simp only [List.getElem?_toArray, List.getElem?_cons_succ, List.getElem?_cons_zero]; rfl
            case hf143 => kernel_rfl
            case hr143 => kernel_rfl
            case hw143 => rfl
            case hy143 => (intro w hSw; (try dsimp only at hSw); go_simp; all_goals (first | done | with_reducible rfl))
            case hQ143 => exact fun _ _ _ h => h
            simp only [Act.put, List.setIfInBounds_toArray, List.set_cons_zero, List.set_cons_succ]
            refine wpAnyH_done (by kernel_rfl) ?_ _
            have RB := (((KX3.out).set 0 (.slice A7 n7 k7)).set 1 (.slice A8 n8 k8)).set 2 (.int .i64 q)
            have x0 := (RB.2 0 _ rfl).1
            have x1 := (RB.2 1 _ rfl).1
            have x2 := (RB.2 2 _ rfl).1
            have TX := hid (TX0.out.below (((TXB.out.setCell (show bx ≤ (⟨bx, 0, none⟩ : Addr).block from Nat.le_refl _) (.slice A7 n7 k7)).setCell (show bx ≤ (⟨bx, 1, none⟩ : Addr).block from Nat.le_refl _) (.slice A8 n8 k8)).setCell (show bx ≤ (⟨bx, 2, none⟩ : Addr).block from Nat.le_refl _) (.int .i64 q)) (Nat.le_refl _))
            have hTXs := hid (show bx ≤ (((wx3.setCell ⟨bx, 0, none⟩ (.slice A7 n7 k7)).setCell ⟨bx, 1, none⟩ (.slice A8 n8 k8)).setCell ⟨bx, 2, none⟩ (.int .i64 q)).heap.size by simp only [World.size_setCell]; exact Nat.le_of_lt hlx9)
            clear q0c q0f q1c q1f q2c q2f d0 d1 d2 o0 o1 o2 cL RB hS
            generalize ((wx3.setCell ⟨bx, 0, none⟩ (.slice A7 n7 k7)).setCell ⟨bx, 1, none⟩ (.slice A8 n8 k8)).setCell ⟨bx, 2, none⟩ (.int .i64 q) = wF at *
            have HWF := hid (HWr.out.trans (HRF.out.mono HWr.out.size))
            have HOF := hid (HOr.out.trans (HRF.out.mono HOr.out.size))
            obtain ⟨⟨d0, _⟩, ⟨d1, _⟩, ⟨d2, _⟩⟩ := (And.intro ((KB.out.to HWF.out).2 0 _ rfl) (And.intro ((KB.out.to HWF.out).2 1 _ rfl) ((KB.out.to HWF.out).2 2 _ rfl)))
            have o0 := ((KO.out.to HOF.out).2 0 _ rfl).1
            have o1 := ((KO.out.to HOF.out).2 1 _ rfl).1
            have o2 := ((KO.out.to HOF.out).2 2 _ rfl).1
            have CQ := hid (equalTree_c TX.out (TT.out _ HWF.out).1 hTXs.out (TT.out _ HWF.out).2)
            by_cases hl0 : lv = 0
            · have e0 : (lv == 0) = true := by simp [hl0]
              clear hl0
              go_wp2_with fail
              refine CQ.out.mono ?_
              rintro e w9 ⟨rfl, hb⟩
              have HW10 := hid (HWF.out.trans (hb.mono HWF.out.size))
              clear hb x0 x1 x2 o0 o1 o2 d0 d1 d2
              go_wp2_with fail
              go_ret
              exact ⟨rfl, HB.out.trans (HW10.out.mono HB.out.size)⟩
            · have e0 : (lv == 0) = false := by simpa using hl0
              have e1 : (lv == lv) = true := by simp
              have hlT := FL.out hl0
              clear hl0
              go_wp2_with fail
              refine CQ.out.mono ?_
              rintro e w9 ⟨rfl, hb⟩
              have HW10 := hid (HWF.out.trans (hb.mono HWF.out.size))
              have HO10 := hid (HOF.out.trans (hb.mono HOF.out.size))
              clear hb x0 x1 x2 o0 o1 o2 d0 d1 d2
              have o0 := ((KO.out.to HO10.out).2 0 _ rfl).1
              have o1 := ((KO.out.to HO10.out).2 1 _ rfl).1
              have o2 := ((KO.out.to HO10.out).2 2 _ rfl).1
              have C9 := hid (CE3.out _ HO10.out)
              rw [hlT] at C9
              clear hlT
              go_wp2_with fail
              refine C9.out.mono ?_
              rintro e w11 ⟨rfl, hb⟩
              have HW11 := hid (HW10.out.trans (hb.mono HW10.out.size))
              clear hb o0 o1 o2
              go_wp2_with fail
              go_ret
              exact ⟨rfl, HB.out.trans (HW11.out.mono HB.out.size)⟩
          · skip
            have HR2 := hid ((HR1.out).alloc (HR1.out).size (.cells #[.slice none 0 0, .slice none 0 0, .int .i64 0] 26))
            have KX2 := hid (Blk.new wc1 #[.slice none 0 0, .slice none 0 0, .int .i64 0] 26)
            have hbx : wr.heap.size ≤ wc1.heap.size := (HR1.out).size
            refine hK.out _ _ (SF.out _ HR2.out) (fun hS => ?_)
            have hlx9 : wc1.heap.size < (wc1.alloc (.cells #[.slice none 0 0, .slice none 0 0, .int .i64 0] 26)).heap.size := by simp
            generalize hbxx : wc1.heap.size = bx at *
            generalize wc1.alloc (.cells #[.slice none 0 0, .slice none 0 0, .int .i64 0] 26) = wx2 at *
            clear hbxx
            refine wpAnyH_ready (rs := [10]) (by kernel_rfl) (by simp) ?_
            refine AllReadyH.cons (o := ?oi144) ?hi144 (fun K hK => ?step144) AllReadyH.nil
            case hi144 => simp only [List.getElem?_toArray, List.getElem?_cons_succ, List.getElem?_cons_zero]; rfl
            rw [if_pos (by rfl)]
            go_simp
            go_at_call 28
            refine (CX.out _ (HOr.out.trans ((HR2.out).mono HOr.out.size))).mono ?_
            rintro e wc3 ⟨v8, rs8, rfl, hs8, hr8, hb⟩
            obtain ⟨A7, n7, k7, A8, n8, k8, rfl, -, -⟩ := hs8.form_ hr8
            have hlo8 : bx < wx2.heap.size := (KX2.out).1
            have HR3 := hid ((HR2.out).trans (hb.mono (HR2.out).size))
            have KX3 := hid ((KX2.out).to hb)
            clear hb
            refine hK.out _ _ (SF.out _ HR3.out) (fun hS => ?_)
            refine wpAnyH_take (i := 11) (oi := ?oi145) (v := ?v145) ?hi145 (by kernel_rfl) ?hf145 ?hr145 ?hQ145 (Or.inl ⟨?hw145, ?hy145⟩) (by assumption) ?rest145
            case hi145 => simp only [List.getElem?_toArray, List.getElem?_cons_succ, List.getElem?_cons_zero]; rfl
            case hf145 => kernel_rfl
            case hr145 => kernel_rfl
            case hw145 => rfl
            case hy145 => (intro w hSw; (try dsimp only at hSw); go_simp; all_goals (first | done | with_reducible rfl))
            case hQ145 => exact fun _ _ _ h => h
            simp only [Act.put, List.setIfInBounds_toArray, List.set_cons_zero, List.set_cons_succ]
            refine wpAnyH_take (i := 12) (oi := ?oi146) (v := ?v146) ?hi146 (by kernel_rfl) ?hf146 ?hr146 ?hQ146 (Or.inl ⟨?hw146, ?hy146⟩) (by assumption) ?rest146
            case hi146 => simp only [List.getElem?_toArray, List.getElem?_cons_succ, List.getElem?_cons_zero]; rfl
            case hf146 => kernel_rfl
            case hr146 => kernel_rfl
            case hw146 => rfl
            case hy146 => (intro w hSw; (try dsimp only at hSw); go_simp; all_goals (first | done | with_reducible rfl))
            case hQ146 => exact fun _ _ _ h => h
            simp only [Act.put, List.setIfInBounds_toArray, List.set_cons_zero, List.set_cons_succ]
            refine wpAnyH_take (i := 13) (oi := ?oi147) (v := ?v147) ?hi147 (by kernel_rfl) ?hf147 ?hr147 ?hQ147 (Or.inl ⟨?hw147, ?hy147⟩) (by assumption) ?rest147
            case hi147 => simp only [List.getElem?_toArray, List.getElem?_cons_succ, List.getElem?_cons_zero]; rfl
            case hf147 => kernel_rfl
            case hr147 => kernel_rfl
            case hw147 => rfl
            case hy147 => (intro w hSw; (try dsimp only at hSw); go_simp; all_goals (first | done | with_reducible rfl))
            case hQ147 => exact fun _ _ _ h => h
            simp only [Act.put, List.setIfInBounds_toArray, List.set_cons_zero, List.set_cons_succ]
            obtain ⟨q0c, q0f⟩ := (KX3.out).2 0 _ rfl
            obtain ⟨q1c, q1f⟩ := (KX3.out).2 1 _ rfl
            obtain ⟨q2c, q2f⟩ := (KX3.out).2 2 _ rfl
            have HRF := hid ((((HR3.out).setCell (show wr.heap.size ≤ (⟨bx, 0, none⟩ : Addr).block from hbx) (.slice A7 n7 k7)).setCell (show wr.heap.size ≤ (⟨bx, 1, none⟩ : Addr).block from hbx) (.slice A8 n8 k8)).setCell (show wr.heap.size ≤ (⟨bx, 2, none⟩ : Addr).block from hbx) (.int .i64 q))
            refine wpAnyH_ready (rs := [15]) (by kernel_rfl) (by simp) ?_
            refine AllReadyH.cons (o := ?oi148) ?hi148 (fun K hK => ?step148) AllReadyH.nil
            case hi148 => simp only [List.getElem?_toArray, List.getElem?_cons_succ, List.getElem?_cons_zero]; rfl
            rw [if_pos (by rfl)]
            go_simp
            refine hK.out _ _ (SF.out _ HRF.out) (fun hS => ?_)
            refine wpAnyH_take (i := 16) (oi := ?oi149) (v := ?v149) ?hi149 (by kernel_rfl) ?hf149 ?hr149 ?hQ149 (Or.inl ⟨?hw149, ?hy149⟩) (by assumption) ?rest149
            case hi149 => simp only [List.getElem?_toArray, List.getElem?_cons_succ, List.getElem?_cons_zero]; rfl
            case hf149 => kernel_rfl
            case hr149 => kernel_rfl
            case hw149 => rfl
            case hy149 => (intro w hSw; (try dsimp only at hSw); go_simp; all_goals (first | done | with_reducible rfl))
            case hQ149 => exact fun _ _ _ h => h
            simp only [Act.put, List.setIfInBounds_toArray, List.set_cons_zero, List.set_cons_succ]
            refine wpAnyH_done (by kernel_rfl) ?_ _
            have RB := (((KX3.out).set 0 (.slice A7 n7 k7)).set 1 (.slice A8 n8 k8)).set 2 (.int .i64 q)
            have x0 := (RB.2 0 _ rfl).1
            have x1 := (RB.2 1 _ rfl).1
            have x2 := (RB.2 2 _ rfl).1
            have TX := hid (show TreeIn (((wc3.setCell ⟨bx, 0, none⟩ (.slice A7 n7 k7)).setCell ⟨bx, 1, none⟩ (.slice A8 n8 k8)).setCell ⟨bx, 2, none⟩ (.int .i64 q)) (World.heap (((wc3.setCell ⟨bx, 0, none⟩ (.slice A7 n7 k7)).setCell ⟨bx, 1, none⟩ (.slice A8 n8 k8)).setCell ⟨bx, 2, none⟩ (.int .i64 q))).size (.agg #[.slice A7 n7 k7, .slice A8 n8 k8, .int .i64 q]) L H q from hs8.at_ (Rows.low (Rows.low (Rows.low hr8 hlo8) hlo8) hlo8) hd.out)
            have hTXs := hid (Nat.le_refl (World.heap (((wc3.setCell ⟨bx, 0, none⟩ (.slice A7 n7 k7)).setCell ⟨bx, 1, none⟩ (.slice A8 n8 k8)).setCell ⟨bx, 2, none⟩ (.int .i64 q))).size)
            clear q0c q0f q1c q1f q2c q2f d0 d1 d2 o0 o1 o2 cL RB hS
            generalize ((wc3.setCell ⟨bx, 0, none⟩ (.slice A7 n7 k7)).setCell ⟨bx, 1, none⟩ (.slice A8 n8 k8)).setCell ⟨bx, 2, none⟩ (.int .i64 q) = wF at *
            have HWF := hid (HWr.out.trans (HRF.out.mono HWr.out.size))
            have HOF := hid (HOr.out.trans (HRF.out.mono HOr.out.size))
            obtain ⟨⟨d0, _⟩, ⟨d1, _⟩, ⟨d2, _⟩⟩ := (And.intro ((KB.out.to HWF.out).2 0 _ rfl) (And.intro ((KB.out.to HWF.out).2 1 _ rfl) ((KB.out.to HWF.out).2 2 _ rfl)))
            have o0 := ((KO.out.to HOF.out).2 0 _ rfl).1
            have o1 := ((KO.out.to HOF.out).2 1 _ rfl).1
            have o2 := ((KO.out.to HOF.out).2 2 _ rfl).1
            have CQ := hid (equalTree_c TX.out (TT.out _ HWF.out).1 hTXs.out (TT.out _ HWF.out).2)
            by_cases hl0 : lv = 0
            · have e0 : (lv == 0) = true := by simp [hl0]
              clear hl0
              go_wp2_with fail
              refine CQ.out.mono ?_
              rintro e w9 ⟨rfl, hb⟩
              have HW10 := hid (HWF.out.trans (hb.mono HWF.out.size))
              clear hb x0 x1 x2 o0 o1 o2 d0 d1 d2
              go_wp2_with fail
              go_ret
              exact ⟨rfl, HB.out.trans (HW10.out.mono HB.out.size)⟩
            · have e0 : (lv == 0) = false := by simpa using hl0
              have e1 : (lv == lv) = true := by simp
              have hlT := FL.out hl0
              clear hl0
              go_wp2_with fail
              refine CQ.out.mono ?_
              rintro e w9 ⟨rfl, hb⟩
              have HW10 := hid (HWF.out.trans (hb.mono HWF.out.size))
              have HO10 := hid (HOF.out.trans (hb.mono HOF.out.size))
              clear hb x0 x1 x2 o0 o1 o2 d0 d1 d2
              have o0 := ((KO.out.to HO10.out).2 0 _ rfl).1
              have o1 := ((KO.out.to HO10.out).2 1 _ rfl).1
              have o2 := ((KO.out.to HO10.out).2 2 _ rfl).1
              have C9 := hid (CE3.out _ HO10.out)
              rw [hlT] at C9
              clear hlT
              go_wp2_with fail
              refine C9.out.mono ?_
              rintro e w11 ⟨rfl, hb⟩
              have HW11 := hid (HW10.out.trans (hb.mono HW10.out.size))
              clear hb o0 o1 o2
              go_wp2_with fail
              go_ret
              exact ⟨rfl, HB.out.trans (HW11.out.mono HB.out.size)⟩
        · skip
          have HR1 := hid ((HRd.out).alloc (HRd.out).size (.cells #[.slice none 0 0, .slice none 0 0, .int .i64 0] 26))
          have KX1 := hid (Blk.new wd #[.slice none 0 0, .slice none 0 0, .int .i64 0] 26)
          have hbx : wr.heap.size ≤ wd.heap.size := (HRd.out).size
          refine hK.out _ _ (SF.out _ HR1.out) (fun hS => ?_)
          have hlx9 : wd.heap.size < (wd.alloc (.cells #[.slice none 0 0, .slice none 0 0, .int .i64 0] 26)).heap.size := by simp
          generalize hbxx : wd.heap.size = bx at *
          generalize wd.alloc (.cells #[.slice none 0 0, .slice none 0 0, .int .i64 0] 26) = wx1 at *
          clear hbxx
          refine wpAnyH_ready (rs := [6]) (by kernel_rfl) (by simp) ?_
          refine AllReadyH.cons (o := ?oi150) ?hi150 (fun K hK => ?step150) AllReadyH.nil
          case hi150 => simp only [List.getElem?_toArray, List.getElem?_cons_succ, List.getElem?_cons_zero]; rfl
          rw [if_pos (by rfl)]
          go_simp
          go_at_call 15
          refine (CG.out _ (HWr.out.trans ((HR1.out).mono HWr.out.size))).mono ?_
          rintro e wc2 ⟨rfl, hb⟩
          have HR2 := hid ((HR1.out).trans (hb.mono (HR1.out).size))
          have KX2 := hid ((KX1.out).to hb)
          clear hb
          refine hK.out _ _ (SF.out _ HR2.out) (fun hS => ?_)
          refine wpAnyH_take (i := 7) (oi := ?oi151) (v := ?v151) ?hi151 (by kernel_rfl) ?hf151 ?hr151 ?hQ151 (Or.inl ⟨?hw151, ?hy151⟩) (by assumption) ?rest151
          case hi151 => simp only [List.getElem?_toArray, List.getElem?_cons_succ, List.getElem?_cons_zero]; rfl
          case hf151 => kernel_rfl
          case hr151 => kernel_rfl
          case hw151 => rfl
          case hy151 => (intro w hSw; (try dsimp only at hSw); go_simp; all_goals (first | done | with_reducible rfl))
          case hQ151 => exact fun _ _ _ h => h
          simp only [Act.put, List.setIfInBounds_toArray, List.set_cons_zero, List.set_cons_succ]
          refine wpAnyH_take (i := 8) (oi := ?oi152) (v := ?v152) ?hi152 (by kernel_rfl) ?hf152 ?hr152 ?hQ152 (Or.inl ⟨?hw152, ?hy152⟩) (by assumption) ?rest152
          case hi152 => simp only [List.getElem?_toArray, List.getElem?_cons_succ, List.getElem?_cons_zero]; rfl
          case hf152 => kernel_rfl
          case hr152 => kernel_rfl
          case hw152 => rfl
          case hy152 => (intro w hSw; (try dsimp only at hSw); go_simp; all_goals (first | done | with_reducible rfl))
          case hQ152 => exact fun _ _ _ h => h
          simp only [Act.put, List.setIfInBounds_toArray, List.set_cons_zero, List.set_cons_succ]
          refine wpAnyH_take (i := 9) (oi := ?oi153) (v := ?v153) ?hi153 (by kernel_rfl) ?hf153 ?hr153 ?hQ153 (Or.inl ⟨?hw153, ?hy153⟩) (by assumption) ?rest153
          case hi153 => simp only [List.getElem?_toArray, List.getElem?_cons_succ, List.getElem?_cons_zero]; rfl
          case hf153 => kernel_rfl
          case hr153 => kernel_rfl
          case hw153 => rfl
          case hy153 => (intro w hSw; (try dsimp only at hSw); go_simp; all_goals (first | done | with_reducible rfl))
          case hQ153 => exact fun _ _ _ h => h
          simp only [Act.put, List.setIfInBounds_toArray, List.set_cons_zero, List.set_cons_succ]
          refine wpAnyH_ready (rs := [10]) (by kernel_rfl) (by simp) ?_
          refine AllReadyH.cons (o := ?oi154) ?hi154 (fun K hK => ?step154) AllReadyH.nil
          case hi154 => simp only [List.getElem?_toArray, List.getElem?_cons_succ, List.getElem?_cons_zero]; rfl
          rw [if_pos (by rfl)]
          go_simp
          go_at_call 28
          refine (CX.out _ (HOr.out.trans ((HR2.out).mono HOr.out.size))).mono ?_
          rintro e wc3 ⟨v8, rs8, rfl, hs8, hr8, hb⟩
          obtain ⟨A7, n7, k7, A8, n8, k8, rfl, -, -⟩ := hs8.form_ hr8
          have hlo8 : bx < wc2.heap.size := (KX2.out).1
          have HR3 := hid ((HR2.out).trans (hb.mono (HR2.out).size))
          have KX3 := hid ((KX2.out).to hb)
          clear hb
          refine hK.out _ _ (SF.out _ HR3.out) (fun hS => ?_)
          refine wpAnyH_take (i := 11) (oi := ?oi155) (v := ?v155) ?hi155 (by kernel_rfl) ?hf155 ?hr155 ?hQ155 (Or.inl ⟨?hw155, ?hy155⟩) (by assumption) ?rest155
          case hi155 => simp only [List.getElem?_toArray, List.getElem?_cons_succ, List.getElem?_cons_zero]; rfl
          case hf155 => kernel_rfl
          case hr155 => kernel_rfl
          case hw155 => rfl
          case hy155 => (intro w hSw; (try dsimp only at hSw); go_simp; all_goals (first | done | with_reducible rfl))
          case hQ155 => exact fun _ _ _ h => h
          simp only [Act.put, List.setIfInBounds_toArray, List.set_cons_zero, List.set_cons_succ]
          refine wpAnyH_take (i := 12) (oi := ?oi156) (v := ?v156) ?hi156 (by kernel_rfl) ?hf156 ?hr156 ?hQ156 (Or.inl ⟨?hw156, ?hy156⟩) (by assumption) ?rest156
          case hi156 => simp only [List.getElem?_toArray, List.getElem?_cons_succ, List.getElem?_cons_zero]; rfl
          case hf156 => kernel_rfl
          case hr156 => kernel_rfl
          case hw156 => rfl
          case hy156 => (intro w hSw; (try dsimp only at hSw); go_simp; all_goals (first | done | with_reducible rfl))
          case hQ156 => exact fun _ _ _ h => h
          simp only [Act.put, List.setIfInBounds_toArray, List.set_cons_zero, List.set_cons_succ]
          refine wpAnyH_take (i := 13) (oi := ?oi157) (v := ?v157) ?hi157 (by kernel_rfl) ?hf157 ?hr157 ?hQ157 (Or.inl ⟨?hw157, ?hy157⟩) (by assumption) ?rest157
          case hi157 => simp only [List.getElem?_toArray, List.getElem?_cons_succ, List.getElem?_cons_zero]; rfl
          case hf157 => kernel_rfl
          case hr157 => kernel_rfl
          case hw157 => rfl
          case hy157 => (intro w hSw; (try dsimp only at hSw); go_simp; all_goals (first | done | with_reducible rfl))
          case hQ157 => exact fun _ _ _ h => h
          simp only [Act.put, List.setIfInBounds_toArray, List.set_cons_zero, List.set_cons_succ]
          obtain ⟨q0c, q0f⟩ := (KX3.out).2 0 _ rfl
          obtain ⟨q1c, q1f⟩ := (KX3.out).2 1 _ rfl
          obtain ⟨q2c, q2f⟩ := (KX3.out).2 2 _ rfl
          have HRF := hid ((((HR3.out).setCell (show wr.heap.size ≤ (⟨bx, 0, none⟩ : Addr).block from hbx) (.slice A7 n7 k7)).setCell (show wr.heap.size ≤ (⟨bx, 1, none⟩ : Addr).block from hbx) (.slice A8 n8 k8)).setCell (show wr.heap.size ≤ (⟨bx, 2, none⟩ : Addr).block from hbx) (.int .i64 q))
          refine wpAnyH_ready (rs := [15]) (by kernel_rfl) (by simp) ?_
          refine AllReadyH.cons (o := ?oi158) ?hi158 (fun K hK => ?step158) AllReadyH.nil
          case hi158 => simp only [List.getElem?_toArray, List.getElem?_cons_succ, List.getElem?_cons_zero]; rfl
          rw [if_pos (by rfl)]
          go_simp
          refine hK.out _ _ (SF.out _ HRF.out) (fun hS => ?_)
          refine wpAnyH_take (i := 16) (oi := ?oi159) (v := ?v159) ?hi159 (by kernel_rfl) ?hf159 ?hr159 ?hQ159 (Or.inl ⟨?hw159, ?hy159⟩) (by assumption) ?rest159
          case hi159 => simp only [List.getElem?_toArray, List.getElem?_cons_succ, List.getElem?_cons_zero]; rfl
          case hf159 => kernel_rfl
          case hr159 => kernel_rfl
          case hw159 => rfl
          case hy159 => (intro w hSw; (try dsimp only at hSw); go_simp; all_goals (first | done | with_reducible rfl))
          case hQ159 => exact fun _ _ _ h => h
          simp only [Act.put, List.setIfInBounds_toArray, List.set_cons_zero, List.set_cons_succ]
          refine wpAnyH_done (by kernel_rfl) ?_ _
          have RB := (((KX3.out).set 0 (.slice A7 n7 k7)).set 1 (.slice A8 n8 k8)).set 2 (.int .i64 q)
          have x0 := (RB.2 0 _ rfl).1
          have x1 := (RB.2 1 _ rfl).1
          have x2 := (RB.2 2 _ rfl).1
          have TX := hid (show TreeIn (((wc3.setCell ⟨bx, 0, none⟩ (.slice A7 n7 k7)).setCell ⟨bx, 1, none⟩ (.slice A8 n8 k8)).setCell ⟨bx, 2, none⟩ (.int .i64 q)) (World.heap (((wc3.setCell ⟨bx, 0, none⟩ (.slice A7 n7 k7)).setCell ⟨bx, 1, none⟩ (.slice A8 n8 k8)).setCell ⟨bx, 2, none⟩ (.int .i64 q))).size (.agg #[.slice A7 n7 k7, .slice A8 n8 k8, .int .i64 q]) L H q from hs8.at_ (Rows.low (Rows.low (Rows.low hr8 hlo8) hlo8) hlo8) hd.out)
          have hTXs := hid (Nat.le_refl (World.heap (((wc3.setCell ⟨bx, 0, none⟩ (.slice A7 n7 k7)).setCell ⟨bx, 1, none⟩ (.slice A8 n8 k8)).setCell ⟨bx, 2, none⟩ (.int .i64 q))).size)
          clear q0c q0f q1c q1f q2c q2f d0 d1 d2 o0 o1 o2 cL RB hS
          generalize ((wc3.setCell ⟨bx, 0, none⟩ (.slice A7 n7 k7)).setCell ⟨bx, 1, none⟩ (.slice A8 n8 k8)).setCell ⟨bx, 2, none⟩ (.int .i64 q) = wF at *
          have HWF := hid (HWr.out.trans (HRF.out.mono HWr.out.size))
          have HOF := hid (HOr.out.trans (HRF.out.mono HOr.out.size))
          obtain ⟨⟨d0, _⟩, ⟨d1, _⟩, ⟨d2, _⟩⟩ := (And.intro ((KB.out.to HWF.out).2 0 _ rfl) (And.intro ((KB.out.to HWF.out).2 1 _ rfl) ((KB.out.to HWF.out).2 2 _ rfl)))
          have o0 := ((KO.out.to HOF.out).2 0 _ rfl).1
          have o1 := ((KO.out.to HOF.out).2 1 _ rfl).1
          have o2 := ((KO.out.to HOF.out).2 2 _ rfl).1
          have CQ := hid (equalTree_c TX.out (TT.out _ HWF.out).1 hTXs.out (TT.out _ HWF.out).2)
          by_cases hl0 : lv = 0
          · have e0 : (lv == 0) = true := by simp [hl0]
            clear hl0
            go_wp2_with fail
            refine CQ.out.mono ?_
            rintro e w9 ⟨rfl, hb⟩
            have HW10 := hid (HWF.out.trans (hb.mono HWF.out.size))
            clear hb x0 x1 x2 o0 o1 o2 d0 d1 d2
            go_wp2_with fail
            go_ret
            exact ⟨rfl, HB.out.trans (HW10.out.mono HB.out.size)⟩
          · have e0 : (lv == 0) = false := by simpa using hl0
            have e1 : (lv == lv) = true := by simp
            have hlT := FL.out hl0
            clear hl0
            go_wp2_with fail
            refine CQ.out.mono ?_
            rintro e w9 ⟨rfl, hb⟩
            have HW10 := hid (HWF.out.trans (hb.mono HWF.out.size))
            have HO10 := hid (HOF.out.trans (hb.mono HOF.out.size))
            clear hb x0 x1 x2 o0 o1 o2 d0 d1 d2
            have o0 := ((KO.out.to HO10.out).2 0 _ rfl).1
            have o1 := ((KO.out.to HO10.out).2 1 _ rfl).1
            have o2 := ((KO.out.to HO10.out).2 2 _ rfl).1
            have C9 := hid (CE3.out _ HO10.out)
            rw [hlT] at C9
            clear hlT
            go_wp2_with fail
            refine C9.out.mono ?_
            rintro e w11 ⟨rfl, hb⟩
            have HW11 := hid (HW10.out.trans (hb.mono HW10.out.size))
            clear hb o0 o1 o2
            go_wp2_with fail
            go_ret
            exact ⟨rfl, HB.out.trans (HW11.out.mono HB.out.size)⟩
end Go.Proofs.Ytcgcbgbmofooiaa
