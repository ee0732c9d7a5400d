/-
  WALK: the law FnAddLogger. By gen_t.py.
-/
import Derived.Test.YtpfnjkmkenaipaaSpotLaws
import Derived.Test.YtpfnjkmkenaipaaE14
import Derived.Test.YtpfnjkmkenaipaaC9
import Derived.Test.YtpfnjkmkenaipaaLookI
namespace Go.Proofs.Ytpfnjkmkenaipaa
open Go.RowKit Nm
set_option linter.unusedSimpArgs false
set_option linter.unusedVariables false

theorem fit_none : dataFit [] [] := ⟨⟨by simp, by simp⟩, ⟨by simp, by simp⟩⟩

set_option maxHeartbeats 8000000 in
set_option maxRecDepth 100000 in
theorem walk_FnAddLogger (a0 : Option Addr) (len0 cap0 : Nat) (z0 : List Int) (w : World) (w0 : IsRow .u8 w a0 len0 cap0 z0) :
    Calls Try.prog 7 #[.slice a0 len0 cap0] w (BoolPost w true) := by
  have hb0 := w0.leT
  by_cases h1 : (1048576 : Int) < (len0 : Int)
  · go_enter Try.func7, Try.ntmps7
    go_wp2_with fail
    go_ret
    exact ⟨rfl, Below.refl _ _⟩
  have DR := hid (drawAddLogger_c a0 len0 cap0 z0 w w0)
  clear w0
  go_enter Try.func7, Try.ntmps7
  go_wp2_with fail
  refine DR.out.mono ?_
  rintro e w1 ⟨v, rs, L, H, q, nm, rfl, hs, hsm, hnm, hr, hb⟩
  obtain ⟨A1, n1, k1, A2, n2, k2, rfl, hn1, hn2⟩ := hs.form_ hr
  have hd := sm_fit hsm (by omega)
  have TI0 := hs.at_ hr hd
  have hbx : Below w1.heap.size w1 (w1.alloc (.cells #[.slice A1 n1 k1, .slice A2 n2 k2, .int .i64 q] 32)) := (Below.refl _ _).alloc (Nat.le_refl _) _
  have TI := hid (TI0.below hbx (Nat.le_refl _))
  have KB := hid (Blk.new w1 #[.slice A1 n1 k1, .slice A2 n2 k2, .int .i64 q] 32)
  have HB := hid (hb.trans (hbx.mono hb.size))
  have hl1 : w1.heap.size < (w1.alloc (.cells #[.slice A1 n1 k1, .slice A2 n2 k2, .int .i64 q] 32)).heap.size := by simp
  have HL := hid (And.intro hn1 (And.intro hsm.1 hsm.2.1.1))
  replace hd := hid hd
  clear hs hr hb hn1 hn2 hsm TI0 hbx DR
  go_wp2_with fail
  generalize hbb : w1.heap.size = bb at *
  generalize w1.alloc (.cells #[.slice A1 n1 k1, .slice A2 n2 k2, .int .i64 q] 32) = w2 at *
  clear hbb
  have d0 := (KB.out.2 0 _ rfl).1
  have d1 := (KB.out.2 1 _ rfl).1
  have d2 := (KB.out.2 2 _ rfl).1
  have HW := hid (Below.refl w2.heap.size w2)
  have TT := hid (fun (W : World) (hW : Below w2.heap.size w2 W) => (And.intro (TI.out.below hW (Nat.le_of_lt hl1)) (Nat.le_trans (Nat.le_of_lt hl1) hW.size)))
  have hn8 : n1 ≤ 8 := by rw [HL.out.1]; exact HL.out.2.2
  rcases add_cases L H q nm.data.toList with hX | ⟨hok, hok2, hX, hXb⟩
  · clear hd
    have CI := hid (fun (W : World) (hW : Below w2.heap.size w2 W) => (show Calls Try.prog 35 #[.agg #[.slice A1 n1 k1, .slice A2 n2 k2, .int .i64 q], .string nm] W (fun e w' => ∃ v2 rs, e = .returned (.tuple #[v2, .bool false]) ∧ TreeS rs v2 ([]) [] 0 ∧ Rows w' W.heap.size rs ∧ Below W.heap.size W w') from by have h9 := implAddLogger_c nm (TT.out W hW).1 (TT.out W hW).2 (by unfold maxTxt; omega); rw [hX] at h9; exact h9))
    have CS := hid (fun (W : World) (hW : Below w2.heap.size w2 W) => (show Calls Try.prog 36 #[.agg #[.slice A1 n1 k1, .slice A2 n2 k2, .int .i64 q], .string nm] W (fun e w' => ∃ v2 rs, e = .returned (.tuple #[v2, .bool false]) ∧ TreeS rs v2 ([]) [] 0 ∧ Rows w' W.heap.size rs ∧ Below W.heap.size W w') from by have h9 := specAddLogger_c nm (TT.out W hW).1 (TT.out W hW).2 (by unfold maxTxt; omega); rw [hX] at h9; exact h9))
    go_wp2_with fail
    refine (CI.out _ HW.out).mono ?_
    rintro e w3 ⟨v3, rs3, rfl, hs3, hr3, hb⟩
    obtain ⟨A3, n3, k3, A4, n4, k4, rfl, -, -⟩ := hs3.form_ hr3
    have hbx3 : Below w3.heap.size w3 (w3.alloc (.cells #[.slice A3 n3 k3, .slice A4 n4 k4, .int .i64 0] 32)) := (Below.refl _ _).alloc (Nat.le_refl _) _
    have TO := hid ((hs3.at_ hr3 fit_none).below hbx3 (Nat.le_refl _))
    have KO := hid (Blk.new w3 #[.slice A3 n3 k3, .slice A4 n4 k4, .int .i64 0] 32)
    have HW4 := hid (HW.out.trans ((hb.trans (hbx3.mono hb.size)).mono HW.out.size))
    have hlo : w3.heap.size < (w3.alloc (.cells #[.slice A3 n3 k3, .slice A4 n4 k4, .int .i64 0] 32)).heap.size := by simp
    clear hs3 hr3 hb hbx3 d0 d1 d2
    obtain ⟨⟨d0, _⟩, ⟨d1, _⟩, ⟨d2, _⟩⟩ := (And.intro ((KB.out.to HW4.out).2 0 _ rfl) (And.intro ((KB.out.to HW4.out).2 1 _ rfl) ((KB.out.to HW4.out).2 2 _ rfl)))
    go_wp2_with fail
    generalize hbo : w3.heap.size = bo at *
    generalize w3.alloc (.cells #[.slice A3 n3 k3, .slice A4 n4 k4, .int .i64 0] 32) = w4 at *
    clear hbo
    refine (CS.out _ HW4.out).mono ?_
    rintro e w5 ⟨v5, rs5, rfl, hs5, hr5, hb⟩
    obtain ⟨A5, n5, k5, A6, n6, k6, rfl, -, -⟩ := hs5.form_ hr5
    have hbx5 : Below w5.heap.size w5 (w5.alloc (.cells #[.slice A5 n5 k5, .slice A6 n6 k6, .int .i64 0] 32)) := (Below.refl _ _).alloc (Nat.le_refl _) _
    have hb46 : Below w4.heap.size w4 (w5.alloc (.cells #[.slice A5 n5 k5, .slice A6 n6 k6, .int .i64 0] 32)) := hb.trans (hbx5.mono hb.size)
    have TW := hid ((hs5.at_ hr5 fit_none).below hbx5 (Nat.le_refl _))
    have KW := hid (Blk.new w5 #[.slice A5 n5 k5, .slice A6 n6 k6, .int .i64 0] 32)
    have HO6 := hid hb46
    have HW6 := hid (HW4.out.trans (hb46.mono HW4.out.size))
    have hlw : w5.heap.size < (w5.alloc (.cells #[.slice A5 n5 k5, .slice A6 n6 k6, .int .i64 0] 32)).heap.size := by simp
    clear hs5 hr5 hb hbx5 hb46 d0 d1 d2
    have o0 := ((KO.out.to HO6.out).2 0 _ rfl).1
    have o1 := ((KO.out.to HO6.out).2 1 _ rfl).1
    have o2 := ((KO.out.to HO6.out).2 2 _ rfl).1
    have p0 := (KW.out.2 0 _ rfl).1
    have p1 := (KW.out.2 1 _ rfl).1
    have p2 := (KW.out.2 2 _ rfl).1
    go_wp2_with fail
    generalize hbw : w5.heap.size = bw at *
    generalize w5.alloc (.cells #[.slice A5 n5 k5, .slice A6 n6 k6, .int .i64 0] 32) = w6 at *
    clear hbw
    have CE := hid (fun (W : World) (hW : Below w6.heap.size w6 W) => equalTree_c (TO.out.below (HO6.out.trans (hW.mono HO6.out.size)) (Nat.le_of_lt hlo)) (TW.out.below hW (Nat.le_of_lt hlw)) (Nat.le_trans (Nat.le_of_lt hlo) (Nat.le_trans HO6.out.size hW.size)) (Nat.le_trans (Nat.le_of_lt hlw) hW.size))
    refine (CE.out _ (Below.refl _ _)).mono ?_
    rintro e w7 ⟨rfl, hb⟩
    have HE7 := hid hb
    have HO7 := hid (HO6.out.trans (hb.mono HO6.out.size))
    have HW7 := hid (HW6.out.trans (hb.mono HW6.out.size))
    clear hb o0 o1 o2 p0 p1 p2
    have o0 := ((KO.out.to HO7.out).2 0 _ rfl).1
    have o1 := ((KO.out.to HO7.out).2 1 _ rfl).1
    have o2 := ((KO.out.to HO7.out).2 2 _ rfl).1
    have p0 := ((KW.out.to HE7.out).2 0 _ rfl).1
    have p1 := ((KW.out.to HE7.out).2 1 _ rfl).1
    have p2 := ((KW.out.to HE7.out).2 2 _ rfl).1
    go_wp2_with fail
    refine (CE.out _ HE7.out).mono ?_
    rintro e w8 ⟨rfl, hb⟩
    have HW8 := hid (HW7.out.trans (hb.mono HW7.out.size))
    clear hb o0 o1 o2 p0 p1 p2
    go_wp2_with fail
    go_ret
    exact ⟨rfl, HB.out.trans (HW8.out.mono HB.out.size)⟩
  · have DX : dataFit (addT L nm.data.toList) H := by have h9 : dataFit (resL (addX L H q nm.data.toList)) (resH (addX L H q nm.data.toList)) := changed_fit _ _ _ _; rw [hX] at h9; exact h9
    replace DX := hid DX
    have CI := hid (fun (W : World) (hW : Below w2.heap.size w2 W) => (show Calls Try.prog 35 #[.agg #[.slice A1 n1 k1, .slice A2 n2 k2, .int .i64 q], .string nm] W (fun e w' => ∃ v2 rs, e = .returned (.tuple #[v2, .bool true]) ∧ TreeS rs v2 (addT L nm.data.toList) H q ∧ Rows w' W.heap.size rs ∧ Below W.heap.size W w') from by have h9 := implAddLogger_c nm (TT.out W hW).1 (TT.out W hW).2 (by unfold maxTxt; omega); rw [hX] at h9; exact h9))
    have CS := hid (fun (W : World) (hW : Below w2.heap.size w2 W) => (show Calls Try.prog 36 #[.agg #[.slice A1 n1 k1, .slice A2 n2 k2, .int .i64 q], .string nm] W (fun e w' => ∃ v2 rs, e = .returned (.tuple #[v2, .bool true]) ∧ TreeS rs v2 (addT L nm.data.toList) H q ∧ Rows w' W.heap.size rs ∧ Below W.heap.size W w') from by have h9 := specAddLogger_c nm (TT.out W hW).1 (TT.out W hW).2 (by unfold maxTxt; omega); rw [hX] at h9; exact h9))
    go_wp2_with fail
    refine (CI.out _ HW.out).mono ?_
    rintro e w3 ⟨v3, rs3, rfl, hs3, hr3, hb⟩
    obtain ⟨A3, n3, k3, A4, n4, k4, rfl, -, -⟩ := hs3.form_ hr3
    have hbx3 : Below w3.heap.size w3 (w3.alloc (.cells #[.slice A3 n3 k3, .slice A4 n4 k4, .int .i64 q] 32)) := (Below.refl _ _).alloc (Nat.le_refl _) _
    have TO := hid ((hs3.at_ hr3 DX.out).below hbx3 (Nat.le_refl _))
    have KO := hid (Blk.new w3 #[.slice A3 n3 k3, .slice A4 n4 k4, .int .i64 q] 32)
    have HW4 := hid (HW.out.trans ((hb.trans (hbx3.mono hb.size)).mono HW.out.size))
    have hlo : w3.heap.size < (w3.alloc (.cells #[.slice A3 n3 k3, .slice A4 n4 k4, .int .i64 q] 32)).heap.size := by simp
    clear hs3 hr3 hb hbx3 d0 d1 d2
    obtain ⟨⟨d0, _⟩, ⟨d1, _⟩, ⟨d2, _⟩⟩ := (And.intro ((KB.out.to HW4.out).2 0 _ rfl) (And.intro ((KB.out.to HW4.out).2 1 _ rfl) ((KB.out.to HW4.out).2 2 _ rfl)))
    go_wp2_with fail
    generalize hbo : w3.heap.size = bo at *
    generalize w3.alloc (.cells #[.slice A3 n3 k3, .slice A4 n4 k4, .int .i64 q] 32) = w4 at *
    clear hbo
    refine (CS.out _ HW4.out).mono ?_
    rintro e w5 ⟨v5, rs5, rfl, hs5, hr5, hb⟩
    obtain ⟨A5, n5, k5, A6, n6, k6, rfl, -, -⟩ := hs5.form_ hr5
    have hbx5 : Below w5.heap.size w5 (w5.alloc (.cells #[.slice A5 n5 k5, .slice A6 n6 k6, .int .i64 q] 32)) := (Below.refl _ _).alloc (Nat.le_refl _) _
    have hb46 : Below w4.heap.size w4 (w5.alloc (.cells #[.slice A5 n5 k5, .slice A6 n6 k6, .int .i64 q] 32)) := hb.trans (hbx5.mono hb.size)
    have TW := hid ((hs5.at_ hr5 DX.out).below hbx5 (Nat.le_refl _))
    have KW := hid (Blk.new w5 #[.slice A5 n5 k5, .slice A6 n6 k6, .int .i64 q] 32)
    have HO6 := hid hb46
    have HW6 := hid (HW4.out.trans (hb46.mono HW4.out.size))
    have hlw : w5.heap.size < (w5.alloc (.cells #[.slice A5 n5 k5, .slice A6 n6 k6, .int .i64 q] 32)).heap.size := by simp
    clear hs5 hr5 hb hbx5 hb46 d0 d1 d2
    have o0 := ((KO.out.to HO6.out).2 0 _ rfl).1
    have o1 := ((KO.out.to HO6.out).2 1 _ rfl).1
    have o2 := ((KO.out.to HO6.out).2 2 _ rfl).1
    have p0 := (KW.out.2 0 _ rfl).1
    have p1 := (KW.out.2 1 _ rfl).1
    have p2 := (KW.out.2 2 _ rfl).1
    go_wp2_with fail
    generalize hbw : w5.heap.size = bw at *
    generalize w5.alloc (.cells #[.slice A5 n5 k5, .slice A6 n6 k6, .int .i64 q] 32) = w6 at *
    clear hbw
    have CE := hid (fun (W : World) (hW : Below w6.heap.size w6 W) => equalTree_c (TO.out.below (HO6.out.trans (hW.mono HO6.out.size)) (Nat.le_of_lt hlo)) (TW.out.below hW (Nat.le_of_lt hlw)) (Nat.le_trans (Nat.le_of_lt hlo) (Nat.le_trans HO6.out.size hW.size)) (Nat.le_trans (Nat.le_of_lt hlw) hW.size))
    refine (CE.out _ (Below.refl _ _)).mono ?_
    rintro e w7 ⟨rfl, hb⟩
    have HE7 := hid hb
    have HO7 := hid (HO6.out.trans (hb.mono HO6.out.size))
    have HW7 := hid (HW6.out.trans (hb.mono HW6.out.size))
    clear hb o0 o1 o2 p0 p1 p2
    have TN := hid (fun (W : World) (hO : Below w4.heap.size w4 W) => (And.intro (TO.out.below hO (Nat.le_of_lt hlo)) (Nat.le_trans (Nat.le_of_lt hlo) hO.size)))
    have CE1 := hid (fun (s : ByteArray) (hs : s.size ≤ maxLen) (W : World) (hO : Below w4.heap.size w4 W) => implEffectiveLevel_c s (TN.out W hO).1 (TN.out W hO).2 hs)
    have CE2 := hid (fun (s : ByteArray) (hs : s.size ≤ maxLen) (W : World) (hW : Below w2.heap.size w2 W) => implEffectiveLevel_c s (TT.out W hW).1 (TT.out W hW).2 hs)
    have CS1 := hid (fun (s : ByteArray) (hs : s.size ≤ maxLen) (W : World) (hO : Below w4.heap.size w4 W) => implSpotsOf_c s (TN.out W hO).1 (TN.out W hO).2 hs)
    have CS2 := hid (fun (s : ByteArray) (hs : s.size ≤ maxLen) (W : World) (hW : Below w2.heap.size w2 W) => implSpotsOf_c s (TT.out W hW).1 (TT.out W hW).2 hs)
    have CN := hid (fun (W : World) (hW : Below w2.heap.size w2 W) => lawNames_c (TT.out W hW).1 (TT.out W hW).2 HL.out.2.2)
    have CX := hid (fun (W : World) (hO : Below w4.heap.size w4 W) => (show Calls Try.prog 35 #[.agg #[.slice A3 n3 k3, .slice A4 n4 k4, .int .i64 q], .string nm] W (fun e w' => ∃ v2 rs, e = .returned (.tuple #[v2, .bool true]) ∧ TreeS rs v2 (addT L nm.data.toList) H q ∧ Rows w' W.heap.size rs ∧ Below W.heap.size W w') from by have h9 := implAddLogger_c nm (TN.out W hO).1 (TN.out W hO).2 (by unfold maxTxt; omega); rw [hXb] at h9; exact h9))
    have CL := hid (fun (W : World) (hO : Below w4.heap.size w4 W) => (show Calls Try.prog 21 #[.agg #[.slice A3 n3 k3, .slice A4 n4 k4, .int .i64 q], .string nm] W (fun e w' => e = .returned (.int .i64 (idxL (namesOf (addT L nm.data.toList)) nm.data.toList)) ∧ Below W.heap.size W w') from by have h9 := implLoggerAtX_c nm (TN.out W hO).1 (TN.out W hO).2; rw [hok2, if_pos rfl] at h9; exact h9))
    have hix : 0 ≤ idxL (namesOf (addT L nm.data.toList)) nm.data.toList := by have h9 := add_there L nm.data.toList; omega
    have FA := hid (fun (x : Name) (hx : nameOk x = true) => add_same hok hok2 hx)
    have FN := hid (add_names hok hok2)
    have hnl : (nsOf L).length = n1 := by unfold nsOf; rw [List.length_map, HL.out.1]
    generalize idxL (namesOf (addT L nm.data.toList)) nm.data.toList = ix at *
    obtain ⟨NM, hNM⟩ : ∃ NM, NM = nsOf L ++ [nm.data.toList, [97, 46, 98, 46, 99, 46, 100]] := ⟨_, rfl⟩
    rw [← hNM] at FN
    have hNl : NM.length = n1 + 2 := by rw [hNM, List.length_append, hnl]; rfl
    replace hNM := hid hNM
    replace hnl := hid hnl
    have d0 := ((KB.out.to HW7.out).2 0 _ rfl).1
    have d1 := ((KB.out.to HW7.out).2 1 _ rfl).1
    have d2 := ((KB.out.to HW7.out).2 2 _ rfl).1
    obtain ⟨iS, hSi, hSz0, hSz1, hSz2⟩ := info_parts Try.infoStr
    have HI := hid (And.intro hSi (And.intro hSz0 (And.intro hSz1 hSz2)))
    clear hX hXb hok hok2 hSi hSz0 hSz1 hSz2
    go_wp2_with fail
    refine (CN.out _ HW7.out).mono ?_
    rintro e w8 ⟨v8, rfl, ho8, hb⟩
    have HW8 := hid (HW7.out.trans (hb.mono HW7.out.size))
    have HO8 := hid (HO7.out.trans (hb.mono HO7.out.size))
    have hs78 : w7.heap.size ≤ w8.heap.size := hb.size
    rw [hnl.out] at ho8
    have O8 := hid ho8
    clear hb ho8 d0 d1 d2
    have OL := hid (Sl.of_own (World.ownsRow_lit (e := 9) (size := 1) (base := w8.heap.size) w8 #[.string nm, .string ⟨#[97, 46, 98, 46, 99, 46, 100]⟩] 2 (Nat.le_refl _) (by unfold maxLen; omega) rfl))
    go_wp2_with (at_builtin; refine wpList_appSl _ rfl (.tmp 55) (.tmp 57) 44 rfl w7.heap.size 9 iS _ 1 16 Try.underlying44 HI.out.1 HI.out.2.1 HI.out.2.2.1 HI.out.2.2.2 rfl (by decide) _ n1 ((nsOf L).map txt) (by rfl) (O8.out.alloc _) _ 2 _ _ (by rfl) OL.out (List.all_eq_true.1 rfl) (by unfold maxLen; omega) (by omega) (by simp; omega) ?_)
    intro v9 w9 ho9 hb9
    have ho9' : w9.ownsRow w7.heap.size 9 1 v9 (n1 + 2) (NM.map txt) := by rw [hNM.out]; simpa [txt] using ho9
    obtain ⟨A9, c9, rfl, hc9, hm9⟩ := (Sl.of_own ho9').form
    unfold maxLen at hm9
    have O9 := hid (Sl.of_own ho9')
    have hb79 : Below w7.heap.size w8 w9 := Below.trans (((Below.refl w8.heap.size w8).alloc (Nat.le_refl _) _).mono hs78) hb9
    have HW9 := hid (HW8.out.trans (hb79.mono HW7.out.size))
    have HO9 := hid (HO8.out.trans (hb79.mono HO7.out.size))
    clear ho9 ho9' hb9 hb79 OL O8
    go_wp2_with fail
    go_loopw [10] (fun kv wr => ∃ k : Nat, kv = .int .i64 k ∧ k ≤ n1 + 2 ∧ Hid (Below w2.heap.size w2 wr) ∧ Hid (Below w4.heap.size w4 wr) ∧ Hid (Below w9.heap.size w9 wr)) (fun kv _ => n1 + 2 - (intOf kv).toNat)
    case atStart => exact ⟨0, rfl, Nat.zero_le _, HW9.out, HO9.out, Below.refl _ _⟩
    case round =>
      obtain ⟨k, rfl, hk, HWr, HOr, HQr⟩ := hrel
      by_cases hkn : k < n1 + 2
      · obtain ⟨b9, o9, s, rfl, hb9, hxs, g9⟩ := O9.out.text hkn
        have hxn := FN.out _ (List.mem_of_getElem? hxs)
        have hsz : s.size ≤ maxLen := by have := name_size _ hxn; rw [← Lib.size_eq] at this; unfold maxLen; omega
        obtain ⟨ea, eb⟩ := FA.out _ hxn
        have HWd := hid (HWr.out.drew)
        have HOd := hid (HOr.out.drew)
        have HQd := hid (HQr.out.drew)
        have C1 := hid (fun W hO => CE1.out s hsz W hO)
        have C2 := hid (fun W hW => CE2.out s hsz W hW)
        have C3 := hid (fun W hO => CS1.out s hsz W hO)
        have C4 := hid (fun W hW => CS2.out s hsz W hW)
        rw [eb] at C1
        rw [ea] at C3
        have hsp := spotsT_len L H q s.data.toList
        clear ea eb hxn hxs
        generalize levelT L H q s.data.toList = z at *
        generalize spotsT L H q s.data.toList = SP at *
        have b0 : (z != z) = false := by simp
        have b1 : (z == z) = true := by simp
        have s0 : (0 : Int) ≤ (k : Int) := by omega
        have s1 : (k : Int) < ((n1 : Int) + 2) := by omega
        have s1' : (k : Int) < ((n1 + 2 : Nat) : Int) := by omega
        have s2 : ((k : Int)).toNat = k := by simp
        have hb9' : b9 < w9.heap.size := World.block_lt_of_cell? _ _ g9
        replace hb9 := hb9'
        clear hb9'
        go_wp2_with fail
        refine wp_region_held_drew (S := (fun w' : World => (w'.cell? ⟨bo, 0, none⟩ = some (.slice A3 n3 k3) ∧ w'.cell? ⟨bo, 1, none⟩ = some (.slice A4 n4 k4) ∧ w'.cell? ⟨bo, 2, none⟩ = some (.int .i64 q)) ∧ (w'.cell? ⟨bb, 0, none⟩ = some (.slice A1 n1 k1) ∧ w'.cell? ⟨bb, 1, none⟩ = some (.slice A2 n2 k2) ∧ w'.cell? ⟨bb, 2, none⟩ = some (.int .i64 q)) ∧ w'.cell? ⟨b9, o9 + k, none⟩ = some (.string s))) (by kernel_rfl) ⟨⟨((KO.out.to HOd.out).2 0 _ rfl).1, ((KO.out.to HOd.out).2 1 _ rfl).1, ((KO.out.to HOd.out).2 2 _ rfl).1⟩, ⟨((KB.out.to HWd.out).2 0 _ rfl).1, ((KB.out.to HWd.out).2 1 _ rfl).1, ((KB.out.to HWd.out).2 2 _ rfl).1⟩, (HQd.out.cell (p := ⟨b9, o9 + k, none⟩) hb9).trans g9⟩ (fun hS => ?_)
        refine wpAnyH_take (i := 0) (oi := ?oi101) (v := ?v101) ?hi101 (by kernel_rfl) ?hf101 ?hr101 ?hQ101 (Or.inl ⟨?hw101, ?hy101⟩) (by assumption) ?rest101
        case hi101 => simp only [List.getElem?_toArray, List.getElem?_cons_succ, List.getElem?_cons_zero]; rfl
        case hf101 => kernel_rfl
        case hr101 => kernel_rfl
        case hw101 => rfl
        case hy101 => (intro w hSw; (try dsimp only at hSw); go_simp; all_goals (first | done | with_reducible rfl))
        case hQ101 => exact fun _ _ _ h => h
        simp only [Act.put, List.setIfInBounds_toArray, List.set_cons_zero, List.set_cons_succ]
        refine wpAnyH_take (i := 1) (oi := ?oi102) (v := ?v102) ?hi102 (by kernel_rfl) ?hf102 ?hr102 ?hQ102 (Or.inl ⟨?hw102, ?hy102⟩) (by assumption) ?rest102
        case hi102 => simp only [List.getElem?_toArray, List.getElem?_cons_succ, List.getElem?_cons_zero]; rfl
        case hf102 => kernel_rfl
        case hr102 => kernel_rfl
        case hw102 => rfl
        case hy102 => (intro w hSw; (try dsimp only at hSw); go_simp; all_goals (first | done | with_reducible rfl))
        case hQ102 => exact fun _ _ _ h => h
        simp only [Act.put, List.setIfInBounds_toArray, List.set_cons_zero, List.set_cons_succ]
        refine wpAnyH_take (i := 2) (oi := ?oi103) (v := ?v103) ?hi103 (by kernel_rfl) ?hf103 ?hr103 ?hQ103 (Or.inl ⟨?hw103, ?hy103⟩) (by assumption) ?rest103
        case hi103 => simp only [List.getElem?_toArray, List.getElem?_cons_succ, List.getElem?_cons_zero]; rfl
        case hf103 => kernel_rfl
        case hr103 => kernel_rfl
        case hw103 => rfl
        case hy103 => (intro w hSw; (try dsimp only at hSw); go_simp; all_goals (first | done | with_reducible rfl))
        case hQ103 => exact fun _ _ _ h => h
        simp only [Act.put, List.setIfInBounds_toArray, List.set_cons_zero, List.set_cons_succ]
        refine wpAnyH_take (i := 3) (oi := ?oi104) (v := ?v104) ?hi104 (by kernel_rfl) ?hf104 ?hr104 ?hQ104 (Or.inl ⟨?hw104, ?hy104⟩) (by assumption) ?rest104
        case hi104 => simp only [List.getElem?_toArray, List.getElem?_cons_succ, List.getElem?_cons_zero]; rfl
        case hf104 => kernel_rfl
        case hr104 => kernel_rfl
        case hw104 => rfl
        case hy104 => (intro w hSw; (try dsimp only at hSw); go_simp; all_goals (first | done | with_reducible rfl))
        case hQ104 => exact fun _ _ _ h => h
        simp only [Act.put, List.setIfInBounds_toArray, List.set_cons_zero, List.set_cons_succ]
        refine wpAnyH_take (i := 4) (oi := ?oi105) (v := ?v105) ?hi105 (by kernel_rfl) ?hf105 ?hr105 ?hQ105 (Or.inl ⟨?hw105, ?hy105⟩) (by assumption) ?rest105
        case hi105 => simp only [List.getElem?_toArray, List.getElem?_cons_succ, List.getElem?_cons_zero]; rfl
        case hf105 => kernel_rfl
        case hr105 => kernel_rfl
        case hw105 => rfl
        case hy105 => (intro w hSw; (try dsimp only at hSw); go_simp; all_goals (first | done | with_reducible rfl))
        case hQ105 => exact fun _ _ _ h => h
        simp only [Act.put, List.setIfInBounds_toArray, List.set_cons_zero, List.set_cons_succ]
        refine wpAnyH_take (i := 6) (oi := ?oi106) (v := ?v106) ?hi106 (by kernel_rfl) ?hf106 ?hr106 ?hQ106 (Or.inl ⟨?hw106, ?hy106⟩) (by assumption) ?rest106
        case hi106 => simp only [List.getElem?_toArray, List.getElem?_cons_succ, List.getElem?_cons_zero]; rfl
        case hf106 => kernel_rfl
        case hr106 => kernel_rfl
        case hw106 => rfl
        case hy106 => (intro w hSw; (try dsimp only at hSw); go_simp; all_goals (first | done | with_reducible rfl))
        case hQ106 => exact fun _ _ _ h => h
        simp only [Act.put, List.setIfInBounds_toArray, List.set_cons_zero, List.set_cons_succ]
        refine wpAnyH_take (i := 7) (oi := ?oi107) (v := ?v107) ?hi107 (by kernel_rfl) ?hf107 ?hr107 ?hQ107 (Or.inl ⟨?hw107, ?hy107⟩) (by assumption) ?rest107
        case hi107 => simp only [List.getElem?_toArray, List.getElem?_cons_succ, List.getElem?_cons_zero]; rfl
        case hf107 => kernel_rfl
        case hr107 => kernel_rfl
        case hw107 => rfl
        case hy107 => (intro w hSw; (try dsimp only at hSw); go_simp; all_goals (first | done | with_reducible rfl))
        case hQ107 => exact fun _ _ _ h => h
        simp only [Act.put, List.setIfInBounds_toArray, List.set_cons_zero, List.set_cons_succ]
        refine wpAnyH_take (i := 8) (oi := ?oi108) (v := ?v108) ?hi108 (by kernel_rfl) ?hf108 ?hr108 ?hQ108 (Or.inl ⟨?hw108, ?hy108⟩) (by assumption) ?rest108
        case hi108 => simp only [List.getElem?_toArray, List.getElem?_cons_succ, List.getElem?_cons_zero]; rfl
        case hf108 => kernel_rfl
        case hr108 => kernel_rfl
        case hw108 => rfl
        case hy108 => (intro w hSw; (try dsimp only at hSw); go_simp; all_goals (first | done | with_reducible rfl))
        case hQ108 => exact fun _ _ _ h => h
        simp only [Act.put, List.setIfInBounds_toArray, List.set_cons_zero, List.set_cons_succ]
        refine wpAnyH_take (i := 9) (oi := ?oi109) (v := ?v109) ?hi109 (by kernel_rfl) ?hf109 ?hr109 ?hQ109 (Or.inl ⟨?hw109, ?hy109⟩) (by assumption) ?rest109
        case hi109 => simp only [List.getElem?_toArray, List.getElem?_cons_succ, List.getElem?_cons_zero]; rfl
        case hf109 => kernel_rfl
        case hr109 => kernel_rfl
        case hw109 => rfl
        case hy109 => (intro w hSw; (try dsimp only at hSw); go_simp; all_goals (first | done | with_reducible rfl))
        case hQ109 => exact fun _ _ _ h => h
        simp only [Act.put, List.setIfInBounds_toArray, List.set_cons_zero, List.set_cons_succ]
        refine wpAnyH_take (i := 10) (oi := ?oi110) (v := ?v110) ?hi110 (by kernel_rfl) ?hf110 ?hr110 ?hQ110 (Or.inl ⟨?hw110, ?hy110⟩) (by assumption) ?rest110
        case hi110 => simp only [List.getElem?_toArray, List.getElem?_cons_succ, List.getElem?_cons_zero]; rfl
        case hf110 => kernel_rfl
        case hr110 => kernel_rfl
        case hw110 => rfl
        case hy110 => (intro w hSw; (try dsimp only at hSw); go_simp; all_goals (first | done | with_reducible rfl))
        case hQ110 => exact fun _ _ _ h => h
        simp only [Act.put, List.setIfInBounds_toArray, List.set_cons_zero, List.set_cons_succ]
        refine wpAnyH_ready (rs := [5]) (by kernel_rfl) (by simp) ?_
        refine AllReadyH.cons (o := ?oi111) ?hi111 (fun K hK => ?step111) AllReadyH.nil
        case hi111 => simp only [List.getElem?_toArray, List.getElem?_cons_succ, List.getElem?_cons_zero]; rfl
        rw [if_pos (by rfl)]
        go_simp
        go_at_call 38
        refine (C1.out _ HOd.out).mono ?_
        rintro e w21 ⟨rfl, hb⟩
        have HW21 := hid (HWd.out.trans (hb.mono HWd.out.size))
        have HO21 := hid (HOd.out.trans (hb.mono HOd.out.size))
        have HQ21 := hid (HQd.out.trans (hb.mono HQd.out.size))
        clear hb
        refine hK.out _ _ ⟨⟨((KO.out.to HO21.out).2 0 _ rfl).1, ((KO.out.to HO21.out).2 1 _ rfl).1, ((KO.out.to HO21.out).2 2 _ rfl).1⟩, ⟨((KB.out.to HW21.out).2 0 _ rfl).1, ((KB.out.to HW21.out).2 1 _ rfl).1, ((KB.out.to HW21.out).2 2 _ rfl).1⟩, (HQ21.out.cell (p := ⟨b9, o9 + k, none⟩) hb9).trans g9⟩ (fun hS => ?_)
        refine wpAnyH_ready (rs := [11]) (by kernel_rfl) (by simp) ?_
        refine AllReadyH.cons (o := ?oi112) ?hi112 (fun K hK => ?step112) AllReadyH.nil
        case hi112 => simp only [List.getElem?_toArray, List.getElem?_cons_succ, List.getElem?_cons_zero]; rfl
        rw [if_pos (by rfl)]
        go_simp
        go_at_call 38
        refine (C2.out _ HW21.out).mono ?_
        rintro e w22 ⟨rfl, hb⟩
        have HW22 := hid (HW21.out.trans (hb.mono HW21.out.size))
        have HO22 := hid (HO21.out.trans (hb.mono HO21.out.size))
        have HQ22 := hid (HQ21.out.trans (hb.mono HQ21.out.size))
        clear hb
        refine hK.out _ _ ⟨⟨((KO.out.to HO22.out).2 0 _ rfl).1, ((KO.out.to HO22.out).2 1 _ rfl).1, ((KO.out.to HO22.out).2 2 _ rfl).1⟩, ⟨((KB.out.to HW22.out).2 0 _ rfl).1, ((KB.out.to HW22.out).2 1 _ rfl).1, ((KB.out.to HW22.out).2 2 _ rfl).1⟩, (HQ22.out.cell (p := ⟨b9, o9 + k, none⟩) hb9).trans g9⟩ (fun hS => ?_)
        refine wpAnyH_take (i := 12) (oi := ?oi113) (v := ?v113) ?hi113 (by kernel_rfl) ?hf113 ?hr113 ?hQ113 (Or.inl ⟨?hw113, ?hy113⟩) (by assumption) ?rest113
        case hi113 => simp only [List.getElem?_toArray, List.getElem?_cons_succ, List.getElem?_cons_zero]; rfl
        case hf113 => kernel_rfl
        case hr113 => kernel_rfl
        case hw113 => rfl
        case hy113 => (intro w hSw; (try dsimp only at hSw); go_simp; all_goals (first | done | with_reducible rfl))
        case hQ113 => exact fun _ _ _ h => h
        simp only [Act.put, List.setIfInBounds_toArray, List.set_cons_zero, List.set_cons_succ]
        refine wpAnyH_take (i := 13) (oi := ?oi114) (v := ?v114) ?hi114 (by kernel_rfl) ?hf114 ?hr114 ?hQ114 (Or.inl ⟨?hw114, ?hy114⟩) (by assumption) ?rest114
        case hi114 => simp only [List.getElem?_toArray, List.getElem?_cons_succ, List.getElem?_cons_zero]; rfl
        case hf114 => kernel_rfl
        case hr114 => kernel_rfl
        case hw114 => rfl
        case hy114 => (intro w hSw; (try dsimp only at hSw); go_simp; all_goals (first | done | with_reducible rfl))
        case hQ114 => exact fun _ _ _ h => h
        simp only [Act.put, List.setIfInBounds_toArray, List.set_cons_zero, List.set_cons_succ]
        refine wpAnyH_take (i := 14) (oi := ?oi115) (v := ?v115) ?hi115 (by kernel_rfl) ?hf115 ?hr115 ?hQ115 (Or.inl ⟨?hw115, ?hy115⟩) (by assumption) ?rest115
        case hi115 => simp only [List.getElem?_toArray, List.getElem?_cons_succ, List.getElem?_cons_zero]; rfl
        case hf115 => kernel_rfl
        case hr115 => kernel_rfl
        case hw115 => rfl
        case hy115 => (intro w hSw; (try dsimp only at hSw); go_simp; all_goals (first | done | with_reducible rfl))
        case hQ115 => exact fun _ _ _ h => h
        simp only [Act.put, List.setIfInBounds_toArray, List.set_cons_zero, List.set_cons_succ]
        refine wpAnyH_take (i := 15) (oi := ?oi116) (v := ?v116) ?hi116 (by kernel_rfl) ?hf116 ?hr116 ?hQ116 (Or.inl ⟨?hw116, ?hy116⟩) (by assumption) ?rest116
        case hi116 => simp only [List.getElem?_toArray, List.getElem?_cons_succ, List.getElem?_cons_zero]; rfl
        case hf116 => kernel_rfl
        case hr116 => kernel_rfl
        case hw116 => rfl
        case hy116 => (intro w hSw; (try dsimp only at hSw); go_simp; all_goals (first | done | with_reducible rfl))
        case hQ116 => exact fun _ _ _ h => h
        simp only [Act.put, List.setIfInBounds_toArray, List.set_cons_zero, List.set_cons_succ]
        refine wpAnyH_take (i := 16) (oi := ?oi117) (v := ?v117) ?hi117 (by kernel_rfl) ?hf117 ?hr117 ?hQ117 (Or.inl ⟨?hw117, ?hy117⟩) (by assumption) ?rest117
        case hi117 => simp only [List.getElem?_toArray, List.getElem?_cons_succ, List.getElem?_cons_zero]; rfl
        case hf117 => kernel_rfl
        case hr117 => kernel_rfl
        case hw117 => rfl
        case hy117 => (intro w hSw; (try dsimp only at hSw); go_simp; all_goals (first | done | with_reducible rfl))
        case hQ117 => exact fun _ _ _ h => h
        simp only [Act.put, List.setIfInBounds_toArray, List.set_cons_zero, List.set_cons_succ]
        refine wpAnyH_take (i := 17) (oi := ?oi118) (v := ?v118) ?hi118 (by kernel_rfl) ?hf118 ?hr118 ?hQ118 (Or.inl ⟨?hw118, ?hy118⟩) (by assumption) ?rest118
        case hi118 => simp only [List.getElem?_toArray, List.getElem?_cons_succ, List.getElem?_cons_zero]; rfl
        case hf118 => kernel_rfl
        case hr118 => kernel_rfl
        case hw118 => rfl
        case hy118 => (intro w hSw; (try dsimp only at hSw); go_simp; all_goals (first | done | with_reducible rfl))
        case hQ118 => exact fun _ _ _ h => h
        simp only [Act.put, List.setIfInBounds_toArray, List.set_cons_zero, List.set_cons_succ]
        refine wpAnyH_take (i := 18) (oi := ?oi119) (v := ?v119) ?hi119 (by kernel_rfl) ?hf119 ?hr119 ?hQ119 (Or.inl ⟨?hw119, ?hy119⟩) (by assumption) ?rest119
        case hi119 => simp only [List.getElem?_toArray, List.getElem?_cons_succ, List.getElem?_cons_zero]; rfl
        case hf119 => kernel_rfl
        case hr119 => kernel_rfl
        case hw119 => rfl
        case hy119 => (intro w hSw; (try dsimp only at hSw); go_simp; all_goals (first | done | with_reducible rfl))
        case hQ119 => exact fun _ _ _ h => h
        simp only [Act.put, List.setIfInBounds_toArray, List.set_cons_zero, List.set_cons_succ]
        refine wpAnyH_take (i := 20) (oi := ?oi120) (v := ?v120) ?hi120 (by kernel_rfl) ?hf120 ?hr120 ?hQ120 (Or.inl ⟨?hw120, ?hy120⟩) (by assumption) ?rest120
        case hi120 => simp only [List.getElem?_toArray, List.getElem?_cons_succ, List.getElem?_cons_zero]; rfl
        case hf120 => kernel_rfl
        case hr120 => kernel_rfl
        case hw120 => rfl
        case hy120 => (intro w hSw; (try dsimp only at hSw); go_simp; all_goals (first | done | with_reducible rfl))
        case hQ120 => exact fun _ _ _ h => h
        simp only [Act.put, List.setIfInBounds_toArray, List.set_cons_zero, List.set_cons_succ]
        refine wpAnyH_take (i := 21) (oi := ?oi121) (v := ?v121) ?hi121 (by kernel_rfl) ?hf121 ?hr121 ?hQ121 (Or.inl ⟨?hw121, ?hy121⟩) (by assumption) ?rest121
        case hi121 => simp only [List.getElem?_toArray, List.getElem?_cons_succ, List.getElem?_cons_zero]; rfl
        case hf121 => kernel_rfl
        case hr121 => kernel_rfl
        case hw121 => rfl
        case hy121 => (intro w hSw; (try dsimp only at hSw); go_simp; all_goals (first | done | with_reducible rfl))
        case hQ121 => exact fun _ _ _ h => h
        simp only [Act.put, List.setIfInBounds_toArray, List.set_cons_zero, List.set_cons_succ]
        refine wpAnyH_take (i := 22) (oi := ?oi122) (v := ?v122) ?hi122 (by kernel_rfl) ?hf122 ?hr122 ?hQ122 (Or.inl ⟨?hw122, ?hy122⟩) (by assumption) ?rest122
        case hi122 => simp only [List.getElem?_toArray, List.getElem?_cons_succ, List.getElem?_cons_zero]; rfl
        case hf122 => kernel_rfl
        case hr122 => kernel_rfl
        case hw122 => rfl
        case hy122 => (intro w hSw; (try dsimp only at hSw); go_simp; all_goals (first | done | with_reducible rfl))
        case hQ122 => exact fun _ _ _ h => h
        simp only [Act.put, List.setIfInBounds_toArray, List.set_cons_zero, List.set_cons_succ]
        refine wpAnyH_take (i := 23) (oi := ?oi123) (v := ?v123) ?hi123 (by kernel_rfl) ?hf123 ?hr123 ?hQ123 (Or.inl ⟨?hw123, ?hy123⟩) (by assumption) ?rest123
        case hi123 => simp only [List.getElem?_toArray, List.getElem?_cons_succ, List.getElem?_cons_zero]; rfl
        case hf123 => kernel_rfl
        case hr123 => kernel_rfl
        case hw123 => rfl
        case hy123 => (intro w hSw; (try dsimp only at hSw); go_simp; all_goals (first | done | with_reducible rfl))
        case hQ123 => exact fun _ _ _ h => h
        simp only [Act.put, List.setIfInBounds_toArray, List.set_cons_zero, List.set_cons_succ]
        refine wpAnyH_take (i := 24) (oi := ?oi124) (v := ?v124) ?hi124 (by kernel_rfl) ?hf124 ?hr124 ?hQ124 (Or.inl ⟨?hw124, ?hy124⟩) (by assumption) ?rest124
        case hi124 => simp only [List.getElem?_toArray, List.getElem?_cons_succ, List.getElem?_cons_zero]; rfl
        case hf124 => kernel_rfl
        case hr124 => kernel_rfl
        case hw124 => rfl
        case hy124 => (intro w hSw; (try dsimp only at hSw); go_simp; all_goals (first | done | with_reducible rfl))
        case hQ124 => exact fun _ _ _ h => h
        simp only [Act.put, List.setIfInBounds_toArray, List.set_cons_zero, List.set_cons_succ]
        refine wpAnyH_ready (rs := [19]) (by kernel_rfl) (by simp) ?_
        refine AllReadyH.cons (o := ?oi125) ?hi125 (fun K hK => ?step125) AllReadyH.nil
        case hi125 => simp only [List.getElem?_toArray, List.getElem?_cons_succ, List.getElem?_cons_zero]; rfl
        rw [if_pos (by rfl)]
        go_simp
        go_at_call 11
        refine (C3.out _ HO22.out).mono ?_
        rintro e w23 ⟨v23, rfl, ho23, hb⟩
        have HW23 := hid (HW22.out.trans (hb.mono HW22.out.size))
        have HO23 := hid (HO22.out.trans (hb.mono HO22.out.size))
        have HQ23 := hid (HQ22.out.trans (hb.mono HQ22.out.size))
        obtain ⟨A23, c23, rfl, _, _⟩ := (Sl.of_own ho23).form
        have O23 := hid (Sl.of_own ho23)
        clear ho23
        clear hb
        refine hK.out _ _ ⟨⟨((KO.out.to HO23.out).2 0 _ rfl).1, ((KO.out.to HO23.out).2 1 _ rfl).1, ((KO.out.to HO23.out).2 2 _ rfl).1⟩, ⟨((KB.out.to HW23.out).2 0 _ rfl).1, ((KB.out.to HW23.out).2 1 _ rfl).1, ((KB.out.to HW23.out).2 2 _ rfl).1⟩, (HQ23.out.cell (p := ⟨b9, o9 + k, none⟩) hb9).trans g9⟩ (fun hS => ?_)
        refine wpAnyH_ready (rs := [25]) (by kernel_rfl) (by simp) ?_
        refine AllReadyH.cons (o := ?oi126) ?hi126 (fun K hK => ?step126) AllReadyH.nil
        case hi126 => simp only [List.getElem?_toArray, List.getElem?_cons_succ, List.getElem?_cons_zero]; rfl
        rw [if_pos (by rfl)]
        go_simp
        go_at_call 11
        refine (C4.out _ HW23.out).mono ?_
        rintro e w24 ⟨v24, rfl, ho24, hb⟩
        have HW24 := hid (HW23.out.trans (hb.mono HW23.out.size))
        have HO24 := hid (HO23.out.trans (hb.mono HO23.out.size))
        have HQ24 := hid (HQ23.out.trans (hb.mono HQ23.out.size))
        obtain ⟨A24, c24, rfl, _, _⟩ := (Sl.of_own ho24).form
        have CQ := hid (equalSpots_c _ _ _ w24.heap.size SP w24 ((O23.out.below hb (Nat.le_refl _)).more hb.size) (Sl.of_own ho24) (Nat.le_refl _))
        clear ho24
        clear hb
        refine hK.out _ _ ⟨⟨((KO.out.to HO24.out).2 0 _ rfl).1, ((KO.out.to HO24.out).2 1 _ rfl).1, ((KO.out.to HO24.out).2 2 _ rfl).1⟩, ⟨((KB.out.to HW24.out).2 0 _ rfl).1, ((KB.out.to HW24.out).2 1 _ rfl).1, ((KB.out.to HW24.out).2 2 _ rfl).1⟩, (HQ24.out.cell (p := ⟨b9, o9 + k, none⟩) hb9).trans g9⟩ (fun hS => ?_)
        refine wpAnyH_ready (rs := [26]) (by kernel_rfl) (by simp) ?_
        refine AllReadyH.cons (o := ?oi127) ?hi127 (fun K hK => ?step127) AllReadyH.nil
        case hi127 => simp only [List.getElem?_toArray, List.getElem?_cons_succ, List.getElem?_cons_zero]; rfl
        rw [if_pos (by rfl)]
        go_simp
        go_at_call 23
        refine (CQ.out).mono ?_
        rintro e w25 ⟨rfl, hb⟩
        have HW25 := hid (HW24.out.trans (hb.mono HW24.out.size))
        have HO25 := hid (HO24.out.trans (hb.mono HO24.out.size))
        have HQ25 := hid (HQ24.out.trans (hb.mono HQ24.out.size))
        clear hb
        refine hK.out _ _ ⟨⟨((KO.out.to HO25.out).2 0 _ rfl).1, ((KO.out.to HO25.out).2 1 _ rfl).1, ((KO.out.to HO25.out).2 2 _ rfl).1⟩, ⟨((KB.out.to HW25.out).2 0 _ rfl).1, ((KB.out.to HW25.out).2 1 _ rfl).1, ((KB.out.to HW25.out).2 2 _ rfl).1⟩, (HQ25.out.cell (p := ⟨b9, o9 + k, none⟩) hb9).trans g9⟩ (fun hS => ?_)
        refine wpAnyH_take (i := 27) (oi := ?oi128) (v := ?v128) ?hi128 (by kernel_rfl) ?hf128 ?hr128 ?hQ128 (Or.inl ⟨?hw128, ?hy128⟩) (by assumption) ?rest128
        case hi128 => simp only [List.getElem?_toArray, List.getElem?_cons_succ, List.getElem?_cons_zero]; rfl
        case hf128 => kernel_rfl
        case hr128 => kernel_rfl
        case hw128 => rfl
        case hy128 => (intro w hSw; (try dsimp only at hSw); go_simp; all_goals (first | done | with_reducible rfl))
        case hQ128 => exact fun _ _ _ h => h
        simp only [Act.put, List.setIfInBounds_toArray, List.set_cons_zero, List.set_cons_succ]
        refine wpAnyH_take (i := 28) (oi := ?oi129) (v := ?v129) ?hi129 (by kernel_rfl) ?hf129 ?hr129 ?hQ129 (Or.inl ⟨?hw129, ?hy129⟩) (by assumption) ?rest129
        case hi129 => simp only [List.getElem?_toArray, List.getElem?_cons_succ, List.getElem?_cons_zero]; rfl
        case hf129 => kernel_rfl
        case hr129 => kernel_rfl
        case hw129 => rfl
        case hy129 => (intro w hSw; (try dsimp only at hSw); go_simp; all_goals (first | done | with_reducible rfl))
        case hQ129 => exact fun _ _ _ h => h
        simp only [Act.put, List.setIfInBounds_toArray, List.set_cons_zero, List.set_cons_succ]
        refine wpAnyH_done (by kernel_rfl) ?_ _
        clear hS
        go_wp2_with fail
        go_roundw
        case rel => exact ⟨k + 1, by go_num, by omega, HW25.out, HO25.out, HQ25.out⟩
        case measure => simp [intOf]; omega
      · have o0 := ((KO.out.to HOr.out).2 0 _ rfl).1
        have o1 := ((KO.out.to HOr.out).2 1 _ rfl).1
        have o2 := ((KO.out.to HOr.out).2 2 _ rfl).1
        go_wp2_with fail
        refine (CX.out _ HOr.out).mono ?_
        rintro e wx ⟨vx, rsx, rfl, hsx, hrx, hb⟩
        obtain ⟨A7, n7, k7, A8, n8, k8, rfl, -, -⟩ := hsx.form_ hrx
        have hbx8 : Below wx.heap.size wx (wx.alloc (.cells #[.slice A7 n7 k7, .slice A8 n8 k8, .int .i64 q] 32)) := (Below.refl _ _).alloc (Nat.le_refl _) _
        have TX := hid ((hsx.at_ hrx DX.out).below hbx8 (Nat.le_refl _))
        have HWx := hid (HWr.out.trans ((hb.trans (hbx8.mono hb.size)).mono HWr.out.size))
        have HOx := hid (HOr.out.trans ((hb.trans (hbx8.mono hb.size)).mono HOr.out.size))
        have KX := hid (Blk.new wx #[.slice A7 n7 k7, .slice A8 n8 k8, .int .i64 q] 32)
        have hl8 : wx.heap.size ≤ (wx.alloc (.cells #[.slice A7 n7 k7, .slice A8 n8 k8, .int .i64 q] 32)).heap.size := by simp
        clear o0 o1 o2 hsx hrx hb hbx8
        have o0 := ((KO.out.to HOx.out).2 0 _ rfl).1
        have o1 := ((KO.out.to HOx.out).2 1 _ rfl).1
        have o2 := ((KO.out.to HOx.out).2 2 _ rfl).1
        have x0 := (KX.out.2 0 _ rfl).1
        have x1 := (KX.out.2 1 _ rfl).1
        have x2 := (KX.out.2 2 _ rfl).1
        go_wp2_with fail
        refine (CL.out _ HOx.out).mono ?_
        rintro e wl ⟨rfl, hb⟩
        have HWl := hid (HWx.out.trans (hb.mono HWx.out.size))
        have HOl := hid (HOx.out.trans (hb.mono HOx.out.size))
        have KXl := hid (KX.out.to hb)
        have TXl := hid (TX.out.below hb hl8)
        have hll : wx.heap.size ≤ wl.heap.size := Nat.le_trans hl8 hb.size
        clear hb o0 o1 o2 x0 x1 x2
        have o0 := ((KO.out.to HOl.out).2 0 _ rfl).1
        have o1 := ((KO.out.to HOl.out).2 1 _ rfl).1
        have o2 := ((KO.out.to HOl.out).2 2 _ rfl).1
        have x0 := (KXl.out.2 0 _ rfl).1
        have x1 := (KXl.out.2 1 _ rfl).1
        have x2 := (KXl.out.2 2 _ rfl).1
        have CQ := hid (equalTree_c TXl.out (TN.out _ HOl.out).1 hll (TN.out _ HOl.out).2)
        go_wp2_with fail
        refine CQ.out.mono ?_
        rintro e wm ⟨rfl, hb⟩
        have HWm := hid (HWl.out.trans (hb.mono HWl.out.size))
        clear hb x0 x1 x2 o0 o1 o2
        go_wp2_with fail
        go_ret
        exact ⟨rfl, HB.out.trans (HWm.out.mono HB.out.size)⟩
end Go.Proofs.Ytpfnjkmkenaipaa
