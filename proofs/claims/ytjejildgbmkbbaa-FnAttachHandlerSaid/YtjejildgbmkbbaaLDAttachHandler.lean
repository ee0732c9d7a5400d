/-
  WALK: the law FnAttachHandler. By gen_t.py.
-/
import Derived.Test.YtjejildgbmkbbaaADM
import Derived.Test.YtjejildgbmkbbaaE23
import Derived.Test.YtjejildgbmkbbaaE13
import Derived.Test.YtjejildgbmkbbaaLookI
import Derived.Test.YtjejildgbmkbbaaSpotLaws
namespace Go.Proofs.Ytjejildgbmkbbaa
open Go.RowKit Nm
set_option linter.unusedSimpArgs false
set_option linter.unusedVariables false

theorem fit_none : dataFit [] [] := ⟨⟨by simp, by simp⟩, ⟨by simp, by simp⟩⟩
def isSp (s t : Name) (x : Spt) : Bool := decide (x.lg = s) && decide (x.hd = t)
theorem any_snoc {α : Type} {l : List α} {f : α → Bool} {j : Nat} {x : α} (h : l[j]? = some x) : (l.take (j + 1)).any f = ((l.take j).any f || f x) := by
  rw [take_snoc h, List.any_append]; simp

set_option maxHeartbeats 8000000 in
set_option maxRecDepth 100000 in
theorem walk_FnAttachHandler (a0 : Option Addr) (len0 cap0 : Nat) (z0 : List Int) (w : World) (w0 : IsRow .u8 w a0 len0 cap0 z0) :
    Calls Try.prog 3 #[.slice a0 len0 cap0] w (BoolPost w true) := by
  have hb0 := w0.leT
  by_cases h1 : (1048576 : Int) < (len0 : Int)
  · go_enter Try.func3, Try.ntmps3
    go_wp2_with fail
    go_ret
    exact ⟨rfl, Below.refl _ _⟩
  have DR := hid (drawAttachHandler_c a0 len0 cap0 z0 w w0)
  clear w0
  go_enter Try.func3, Try.ntmps3
  go_wp2_with fail
  refine DR.out.mono ?_
  rintro e w1 ⟨v, rs, L, H, q, nm, to, rfl, hs, hsm, hnm, hto, hr, hb⟩
  obtain ⟨A1, n1, k1, A2, n2, k2, rfl, hn1, hn2⟩ := hs.form_ hr
  have hd := sm_fit hsm (by omega)
  have TI0 := hs.at_ hr hd
  have hbx : Below w1.heap.size w1 (w1.alloc (.cells #[.slice A1 n1 k1, .slice A2 n2 k2, .int .i64 q] 26)) := (Below.refl _ _).alloc (Nat.le_refl _) _
  have TI := hid (TI0.below hbx (Nat.le_refl _))
  have KB := hid (Blk.new w1 #[.slice A1 n1 k1, .slice A2 n2 k2, .int .i64 q] 26)
  have HB := hid (hb.trans (hbx.mono hb.size))
  have hl1 : w1.heap.size < (w1.alloc (.cells #[.slice A1 n1 k1, .slice A2 n2 k2, .int .i64 q] 26)).heap.size := by simp
  have HL := hid (And.intro hn1 (And.intro hsm.1 hsm.2.1.1))
  replace hd := hid hd
  clear hs hr hb hn1 hn2 hsm TI0 hbx DR
  go_wp2_with fail
  generalize hbb : w1.heap.size = bb at *
  generalize w1.alloc (.cells #[.slice A1 n1 k1, .slice A2 n2 k2, .int .i64 q] 26) = w2 at *
  clear hbb
  have d0 := (KB.out.2 0 _ rfl).1
  have d1 := (KB.out.2 1 _ rfl).1
  have d2 := (KB.out.2 2 _ rfl).1
  have HW := hid (Below.refl w2.heap.size w2)
  have TT := hid (fun (W : World) (hW : Below w2.heap.size w2 W) => (And.intro (TI.out.below hW (Nat.le_of_lt hl1)) (Nat.le_trans (Nat.le_of_lt hl1) hW.size)))
  rcases att_cases L H q nm.data.toList to.data.toList with hX | ⟨kx, lx, hok, hlx, hnx, hth, hX⟩
  · clear hd
    have CI := hid (fun (W : World) (hW : Below w2.heap.size w2 W) => (show Calls Try.prog 5 #[.agg #[.slice A1 n1 k1, .slice A2 n2 k2, .int .i64 q], .string nm, .string to] W (fun e w' => ∃ v2 rs, e = .returned (.tuple #[v2, .bool false]) ∧ TreeS rs v2 ([]) [] 0 ∧ Rows w' W.heap.size rs ∧ Below W.heap.size W w') from by have h9 := implAttachHandler_c nm to (TT.out W hW).1 (TT.out W hW).2 (by unfold maxTxt; omega); rw [hX] at h9; exact h9))
    have CS := hid (fun (W : World) (hW : Below w2.heap.size w2 W) => (show Calls Try.prog 6 #[.agg #[.slice A1 n1 k1, .slice A2 n2 k2, .int .i64 q], .string nm, .string to] W (fun e w' => ∃ v2 rs, e = .returned (.tuple #[v2, .bool false]) ∧ TreeS rs v2 ([]) [] 0 ∧ Rows w' W.heap.size rs ∧ Below W.heap.size W w') from by have h9 := specAttachHandler_c nm to (TT.out W hW).1 (TT.out W hW).2 (by unfold maxTxt; omega); rw [hX] at h9; exact h9))
    go_wp2_with fail
    refine (CI.out _ HW.out).mono ?_
    rintro e w3 ⟨v3, rs3, rfl, hs3, hr3, hb⟩
    obtain ⟨A3, n3, k3, A4, n4, k4, rfl, -, -⟩ := hs3.form_ hr3
    have hbx3 : Below w3.heap.size w3 (w3.alloc (.cells #[.slice A3 n3 k3, .slice A4 n4 k4, .int .i64 0] 26)) := (Below.refl _ _).alloc (Nat.le_refl _) _
    have TO := hid ((hs3.at_ hr3 fit_none).below hbx3 (Nat.le_refl _))
    have KO := hid (Blk.new w3 #[.slice A3 n3 k3, .slice A4 n4 k4, .int .i64 0] 26)
    have HW4 := hid (HW.out.trans ((hb.trans (hbx3.mono hb.size)).mono HW.out.size))
    have hlo : w3.heap.size < (w3.alloc (.cells #[.slice A3 n3 k3, .slice A4 n4 k4, .int .i64 0] 26)).heap.size := by simp
    clear hs3 hr3 hb hbx3 d0 d1 d2
    obtain ⟨⟨d0, _⟩, ⟨d1, _⟩, ⟨d2, _⟩⟩ := (And.intro ((KB.out.to HW4.out).2 0 _ rfl) (And.intro ((KB.out.to HW4.out).2 1 _ rfl) ((KB.out.to HW4.out).2 2 _ rfl)))
    go_wp2_with fail
    generalize hbo : w3.heap.size = bo at *
    generalize w3.alloc (.cells #[.slice A3 n3 k3, .slice A4 n4 k4, .int .i64 0] 26) = w4 at *
    clear hbo
    refine (CS.out _ HW4.out).mono ?_
    rintro e w5 ⟨v5, rs5, rfl, hs5, hr5, hb⟩
    obtain ⟨A5, n5, k5, A6, n6, k6, rfl, -, -⟩ := hs5.form_ hr5
    have hbx5 : Below w5.heap.size w5 (w5.alloc (.cells #[.slice A5 n5 k5, .slice A6 n6 k6, .int .i64 0] 26)) := (Below.refl _ _).alloc (Nat.le_refl _) _
    have hb46 : Below w4.heap.size w4 (w5.alloc (.cells #[.slice A5 n5 k5, .slice A6 n6 k6, .int .i64 0] 26)) := hb.trans (hbx5.mono hb.size)
    have TW := hid ((hs5.at_ hr5 fit_none).below hbx5 (Nat.le_refl _))
    have KW := hid (Blk.new w5 #[.slice A5 n5 k5, .slice A6 n6 k6, .int .i64 0] 26)
    have HO6 := hid hb46
    have HW6 := hid (HW4.out.trans (hb46.mono HW4.out.size))
    have hlw : w5.heap.size < (w5.alloc (.cells #[.slice A5 n5 k5, .slice A6 n6 k6, .int .i64 0] 26)).heap.size := by simp
    clear hs5 hr5 hb hbx5 hb46 d0 d1 d2
    have o0 := ((KO.out.to HO6.out).2 0 _ rfl).1
    have o1 := ((KO.out.to HO6.out).2 1 _ rfl).1
    have o2 := ((KO.out.to HO6.out).2 2 _ rfl).1
    have p0 := (KW.out.2 0 _ rfl).1
    have p1 := (KW.out.2 1 _ rfl).1
    have p2 := (KW.out.2 2 _ rfl).1
    go_wp2_with fail
    generalize hbw : w5.heap.size = bw at *
    generalize w5.alloc (.cells #[.slice A5 n5 k5, .slice A6 n6 k6, .int .i64 0] 26) = w6 at *
    clear hbw
    have CE := hid (fun (W : World) (hW : Below w6.heap.size w6 W) => equalTree_c (TO.out.below (HO6.out.trans (hW.mono HO6.out.size)) (Nat.le_of_lt hlo)) (TW.out.below hW (Nat.le_of_lt hlw)) (Nat.le_trans (Nat.le_of_lt hlo) (Nat.le_trans HO6.out.size hW.size)) (Nat.le_trans (Nat.le_of_lt hlw) hW.size))
    refine (CE.out _ (Below.refl _ _)).mono ?_
    rintro e w7 ⟨rfl, hb⟩
    have HE7 := hid hb
    have HO7 := hid (HO6.out.trans (hb.mono HO6.out.size))
    have HW7 := hid (HW6.out.trans (hb.mono HW6.out.size))
    clear hb o0 o1 o2 p0 p1 p2
    have o0 := ((KO.out.to HO7.out).2 0 _ rfl).1
    have o1 := ((KO.out.to HO7.out).2 1 _ rfl).1
    have o2 := ((KO.out.to HO7.out).2 2 _ rfl).1
    have p0 := ((KW.out.to HE7.out).2 0 _ rfl).1
    have p1 := ((KW.out.to HE7.out).2 1 _ rfl).1
    have p2 := ((KW.out.to HE7.out).2 2 _ rfl).1
    go_wp2_with fail
    refine (CE.out _ HE7.out).mono ?_
    rintro e w8 ⟨rfl, hb⟩
    have HW8 := hid (HW7.out.trans (hb.mono HW7.out.size))
    clear hb o0 o1 o2 p0 p1 p2
    go_wp2_with fail
    go_ret
    exact ⟨rfl, HB.out.trans (HW8.out.mono HB.out.size)⟩
  · have DX : dataFit (updL L kx (addHL to.data.toList)) H := by have h9 := att_fit L H q nm.data.toList (addHL to.data.toList); rw [hX] at h9; exact h9
    replace DX := hid DX
    have CI := hid (fun (W : World) (hW : Below w2.heap.size w2 W) => (show Calls Try.prog 5 #[.agg #[.slice A1 n1 k1, .slice A2 n2 k2, .int .i64 q], .string nm, .string to] W (fun e w' => ∃ v2 rs, e = .returned (.tuple #[v2, .bool true]) ∧ TreeS rs v2 ((updL L kx (addHL to.data.toList))) H q ∧ Rows w' W.heap.size rs ∧ Below W.heap.size W w') from by have h9 := implAttachHandler_c nm to (TT.out W hW).1 (TT.out W hW).2 (by unfold maxTxt; omega); rw [hX] at h9; exact h9))
    have CS := hid (fun (W : World) (hW : Below w2.heap.size w2 W) => (show Calls Try.prog 6 #[.agg #[.slice A1 n1 k1, .slice A2 n2 k2, .int .i64 q], .string nm, .string to] W (fun e w' => ∃ v2 rs, e = .returned (.tuple #[v2, .bool true]) ∧ TreeS rs v2 ((updL L kx (addHL to.data.toList))) H q ∧ Rows w' W.heap.size rs ∧ Below W.heap.size W w') from by have h9 := specAttachHandler_c nm to (TT.out W hW).1 (TT.out W hW).2 (by unfold maxTxt; omega); rw [hX] at h9; exact h9))
    go_wp2_with fail
    refine (CI.out _ HW.out).mono ?_
    rintro e w3 ⟨v3, rs3, rfl, hs3, hr3, hb⟩
    obtain ⟨A3, n3, k3, A4, n4, k4, rfl, -, -⟩ := hs3.form_ hr3
    have hbx3 : Below w3.heap.size w3 (w3.alloc (.cells #[.slice A3 n3 k3, .slice A4 n4 k4, .int .i64 q] 26)) := (Below.refl _ _).alloc (Nat.le_refl _) _
    have TO := hid ((hs3.at_ hr3 DX.out).below hbx3 (Nat.le_refl _))
    have KO := hid (Blk.new w3 #[.slice A3 n3 k3, .slice A4 n4 k4, .int .i64 q] 26)
    have HW4 := hid (HW.out.trans ((hb.trans (hbx3.mono hb.size)).mono HW.out.size))
    have hlo : w3.heap.size < (w3.alloc (.cells #[.slice A3 n3 k3, .slice A4 n4 k4, .int .i64 q] 26)).heap.size := by simp
    clear hs3 hr3 hb hbx3 d0 d1 d2
    obtain ⟨⟨d0, _⟩, ⟨d1, _⟩, ⟨d2, _⟩⟩ := (And.intro ((KB.out.to HW4.out).2 0 _ rfl) (And.intro ((KB.out.to HW4.out).2 1 _ rfl) ((KB.out.to HW4.out).2 2 _ rfl)))
    go_wp2_with fail
    generalize hbo : w3.heap.size = bo at *
    generalize w3.alloc (.cells #[.slice A3 n3 k3, .slice A4 n4 k4, .int .i64 q] 26) = w4 at *
    clear hbo
    refine (CS.out _ HW4.out).mono ?_
    rintro e w5 ⟨v5, rs5, rfl, hs5, hr5, hb⟩
    obtain ⟨A5, n5, k5, A6, n6, k6, rfl, -, -⟩ := hs5.form_ hr5
    have hbx5 : Below w5.heap.size w5 (w5.alloc (.cells #[.slice A5 n5 k5, .slice A6 n6 k6, .int .i64 q] 26)) := (Below.refl _ _).alloc (Nat.le_refl _) _
    have hb46 : Below w4.heap.size w4 (w5.alloc (.cells #[.slice A5 n5 k5, .slice A6 n6 k6, .int .i64 q] 26)) := hb.trans (hbx5.mono hb.size)
    have TW := hid ((hs5.at_ hr5 DX.out).below hbx5 (Nat.le_refl _))
    have KW := hid (Blk.new w5 #[.slice A5 n5 k5, .slice A6 n6 k6, .int .i64 q] 26)
    have HO6 := hid hb46
    have HW6 := hid (HW4.out.trans (hb46.mono HW4.out.size))
    have hlw : w5.heap.size < (w5.alloc (.cells #[.slice A5 n5 k5, .slice A6 n6 k6, .int .i64 q] 26)).heap.size := by simp
    clear hs5 hr5 hb hbx5 hb46 d0 d1 d2
    have o0 := ((KO.out.to HO6.out).2 0 _ rfl).1
    have o1 := ((KO.out.to HO6.out).2 1 _ rfl).1
    have o2 := ((KO.out.to HO6.out).2 2 _ rfl).1
    have p0 := (KW.out.2 0 _ rfl).1
    have p1 := (KW.out.2 1 _ rfl).1
    have p2 := (KW.out.2 2 _ rfl).1
    go_wp2_with fail
    generalize hbw : w5.heap.size = bw at *
    generalize w5.alloc (.cells #[.slice A5 n5 k5, .slice A6 n6 k6, .int .i64 q] 26) = w6 at *
    clear hbw
    have CE := hid (fun (W : World) (hW : Below w6.heap.size w6 W) => equalTree_c (TO.out.below (HO6.out.trans (hW.mono HO6.out.size)) (Nat.le_of_lt hlo)) (TW.out.below hW (Nat.le_of_lt hlw)) (Nat.le_trans (Nat.le_of_lt hlo) (Nat.le_trans HO6.out.size hW.size)) (Nat.le_trans (Nat.le_of_lt hlw) hW.size))
    refine (CE.out _ (Below.refl _ _)).mono ?_
    rintro e w7 ⟨rfl, hb⟩
    have HE7 := hid hb
    have HO7 := hid (HO6.out.trans (hb.mono HO6.out.size))
    have HW7 := hid (HW6.out.trans (hb.mono HW6.out.size))
    clear hb o0 o1 o2 p0 p1 p2
    have TN := hid (fun (W : World) (hO : Below w4.heap.size w4 W) => (And.intro (TO.out.below hO (Nat.le_of_lt hlo)) (Nat.le_trans (Nat.le_of_lt hlo) hO.size)))
    obtain ⟨hok2, hmem, hdet, hold, hnew, hus⟩ := att_facts hok hlx hnx hth
    have DY : dataFit (updL (updL L kx (addHL to.data.toList)) kx (woL to.data.toList)) H := by have h9 := det_res_fit (updL L kx (addHL to.data.toList)) H q nm.data.toList to.data.toList; rw [hdet] at h9; exact h9
    have CS1 := hid (fun (W : World) (hO : Below w4.heap.size w4 W) => implSpotsOf_c nm (TN.out W hO).1 (TN.out W hO).2 (by unfold maxLen; omega))
    have CD := hid (fun (W : World) (hO : Below w4.heap.size w4 W) => (show Calls Try.prog 9 #[.agg #[.slice A3 n3 k3, .slice A4 n4 k4, .int .i64 q], .string nm, .string to] W (fun e w' => ∃ v2 rs, e = .returned (.tuple #[v2, .bool true]) ∧ TreeS rs v2 ((updL (updL L kx (addHL to.data.toList)) kx (woL to.data.toList))) H q ∧ Rows w' W.heap.size rs ∧ Below W.heap.size W w') from by have h9 := implDetachHandler_c nm to (TN.out W hO).1 (TN.out W hO).2; rw [hdet] at h9; exact h9))
    have CU2 := hid (fun (W : World) (hW : Below w2.heap.size w2 W) => implUsersOf_c to (TT.out W hW).1 (TT.out W hW).2)
    replace DY := hid DY
    have HOLD := hid hold
    have HNEW := hid hnew
    have HUS := hid hus
    have hs30 := spotsT_len (updL L kx (addHL to.data.toList)) H q nm.data.toList
    generalize spotsT (updL L kx (addHL to.data.toList)) H q nm.data.toList = SP at *
    generalize usersT L H q to.data.toList = US at *
    generalize (updL (updL L kx (addHL to.data.toList)) kx (woL to.data.toList)) = Lb at *
    generalize (updL L kx (addHL to.data.toList)) = La at *
    have HMEM := hid hmem
    generalize hmS : SP.length = m at *
    have HM := hid hmS
    have o0 := ((KO.out.to HO7.out).2 0 _ rfl).1
    have o1 := ((KO.out.to HO7.out).2 1 _ rfl).1
    have o2 := ((KO.out.to HO7.out).2 2 _ rfl).1
    clear hX hok hlx hnx hth hok2 hmem hdet hold hnew hus hmS
    go_wp2_with fail
    refine (CS1.out _ HO7.out).mono ?_
    rintro e w8 ⟨v8, rfl, ho8, hb⟩
    obtain ⟨A8, c8, rfl, _, hm8⟩ := (Sl.of_own ho8).form
    have HW8 := hid (HW7.out.trans (hb.mono HW7.out.size))
    have HO8 := hid (HO7.out.trans (hb.mono HO7.out.size))
    have O8 := hid (Sl.of_own ho8)
    clear ho8 hb o0 o1 o2
    go_wp2_with fail
    go_loopw [10, 12] (fun mv jv wr => ∃ (j : Nat) (bm : Bool), jv = .int .i64 j ∧ mv = .bool bm ∧ j ≤ m ∧ Hid (bm = (SP.take j).any (isSp nm.data.toList to.data.toList)) ∧ Hid (Below w2.heap.size w2 wr) ∧ Hid (Below w4.heap.size w4 wr) ∧ Hid (Below w8.heap.size w8 wr)) (fun _ jv _ => m - (intOf jv).toNat)
    case atStart => exact ⟨0, false, rfl, rfl, Nat.zero_le _, rfl, HW8.out, HO8.out, Below.refl _ _⟩
    case round =>
      obtain ⟨j, bm, rfl, rfl, hj, HBm, HWr, HOr, HQr⟩ := hrel
      by_cases hjm : j < m
      · obtain ⟨b, o, x, rfl, hbB, hx, hc⟩ := Sl.elem spcells_len (O8.out.below HQr.out (Nat.le_refl _)) (by omega) hjm
        have HX := hid hx
        cases bm with
        | true =>
          have HK := hid (show true = (SP.take (j + 1)).any (isSp nm.data.toList to.data.toList) by rw [any_snoc HX.out, ← HBm.out]; rfl)
          clear hx hc
          go_wp2_with fail
          go_roundw
          case rel => exact ⟨j + 1, true, by go_num, rfl, by omega, HK.out, HWr.out, HOr.out, HQr.out⟩
          case measure => simp [intOf]; omega
        | false =>
          obtain ⟨a1, ha1, ha1'⟩ := txt_mk x.lg
          obtain ⟨a2, ha2, ha2'⟩ := txt_mk x.hd
          have c0 : wr.cell? ⟨b, o + j * 2, none⟩ = some (.string a1) := hc 0 _ (by unfold spcells; rw [ha1]; rfl)
          have c1 : wr.cell? ⟨b, o + j * 2 + 1, none⟩ = some (.string a2) := hc 1 _ (by unfold spcells; rw [ha2]; rfl)
          have s0 : (0 : Int) ≤ (j : Int) := by omega
          have s1 : (j : Int) < (m : Int) := by omega
          have s2 : ((j : Int)).toNat = j := by simp
          have HK := hid (show ((decide (a1.data.toList = nm.data.toList)) && (decide (a2.data.toList = to.data.toList))) = (SP.take (j + 1)).any (isSp nm.data.toList to.data.toList) by rw [any_snoc HX.out, ← HBm.out, ha1', ha2']; rfl)
          clear hx hc ha1 ha2 ha1' ha2'
          by_cases he : a1.data.toList = nm.data.toList
          · have e1 := eq_true_of he
            rw [decide_eq_true he] at HK
            clear he
            by_cases hf : a2.data.toList = to.data.toList
            · have e2 := eq_true_of hf
              rw [decide_eq_true hf] at HK
              clear hf
              go_wp2_with fail
              go_roundw
              case rel => exact ⟨j + 1, true, by go_num, rfl, by omega, HK.out, HWr.out, HOr.out, HQr.out⟩
              case measure => simp [intOf]; omega
            · have e2 := eq_false_of hf
              rw [decide_eq_false hf] at HK
              clear hf
              go_wp2_with fail
              go_roundw
              case rel => exact ⟨j + 1, false, by go_num, rfl, by omega, HK.out, HWr.out, HOr.out, HQr.out⟩
              case measure => simp [intOf]; omega
          · have e1 := eq_false_of he
            rw [decide_eq_false he] at HK
            clear he
            go_wp2_with fail
            go_roundw
            case rel => exact ⟨j + 1, false, by go_num, rfl, by omega, HK.out, HWr.out, HOr.out, HQr.out⟩
            case measure => simp [intOf]; omega
      · obtain rfl : j = m := by omega
        have hbt : bm = true := by
          rw [HBm.out, List.take_of_length_le (by rw [HM.out]; exact Nat.le_refl _), List.any_eq_true]
          exact ⟨_, HMEM.out, by simp [isSp]⟩
        subst hbt
        have o0 := ((KO.out.to HOr.out).2 0 _ rfl).1
        have o1 := ((KO.out.to HOr.out).2 1 _ rfl).1
        have o2 := ((KO.out.to HOr.out).2 2 _ rfl).1
        go_wp2_with fail
        refine (CD.out _ HOr.out).mono ?_
        rintro e wx ⟨vx, rsx, rfl, hsx, hrx, hb⟩
        obtain ⟨A7, n7, k7, A8x, n8, k8, rfl, -, -⟩ := hsx.form_ hrx
        have hbx8 : Below wx.heap.size wx (wx.alloc (.cells #[.slice A7 n7 k7, .slice A8x n8 k8, .int .i64 q] 26)) := (Below.refl _ _).alloc (Nat.le_refl _) _
        have TX := hid ((hsx.at_ hrx DY.out).below hbx8 (Nat.le_refl _))
        have HWx := hid (HWr.out.trans ((hb.trans (hbx8.mono hb.size)).mono HWr.out.size))
        have HOx := hid (HOr.out.trans ((hb.trans (hbx8.mono hb.size)).mono HOr.out.size))
        have KX := hid (Blk.new wx #[.slice A7 n7 k7, .slice A8x n8 k8, .int .i64 q] 26)
        have hl8 : wx.heap.size ≤ (wx.alloc (.cells #[.slice A7 n7 k7, .slice A8x n8 k8, .int .i64 q] 26)).heap.size := by simp
        clear o0 o1 o2 hsx hrx hb hbx8
        have d0 := ((KB.out.to HWx.out).2 0 _ rfl).1
        have d1 := ((KB.out.to HWx.out).2 1 _ rfl).1
        have d2 := ((KB.out.to HWx.out).2 2 _ rfl).1
        go_wp2_with fail
        refine (CU2.out _ HWx.out).mono ?_
        rintro e wu ⟨vu, rfl, hou, hb⟩
        have CH := hid (lawHasText_c vu _ wu.heap.size US nm wu (Sl.of_own hou))
        obtain ⟨Au, cu, rfl, _, hmu⟩ := (Sl.of_own hou).form
        have HWu := hid (HWx.out.trans (hb.mono HWx.out.size))
        have HOu := hid (HOx.out.trans (hb.mono HOx.out.size))
        have KXu := hid (KX.out.to hb)
        have TXu := hid (TX.out.below hb hl8)
        have hlu : wx.heap.size ≤ wu.heap.size := Nat.le_trans hl8 hb.size
        clear hou hb d0 d1 d2
        have d0 := ((KB.out.to HWu.out).2 0 _ rfl).1
        have d1 := ((KB.out.to HWu.out).2 1 _ rfl).1
        have d2 := ((KB.out.to HWu.out).2 2 _ rfl).1
        by_cases hm9 : to.data.toList ∈ lx.hs
        · obtain rfl := HOLD.out hm9
          have hu9 : decide (nm.data.toList ∈ US) = true := by rw [HUS.out]; exact decide_eq_true hm9
          rw [hu9] at CH
          have CQ := hid (equalTree_c (TN.out _ HOu.out).1 (TT.out _ HWu.out).1 (TN.out _ HOu.out).2 (TT.out _ HWu.out).2)
          have o0 := ((KO.out.to HOu.out).2 0 _ rfl).1
          have o1 := ((KO.out.to HOu.out).2 1 _ rfl).1
          have o2 := ((KO.out.to HOu.out).2 2 _ rfl).1
          clear hm9 hu9
          go_wp2_with fail
          refine (CH.out).mono ?_
          rintro e wv ⟨rfl, hwv⟩
          subst hwv
          go_wp2_with fail
          refine (CQ.out).mono ?_
          rintro e wz ⟨rfl, hb⟩
          have HWz := hid (HWu.out.trans (hb.mono HWu.out.size))
          clear hb o0 o1 o2 d0 d1 d2
          go_wp2_with fail
          go_ret
          exact ⟨rfl, HB.out.trans (HWz.out.mono HB.out.size)⟩
        · obtain rfl := HNEW.out hm9
          have hu9 : decide (nm.data.toList ∈ US) = false := by rw [HUS.out]; exact decide_eq_false hm9
          rw [hu9] at CH
          have CQ := hid (equalTree_c TXu.out (TT.out _ HWu.out).1 hlu (TT.out _ HWu.out).2)
          have x0 := (KXu.out.2 0 _ rfl).1
          have x1 := (KXu.out.2 1 _ rfl).1
          have x2 := (KXu.out.2 2 _ rfl).1
          clear hm9 hu9
          go_wp2_with fail
          refine (CH.out).mono ?_
          rintro e wv ⟨rfl, hwv⟩
          subst hwv
          go_wp2_with fail
          refine (CQ.out).mono ?_
          rintro e wz ⟨rfl, hb⟩
          have HWz := hid (HWu.out.trans (hb.mono HWu.out.size))
          clear hb x0 x1 x2 d0 d1 d2
          go_wp2_with fail
          go_ret
          exact ⟨rfl, HB.out.trans (HWz.out.mono HB.out.size)⟩
end Go.Proofs.Ytjejildgbmkbbaa
