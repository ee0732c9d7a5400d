/-
  WALK: the law FnSetOff. By gen_t.py.
-/
import Derived.Test.YtcgcbgbmofooiaaE14
import Derived.Test.YtcgcbgbmofooiaaE15
import Derived.Test.YtcgcbgbmofooiaaE7
import Derived.Test.YtcgcbgbmofooiaaC9
import Derived.Test.YtcgcbgbmofooiaaLookI
namespace Go.Proofs.Ytcgcbgbmofooiaa
open Go.RowKit Nm
set_option linter.unusedSimpArgs false
set_option linter.unusedVariables false

theorem fit_none : dataFit [] [] := ⟨⟨by simp, by simp⟩, ⟨by simp, by simp⟩⟩

set_option maxHeartbeats 8000000 in
set_option maxRecDepth 100000 in
theorem walk_FnSetOff (a0 : Option Addr) (len0 cap0 : Nat) (z0 : List Int) (w : World) (w0 : IsRow .u8 w a0 len0 cap0 z0) :
    Calls Try.prog 5 #[.slice a0 len0 cap0] w (BoolPost w true) := by
  have hb0 := w0.leT
  by_cases h1 : (1048576 : Int) < (len0 : Int)
  · go_enter Try.func5, Try.ntmps5
    go_wp2_with fail
    go_ret
    exact ⟨rfl, Below.refl _ _⟩
  have DR := hid (drawSetOff_c a0 len0 cap0 z0 w w0)
  clear w0
  go_enter Try.func5, Try.ntmps5
  go_wp2_with fail
  refine DR.out.mono ?_
  rintro e w1 ⟨v, rs, L, H, q, nm, bf, rfl, hs, hsm, hnm, hr, hb⟩
  obtain ⟨A1, n1, k1, A2, n2, k2, rfl, hn1, hn2⟩ := hs.form_ hr
  have hd := sm_fit hsm (by omega)
  have TI0 := hs.at_ hr hd
  have hbx : Below w1.heap.size w1 (w1.alloc (.cells #[.slice A1 n1 k1, .slice A2 n2 k2, .int .i64 q] 26)) := (Below.refl _ _).alloc (Nat.le_refl _) _
  have TI := hid (TI0.below hbx (Nat.le_refl _))
  have KB := hid (Blk.new w1 #[.slice A1 n1 k1, .slice A2 n2 k2, .int .i64 q] 26)
  have HB := hid (hb.trans (hbx.mono hb.size))
  have hl1 : w1.heap.size < (w1.alloc (.cells #[.slice A1 n1 k1, .slice A2 n2 k2, .int .i64 q] 26)).heap.size := by simp
  have HL := hid (And.intro hn1 (And.intro hsm.1 hsm.2.1.1))
  replace hd := hid hd
  clear hs hr hb hn1 hn2 hsm TI0 hbx DR
  go_wp2_with fail
  generalize hbb : w1.heap.size = bb at *
  generalize w1.alloc (.cells #[.slice A1 n1 k1, .slice A2 n2 k2, .int .i64 q] 26) = w2 at *
  clear hbb
  have d0 := (KB.out.2 0 _ rfl).1
  have d1 := (KB.out.2 1 _ rfl).1
  have d2 := (KB.out.2 2 _ rfl).1
  have HW := hid (Below.refl w2.heap.size w2)
  have TT := hid (fun (W : World) (hW : Below w2.heap.size w2 W) => (And.intro (TI.out.below hW (Nat.le_of_lt hl1)) (Nat.le_trans (Nat.le_of_lt hl1) hW.size)))
  have hn8 : n1 ≤ 8 := by rw [HL.out.1]; exact HL.out.2.2
  rcases off_cases L H q nm.data.toList bf with hX | ⟨kx, lx, hlx, hnx, hok, hX, hXb⟩
  · clear hd
    have CI := hid (fun (W : World) (hW : Below w2.heap.size w2 W) => (show Calls Try.prog 25 #[.agg #[.slice A1 n1 k1, .slice A2 n2 k2, .int .i64 q], .string nm, .bool bf] W (fun e w' => ∃ v2 rs, e = .returned (.tuple #[v2, .bool false]) ∧ TreeS rs v2 ([]) [] 0 ∧ Rows w' W.heap.size rs ∧ Below W.heap.size W w') from by have h9 := implSetOff_c nm bf (TT.out W hW).1 (TT.out W hW).2; rw [hX] at h9; exact h9))
    have CS := hid (fun (W : World) (hW : Below w2.heap.size w2 W) => (show Calls Try.prog 26 #[.agg #[.slice A1 n1 k1, .slice A2 n2 k2, .int .i64 q], .string nm, .bool bf] W (fun e w' => ∃ v2 rs, e = .returned (.tuple #[v2, .bool false]) ∧ TreeS rs v2 ([]) [] 0 ∧ Rows w' W.heap.size rs ∧ Below W.heap.size W w') from by have h9 := specSetOff_c nm bf (TT.out W hW).1 (TT.out W hW).2; rw [hX] at h9; exact h9))
    go_wp2_with fail
    refine (CI.out _ HW.out).mono ?_
    rintro e w3 ⟨v3, rs3, rfl, hs3, hr3, hb⟩
    obtain ⟨A3, n3, k3, A4, n4, k4, rfl, -, -⟩ := hs3.form_ hr3
    have hbx3 : Below w3.heap.size w3 (w3.alloc (.cells #[.slice A3 n3 k3, .slice A4 n4 k4, .int .i64 0] 26)) := (Below.refl _ _).alloc (Nat.le_refl _) _
    have TO := hid ((hs3.at_ hr3 fit_none).below hbx3 (Nat.le_refl _))
    have KO := hid (Blk.new w3 #[.slice A3 n3 k3, .slice A4 n4 k4, .int .i64 0] 26)
    have HW4 := hid (HW.out.trans ((hb.trans (hbx3.mono hb.size)).mono HW.out.size))
    have hlo : w3.heap.size < (w3.alloc (.cells #[.slice A3 n3 k3, .slice A4 n4 k4, .int .i64 0] 26)).heap.size := by simp
    clear hs3 hr3 hb hbx3 d0 d1 d2
    obtain ⟨⟨d0, _⟩, ⟨d1, _⟩, ⟨d2, _⟩⟩ := (And.intro ((KB.out.to HW4.out).2 0 _ rfl) (And.intro ((KB.out.to HW4.out).2 1 _ rfl) ((KB.out.to HW4.out).2 2 _ rfl)))
    go_wp2_with fail
    generalize hbo : w3.heap.size = bo at *
    generalize w3.alloc (.cells #[.slice A3 n3 k3, .slice A4 n4 k4, .int .i64 0] 26) = w4 at *
    clear hbo
    refine (CS.out _ HW4.out).mono ?_
    rintro e w5 ⟨v5, rs5, rfl, hs5, hr5, hb⟩
    obtain ⟨A5, n5, k5, A6, n6, k6, rfl, -, -⟩ := hs5.form_ hr5
    have hbx5 : Below w5.heap.size w5 (w5.alloc (.cells #[.slice A5 n5 k5, .slice A6 n6 k6, .int .i64 0] 26)) := (Below.refl _ _).alloc (Nat.le_refl _) _
    have hb46 : Below w4.heap.size w4 (w5.alloc (.cells #[.slice A5 n5 k5, .slice A6 n6 k6, .int .i64 0] 26)) := hb.trans (hbx5.mono hb.size)
    have TW := hid ((hs5.at_ hr5 fit_none).below hbx5 (Nat.le_refl _))
    have KW := hid (Blk.new w5 #[.slice A5 n5 k5, .slice A6 n6 k6, .int .i64 0] 26)
    have HO6 := hid hb46
    have HW6 := hid (HW4.out.trans (hb46.mono HW4.out.size))
    have hlw : w5.heap.size < (w5.alloc (.cells #[.slice A5 n5 k5, .slice A6 n6 k6, .int .i64 0] 26)).heap.size := by simp
    clear hs5 hr5 hb hbx5 hb46 d0 d1 d2
    have o0 := ((KO.out.to HO6.out).2 0 _ rfl).1
    have o1 := ((KO.out.to HO6.out).2 1 _ rfl).1
    have o2 := ((KO.out.to HO6.out).2 2 _ rfl).1
    have p0 := (KW.out.2 0 _ rfl).1
    have p1 := (KW.out.2 1 _ rfl).1
    have p2 := (KW.out.2 2 _ rfl).1
    go_wp2_with fail
    generalize hbw : w5.heap.size = bw at *
    generalize w5.alloc (.cells #[.slice A5 n5 k5, .slice A6 n6 k6, .int .i64 0] 26) = w6 at *
    clear hbw
    have CE := hid (fun (W : World) (hW : Below w6.heap.size w6 W) => equalTree_c (TO.out.below (HO6.out.trans (hW.mono HO6.out.size)) (Nat.le_of_lt hlo)) (TW.out.below hW (Nat.le_of_lt hlw)) (Nat.le_trans (Nat.le_of_lt hlo) (Nat.le_trans HO6.out.size hW.size)) (Nat.le_trans (Nat.le_of_lt hlw) hW.size))
    refine (CE.out _ (Below.refl _ _)).mono ?_
    rintro e w7 ⟨rfl, hb⟩
    have HE7 := hid hb
    have HO7 := hid (HO6.out.trans (hb.mono HO6.out.size))
    have HW7 := hid (HW6.out.trans (hb.mono HW6.out.size))
    clear hb o0 o1 o2 p0 p1 p2
    have o0 := ((KO.out.to HO7.out).2 0 _ rfl).1
    have o1 := ((KO.out.to HO7.out).2 1 _ rfl).1
    have o2 := ((KO.out.to HO7.out).2 2 _ rfl).1
    have p0 := ((KW.out.to HE7.out).2 0 _ rfl).1
    have p1 := ((KW.out.to HE7.out).2 1 _ rfl).1
    have p2 := ((KW.out.to HE7.out).2 2 _ rfl).1
    go_wp2_with fail
    refine (CE.out _ HE7.out).mono ?_
    rintro e w8 ⟨rfl, hb⟩
    have HW8 := hid (HW7.out.trans (hb.mono HW7.out.size))
    clear hb o0 o1 o2 p0 p1 p2
    go_wp2_with fail
    go_ret
    exact ⟨rfl, HB.out.trans (HW8.out.mono HB.out.size)⟩
  · have DX : dataFit (updL L kx (setOffF bf)) H := by have h9 := lgr_fit L H q nm.data.toList (setOffF bf); rw [hX] at h9; exact h9
    replace DX := hid DX
    have DY : dataFit (updL L kx (setOffF false)) H := by have h9 := lgr_fit (updL L kx (setOffF bf)) H q nm.data.toList (setOffF false); rw [hXb] at h9; exact h9
    replace DY := hid DY
    have CI := hid (fun (W : World) (hW : Below w2.heap.size w2 W) => (show Calls Try.prog 25 #[.agg #[.slice A1 n1 k1, .slice A2 n2 k2, .int .i64 q], .string nm, .bool bf] W (fun e w' => ∃ v2 rs, e = .returned (.tuple #[v2, .bool true]) ∧ TreeS rs v2 (updL L kx (setOffF bf)) H q ∧ Rows w' W.heap.size rs ∧ Below W.heap.size W w') from by have h9 := implSetOff_c nm bf (TT.out W hW).1 (TT.out W hW).2; rw [hX] at h9; exact h9))
    have CS := hid (fun (W : World) (hW : Below w2.heap.size w2 W) => (show Calls Try.prog 26 #[.agg #[.slice A1 n1 k1, .slice A2 n2 k2, .int .i64 q], .string nm, .bool bf] W (fun e w' => ∃ v2 rs, e = .returned (.tuple #[v2, .bool true]) ∧ TreeS rs v2 (updL L kx (setOffF bf)) H q ∧ Rows w' W.heap.size rs ∧ Below W.heap.size W w') from by have h9 := specSetOff_c nm bf (TT.out W hW).1 (TT.out W hW).2; rw [hX] at h9; exact h9))
    go_wp2_with fail
    refine (CI.out _ HW.out).mono ?_
    rintro e w3 ⟨v3, rs3, rfl, hs3, hr3, hb⟩
    obtain ⟨A3, n3, k3, A4, n4, k4, rfl, -, -⟩ := hs3.form_ hr3
    have hbx3 : Below w3.heap.size w3 (w3.alloc (.cells #[.slice A3 n3 k3, .slice A4 n4 k4, .int .i64 q] 26)) := (Below.refl _ _).alloc (Nat.le_refl _) _
    have TO := hid ((hs3.at_ hr3 DX.out).below hbx3 (Nat.le_refl _))
    have KO := hid (Blk.new w3 #[.slice A3 n3 k3, .slice A4 n4 k4, .int .i64 q] 26)
    have HW4 := hid (HW.out.trans ((hb.trans (hbx3.mono hb.size)).mono HW.out.size))
    have hlo : w3.heap.size < (w3.alloc (.cells #[.slice A3 n3 k3, .slice A4 n4 k4, .int .i64 q] 26)).heap.size := by simp
    clear hs3 hr3 hb hbx3 d0 d1 d2
    obtain ⟨⟨d0, _⟩, ⟨d1, _⟩, ⟨d2, _⟩⟩ := (And.intro ((KB.out.to HW4.out).2 0 _ rfl) (And.intro ((KB.out.to HW4.out).2 1 _ rfl) ((KB.out.to HW4.out).2 2 _ rfl)))
    go_wp2_with fail
    generalize hbo : w3.heap.size = bo at *
    generalize w3.alloc (.cells #[.slice A3 n3 k3, .slice A4 n4 k4, .int .i64 q] 26) = w4 at *
    clear hbo
    refine (CS.out _ HW4.out).mono ?_
    rintro e w5 ⟨v5, rs5, rfl, hs5, hr5, hb⟩
    obtain ⟨A5, n5, k5, A6, n6, k6, rfl, -, -⟩ := hs5.form_ hr5
    have hbx5 : Below w5.heap.size w5 (w5.alloc (.cells #[.slice A5 n5 k5, .slice A6 n6 k6, .int .i64 q] 26)) := (Below.refl _ _).alloc (Nat.le_refl _) _
    have hb46 : Below w4.heap.size w4 (w5.alloc (.cells #[.slice A5 n5 k5, .slice A6 n6 k6, .int .i64 q] 26)) := hb.trans (hbx5.mono hb.size)
    have TW := hid ((hs5.at_ hr5 DX.out).below hbx5 (Nat.le_refl _))
    have KW := hid (Blk.new w5 #[.slice A5 n5 k5, .slice A6 n6 k6, .int .i64 q] 26)
    have HO6 := hid hb46
    have HW6 := hid (HW4.out.trans (hb46.mono HW4.out.size))
    have hlw : w5.heap.size < (w5.alloc (.cells #[.slice A5 n5 k5, .slice A6 n6 k6, .int .i64 q] 26)).heap.size := by simp
    clear hs5 hr5 hb hbx5 hb46 d0 d1 d2
    have o0 := ((KO.out.to HO6.out).2 0 _ rfl).1
    have o1 := ((KO.out.to HO6.out).2 1 _ rfl).1
    have o2 := ((KO.out.to HO6.out).2 2 _ rfl).1
    have p0 := (KW.out.2 0 _ rfl).1
    have p1 := (KW.out.2 1 _ rfl).1
    have p2 := (KW.out.2 2 _ rfl).1
    go_wp2_with fail
    generalize hbw : w5.heap.size = bw at *
    generalize w5.alloc (.cells #[.slice A5 n5 k5, .slice A6 n6 k6, .int .i64 q] 26) = w6 at *
    clear hbw
    have CE := hid (fun (W : World) (hW : Below w6.heap.size w6 W) => equalTree_c (TO.out.below (HO6.out.trans (hW.mono HO6.out.size)) (Nat.le_of_lt hlo)) (TW.out.below hW (Nat.le_of_lt hlw)) (Nat.le_trans (Nat.le_of_lt hlo) (Nat.le_trans HO6.out.size hW.size)) (Nat.le_trans (Nat.le_of_lt hlw) hW.size))
    refine (CE.out _ (Below.refl _ _)).mono ?_
    rintro e w7 ⟨rfl, hb⟩
    have HE7 := hid hb
    have HO7 := hid (HO6.out.trans (hb.mono HO6.out.size))
    have HW7 := hid (HW6.out.trans (hb.mono HW6.out.size))
    clear hb o0 o1 o2 p0 p1 p2
    have TN := hid (fun (W : World) (hO : Below w4.heap.size w4 W) => (And.intro (TO.out.below hO (Nat.le_of_lt hlo)) (Nat.le_trans (Nat.le_of_lt hlo) hO.size)))
    have CN1 := hid (fun (s : ByteArray) (hs : s.size ≤ 1048576) (W : World) (hO : Below w4.heap.size w4 W) => implIsEnabled_c s 30 (TN.out W hO).1 (TN.out W hO).2 (by unfold maxLen; omega))
    have CN2 := hid (fun (s : ByteArray) (hs : s.size ≤ 1048576) (W : World) (hW : Below w2.heap.size w2 W) => implIsEnabled_c s 30 (TT.out W hW).1 (TT.out W hW).2 (by unfold maxLen; omega))
    have CN3 := hid (fun (W : World) (hO : Below w4.heap.size w4 W) => implIsEnabled_c nm 60 (TN.out W hO).1 (TN.out W hO).2 (by unfold maxLen; omega))
    have CX := hid (fun (W : World) (hO : Below w4.heap.size w4 W) => (show Calls Try.prog 25 #[.agg #[.slice A3 n3 k3, .slice A4 n4 k4, .int .i64 q], .string nm, .bool false] W (fun e w' => ∃ v2 rs, e = .returned (.tuple #[v2, .bool true]) ∧ TreeS rs v2 (updL L kx (setOffF false)) H q ∧ Rows w' W.heap.size rs ∧ Below W.heap.size W w') from by have h9 := implSetOff_c nm false (TN.out W hO).1 (TN.out W hO).2; rw [hXb] at h9; exact h9))
    have FE := hid (fun (x : Name) (hx : x ∈ nsOf L) (hne : ¬ x = nm.data.toList) => off_same bf hok hlx hx (by rw [hnx]; exact hne) 30)
    have FO := hid (show isEnabledT (updL L kx (setOffF true)) H q nm.data.toList 60 = false by have h9 := off_none hok hlx 60; rw [hnx] at h9; exact h9)
    have d0 := ((KB.out.to HW7.out).2 0 _ rfl).1
    clear hlx hnx hX hXb
    go_wp2_with fail
    clear d0
    go_loopw [10, 11] (fun kv sv wr => ∃ (k : Nat) (u : Value), kv = .int .i64 k ∧ sv = u ∧ k ≤ n1 ∧ Hid (Below w2.heap.size w2 wr) ∧ Hid (Below w4.heap.size w4 wr)) (fun kv _ _ => n1 - (intOf kv).toNat)
    case atStart => exact ⟨0, _, rfl, rfl, Nat.zero_le _, HW7.out, HO7.out⟩
    case round =>
      obtain ⟨k, u, rfl, rfl, hk, HWr, HOr⟩ := hrel
      have d0 := ((KB.out.to HWr.out).2 0 _ rfl).1
      by_cases hkn : k < n1
      · obtain ⟨b, o, x, s, rfl, hbB, hx, hsx, hsz, c0, -⟩ := (TT.out _ HWr.out).1.name hkn
        unfold maxTxt at hsz
        have hxm : s.data.toList ∈ nsOf L := by rw [hsx]; exact List.mem_map.2 ⟨x, List.mem_of_getElem? hx, rfl⟩
        have s0 : (0 : Int) ≤ (k : Int) := by omega
        have s1 : (k : Int) < (n1 : Int) := by omega
        have s2 : ((k : Int)).toNat = k := by simp
        clear hx hsx
        by_cases he : s.data.toList = nm.data.toList
        · have e1 := eq_true_of he
          clear he hxm
          go_wp2_with fail
          go_quiet (fail)
          go_wp2_with fail
          go_roundw
          case rel => exact ⟨k + 1, _, by go_num, rfl, by omega, below_dr HWr.out _, below_dr HOr.out _⟩
          case measure => simp [intOf]; omega
        · have e1 := eq_false_of he
          have hE := FE.out _ hxm he
          have d1 := ((KB.out.to HWr.out).2 1 _ rfl).1
          have d2 := ((KB.out.to HWr.out).2 2 _ rfl).1
          have o0 := ((KO.out.to HOr.out).2 0 _ rfl).1
          have o1 := ((KO.out.to HOr.out).2 1 _ rfl).1
          have o2 := ((KO.out.to HOr.out).2 2 _ rfl).1
          have HWd := hid (HWr.out.drew)
          have HOd := hid (HOr.out.drew)
          have C3 := hid (CN1.out s hsz wr.drew HOd.out)
          have C4 := hid (CN2.out s hsz)
          rw [hE] at C3
          clear he hxm hE
          generalize isEnabledT L H q s.data.toList 30 = z at *
          have b0 : (z != z) = false := by simp
          go_wp2_with fail
          refine wp_region_held_drew (S := (fun w' : World => (w'.cell? ⟨bo, 0, none⟩ = some (.slice A3 n3 k3) ∧ w'.cell? ⟨bo, 1, none⟩ = some (.slice A4 n4 k4) ∧ w'.cell? ⟨bo, 2, none⟩ = some (.int .i64 q)) ∧ w'.cell? ⟨bb, 0, none⟩ = some (.slice (some ⟨b, o, none⟩) n1 k1) ∧ w'.cell? ⟨bb, 1, none⟩ = some (.slice A2 n2 k2) ∧ w'.cell? ⟨bb, 2, none⟩ = some (.int .i64 q))) (by kernel_rfl) ⟨⟨o0, o1, o2⟩, d0, d1, d2⟩ (fun hS => ?_)
          refine wpAnyH_take (i := 0) (oi := ?oi101) (v := ?v101) ?hi101 (by kernel_rfl) ?hf101 ?hr101 ?hQ101 (Or.inl ⟨?hw101, ?hy101⟩) (by assumption) ?rest101
          case hi101 => simp only [List.getElem?_toArray, List.getElem?_cons_succ, List.getElem?_cons_zero]; rfl
          case hf101 => kernel_rfl
          case hr101 => kernel_rfl
          case hw101 => rfl
          case hy101 => (intro w hSw; (try dsimp only at hSw); go_simp; all_goals (first | done | with_reducible rfl))
          case hQ101 => exact fun _ _ _ h => h
          simp only [Act.put, List.setIfInBounds_toArray, List.set_cons_zero, List.set_cons_succ]
          refine wpAnyH_take (i := 1) (oi := ?oi102) (v := ?v102) ?hi102 (by kernel_rfl) ?hf102 ?hr102 ?hQ102 (Or.inl ⟨?hw102, ?hy102⟩) (by assumption) ?rest102
          case hi102 => simp only [List.getElem?_toArray, List.getElem?_cons_succ, List.getElem?_cons_zero]; rfl
          case hf102 => kernel_rfl
          case hr102 => kernel_rfl
          case hw102 => rfl
          case hy102 => (intro w hSw; (try dsimp only at hSw); go_simp; all_goals (first | done | with_reducible rfl))
          case hQ102 => exact fun _ _ _ h => h
          simp only [Act.put, List.setIfInBounds_toArray, List.set_cons_zero, List.set_cons_succ]
          refine wpAnyH_take (i := 2) (oi := ?oi103) (v := ?v103) ?hi103 (by kernel_rfl) ?hf103 ?hr103 ?hQ103 (Or.inl ⟨?hw103, ?hy103⟩) (by assumption) ?rest103
          case hi103 => simp only [List.getElem?_toArray, List.getElem?_cons_succ, List.getElem?_cons_zero]; rfl
          case hf103 => kernel_rfl
          case hr103 => kernel_rfl
          case hw103 => rfl
          case hy103 => (intro w hSw; (try dsimp only at hSw); go_simp; all_goals (first | done | with_reducible rfl))
          case hQ103 => exact fun _ _ _ h => h
          simp only [Act.put, List.setIfInBounds_toArray, List.set_cons_zero, List.set_cons_succ]
          refine wpAnyH_take (i := 3) (oi := ?oi104) (v := ?v104) ?hi104 (by kernel_rfl) ?hf104 ?hr104 ?hQ104 (Or.inl ⟨?hw104, ?hy104⟩) (by assumption) ?rest104
          case hi104 => simp only [List.getElem?_toArray, List.getElem?_cons_succ, List.getElem?_cons_zero]; rfl
          case hf104 => kernel_rfl
          case hr104 => kernel_rfl
          case hw104 => rfl
          case hy104 => (intro w hSw; (try dsimp only at hSw); go_simp; all_goals (first | done | with_reducible rfl))
          case hQ104 => exact fun _ _ _ h => h
          simp only [Act.put, List.setIfInBounds_toArray, List.set_cons_zero, List.set_cons_succ]
          refine wpAnyH_take (i := 4) (oi := ?oi105) (v := ?v105) ?hi105 (by kernel_rfl) ?hf105 ?hr105 ?hQ105 (Or.inl ⟨?hw105, ?hy105⟩) (by assumption) ?rest105
          case hi105 => simp only [List.getElem?_toArray, List.getElem?_cons_succ, List.getElem?_cons_zero]; rfl
          case hf105 => kernel_rfl
          case hr105 => kernel_rfl
          case hw105 => rfl
          case hy105 => (intro w hSw; (try dsimp only at hSw); go_simp; all_goals (first | done | with_reducible rfl))
          case hQ105 => exact fun _ _ _ h => h
          simp only [Act.put, List.setIfInBounds_toArray, List.set_cons_zero, List.set_cons_succ]
          refine wpAnyH_take (i := 5) (oi := ?oi106) (v := ?v106) ?hi106 (by kernel_rfl) ?hf106 ?hr106 ?hQ106 (Or.inl ⟨?hw106, ?hy106⟩) (by assumption) ?rest106
          case hi106 => simp only [List.getElem?_toArray, List.getElem?_cons_succ, List.getElem?_cons_zero]; rfl
          case hf106 => kernel_rfl
          case hr106 => kernel_rfl
          case hw106 => rfl
          case hy106 => (intro w hSw; (try dsimp only at hSw); go_simp; all_goals (first | done | with_reducible rfl))
          case hQ106 => exact fun _ _ _ h => h
          simp only [Act.put, List.setIfInBounds_toArray, List.set_cons_zero, List.set_cons_succ]
          refine wpAnyH_take (i := 7) (oi := ?oi107) (v := ?v107) ?hi107 (by kernel_rfl) ?hf107 ?hr107 ?hQ107 (Or.inl ⟨?hw107, ?hy107⟩) (by assumption) ?rest107
          case hi107 => simp only [List.getElem?_toArray, List.getElem?_cons_succ, List.getElem?_cons_zero]; rfl
          case hf107 => kernel_rfl
          case hr107 => kernel_rfl
          case hw107 => rfl
          case hy107 => (intro w hSw; (try dsimp only at hSw); go_simp; all_goals (first | done | with_reducible rfl))
          case hQ107 => exact fun _ _ _ h => h
          simp only [Act.put, List.setIfInBounds_toArray, List.set_cons_zero, List.set_cons_succ]
          refine wpAnyH_take (i := 8) (oi := ?oi108) (v := ?v108) ?hi108 (by kernel_rfl) ?hf108 ?hr108 ?hQ108 (Or.inl ⟨?hw108, ?hy108⟩) (by assumption) ?rest108
          case hi108 => simp only [List.getElem?_toArray, List.getElem?_cons_succ, List.getElem?_cons_zero]; rfl
          case hf108 => kernel_rfl
          case hr108 => kernel_rfl
          case hw108 => rfl
          case hy108 => (intro w hSw; (try dsimp only at hSw); go_simp; all_goals (first | done | with_reducible rfl))
          case hQ108 => exact fun _ _ _ h => h
          simp only [Act.put, List.setIfInBounds_toArray, List.set_cons_zero, List.set_cons_succ]
          refine wpAnyH_ready (rs := [6]) (by kernel_rfl) (by simp) ?_
          refine AllReadyH.cons (o := ?oi109) ?hi109 (fun K hK => ?step109) AllReadyH.nil
          case hi109 => simp only [List.getElem?_toArray, List.getElem?_cons_succ, List.getElem?_cons_zero]; rfl
          rw [if_pos (by rfl)]
          go_simp
          go_at_call 23
          refine (C3.out).mono ?_
          rintro e w27 ⟨rfl, hb⟩
          have HW27 := hid (HWd.out.trans (hb.mono HWd.out.size))
          have HO27 := hid (HOd.out.trans (hb.mono HOd.out.size))
          have s7 : w27.cell? ⟨bo, 0, none⟩ = some (.slice A3 n3 k3) ∧ w27.cell? ⟨bo, 1, none⟩ = some (.slice A4 n4 k4) ∧ w27.cell? ⟨bo, 2, none⟩ = some (.int .i64 q) := ⟨((KO.out.to HO27.out).2 0 _ rfl).1, ((KO.out.to HO27.out).2 1 _ rfl).1, ((KO.out.to HO27.out).2 2 _ rfl).1⟩
          have t7 : w27.cell? ⟨bb, 0, none⟩ = some (.slice (some ⟨b, o, none⟩) n1 k1) ∧ w27.cell? ⟨bb, 1, none⟩ = some (.slice A2 n2 k2) ∧ w27.cell? ⟨bb, 2, none⟩ = some (.int .i64 q) := ⟨((KB.out.to HW27.out).2 0 _ rfl).1, ((KB.out.to HW27.out).2 1 _ rfl).1, ((KB.out.to HW27.out).2 2 _ rfl).1⟩
          clear hb
          refine hK.out _ _ ⟨s7, t7⟩ (fun hS => ?_)
          refine wpAnyH_ready (rs := [9]) (by kernel_rfl) (by simp) ?_
          refine AllReadyH.cons (o := ?oi110) ?hi110 (fun K hK => ?step110) AllReadyH.nil
          case hi110 => simp only [List.getElem?_toArray, List.getElem?_cons_succ, List.getElem?_cons_zero]; rfl
          rw [if_pos (by rfl)]
          go_simp
          go_at_call 23
          refine (C4.out _ HW27.out).mono ?_
          rintro e w28 ⟨rfl, hb⟩
          have HW28 := hid (HW27.out.trans (hb.mono HW27.out.size))
          have HO28 := hid (HO27.out.trans (hb.mono HO27.out.size))
          have s8 : w28.cell? ⟨bo, 0, none⟩ = some (.slice A3 n3 k3) ∧ w28.cell? ⟨bo, 1, none⟩ = some (.slice A4 n4 k4) ∧ w28.cell? ⟨bo, 2, none⟩ = some (.int .i64 q) := ⟨((KO.out.to HO28.out).2 0 _ rfl).1, ((KO.out.to HO28.out).2 1 _ rfl).1, ((KO.out.to HO28.out).2 2 _ rfl).1⟩
          have t8 : w28.cell? ⟨bb, 0, none⟩ = some (.slice (some ⟨b, o, none⟩) n1 k1) ∧ w28.cell? ⟨bb, 1, none⟩ = some (.slice A2 n2 k2) ∧ w28.cell? ⟨bb, 2, none⟩ = some (.int .i64 q) := ⟨((KB.out.to HW28.out).2 0 _ rfl).1, ((KB.out.to HW28.out).2 1 _ rfl).1, ((KB.out.to HW28.out).2 2 _ rfl).1⟩
          clear hb
          refine hK.out _ _ ⟨s8, t8⟩ (fun hS => ?_)
          refine wpAnyH_take (i := 10) (oi := ?oi111) (v := ?v111) ?hi111 (by kernel_rfl) ?hf111 ?hr111 ?hQ111 (Or.inl ⟨?hw111, ?hy111⟩) (by assumption) ?rest111
          case hi111 => simp only [List.getElem?_toArray, List.getElem?_cons_succ, List.getElem?_cons_zero]; rfl
          case hf111 => kernel_rfl
          case hr111 => kernel_rfl
          case hw111 => rfl
          case hy111 => (intro w hSw; (try dsimp only at hSw); go_simp; all_goals (first | done | with_reducible rfl))
          case hQ111 => exact fun _ _ _ h => h
          simp only [Act.put, List.setIfInBounds_toArray, List.set_cons_zero, List.set_cons_succ]
          refine wpAnyH_take (i := 11) (oi := ?oi112) (v := ?v112) ?hi112 (by kernel_rfl) ?hf112 ?hr112 ?hQ112 (Or.inl ⟨?hw112, ?hy112⟩) (by assumption) ?rest112
          case hi112 => simp only [List.getElem?_toArray, List.getElem?_cons_succ, List.getElem?_cons_zero]; rfl
          case hf112 => kernel_rfl
          case hr112 => kernel_rfl
          case hw112 => rfl
          case hy112 => (intro w hSw; (try dsimp only at hSw); go_simp; all_goals (first | done | with_reducible rfl))
          case hQ112 => exact fun _ _ _ h => h
          simp only [Act.put, List.setIfInBounds_toArray, List.set_cons_zero, List.set_cons_succ]
          refine wpAnyH_done (by kernel_rfl) ?_ _
          clear d0 d1 d2 o0 o1 o2 c0 s7 t7 s8 t8
          go_wp2_with fail
          go_roundw
          case rel => exact ⟨k + 1, _, by go_num, rfl, by omega, HW28.out, HO28.out⟩
          case measure => simp [intOf]; omega
      · clear d0
        have d0 := ((KB.out.to HWr.out).2 0 _ rfl).1
        have o0 := ((KO.out.to HOr.out).2 0 _ rfl).1
        have o1 := ((KO.out.to HOr.out).2 1 _ rfl).1
        have o2 := ((KO.out.to HOr.out).2 2 _ rfl).1
        go_wp2_with fail
        refine (CX.out _ HOr.out).mono ?_
        rintro e w8 ⟨v8, rs8, rfl, hs8, hr8, hb⟩
        obtain ⟨A7, n7, k7, A8, n8, k8, rfl, -, -⟩ := hs8.form_ hr8
        have hbx8 : Below w8.heap.size w8 (w8.alloc (.cells #[.slice A7 n7 k7, .slice A8 n8 k8, .int .i64 q] 26)) := (Below.refl _ _).alloc (Nat.le_refl _) _
        have TX := hid ((hs8.at_ hr8 DY.out).below hbx8 (Nat.le_refl _))
        have HW9 := hid (HWr.out.trans ((hb.trans (hbx8.mono hb.size)).mono HWr.out.size))
        have HO9 := hid (HOr.out.trans ((hb.trans (hbx8.mono hb.size)).mono HOr.out.size))
        have KX := Blk.new w8 #[.slice A7 n7 k7, .slice A8 n8 k8, .int .i64 q] 26
        have x0 := (KX.2 0 _ rfl).1
        have x1 := (KX.2 1 _ rfl).1
        have x2 := (KX.2 2 _ rfl).1
        have hl8 : w8.heap.size ≤ (w8.alloc (.cells #[.slice A7 n7 k7, .slice A8 n8 k8, .int .i64 q] 26)).heap.size := by simp
        clear d0 o0 o1 o2 hs8 hr8 hb hbx8 KX
        have o0 := ((KO.out.to HO9.out).2 0 _ rfl).1
        have o1 := ((KO.out.to HO9.out).2 1 _ rfl).1
        have o2 := ((KO.out.to HO9.out).2 2 _ rfl).1
        cases bf with
        | true =>
          have C5 := hid (CN3.out _ HO9.out)
          rw [FO.out] at C5
          go_wp2_with fail
          refine C5.out.mono ?_
          rintro e w9 ⟨rfl, hb⟩
          have HW10 := hid (HW9.out.trans (hb.mono HW9.out.size))
          clear hb x0 x1 x2 o0 o1 o2
          go_wp2_with fail
          go_ret
          exact ⟨rfl, HB.out.trans (HW10.out.mono HB.out.size)⟩
        | false =>
          have CQ := hid (equalTree_c TX.out (TN.out _ HO9.out).1 hl8 (TN.out _ HO9.out).2)
          go_wp2_with fail
          refine CQ.out.mono ?_
          rintro e w9 ⟨rfl, hb⟩
          have HW10 := hid (HW9.out.trans (hb.mono HW9.out.size))
          clear hb x0 x1 x2 o0 o1 o2
          go_wp2_with fail
          go_ret
          exact ⟨rfl, HB.out.trans (HW10.out.mono HB.out.size)⟩
end Go.Proofs.Ytcgcbgbmofooiaa
