/-
  WALK: the law FnSetStop. By gen_t.py.
-/
import Derived.Test.YtpfnjkmkenaipaaE14
import Derived.Test.YtpfnjkmkenaipaaE22
import Derived.Test.YtpfnjkmkenaipaaE19
import Derived.Test.YtpfnjkmkenaipaaE13
import Derived.Test.YtpfnjkmkenaipaaC9
import Derived.Test.YtpfnjkmkenaipaaLookI
namespace Go.Proofs.Ytpfnjkmkenaipaa
open Go.RowKit Nm
set_option linter.unusedSimpArgs false
set_option linter.unusedVariables false

theorem fit_none : dataFit [] [] := ⟨⟨by simp, by simp⟩, ⟨by simp, by simp⟩⟩

set_option maxHeartbeats 8000000 in
set_option maxRecDepth 100000 in
theorem walk_FnSetStop (a0 : Option Addr) (len0 cap0 : Nat) (z0 : List Int) (w : World) (w0 : IsRow .u8 w a0 len0 cap0 z0) :
    Calls Try.prog 4 #[.slice a0 len0 cap0] w (BoolPost w true) := by
  have hb0 := w0.leT
  by_cases h1 : (1048576 : Int) < (len0 : Int)
  · go_enter Try.func4, Try.ntmps4
    go_wp2_with fail
    go_ret
    exact ⟨rfl, Below.refl _ _⟩
  have DR := hid (drawSetStop_c a0 len0 cap0 z0 w w0)
  clear w0
  go_enter Try.func4, Try.ntmps4
  go_wp2_with fail
  refine DR.out.mono ?_
  rintro e w1 ⟨v, rs, L, H, q, nm, bf, rfl, hs, hsm, hnm, hr, hb⟩
  obtain ⟨A1, n1, k1, A2, n2, k2, rfl, hn1, hn2⟩ := hs.form_ hr
  have hd := sm_fit hsm (by omega)
  have TI0 := hs.at_ hr hd
  have hbx : Below w1.heap.size w1 (w1.alloc (.cells #[.slice A1 n1 k1, .slice A2 n2 k2, .int .i64 q] 32)) := (Below.refl _ _).alloc (Nat.le_refl _) _
  have TI := hid (TI0.below hbx (Nat.le_refl _))
  have KB := hid (Blk.new w1 #[.slice A1 n1 k1, .slice A2 n2 k2, .int .i64 q] 32)
  have HB := hid (hb.trans (hbx.mono hb.size))
  have hl1 : w1.heap.size < (w1.alloc (.cells #[.slice A1 n1 k1, .slice A2 n2 k2, .int .i64 q] 32)).heap.size := by simp
  have HL := hid (And.intro hn1 (And.intro hsm.1 hsm.2.1.1))
  replace hd := hid hd
  clear hs hr hb hn1 hn2 hsm TI0 hbx DR
  go_wp2_with fail
  generalize hbb : w1.heap.size = bb at *
  generalize w1.alloc (.cells #[.slice A1 n1 k1, .slice A2 n2 k2, .int .i64 q] 32) = w2 at *
  clear hbb
  have d0 := (KB.out.2 0 _ rfl).1
  have d1 := (KB.out.2 1 _ rfl).1
  have d2 := (KB.out.2 2 _ rfl).1
  have HW := hid (Below.refl w2.heap.size w2)
  have TT := hid (fun (W : World) (hW : Below w2.heap.size w2 W) => (And.intro (TI.out.below hW (Nat.le_of_lt hl1)) (Nat.le_trans (Nat.le_of_lt hl1) hW.size)))
  have hn8 : n1 ≤ 8 := by rw [HL.out.1]; exact HL.out.2.2
  rcases stop_cases L H q nm.data.toList bf with hX | ⟨kx, lx, hlx, hnx, hok, hX⟩
  · clear hd
    have CI := hid (fun (W : World) (hW : Below w2.heap.size w2 W) => (show Calls Try.prog 18 #[.agg #[.slice A1 n1 k1, .slice A2 n2 k2, .int .i64 q], .string nm, .bool bf] W (fun e w' => ∃ v2 rs, e = .returned (.tuple #[v2, .bool false]) ∧ TreeS rs v2 ([]) [] 0 ∧ Rows w' W.heap.size rs ∧ Below W.heap.size W w') from by have h9 := implSetStop_c nm bf (TT.out W hW).1 (TT.out W hW).2; rw [hX] at h9; exact h9))
    have CS := hid (fun (W : World) (hW : Below w2.heap.size w2 W) => (show Calls Try.prog 19 #[.agg #[.slice A1 n1 k1, .slice A2 n2 k2, .int .i64 q], .string nm, .bool bf] W (fun e w' => ∃ v2 rs, e = .returned (.tuple #[v2, .bool false]) ∧ TreeS rs v2 ([]) [] 0 ∧ Rows w' W.heap.size rs ∧ Below W.heap.size W w') from by have h9 := specSetStop_c nm bf (TT.out W hW).1 (TT.out W hW).2; rw [hX] at h9; exact h9))
    go_wp2_with fail
    refine (CI.out _ HW.out).mono ?_
    rintro e w3 ⟨v3, rs3, rfl, hs3, hr3, hb⟩
    obtain ⟨A3, n3, k3, A4, n4, k4, rfl, -, -⟩ := hs3.form_ hr3
    have hbx3 : Below w3.heap.size w3 (w3.alloc (.cells #[.slice A3 n3 k3, .slice A4 n4 k4, .int .i64 0] 32)) := (Below.refl _ _).alloc (Nat.le_refl _) _
    have TO := hid ((hs3.at_ hr3 fit_none).below hbx3 (Nat.le_refl _))
    have KO := hid (Blk.new w3 #[.slice A3 n3 k3, .slice A4 n4 k4, .int .i64 0] 32)
    have HW4 := hid (HW.out.trans ((hb.trans (hbx3.mono hb.size)).mono HW.out.size))
    have hlo : w3.heap.size < (w3.alloc (.cells #[.slice A3 n3 k3, .slice A4 n4 k4, .int .i64 0] 32)).heap.size := by simp
    clear hs3 hr3 hb hbx3 d0 d1 d2
    obtain ⟨⟨d0, _⟩, ⟨d1, _⟩, ⟨d2, _⟩⟩ := (And.intro ((KB.out.to HW4.out).2 0 _ rfl) (And.intro ((KB.out.to HW4.out).2 1 _ rfl) ((KB.out.to HW4.out).2 2 _ rfl)))
    go_wp2_with fail
    generalize hbo : w3.heap.size = bo at *
    generalize w3.alloc (.cells #[.slice A3 n3 k3, .slice A4 n4 k4, .int .i64 0] 32) = w4 at *
    clear hbo
    refine (CS.out _ HW4.out).mono ?_
    rintro e w5 ⟨v5, rs5, rfl, hs5, hr5, hb⟩
    obtain ⟨A5, n5, k5, A6, n6, k6, rfl, -, -⟩ := hs5.form_ hr5
    have hbx5 : Below w5.heap.size w5 (w5.alloc (.cells #[.slice A5 n5 k5, .slice A6 n6 k6, .int .i64 0] 32)) := (Below.refl _ _).alloc (Nat.le_refl _) _
    have hb46 : Below w4.heap.size w4 (w5.alloc (.cells #[.slice A5 n5 k5, .slice A6 n6 k6, .int .i64 0] 32)) := hb.trans (hbx5.mono hb.size)
    have TW := hid ((hs5.at_ hr5 fit_none).below hbx5 (Nat.le_refl _))
    have KW := hid (Blk.new w5 #[.slice A5 n5 k5, .slice A6 n6 k6, .int .i64 0] 32)
    have HO6 := hid hb46
    have HW6 := hid (HW4.out.trans (hb46.mono HW4.out.size))
    have hlw : w5.heap.size < (w5.alloc (.cells #[.slice A5 n5 k5, .slice A6 n6 k6, .int .i64 0] 32)).heap.size := by simp
    clear hs5 hr5 hb hbx5 hb46 d0 d1 d2
    have o0 := ((KO.out.to HO6.out).2 0 _ rfl).1
    have o1 := ((KO.out.to HO6.out).2 1 _ rfl).1
    have o2 := ((KO.out.to HO6.out).2 2 _ rfl).1
    have p0 := (KW.out.2 0 _ rfl).1
    have p1 := (KW.out.2 1 _ rfl).1
    have p2 := (KW.out.2 2 _ rfl).1
    go_wp2_with fail
    generalize hbw : w5.heap.size = bw at *
    generalize w5.alloc (.cells #[.slice A5 n5 k5, .slice A6 n6 k6, .int .i64 0] 32) = w6 at *
    clear hbw
    have CE := hid (fun (W : World) (hW : Below w6.heap.size w6 W) => equalTree_c (TO.out.below (HO6.out.trans (hW.mono HO6.out.size)) (Nat.le_of_lt hlo)) (TW.out.below hW (Nat.le_of_lt hlw)) (Nat.le_trans (Nat.le_of_lt hlo) (Nat.le_trans HO6.out.size hW.size)) (Nat.le_trans (Nat.le_of_lt hlw) hW.size))
    refine (CE.out _ (Below.refl _ _)).mono ?_
    rintro e w7 ⟨rfl, hb⟩
    have HE7 := hid hb
    have HO7 := hid (HO6.out.trans (hb.mono HO6.out.size))
    have HW7 := hid (HW6.out.trans (hb.mono HW6.out.size))
    clear hb o0 o1 o2 p0 p1 p2
    have o0 := ((KO.out.to HO7.out).2 0 _ rfl).1
    have o1 := ((KO.out.to HO7.out).2 1 _ rfl).1
    have o2 := ((KO.out.to HO7.out).2 2 _ rfl).1
    have p0 := ((KW.out.to HE7.out).2 0 _ rfl).1
    have p1 := ((KW.out.to HE7.out).2 1 _ rfl).1
    have p2 := ((KW.out.to HE7.out).2 2 _ rfl).1
    go_wp2_with fail
    refine (CE.out _ HE7.out).mono ?_
    rintro e w8 ⟨rfl, hb⟩
    have HW8 := hid (HW7.out.trans (hb.mono HW7.out.size))
    clear hb o0 o1 o2 p0 p1 p2
    go_wp2_with fail
    go_ret
    exact ⟨rfl, HB.out.trans (HW8.out.mono HB.out.size)⟩
  · have DX : dataFit (updL L kx (setStopF bf)) H := by have h9 := lgr_fit L H q nm.data.toList (setStopF bf); rw [hX] at h9; exact h9
    replace DX := hid DX
    have CI := hid (fun (W : World) (hW : Below w2.heap.size w2 W) => (show Calls Try.prog 18 #[.agg #[.slice A1 n1 k1, .slice A2 n2 k2, .int .i64 q], .string nm, .bool bf] W (fun e w' => ∃ v2 rs, e = .returned (.tuple #[v2, .bool true]) ∧ TreeS rs v2 (updL L kx (setStopF bf)) H q ∧ Rows w' W.heap.size rs ∧ Below W.heap.size W w') from by have h9 := implSetStop_c nm bf (TT.out W hW).1 (TT.out W hW).2; rw [hX] at h9; exact h9))
    have CS := hid (fun (W : World) (hW : Below w2.heap.size w2 W) => (show Calls Try.prog 19 #[.agg #[.slice A1 n1 k1, .slice A2 n2 k2, .int .i64 q], .string nm, .bool bf] W (fun e w' => ∃ v2 rs, e = .returned (.tuple #[v2, .bool true]) ∧ TreeS rs v2 (updL L kx (setStopF bf)) H q ∧ Rows w' W.heap.size rs ∧ Below W.heap.size W w') from by have h9 := specSetStop_c nm bf (TT.out W hW).1 (TT.out W hW).2; rw [hX] at h9; exact h9))
    go_wp2_with fail
    refine (CI.out _ HW.out).mono ?_
    rintro e w3 ⟨v3, rs3, rfl, hs3, hr3, hb⟩
    obtain ⟨A3, n3, k3, A4, n4, k4, rfl, -, -⟩ := hs3.form_ hr3
    have hbx3 : Below w3.heap.size w3 (w3.alloc (.cells #[.slice A3 n3 k3, .slice A4 n4 k4, .int .i64 q] 32)) := (Below.refl _ _).alloc (Nat.le_refl _) _
    have TO := hid ((hs3.at_ hr3 DX.out).below hbx3 (Nat.le_refl _))
    have KO := hid (Blk.new w3 #[.slice A3 n3 k3, .slice A4 n4 k4, .int .i64 q] 32)
    have HW4 := hid (HW.out.trans ((hb.trans (hbx3.mono hb.size)).mono HW.out.size))
    have hlo : w3.heap.size < (w3.alloc (.cells #[.slice A3 n3 k3, .slice A4 n4 k4, .int .i64 q] 32)).heap.size := by simp
    clear hs3 hr3 hb hbx3 d0 d1 d2
    obtain ⟨⟨d0, _⟩, ⟨d1, _⟩, ⟨d2, _⟩⟩ := (And.intro ((KB.out.to HW4.out).2 0 _ rfl) (And.intro ((KB.out.to HW4.out).2 1 _ rfl) ((KB.out.to HW4.out).2 2 _ rfl)))
    go_wp2_with fail
    generalize hbo : w3.heap.size = bo at *
    generalize w3.alloc (.cells #[.slice A3 n3 k3, .slice A4 n4 k4, .int .i64 q] 32) = w4 at *
    clear hbo
    refine (CS.out _ HW4.out).mono ?_
    rintro e w5 ⟨v5, rs5, rfl, hs5, hr5, hb⟩
    obtain ⟨A5, n5, k5, A6, n6, k6, rfl, -, -⟩ := hs5.form_ hr5
    have hbx5 : Below w5.heap.size w5 (w5.alloc (.cells #[.slice A5 n5 k5, .slice A6 n6 k6, .int .i64 q] 32)) := (Below.refl _ _).alloc (Nat.le_refl _) _
    have hb46 : Below w4.heap.size w4 (w5.alloc (.cells #[.slice A5 n5 k5, .slice A6 n6 k6, .int .i64 q] 32)) := hb.trans (hbx5.mono hb.size)
    have TW := hid ((hs5.at_ hr5 DX.out).below hbx5 (Nat.le_refl _))
    have KW := hid (Blk.new w5 #[.slice A5 n5 k5, .slice A6 n6 k6, .int .i64 q] 32)
    have HO6 := hid hb46
    have HW6 := hid (HW4.out.trans (hb46.mono HW4.out.size))
    have hlw : w5.heap.size < (w5.alloc (.cells #[.slice A5 n5 k5, .slice A6 n6 k6, .int .i64 q] 32)).heap.size := by simp
    clear hs5 hr5 hb hbx5 hb46 d0 d1 d2
    have o0 := ((KO.out.to HO6.out).2 0 _ rfl).1
    have o1 := ((KO.out.to HO6.out).2 1 _ rfl).1
    have o2 := ((KO.out.to HO6.out).2 2 _ rfl).1
    have p0 := (KW.out.2 0 _ rfl).1
    have p1 := (KW.out.2 1 _ rfl).1
    have p2 := (KW.out.2 2 _ rfl).1
    go_wp2_with fail
    generalize hbw : w5.heap.size = bw at *
    generalize w5.alloc (.cells #[.slice A5 n5 k5, .slice A6 n6 k6, .int .i64 q] 32) = w6 at *
    clear hbw
    have CE := hid (fun (W : World) (hW : Below w6.heap.size w6 W) => equalTree_c (TO.out.below (HO6.out.trans (hW.mono HO6.out.size)) (Nat.le_of_lt hlo)) (TW.out.below hW (Nat.le_of_lt hlw)) (Nat.le_trans (Nat.le_of_lt hlo) (Nat.le_trans HO6.out.size hW.size)) (Nat.le_trans (Nat.le_of_lt hlw) hW.size))
    refine (CE.out _ (Below.refl _ _)).mono ?_
    rintro e w7 ⟨rfl, hb⟩
    have HE7 := hid hb
    have HO7 := hid (HO6.out.trans (hb.mono HO6.out.size))
    have HW7 := hid (HW6.out.trans (hb.mono HW6.out.size))
    clear hb o0 o1 o2 p0 p1 p2
    have TN := hid (fun (W : World) (hO : Below w4.heap.size w4 W) => (And.intro (TO.out.below hO (Nat.le_of_lt hlo)) (Nat.le_trans (Nat.le_of_lt hlo) hO.size)))
    have CS1 := hid (fun (s : ByteArray) (hs : s.size ≤ maxLen) (W : World) (hO : Below w4.heap.size w4 W) => implSpotsOf_c s (TN.out W hO).1 (TN.out W hO).2 hs)
    have CP := hid (fun (W : World) (hW : Below w2.heap.size w2 W) => implParentOf_c nm (TT.out W hW).1 (TT.out W hW).2 (by unfold maxLen; omega))
    have hkL : kx < L.length := (List.getElem?_eq_some_iff.1 hlx).1
    have hkx : kx < n1 := by rw [HL.out.1]; exact hkL
    have CL := hid (fun (W : World) (hW : Below w2.heap.size w2 W) => (show Calls Try.prog 21 #[.agg #[.slice A1 n1 k1, .slice A2 n2 k2, .int .i64 q], .string nm] W (fun e w' => e = .returned (.int .i64 (kx : Int)) ∧ Below W.heap.size W w') from by
      have h9 := implLoggerAtX_c nm (TT.out W hW).1 (TT.out W hW).2
      have h8 : idxL (namesOf L) lx.nm = (kx : Int) := tree_idx hok hlx
      rw [hok, if_pos rfl, ← hnx, h8] at h9; exact h9))
    have FX := stop_spots bf hok hlx
    rw [hnx] at FX
    have hnsx : (nsOf L).getD kx [] = nm.data.toList := by rw [← hnx]; unfold nsOf; simp [List.getD, hlx]
    have hh6 := hsAt_len hok kx
    have hpl : parentB L H q nm.data.toList = true → (parentT L H q nm.data.toList).length ≤ 100 := fun h => (parent_facts h).2.2.1
    generalize hpt : parentT L H q nm.data.toList = pt at *
    generalize hpb : parentB L H q nm.data.toList = pb at *
    obtain ⟨up, hup, hup2⟩ := txt_mk pt
    rw [hup] at CP
    rw [← hup2] at FX hpl
    have FXh := hid FX
    have hplh := hid hpl
    have hnsx' := hid hnsx
    clear FX hpl hnsx hpt hpb hup hup2 hlx hnx hX hok
    obtain ⟨b, o, p, A5, hn5, k5, A6, fn6, k6, rfl, -, hhn, -, ht, -, -, -, g2, -, -, -⟩ := (TT.out _ HW7.out).1.lgr hkx
    have hcap5 : hn5 ≤ k5 ∧ k5 ≤ 9223372036854775807 := by obtain ⟨_, A9, c9, e9, h9, h99, _⟩ := ht; simp at e9; unfold maxLen at h99; omega
    have hn56 : hn5 ≤ 6 := by omega
    have HT := hid ht
    have HHN := hid hhn
    have HG2 := hid g2
    have d0 := ((KB.out.to HW7.out).2 0 _ rfl).1
    have d1 := ((KB.out.to HW7.out).2 1 _ rfl).1
    have d2 := ((KB.out.to HW7.out).2 2 _ rfl).1
    obtain ⟨wa, hwa⟩ : ∃ wa, wa = w7.alloc (.cells #[] 50) := ⟨_, rfl⟩
    have hba : Below w7.heap.size w7 wa := by rw [hwa]; exact (Below.refl _ _).alloc (Nat.le_refl _) _
    have H0 := hid (show wa.ownsRow w7.heap.size 50 2 (.slice (some ⟨w7.heap.size, 0, none⟩) 0 0) 0 [] by rw [hwa]; exact World.ownsRow_lit w7 #[] 0 (Nat.le_refl _) (by unfold maxLen; omega) rfl)
    have HBa := hid hba
    have HWa := hid (HW7.out.trans (hba.mono HW7.out.size))
    have HOa := hid (HO7.out.trans (hba.mono HO7.out.size))
    have e0 := (hba.cell (p := ⟨bb, 0, none⟩) (World.block_lt_of_cell? _ _ d0)).trans d0
    have e1 := (hba.cell (p := ⟨bb, 1, none⟩) (World.block_lt_of_cell? _ _ d1)).trans d1
    have e2 := (hba.cell (p := ⟨bb, 2, none⟩) (World.block_lt_of_cell? _ _ d2)).trans d2
    have e3 := (hba.cell (p := ⟨b, o + kx * 6 + 2, none⟩) (World.block_lt_of_cell? _ _ g2)).trans g2
    have s0 : (0 : Int) ≤ (kx : Int) := by omega
    have s1 : (kx : Int) < (n1 : Int) := by omega
    have s2 : ((kx : Int)).toNat = kx := by simp
    clear hhn ht g2 hba
    go_wp2_with fail
    rw [← hwa]
    clear hwa d0 d1 d2
    refine wp_region_held_drew (S := (fun w' : World => (w'.cell? ⟨bb, 0, none⟩ = some (.slice (some ⟨b, o, none⟩) n1 k1) ∧ w'.cell? ⟨bb, 1, none⟩ = some (.slice A2 n2 k2) ∧ w'.cell? ⟨bb, 2, none⟩ = some (.int .i64 q)) ∧ w'.cell? ⟨b, o + kx * 6 + 2, none⟩ = some (.slice A5 hn5 k5))) (by kernel_rfl) ⟨⟨e0, e1, e2⟩, e3⟩ (fun hS => ?_)
    refine wpAnyH_take (i := 0) (oi := ?oi101) (v := ?v101) ?hi101 (by kernel_rfl) ?hf101 ?hr101 ?hQ101 (Or.inl ⟨?hw101, ?hy101⟩) (by assumption) ?rest101
    case hi101 => simp only [List.getElem?_toArray, List.getElem?_cons_succ, List.getElem?_cons_zero]; rfl
    case hf101 => kernel_rfl
    case hr101 => kernel_rfl
    case hw101 => rfl
    case hy101 => (intro w hSw; (try dsimp only at hSw); go_simp; all_goals (first | done | with_reducible rfl))
    case hQ101 => exact fun _ _ _ h => h
    simp only [Act.put, List.setIfInBounds_toArray, List.set_cons_zero, List.set_cons_succ]
    refine wpAnyH_take (i := 1) (oi := ?oi102) (v := ?v102) ?hi102 (by kernel_rfl) ?hf102 ?hr102 ?hQ102 (Or.inl ⟨?hw102, ?hy102⟩) (by assumption) ?rest102
    case hi102 => simp only [List.getElem?_toArray, List.getElem?_cons_succ, List.getElem?_cons_zero]; rfl
    case hf102 => kernel_rfl
    case hr102 => kernel_rfl
    case hw102 => rfl
    case hy102 => (intro w hSw; (try dsimp only at hSw); go_simp; all_goals (first | done | with_reducible rfl))
    case hQ102 => exact fun _ _ _ h => h
    simp only [Act.put, List.setIfInBounds_toArray, List.set_cons_zero, List.set_cons_succ]
    refine wpAnyH_take (i := 2) (oi := ?oi103) (v := ?v103) ?hi103 (by kernel_rfl) ?hf103 ?hr103 ?hQ103 (Or.inl ⟨?hw103, ?hy103⟩) (by assumption) ?rest103
    case hi103 => simp only [List.getElem?_toArray, List.getElem?_cons_succ, List.getElem?_cons_zero]; rfl
    case hf103 => kernel_rfl
    case hr103 => kernel_rfl
    case hw103 => rfl
    case hy103 => (intro w hSw; (try dsimp only at hSw); go_simp; all_goals (first | done | with_reducible rfl))
    case hQ103 => exact fun _ _ _ h => h
    simp only [Act.put, List.setIfInBounds_toArray, List.set_cons_zero, List.set_cons_succ]
    refine wpAnyH_take (i := 3) (oi := ?oi104) (v := ?v104) ?hi104 (by kernel_rfl) ?hf104 ?hr104 ?hQ104 (Or.inl ⟨?hw104, ?hy104⟩) (by assumption) ?rest104
    case hi104 => simp only [List.getElem?_toArray, List.getElem?_cons_succ, List.getElem?_cons_zero]; rfl
    case hf104 => kernel_rfl
    case hr104 => kernel_rfl
    case hw104 => rfl
    case hy104 => (intro w hSw; (try dsimp only at hSw); go_simp; all_goals (first | done | with_reducible rfl))
    case hQ104 => exact fun _ _ _ h => h
    simp only [Act.put, List.setIfInBounds_toArray, List.set_cons_zero, List.set_cons_succ]
    refine wpAnyH_ready (rs := [4]) (by kernel_rfl) (by simp) ?_
    refine AllReadyH.cons (o := ?oi105) ?hi105 (fun K hK => ?step105) AllReadyH.nil
    case hi105 => simp only [List.getElem?_toArray, List.getElem?_cons_succ, List.getElem?_cons_zero]; rfl
    rw [if_pos (by rfl)]
    go_simp
    go_at_call 21
    refine (CL.out _ HWa.out.drew).mono ?_
    rintro e wb ⟨rfl, hb⟩
    have HBb := hid (HBa.out.drew.trans (hb.mono HBa.out.drew.size))
    have HWb := hid (HWa.out.drew.trans (hb.mono HWa.out.drew.size))
    have HOb := hid (HOa.out.drew.trans (hb.mono HOa.out.drew.size))
    have Ob := hid (own_below (H0.out.drew) hb)
    have f0 := ((KB.out.to HWb.out).2 0 _ rfl).1
    have f1 := ((KB.out.to HWb.out).2 1 _ rfl).1
    have f2 := ((KB.out.to HWb.out).2 2 _ rfl).1
    have f3 := (hb.cell (p := ⟨b, o + kx * 6 + 2, none⟩) (World.block_lt_of_cell? _ _ e3)).trans e3
    clear hb
    refine hK.out _ _ ⟨⟨f0, f1, f2⟩, f3⟩ (fun hS => ?_)
    refine wpAnyH_take (i := 5) (oi := ?oi106) (v := ?v106) ?hi106 (by kernel_rfl) ?hf106 ?hr106 ?hQ106 (Or.inl ⟨?hw106, ?hy106⟩) (by assumption) ?rest106
    case hi106 => simp only [List.getElem?_toArray, List.getElem?_cons_succ, List.getElem?_cons_zero]; rfl
    case hf106 => kernel_rfl
    case hr106 => kernel_rfl
    case hw106 => rfl
    case hy106 => (intro w hSw; (try dsimp only at hSw); go_simp; all_goals (first | done | with_reducible rfl))
    case hQ106 => exact fun _ _ _ h => h
    simp only [Act.put, List.setIfInBounds_toArray, List.set_cons_zero, List.set_cons_succ]
    refine wpAnyH_take (i := 6) (oi := ?oi107) (v := ?v107) ?hi107 (by kernel_rfl) ?hf107 ?hr107 ?hQ107 (Or.inl ⟨?hw107, ?hy107⟩) (by assumption) ?rest107
    case hi107 => simp only [List.getElem?_toArray, List.getElem?_cons_succ, List.getElem?_cons_zero]; rfl
    case hf107 => kernel_rfl
    case hr107 => kernel_rfl
    case hw107 => rfl
    case hy107 => (intro w hSw; (try dsimp only at hSw); go_simp; all_goals (first | done | with_reducible rfl))
    case hQ107 => exact fun _ _ _ h => h
    simp only [Act.put, List.setIfInBounds_toArray, List.set_cons_zero, List.set_cons_succ]
    refine wpAnyH_take (i := 7) (oi := ?oi108) (v := ?v108) ?hi108 (by kernel_rfl) ?hf108 ?hr108 ?hQ108 (Or.inl ⟨?hw108, ?hy108⟩) (by assumption) ?rest108
    case hi108 => simp only [List.getElem?_toArray, List.getElem?_cons_succ, List.getElem?_cons_zero]; rfl
    case hf108 => kernel_rfl
    case hr108 => kernel_rfl
    case hw108 => rfl
    case hy108 => (intro w hSw; (try dsimp only at hSw); go_simp; all_goals (first | done | with_reducible rfl))
    case hQ108 => exact fun _ _ _ h => h
    simp only [Act.put, List.setIfInBounds_toArray, List.set_cons_zero, List.set_cons_succ]
    refine wpAnyH_take (i := 8) (oi := ?oi109) (v := ?v109) ?hi109 (by kernel_rfl) ?hf109 ?hr109 ?hQ109 (Or.inl ⟨?hw109, ?hy109⟩) (by assumption) ?rest109
    case hi109 => simp only [List.getElem?_toArray, List.getElem?_cons_succ, List.getElem?_cons_zero]; rfl
    case hf109 => kernel_rfl
    case hr109 => kernel_rfl
    case hw109 => rfl
    case hy109 => (intro w hSw; (try dsimp only at hSw); go_simp; all_goals (first | done | with_reducible rfl))
    case hQ109 => exact fun _ _ _ h => h
    simp only [Act.put, List.setIfInBounds_toArray, List.set_cons_zero, List.set_cons_succ]
    refine wpAnyH_done (by kernel_rfl) ?_ _
    clear e0 e1 e2 e3 f0 f1 f2 f3
    go_wp2_with fail
    go_loopw [10, 12] (fun sv jv wr => ∃ (j : Nat) (cur : List Spt), jv = .int .i64 j ∧ j ≤ hn5 ∧ Hid (cur = ownK L kx j) ∧ wr.ownsRow w7.heap.size 50 2 sv cur.length (cur.flatMap spcells) ∧ Hid (Below w2.heap.size w2 wr) ∧ Hid (Below w4.heap.size w4 wr) ∧ Hid (Below w7.heap.size w7 wr)) (fun _ jv _ => hn5 - (intOf jv).toNat)
    case atStart => exact ⟨0, [], rfl, Nat.zero_le _, rfl, Ob.out, HWb.out, HOb.out, HBb.out⟩
    case round =>
      obtain ⟨j, cur, rfl, hj, HCu, hown, HWr, HOr, HQr⟩ := hrel
      obtain ⟨Ay, cy, rfl, _, _⟩ := (Sl.of_own hown).form
      have HOj := hid hown
      clear hown
      by_cases hjn : j < hn5
      · obtain ⟨bt, ot, t, rfl, hbt, hxt, gt⟩ := HT.out.text hjn
        have et := (HQr.out.cell (p := ⟨bt, ot + j, none⟩) (World.block_lt_of_cell? _ _ gt)).trans gt
        have hlj : cur.length ≤ 1048576 := by rw [HCu.out]; have := ownK_len L kx j; omega
        have HX := hid hxt
        clear hxt gt
        go_wp2_with (at_builtin; refine appSpot _ rfl (.tmp 74) (.tmp 81) rfl w7.heap.size _ cur (by rfl) HOj.out nm t _ _ _ (by rfl) (by simp) hlj HQr.out.size ?_)
        intro v' wz ho2 hb2
        have HO2 := hid ho2
        have HQ2 := hid (HQr.out.trans hb2)
        have HW2 := hid (HW7.out.trans (HQ2.out.mono HW7.out.size))
        have HO3 := hid (HO7.out.trans (HQ2.out.mono HO7.out.size))
        clear ho2 hb2
        go_wp2_with fail
        go_roundw
        case rel =>
          refine ⟨j + 1, cur ++ [⟨nm.data.toList, t.data.toList⟩], by go_num, by omega, ?_, by simpa using HO2.out, HW2.out, HO3.out, HQ2.out⟩
          show _ = _
          rw [ownK_step HX.out, hnsx'.out, HCu.out]
        case measure => simp [intOf]; omega
      · obtain rfl : j = hn5 := by omega
        have HCL := hid (show cur = ownS L kx by rw [HCu.out]; exact ownK_all (by have := HHN.out; omega))
        have d0 := ((KB.out.to HWr.out).2 0 _ rfl).1
        have d1 := ((KB.out.to HWr.out).2 1 _ rfl).1
        have d2 := ((KB.out.to HWr.out).2 2 _ rfl).1
        go_wp2_with fail
        refine (CP.out _ HWr.out).mono ?_
        rintro e wp ⟨rfl, hb⟩
        have HWF := hid (HWr.out.trans (hb.mono HWr.out.size))
        have HOF := hid (HOr.out.trans (hb.mono HOr.out.size))
        have HQF := hid (HQr.out.trans (hb.mono HQr.out.size))
        have OWN := hid (own_below HOj.out hb)
        clear hb d0 d1 d2
        cases bf with
        | true =>
          have HX : spotsT (updL L kx (setStopF true)) H q nm.data.toList = cur := by rw [FXh.out, HCL.out]; simp
          have CSn := CS1.out nm (by unfold maxLen; omega) _ HOF.out
          rw [HX] at CSn
          replace CSn := hid CSn
          have o0 := ((KO.out.to HOF.out).2 0 _ rfl).1
          have o1 := ((KO.out.to HOF.out).2 1 _ rfl).1
          have o2 := ((KO.out.to HOF.out).2 2 _ rfl).1
          go_wp2_with fail
          refine CSn.out.mono ?_
          rintro e wf ⟨vf, rfl, hof, hb⟩
          obtain ⟨Af, cf, rfl, _, hmf⟩ := (Sl.of_own hof).form
          have CQ := hid (equalSpots_c _ _ _ wf.heap.size cur wf (Sl.of_own hof) (((Sl.of_own OWN.out).below hb (Nat.le_refl _)).more hb.size) (Nat.le_refl _))
          have HWf := hid (HWF.out.trans (hb.mono HWF.out.size))
          clear hof hb o0 o1 o2 CSn
          go_wp2_with fail
          refine CQ.out.mono ?_
          rintro e wg ⟨rfl, hb⟩
          have HWg := hid (HWf.out.trans (hb.mono HWf.out.size))
          clear hb
          go_wp2_with fail
          go_ret
          exact ⟨rfl, HB.out.trans (HWg.out.mono HB.out.size)⟩
        | false =>
          cases pb with
          | false =>
            have HX : spotsT (updL L kx (setStopF false)) H q nm.data.toList = cur := by rw [FXh.out, HCL.out]; simp
            have CSn := CS1.out nm (by unfold maxLen; omega) _ HOF.out
            rw [HX] at CSn
            replace CSn := hid CSn
            have o0 := ((KO.out.to HOF.out).2 0 _ rfl).1
            have o1 := ((KO.out.to HOF.out).2 1 _ rfl).1
            have o2 := ((KO.out.to HOF.out).2 2 _ rfl).1
            go_wp2_with fail
            refine CSn.out.mono ?_
            rintro e wf ⟨vf, rfl, hof, hb⟩
            obtain ⟨Af, cf, rfl, _, hmf⟩ := (Sl.of_own hof).form
            have CQ := hid (equalSpots_c _ _ _ wf.heap.size cur wf (Sl.of_own hof) (((Sl.of_own OWN.out).below hb (Nat.le_refl _)).more hb.size) (Nat.le_refl _))
            have HWf := hid (HWF.out.trans (hb.mono HWF.out.size))
            clear hof hb o0 o1 o2 CSn
            go_wp2_with fail
            refine CQ.out.mono ?_
            rintro e wg ⟨rfl, hb⟩
            have HWg := hid (HWf.out.trans (hb.mono HWf.out.size))
            clear hb
            go_wp2_with fail
            go_ret
            exact ⟨rfl, HB.out.trans (HWg.out.mono HB.out.size)⟩
          | true =>
            have HX : spotsT (updL L kx (setStopF false)) H q nm.data.toList = cur ++ spotsT (updL L kx (setStopF false)) H q up.data.toList := by rw [FXh.out, HCL.out]; rfl
            have hu := hplh.out (by trivial)
            have CU := CS1.out up (by rw [Lib.size_eq]; unfold maxLen; omega) _ HOF.out
            have hs30 := spotsT_len (updL L kx (setStopF false)) H q up.data.toList
            generalize spotsT (updL L kx (setStopF false)) H q up.data.toList = SU at *
            have hlj : cur.length ≤ 1048576 := by rw [HCu.out]; have := ownK_len L kx j; omega
            replace HX := hid HX
            replace CU := hid CU
            have o0 := ((KO.out.to HOF.out).2 0 _ rfl).1
            have o1 := ((KO.out.to HOF.out).2 1 _ rfl).1
            have o2 := ((KO.out.to HOF.out).2 2 _ rfl).1
            go_wp2_with fail
            refine CU.out.mono ?_
            rintro e wu ⟨vu, rfl, hou, hb⟩
            obtain ⟨Au, cu, rfl, _, hmu⟩ := (Sl.of_own hou).form
            have OU := hid (Sl.of_own hou)
            have HQU := hid (HQF.out.trans (hb.mono HQF.out.size))
            have OWU := hid (own_below OWN.out hb)
            clear hou hb o0 o1 o2
            go_wp2_with (at_builtin; refine appSpotS _ rfl (.tmp 94) (.tmp 97) rfl w7.heap.size _ cur SU (by rfl) OWU.out _ _ (by rfl) OU.out (by omega) HQU.out.size ?_)
            intro v' wz ho2 hb2
            obtain ⟨CU2, hCU2⟩ : ∃ l, l = cur ++ SU := ⟨_, rfl⟩
            replace ho2 : wz.ownsRow w7.heap.size 50 2 v' CU2.length (CU2.flatMap spcells) := by rw [hCU2]; simpa using ho2
            replace HQF := hid (HQU.out.trans hb2)
            replace HWF := hid (HW7.out.trans (HQF.out.mono HW7.out.size))
            replace HOF := hid (HO7.out.trans (HQF.out.mono HO7.out.size))
            obtain ⟨Az, cz, rfl, _, hmz⟩ := (Sl.of_own ho2).form
            replace OWN := hid ho2
            clear ho2 hb2 OWU OU
            replace HX := HX.out
            rw [← hCU2] at HX
            clear hCU2
            have CSn := CS1.out nm (by unfold maxLen; omega) _ HOF.out
            rw [HX] at CSn
            replace CSn := hid CSn
            have o0 := ((KO.out.to HOF.out).2 0 _ rfl).1
            have o1 := ((KO.out.to HOF.out).2 1 _ rfl).1
            have o2 := ((KO.out.to HOF.out).2 2 _ rfl).1
            go_wp2_with fail
            refine CSn.out.mono ?_
            rintro e wf ⟨vf, rfl, hof, hb⟩
            obtain ⟨Af, cf, rfl, _, hmf⟩ := (Sl.of_own hof).form
            have CQ := hid (equalSpots_c _ _ _ wf.heap.size CU2 wf (Sl.of_own hof) (((Sl.of_own OWN.out).below hb (Nat.le_refl _)).more hb.size) (Nat.le_refl _))
            have HWf := hid (HWF.out.trans (hb.mono HWF.out.size))
            clear hof hb o0 o1 o2 CSn
            go_wp2_with fail
            refine CQ.out.mono ?_
            rintro e wg ⟨rfl, hb⟩
            have HWg := hid (HWf.out.trans (hb.mono HWf.out.size))
            clear hb
            go_wp2_with fail
            go_ret
            exact ⟨rfl, HB.out.trans (HWg.out.mono HB.out.size)⟩
end Go.Proofs.Ytpfnjkmkenaipaa
