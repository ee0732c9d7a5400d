/-
  WALK: the law FnAllLines. By gen_fil.py.
-/
import Derived.Test.YtoiagfdhanhnkaaD18
import Derived.Test.YtoiagfdhanhnkaaF3
namespace Go.Proofs.Ytoiagfdhanhnkaa
open Go.RowKit Nm
set_option linter.unusedSimpArgs false
set_option linter.unusedVariables false
theorem eqTexts_same {rs rs' : List Row} {v v' : Value} {l : TxtL} {w : World} {lo lo' : Nat} (h : StrsR rs v l) (hr : Rows w lo rs) (h' : StrsR rs' v' l) (hr' : Rows w lo' rs') (hf : StrsFit l) :
    Calls Try.prog 32 #[v, v'] w (BoolPost w true) := by
  have e3 := equalTexts_c v v' l.length l.length w.heap.size l l w (StrsR.at_ h hr hf).1 (StrsR.at_ h' hr' hf).1 (Nat.le_refl _)
  rwa [decide_eq_true (rfl : l = l)] at e3
theorem sum_take (L : StrssD) (k : Nat) (l : TxtL) (h : L[k]? = some l) : ((L.take (k + 1)).map List.length).sum = ((L.take k).map List.length).sum + l.length := by
  rw [List.take_add_one, h]; simp
theorem allL_sum (L : StrssD) : (allL L).length = (L.map List.length).sum := by
  unfold allL
  induction L with
  | nil => rfl
  | cons a t ih =>
    rw [List.reverse_cons, List.flatten_append, List.length_append, ih]
    simp; omega
theorem all_ends {L : StrssD} {l0 : TxtL} {lt : StrssD} (h : L = l0 :: lt) : endsL (allL L) l0 = true := by
  subst h
  have e : allL (l0 :: lt) = allL lt ++ l0 := by simp [allL]
  unfold endsL
  rw [e, List.length_append, decide_eq_true (by omega), Bool.true_and, show (allL lt).length + l0.length - l0.length = (allL lt).length by omega, List.drop_left]
  simp
set_option maxHeartbeats 16000000 in
set_option maxRecDepth 100000 in
theorem walk_FnAllLines (a0 : Option Addr) (len0 cap0 : Nat) (z0 : List Int) (w : World) (w0 : IsRow .u8 w a0 len0 cap0 z0) :
    Calls Try.prog 7 #[.slice a0 len0 cap0] w (BoolPost w true) := by
  have hb0 := w0.leF
  by_cases h1 : (1048576 : Int) < (len0 : Int)
  · go_enter Try.func7, Try.ntmps7
    go_wp2_with fail
    go_ret
    exact ⟨rfl, Below.refl _ _⟩
  have DR := hid (drawAllLines_c a0 len0 cap0 z0 w w0)
  clear w0
  go_enter Try.func7, Try.ntmps7
  go_wp2_with fail
  refine DR.out.mono ?_
  rintro e w1 ⟨v, rs, d, rfl, hs, hsm, hr, hb⟩
  obtain ⟨A, n, c, rfl⟩ := hs.form hr
  obtain ⟨mo, ke, L⟩ := d
  have hs' : FilR rs (.agg #[.int .i64 mo, .int .i64 ke, .slice A n c]) ⟨mo, ke, L⟩ := hs
  have HS := hid hs'
  have HSM := hid hsm
  have HF := hid (sm_fit hsm)
  have HB := hid (hb.alloc hb.size (.cells #[.int .i64 mo, .int .i64 ke, .slice A n c] 26))
  have HR := hid (hr.bx hb.size #[.int .i64 mo, .int .i64 ke, .slice A n c] 26 3 rfl)
  have hwb : w.heap.size ≤ w1.heap.size := hb.size
  clear hs hs' hsm hr hb DR
  have f0 := (Rows.bc HR.out.left 0 rfl).1
  have f1 := (Rows.bc HR.out.left 1 rfl).1
  have f2 := (Rows.bc HR.out.left 2 rfl).1
  go_wp2_with fail
  refine (implAllLines_c (FilR.at_ HS.out HR.out.right HF.out) (Nat.le_refl _)).mono ?_
  rintro e wn ⟨u, rsu, rfl, hs9, hr9, hb⟩
  obtain ⟨Au, nu, cu, rfl⟩ := hs9.form hr9
  have Su := hid hs9
  replace HR := hid (HR.out.newer hb hr9 HB.out.size)
  replace HB := hid (HB.out.trans (hb.mono HB.out.size))
  clear hb hs9 hr9 f0 f1 f2
  have f0 := (Rows.bc HR.out.right.left 0 rfl).1
  have f1 := (Rows.bc HR.out.right.left 1 rfl).1
  have f2 := (Rows.bc HR.out.right.left 2 rfl).1
  go_wp2_with fail
  refine (specAllLines_c (FilR.at_ HS.out HR.out.right.right HF.out) (Nat.le_refl _)).mono ?_
  rintro e wn ⟨y, rsy, rfl, hs9, hr9, hb⟩
  obtain ⟨Ay, ny, cy, rfl⟩ := hs9.form hr9
  have Sy := hid hs9
  replace HR := hid (HR.out.newer hb hr9 HB.out.size)
  replace HB := hid (HB.out.trans (hb.mono HB.out.size))
  clear hb hs9 hr9 f0 f1 f2
  have f0 := (Rows.bc HR.out.right.right.left 0 rfl).1
  have f1 := (Rows.bc HR.out.right.right.left 1 rfl).1
  have f2 := (Rows.bc HR.out.right.right.left 2 rfl).1
  have CE := hid (eqTexts_same Su.out HR.out.right.left Sy.out HR.out.left (allX_fit))
  go_wp2_with fail
  refine (CE.out).mono ?_
  rintro e wn ⟨rfl, hb⟩
  replace HR := hid (HR.out.right.below hb)
  replace HB := hid (HB.out.trans (hb.mono HB.out.size))
  clear hb f0 f1 f2 CE Sy
  have f0 := (Rows.bc HR.out.right.left 0 rfl).1
  have f1 := (Rows.bc HR.out.right.left 1 rfl).1
  have f2 := (Rows.bc HR.out.right.left 2 rfl).1
  have CV := hid (implValidFiles_c (FilR.at_ HS.out HR.out.right.right HF.out) (Nat.le_refl _))
  cases hz : filOk ⟨mo, ke, L⟩ with
  | false =>
    rw [hz] at CV
    clear hz
    go_wp2_with fail
    refine CV.out.mono ?_
    rintro e wn ⟨rfl, hb⟩
    replace HR := hid (HR.out.below hb)
    replace HB := hid (HB.out.trans (hb.mono HB.out.size))
    clear hb f0 f1 f2 CV
    have f0 := (Rows.bc HR.out.right.left 0 rfl).1
    have f1 := (Rows.bc HR.out.right.left 1 rfl).1
    have f2 := (Rows.bc HR.out.right.left 2 rfl).1
    go_wp2_with fail
    refine (specAllLines_c (FilR.at_ HS.out HR.out.right.right HF.out) (Nat.le_refl _)).mono ?_
    rintro e wn ⟨y, rsy, rfl, hs9, hr9, hb⟩
    obtain ⟨Ay, ny, cy, rfl⟩ := hs9.form hr9
    have Sy := hid hs9
    replace HR := hid (HR.out.newer hb hr9 HB.out.size)
    replace HB := hid (HB.out.trans (hb.mono HB.out.size))
    clear hb hs9 hr9 f0 f1 f2
    have CE := hid (eqTexts_same Su.out HR.out.right.left Sy.out HR.out.left (allX_fit))
    go_wp2_with fail
    refine (CE.out).mono ?_
    rintro e wn ⟨rfl, hb⟩
    replace HB := hid (HB.out.trans (hb.mono HB.out.size))
    clear hb
    go_wp2_with fail
    go_ret
    exact ⟨rfl, HB.out⟩
  | true =>
    have HZ := hid hz
    rw [hz] at CV
    clear hz
    go_wp2_with fail
    refine CV.out.mono ?_
    rintro e wn ⟨rfl, hb⟩
    replace HR := hid (HR.out.below hb)
    replace HB := hid (HB.out.trans (hb.mono HB.out.size))
    clear hb f0 f1 f2 CV
    have f0 := (Rows.bc HR.out.right.left 0 rfl).1
    have f1 := (Rows.bc HR.out.right.left 1 rfl).1
    have f2 := (Rows.bc HR.out.right.left 2 rfl).1
    have hX := (show allX ⟨mo, ke, L⟩ = allL L from by unfold allX; rw [HZ.out]; rfl)
    rw [hX] at Su
    have hsm := fil_small HZ.out
    have hpt := fil_parts HZ.out
    have hl4 : L.length ≤ 4 := hsm.1
    obtain ⟨u0, hu0, hin2⟩ := FilR.at_ HS.out HR.out.right.right HF.out
    have hu2 : u0 = .slice A n c := by simp at hu0; exact hu0.symm
    subst hu2
    have hln : L.length = n := NestIn.count hin2.1
    obtain ⟨A9, c9, e9, hnc, hcm⟩ := hin2.1.form
    have hnc2 : n ≤ c := by injection e9 with a1 a2 a3; omega
    have hcm2 : c ≤ maxLen := by injection e9 with a1 a2 a3; omega
    unfold maxLen at hcm2
    have hnu : nu = (allL L).length := by obtain ⟨_, _, e8, _, _⟩ := (StrsR.at_ Su.out HR.out.left (by have h9 := allX_fit (d := ⟨mo, ke, L⟩); rw [hX] at h9; exact h9)).1.form; injection e8
    have hnu2 : nu ≤ 60 := by rw [hnu]; have := allL_len L 12 hsm.2; omega
    have HIN := hid hin2
    have HLN := hid hln
    have hl1 : 1 ≤ n := by rw [← hln]; exact hpt.2.2.2.2.2.1
    have hn4 : n ≤ 4 := by omega
    have HNU := hid (show (nu : Int) = (((L.map List.length).sum : Nat) : Int) by rw [hnu, allL_sum])
    have HL12 := hid hsm.2
    have HFX := hid (show StrsFit (allL L) by have h9 := allX_fit (d := ⟨mo, ke, L⟩); rw [hX] at h9; exact h9)
    have hnuu := hid hnu
    clear hu0 hin2 e9 hnc hcm hln hpt hsm hX hl4 hnu
    have hsumb : ∀ k : Nat, ((L.take k).map List.length).sum ≤ 12 * k := by
      intro k
      induction k with
      | zero => simp
      | succ k ih =>
        rcases hx : L[k]? with _ | l
        · rw [List.take_of_length_le (by have := List.getElem?_eq_none_iff.1 hx; omega)]; rw [List.take_of_length_le (by have := List.getElem?_eq_none_iff.1 hx; omega)] at ih; omega
        · rw [sum_take L k l hx]; have := HL12.out l (List.mem_of_getElem? hx); omega
    have HSB := hid hsumb
    clear hsumb
    go_wp2_with fail
    go_loopw [5, 6] (fun sv iv wr => ∃ (k s : Nat), iv = .int .i64 k ∧ sv = .int .i64 s ∧ k ≤ n ∧ s ≤ 12 * k ∧ Hid (s = ((L.take k).map List.length).sum) ∧ wr = wn) (fun _ iv _ => n - (intOf iv).toNat)
    case atStart => exact ⟨0, 0, rfl, rfl, Nat.zero_le _, by omega, by show 0 = _; simp, rfl⟩
    case round =>
      obtain ⟨k, s, rfl, rfl, hk, hs, HK, rfl⟩ := hrel
      rename World => wn
      by_cases hlt : k < n
      · obtain ⟨b, o, u, l, rfl, hbB, hx, d0, hin⟩ := HIN.out.elem hlt
        obtain ⟨A2, k2, rfl, hk2, hm2⟩ := hin.1.form
        unfold maxLen at hm2
        have hl12 := HL12.out l (List.mem_of_getElem? hx)
        have HK2 := hid (show s + l.length = ((L.take (k + 1)).map List.length).sum by rw [sum_take L k l hx, HK.out])
        generalize l.length = ll at *
        have hlt' : (k : Int) < (n : Int) := by omega
        clear hx hin
        go_wp2_with fail
        go_roundw
        case rel => exact ⟨k + 1, s + ll, by go_num, by push_cast; rfl, by omega, by omega, HK2.out, (by first | trivial | rfl)⟩
        case measure => simp [intOf]; omega
      · obtain rfl : k = n := by omega
        have hse : (nu : Int) = (s : Int) := by rw [HNU.out]; have h9 := HK.out; rw [List.take_of_length_le (by rw [HLN.out]; exact Nat.le_refl _)] at h9; omega
        have hse2 : ((nu : Int) == (s : Int)) = true := by simp [hse]
        have hse3 := hid hse
        obtain ⟨b, o, u, l0, hA, hbB, hx, d0, hin⟩ := HIN.out.elem (k := 0) (by omega)
        subst hA
        obtain ⟨A2, k2, rfl, hk2, hm2⟩ := hin.1.form
        unfold maxLen at hm2
        have hen : endsL (allL L) l0 = true := by obtain ⟨lt, hlt2⟩ : ∃ lt, L = l0 :: lt := by { cases L with | nil => simp at hx | cons a t => exact ⟨t, by simp at hx; rw [hx]⟩ }; exact all_ends hlt2
        have CW := hid (endsWith_c (StrsR.at_ Su.out HR.out.left HFX.out) hin (by have := hnuu.out; omega) (by have := HL12.out l0 (List.mem_of_getElem? hx); omega))
        rw [hen] at CW
        rw [Nat.add_zero] at d0
        have hl13 : l0.length ≤ 1048576 := by have := HL12.out l0 (List.mem_of_getElem? hx); omega
        have hk0 : 0 < k := by omega
        clear hse hx hin hen hlt
        go_wp2_with fail
        refine CW.out.mono ?_
        rintro e wq ⟨rfl, hb⟩
        replace HB := hid (HB.out.trans (hb.mono HB.out.size))
        clear hb
        go_wp2_with fail
        go_ret
        exact ⟨rfl, HB.out⟩
end Go.Proofs.Ytoiagfdhanhnkaa
