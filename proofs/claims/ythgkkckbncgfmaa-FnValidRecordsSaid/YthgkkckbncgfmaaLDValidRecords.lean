/-
  WALK: the law FnValidRecords. By gen_draw.py.
-/
import Derived.Test.YthgkkckbncgfmaaD6
namespace Go.Proofs.Ythgkkckbncgfmaa
open Go.RowKit Nm
set_option linter.unusedSimpArgs false
set_option linter.unusedVariables false

set_option maxHeartbeats 8000000 in
set_option maxRecDepth 100000 in
theorem walk_FnValidRecords (a0 : Option Addr) (len0 cap0 : Nat) (z0 : List Int) (w : World) (w0 : IsRow .u8 w a0 len0 cap0 z0) :
    Calls Try.prog 5 #[.slice a0 len0 cap0] w (BoolPost w true) := by
  have hb0 := w0.le
  have HB := hid (Below.refl w.heap.size w)
  by_cases h1 : (1048576 : Int) < (len0 : Int)
  · go_enter Try.func5, Try.ntmps5
    go_wp2_with fail
    go_ret
    exact ⟨rfl, HB.out⟩
  have DR := hid (drawValidRecords_c a0 len0 cap0 z0 w w0)
  clear w0
  go_enter Try.func5, Try.ntmps5
  go_wp2_with fail
  refine DR.out.mono ?_
  rintro e w1 ⟨v, rsL, l, rfl, hs0, hr, hb, hf⟩
  obtain ⟨fL0, fL1, fL2, rfl⟩ := hs0.form hr
  have SL := hid hs0
  clear hs0
  have HR := hid (hr.base HB.out.size)
  replace HB := hid (HB.out.trans (hb.mono HB.out.size))
  clear hb hr
  clear DR
  have FL := hid hf
  clear hf
  have C1 := hid (fun (W : World) (u : Value) (h : RecsIn W W.heap.size u l) => iValidRecords h)
  have C2 := hid (fun (W : World) (u : Value) (h : RecsIn W W.heap.size u l) => sValidRecords h)
  have C3 := hid (fun (W : World) (u : Value) (h : RecsIn W W.heap.size u l) => iDropRepeats h)
  have hcount : fL1 = l.length := by have := (SL.out.at_ (HR.out) FL.out).1.1.form; obtain ⟨A9, c9, e9, _, _⟩ := this; injection e9 with _ e9 _
  have hl20 := FL.out.1
  unfold maxTxt at hl20
  have K1 := hid (fun (hz : recsOk l = true) (W : World) (A : Option Addr) (n c k : Nat) (h : RecsIn W W.heap.size (.slice A n c) l) (hk : k ≤ n) => (show Calls Try.prog 15 #[.slice A k c] W (BoolPost W true) by have h9 := iValidRecords (h.cut hk); rwa [recs_sub hz (fun x hx => List.mem_of_mem_take hx) (by rw [List.length_take]; omega)] at h9))
  have K2 := hid (fun (hz : recsOk l = true) (W : World) (u : Value) (h : RecsIn W W.heap.size u (dropReps l)) => (show Calls Try.prog 15 #[u] W (BoolPost W true) by have h9 := iValidRecords h; rwa [recs_sub hz (drop_sub l).1 (drop_sub l).2] at h9))
  have FD := hid (fit_sub FL.out (drop_sub l).1 (drop_sub l).2)
  generalize dropReps l = Y at *
  generalize recsOk l = q at *
  subst hcount
  obtain ⟨hcap, hcap2⟩ := (SL.out.at_ (HR.out) FL.out).1.1.cap
  unfold maxLen at hcap2
  generalize hln : l.length = n at *
  replace hln := hid hln
  go_wp2_with fail
  refine (C1.out _ _ (SL.out.at_ (HR.out) FL.out)).mono ?_
  rintro e w2 ⟨rfl, hb⟩
  replace HR := hid (HR.out.below hb)
  replace HB := hid (HB.out.trans (hb.mono HB.out.size))
  clear hb
  have b0 : (q != q) = false := by simp
  have b1 : (q == q) = true := by simp
  go_wp2_with fail
  refine (C2.out _ _ (SL.out.at_ (HR.out) FL.out)).mono ?_
  rintro e w3 ⟨rfl, hb⟩
  replace HR := hid (HR.out.below hb)
  replace HB := hid (HB.out.trans (hb.mono HB.out.size))
  clear hb
  cases q
  · go_wp2_with fail
    refine (C2.out _ _ (SL.out.at_ (HR.out) FL.out)).mono ?_
    rintro e w4 ⟨rfl, hb⟩
    replace HR := hid (HR.out.below hb)
    replace HB := hid (HB.out.trans (hb.mono HB.out.size))
    clear hb
    go_wp2_with fail
    go_ret
    exact ⟨rfl, HB.out⟩
  · replace K1 := hid (K1.out rfl)
    replace K2 := hid (K2.out rfl)
    rcases Nat.eq_zero_or_pos n with hz | hz
    · subst hz
      go_wp2_with fail
      go_ret
      exact ⟨rfl, HB.out⟩
    · have q0 : ((n : Int) == 0) = false := by simp; omega
      have q1 : IntKind.i64.wrap ((n : Int) - 1) = (n : Int) - 1 := by rw [IntKind.wrap_i64]; omega
      have q2 : (0 : Int) ≤ (n : Int) - 1 := by omega
      have q3 : ((n : Int) - 1).toNat = n - 1 := by omega
      have q4 : (n : Int) - 1 ≤ (fL2 : Int) := by omega
      go_wp2_with fail
      refine (K1.out _ _ _ _ _ (SL.out.at_ (HR.out) FL.out) (by omega)).mono ?_
      rintro e w4 ⟨rfl, hb⟩
      replace HR := hid (HR.out.below hb)
      replace HB := hid (HB.out.trans (hb.mono HB.out.size))
      clear hb
      go_wp2_with fail
      refine (C3.out _ _ (SL.out.at_ (HR.out) FL.out)).mono ?_
      rintro e w5 ⟨u, rsY, rfl, hs0, hr, hb⟩
      obtain ⟨fY0, fY1, fY2, rfl⟩ := hs0.form hr
      have SY := hid hs0
      clear hs0
      replace HR := hid (HR.out.newer hb hr HB.out.size)
      replace HB := hid (HB.out.trans (hb.mono HB.out.size))
      clear hb hr
      have FY := hid FD.out
      go_wp2_with fail
      refine (K2.out _ _ (SY.out.at_ (HR.out.left) FY.out)).mono ?_
      rintro e w6 ⟨rfl, hb⟩
      replace HR := hid (HR.out.below hb)
      replace HB := hid (HB.out.trans (hb.mono HB.out.size))
      clear hb
      go_wp2_with fail
      go_ret
      exact ⟨rfl, HB.out⟩
end Go.Proofs.Ythgkkckbncgfmaa
