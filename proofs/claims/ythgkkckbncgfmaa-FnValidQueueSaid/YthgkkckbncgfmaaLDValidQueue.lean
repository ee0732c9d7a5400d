/-
  WALK: the law FnValidQueue. By gen_draw.py.
-/
import Derived.Test.YthgkkckbncgfmaaD10
namespace Go.Proofs.Ythgkkckbncgfmaa
open Go.RowKit Nm
set_option linter.unusedSimpArgs false
set_option linter.unusedVariables false

set_option maxHeartbeats 8000000 in
set_option maxRecDepth 100000 in
theorem walk_FnValidQueue (a0 : Option Addr) (len0 cap0 : Nat) (z0 : List Int) (w : World) (w0 : IsRow .u8 w a0 len0 cap0 z0) :
    Calls Try.prog 10 #[.slice a0 len0 cap0] w (BoolPost w true) := by
  have hb0 := w0.le
  have HB := hid (Below.refl w.heap.size w)
  by_cases h1 : (1048576 : Int) < (len0 : Int)
  · go_enter Try.func10, Try.ntmps10
    go_wp2_with fail
    go_ret
    exact ⟨rfl, HB.out⟩
  have DR := hid (drawValidQueue_c a0 len0 cap0 z0 w w0)
  clear w0
  go_enter Try.func10, Try.ntmps10
  go_wp2_with fail
  refine DR.out.mono ?_
  rintro e w1 ⟨v, rsL, d, rfl, hs0, hr, hb, hf, hl30⟩
  obtain ⟨fL0, fL1, fL2, rfl⟩ := hs0.form hr
  have SL := hid hs0
  clear hs0
  have HR := hid (hr.base HB.out.size)
  replace HB := hid (HB.out.trans (hb.mono HB.out.size))
  clear hb hr
  clear DR
  have FL := hid hf
  clear hf
  have C1 := hid (fun (W : World) (u : Value) (h : QueIn W W.heap.size u d) => iValidQueue h)
  have C2 := hid (fun (W : World) (u : Value) (h : QueIn W W.heap.size u d) => sValidQueue h)
  have K1 := hid (fun (hz : queOk d = true) (W : World) (u : Value) (h : QueIn W W.heap.size u (tailQ d)) => (show Calls Try.prog 35 #[u] W (BoolPost W true) by have h9 := iValidQueue h; rwa [queOk_tail hz] at h9))
  generalize queOk d = q at *
  have hb : Below w1.heap.size w1 (w1.alloc (.cells #[.int .i64 d.rm, .slice fL0 fL1 fL2, .int .i64 d.ls] 50)) := (Below.refl _ _).alloc (Nat.le_refl _) _
  have hr := Rows.box w1 #[.int .i64 d.rm, .slice fL0 fL1 fL2, .int .i64 d.ls] 50 3 rfl
  replace HR := hid (HR.out.newer hb hr HB.out.size)
  replace HB := hid (HB.out.trans (hb.mono HB.out.size))
  clear hb hr
  have dbL0 := (Rows.bc (HR.out.left) 0 rfl).1
  have dbL1 := (Rows.bc (HR.out.left) 1 rfl).1
  have dbL2 := (Rows.bc (HR.out.left) 2 rfl).1
  have tbL := (Rows.bc (HR.out.left) 0 rfl).2
  go_wp2_with fail
  refine (C1.out _ _ (SL.out.at_ (HR.out.right) FL.out)).mono ?_
  rintro e w2 ⟨rfl, hb⟩
  replace HR := hid (HR.out.below hb)
  replace HB := hid (HB.out.trans (hb.mono HB.out.size))
  clear hb
  clear dbL0 dbL1 dbL2 tbL
  have dbL0 := (Rows.bc (HR.out.left) 0 rfl).1
  have dbL1 := (Rows.bc (HR.out.left) 1 rfl).1
  have dbL2 := (Rows.bc (HR.out.left) 2 rfl).1
  have tbL := (Rows.bc (HR.out.left) 0 rfl).2
  have b0 : (q != q) = false := by simp
  have b1 : (q == q) = true := by simp
  go_wp2_with fail
  refine (C2.out _ _ (SL.out.at_ (HR.out.right) FL.out)).mono ?_
  rintro e w3 ⟨rfl, hb⟩
  replace HR := hid (HR.out.below hb)
  replace HB := hid (HB.out.trans (hb.mono HB.out.size))
  clear hb
  clear dbL0 dbL1 dbL2 tbL
  have dbL0 := (Rows.bc (HR.out.left) 0 rfl).1
  have dbL1 := (Rows.bc (HR.out.left) 1 rfl).1
  have dbL2 := (Rows.bc (HR.out.left) 2 rfl).1
  have tbL := (Rows.bc (HR.out.left) 0 rfl).2
  cases q
  · go_wp2_with fail
    refine (C2.out _ _ (SL.out.at_ (HR.out.right) FL.out)).mono ?_
    rintro e w4 ⟨rfl, hb⟩
    replace HR := hid (HR.out.below hb)
    replace HB := hid (HB.out.trans (hb.mono HB.out.size))
    clear hb
    clear dbL0 dbL1 dbL2 tbL
    have dbL0 := (Rows.bc (HR.out.left) 0 rfl).1
    have dbL1 := (Rows.bc (HR.out.left) 1 rfl).1
    have dbL2 := (Rows.bc (HR.out.left) 2 rfl).1
    have tbL := (Rows.bc (HR.out.left) 0 rfl).2
    go_wp2_with fail
    go_ret
    exact ⟨rfl, HB.out⟩
  · replace K1 := hid (K1.out rfl)
    have oL := hid (SL.out.recs ▸ (HR.out.right) : Rows w3 _ [_])
    rcases Nat.eq_zero_or_pos fL1 with hz | hz
    · subst hz
      go_wp2_with fail
      go_quiet (fail)
      go_wp2_with fail
      go_ret
      exact ⟨rfl, by first | exact HB.out | exact HB.out.drew | exact below_dr HB.out _⟩
    · have hcnt := SL.out.recs.count (HR.out.right)
      have oL2 : World.ownsRow w3 w.heap.size 33 4 (.slice fL0 fL1 fL2) fL1 (d.it.flatMap rcells) := by have h9 := oL.out.head; rw [hcnt]; rw [hcnt] at h9; exact h9
      obtain ⟨hcn, hcm⟩ := (Sl.of_own oL2).cap
      obtain ⟨g, rfl, hgl⟩ := own_some oL2 (by omega)
      clear oL oL2 hcnt
      unfold maxLen at hcm
      have HQ := hid (fun (W : World) (hb : Below w3.heap.size w3 W) => SL.out.at_ (((HR.out.right)).below hb) FL.out)
      have z0 : ((fL1 : Int) == 0) = false := by simp; omega
      have z1 : (1 : Int) ≤ (fL1 : Int) := by omega
      by_cases hc1 : fL2 = 1
      · have HQ1 := hid (show QueIn w3.drew w3.drew.heap.size (.agg #[.int .i64 d.rm, .slice (some ⟨g, 0, none⟩) 0 0, .int .i64 d.ls]) (tailQ d) from (HQ.out w3.drew (Below.refl _ _).drew).tail0 (by omega))
        subst hc1
        go_wp2_with fail
        go_region_with (go_at_call 35; refine (K1.out _ _ HQ1.out).mono ?_; rintro e w9 ⟨rfl, hb⟩; have HB9 := hid (HB.out.drew.trans (hb.mono (by simpa using HB.out.size))); clear hb)
        all_goals (go_wp2_with fail; go_ret; exact ⟨rfl, HB9.out⟩)
      · have HQ1 := hid (show QueIn w3.drew w3.drew.heap.size (.agg #[.int .i64 d.rm, .slice (some ⟨g, 4, none⟩) (fL1 - 1) (fL2 - 1), .int .i64 d.ls]) (tailQ d) from by simpa using (HQ.out w3.drew (Below.refl _ _).drew).tail (by omega))
        go_wp2_with fail
        go_region_with (go_at_call 35; refine (K1.out _ _ HQ1.out).mono ?_; rintro e w9 ⟨rfl, hb⟩; have HB9 := hid (HB.out.drew.trans (hb.mono (by simpa using HB.out.size))); clear hb)
        all_goals (go_wp2_with fail; go_ret; exact ⟨rfl, HB9.out⟩)
end Go.Proofs.Ythgkkckbncgfmaa
