/-
  WALK: the law FnFilterRecord. By gen_filt.py.
-/
import Derived.Deep.Cut
import Derived.Test.YteekkccgdkmjoaaE28
namespace Go.Proofs.Yteekkccgdkmjoaa
open Go.RowKit Go.Proofs.Yteekkccgdkmjoaa.Nm
set_option linter.unusedSimpArgs false
set_option linter.unusedVariables false
set_option maxHeartbeats 16000000 in
set_option maxRecDepth 100000 in
theorem walk_FnFilterRecord (a0 : Option Addr) (len0 cap0 : Nat) (z0 : List Int) (w : World) (w0 : IsRow .u8 w a0 len0 cap0 z0) :
    Calls Try.prog 4 #[.slice a0 len0 cap0] w (BoolPost w true) := by
  have hb0 := w0.leF
  by_cases h1 : (1048576 : Int) < (len0 : Int)
  · go_enter Try.func4, Try.ntmps4
    go_wp2_with fail
    go_ret
    exact ⟨rfl, Below.refl _ _⟩
  have DR := hid (drawFilterRecord_c a0 len0 cap0 z0 w w0)
  clear w0
  go_enter Try.func4, Try.ntmps4
  go_wp2_with fail
  refine DR.out.mono ?_
  rintro e w1 ⟨fA, fn, fc, l, nm, tx, lv, sq, rfl, hfn, hfn4, hff, hof, ⟨hnm, htx⟩, hlv, hsq, hb⟩
  have hA : (fA = none ∧ fn = 0 ∧ fc = 0) ∨ ∃ g, fA = some ⟨g, 0, none⟩ := by
    rcases hof.2 with ⟨h7, h8⟩ | ⟨g, cap, cur, h8, _⟩
    · left; simp at h7; exact h7
    · right; simp at h8; exact ⟨g, h8.1⟩
  have hcap := (Sl.of_own hof).form
  obtain ⟨A', c', he', hcc, hcm⟩ := hcap
  injection he' with e1 e2 e3
  subst e1 e3
  clear e2
  unfold maxLen at hcm
  have hbx : Below w1.heap.size w1 (w1.alloc (.cells #[.string nm, .int .i64 lv, .string tx, .int .i64 sq] 27)) := (Below.refl _ _).alloc (Nat.le_refl _) _
  have FI := hid (show Fs (w1.alloc (.cells #[.string nm, .int .i64 lv, .string tx, .int .i64 sq] 27)) w1.heap.size fn (.slice fA fn fc) l from ⟨(Sl.of_own hof).below hbx (Nat.le_refl _), fun f hf => by have := hff f hf; omega⟩)
  have KR := hid (Blk.new w1 #[.string nm, .int .i64 lv, .string tx, .int .i64 sq] 27)
  have HB := hid (hb.trans (hbx.mono hb.size))
  have hl1 : w1.heap.size < (w1.alloc (.cells #[.string nm, .int .i64 lv, .string tx, .int .i64 sq] 27)).heap.size := by simp
  replace hfn := hid hfn
  clear hb hbx DR hof hff hlv hsq
  go_wp2_with fail
  generalize hrb : w1.heap.size = rb at *
  generalize w1.alloc (.cells #[.string nm, .int .i64 lv, .string tx, .int .i64 sq] 27) = w2 at *
  clear hrb
  have HW := hid (Below.refl w2.heap.size w2)
  have FF := hid (fun (W : World) (hW : Below w2.heap.size w2 W) => (show Fs W rb fn (.slice fA fn fc) l ∧ rb ≤ W.heap.size from ⟨⟨FI.out.1.below hW (Nat.le_of_lt hl1), FI.out.2⟩, Nat.le_trans (Nat.le_of_lt hl1) hW.size⟩))
  have hz1 : nm.size ≤ 1048576 := by omega
  have hz2 : tx.size ≤ 1048576 := by omega
  have CI := hid (fun (W : World) (hW : Below w2.heap.size w2 W) => implFilterRecord_c (.slice fA fn fc) fn rb l nm tx lv sq W (FF.out W hW).1 (FF.out W hW).2 hz1 hz2)
  have CS := hid (fun (W : World) (hW : Below w2.heap.size w2 W) => specFilterRecord_c (.slice fA fn fc) fn rb l nm tx lv sq W (FF.out W hW).1 (FF.out W hW).2 hz1 hz2)
  have CF := hid (fun (W : World) (hW : Below w2.heap.size w2 W) => implValidFilters_c (.slice fA fn fc) fn rb l W (FF.out W hW).1 (FF.out W hW).2)
  have CV := hid (fun (W : World) => recLitF_c W nm tx lv sq hz1 hz2)
  have CJ := hid (fun (n : Nat) (A : Option Addr) (c : Nat) (m : List Flt) (a b : ByteArray) (x y : Int) (ha : a.size ≤ 1048576) (hb : b.size ≤ 1048576) (W : World) (hW : Below w2.heap.size w2 W) (h : Fs W rb n (.slice A n c) m) => implFilterRecord_c (.slice A n c) n rb m a b x y W h (FF.out W hW).2 ha hb)
  rcases filt_ways l nm tx lv sq (fn / 2) with ⟨hf, hX⟩ | ⟨hf, hr, hX⟩ | ⟨hf, hr, h1, h2, hX⟩ | ⟨q1, hf, hr, h1, h2, hX⟩ | ⟨q1, q2, hf, hr, h1, h2, hX, hle⟩
  · have hXX := hX
    have CI2 := hid (fun (W : World) (hW : Below w2.heap.size w2 W) => (show Calls Try.prog 10 #[.slice fA fn fc, .agg #[.string nm, .int .i64 lv, .string tx, .int .i64 sq]] W (fun e w' => e = .returned (.tuple #[.agg #[.string ⟨#[]⟩, .int .i64 0, .string ⟨#[]⟩, .int .i64 0], .bool false]) ∧ Below W.heap.size W w') from by have h9 := CI.out W hW; rw [hX] at h9; exact h9))
    have CS2 := hid (fun (W : World) (hW : Below w2.heap.size w2 W) => (show Calls Try.prog 7 #[.slice fA fn fc, .agg #[.string nm, .int .i64 lv, .string tx, .int .i64 sq]] W (fun e w' => e = .returned (.tuple #[.agg #[.string ⟨#[]⟩, .int .i64 0, .string ⟨#[]⟩, .int .i64 0], .bool false]) ∧ Below W.heap.size W w') from by have h9 := CS.out W hW; rw [hX] at h9; exact h9))
    clear hX CI CS
    obtain ⟨⟨r0, _⟩, ⟨r1, _⟩, ⟨r2, _⟩, ⟨r3, _⟩⟩ := (And.intro ((KR.out.to HW.out).2 0 _ rfl) (And.intro ((KR.out.to HW.out).2 1 _ rfl) (And.intro ((KR.out.to HW.out).2 2 _ rfl) ((KR.out.to HW.out).2 3 _ rfl))))
    go_wp2_with fail
    refine (CI2.out _ HW.out).mono ?_
    rintro e w3 ⟨rfl, hb0⟩
    have hbx : Below w3.heap.size w3 (w3.alloc (.cells #[.string ⟨#[]⟩, .int .i64 0, .string ⟨#[]⟩, .int .i64 0] 27)) := (Below.refl _ _).alloc (Nat.le_refl _) _
    have hb := hb0.trans (hbx.mono hb0.size)
    have KO := hid (Blk.new w3 #[.string ⟨#[]⟩, .int .i64 0, .string ⟨#[]⟩, .int .i64 0] 27)
    have HW4 := hid (HW.out.trans (hb.mono HW.out.size))
    clear hb hb0 hbx r0 r1 r2 r3
    obtain ⟨⟨r0, _⟩, ⟨r1, _⟩, ⟨r2, _⟩, ⟨r3, _⟩⟩ := (And.intro ((KR.out.to HW4.out).2 0 _ rfl) (And.intro ((KR.out.to HW4.out).2 1 _ rfl) (And.intro ((KR.out.to HW4.out).2 2 _ rfl) ((KR.out.to HW4.out).2 3 _ rfl))))
    go_wp2_with fail
    generalize hbo : w3.heap.size = bo at *
    generalize w3.alloc (.cells #[.string ⟨#[]⟩, .int .i64 0, .string ⟨#[]⟩, .int .i64 0] 27) = w4 at *
    clear hbo
    refine (CS2.out _ HW4.out).mono ?_
    rintro e w5 ⟨rfl, hb0⟩
    have hbx : Below w5.heap.size w5 (w5.alloc (.cells #[.string ⟨#[]⟩, .int .i64 0, .string ⟨#[]⟩, .int .i64 0] 27)) := (Below.refl _ _).alloc (Nat.le_refl _) _
    have hb := hb0.trans (hbx.mono hb0.size)
    have KW := hid (Blk.new w5 #[.string ⟨#[]⟩, .int .i64 0, .string ⟨#[]⟩, .int .i64 0] 27)
    have HW6 := hid (HW4.out.trans (hb.mono HW4.out.size))
    have HO6 := hid hb
    clear hb hb0 hbx r0 r1 r2 r3
    obtain ⟨⟨r0, _⟩, ⟨r1, _⟩, ⟨r2, _⟩, ⟨r3, _⟩⟩ := (And.intro ((KR.out.to HW6.out).2 0 _ rfl) (And.intro ((KR.out.to HW6.out).2 1 _ rfl) (And.intro ((KR.out.to HW6.out).2 2 _ rfl) ((KR.out.to HW6.out).2 3 _ rfl))))
    obtain ⟨⟨o0, _⟩, ⟨o1, _⟩, ⟨o2, _⟩, ⟨o3, _⟩⟩ := (And.intro ((KO.out.to HO6.out).2 0 _ rfl) (And.intro ((KO.out.to HO6.out).2 1 _ rfl) (And.intro ((KO.out.to HO6.out).2 2 _ rfl) ((KO.out.to HO6.out).2 3 _ rfl))))
    go_wp2_with fail
    generalize hbw : w5.heap.size = bw at *
    generalize w5.alloc (.cells #[.string ⟨#[]⟩, .int .i64 0, .string ⟨#[]⟩, .int .i64 0] 27) = w6 at *
    clear hbw
    have HE6 := hid (Below.refl w6.heap.size w6)
    obtain ⟨⟨p0, _⟩, ⟨p1, _⟩, ⟨p2, _⟩, ⟨p3, _⟩⟩ := (And.intro ((KW.out.to HE6.out).2 0 _ rfl) (And.intro ((KW.out.to HE6.out).2 1 _ rfl) (And.intro ((KW.out.to HE6.out).2 2 _ rfl) ((KW.out.to HE6.out).2 3 _ rfl))))
    refine (CF.out _ HW6.out).mono ?_
    rintro e w7 ⟨he7, hb⟩
    rw [hf] at he7
    subst he7
    have HW7 := hid (HW6.out.trans (hb.mono HW6.out.size))
    have HO7 := hid (HO6.out.trans (hb.mono HO6.out.size))
    have HE7 := hid (HE6.out.trans (hb.mono HE6.out.size))
    clear hb r0 r1 r2 r3 o0 o1 o2 o3 p0 p1 p2 p3
    obtain ⟨⟨r0, _⟩, ⟨r1, _⟩, ⟨r2, _⟩, ⟨r3, _⟩⟩ := (And.intro ((KR.out.to HW7.out).2 0 _ rfl) (And.intro ((KR.out.to HW7.out).2 1 _ rfl) (And.intro ((KR.out.to HW7.out).2 2 _ rfl) ((KR.out.to HW7.out).2 3 _ rfl))))
    obtain ⟨⟨o0, _⟩, ⟨o1, _⟩, ⟨o2, _⟩, ⟨o3, _⟩⟩ := (And.intro ((KO.out.to HO7.out).2 0 _ rfl) (And.intro ((KO.out.to HO7.out).2 1 _ rfl) (And.intro ((KO.out.to HO7.out).2 2 _ rfl) ((KO.out.to HO7.out).2 3 _ rfl))))
    obtain ⟨⟨p0, _⟩, ⟨p1, _⟩, ⟨p2, _⟩, ⟨p3, _⟩⟩ := (And.intro ((KW.out.to HE7.out).2 0 _ rfl) (And.intro ((KW.out.to HE7.out).2 1 _ rfl) (And.intro ((KW.out.to HE7.out).2 2 _ rfl) ((KW.out.to HE7.out).2 3 _ rfl))))
    go_wp2_with fail
    go_ret
    exact ⟨ret_bool (by simp), HB.out.trans (HW7.out.mono HB.out.size)⟩
  · have hXX := hX
    have CI2 := hid (fun (W : World) (hW : Below w2.heap.size w2 W) => (show Calls Try.prog 10 #[.slice fA fn fc, .agg #[.string nm, .int .i64 lv, .string tx, .int .i64 sq]] W (fun e w' => e = .returned (.tuple #[.agg #[.string ⟨#[]⟩, .int .i64 0, .string ⟨#[]⟩, .int .i64 0], .bool false]) ∧ Below W.heap.size W w') from by have h9 := CI.out W hW; rw [hX] at h9; exact h9))
    have CS2 := hid (fun (W : World) (hW : Below w2.heap.size w2 W) => (show Calls Try.prog 7 #[.slice fA fn fc, .agg #[.string nm, .int .i64 lv, .string tx, .int .i64 sq]] W (fun e w' => e = .returned (.tuple #[.agg #[.string ⟨#[]⟩, .int .i64 0, .string ⟨#[]⟩, .int .i64 0], .bool false]) ∧ Below W.heap.size W w') from by have h9 := CS.out W hW; rw [hX] at h9; exact h9))
    clear hX CI CS
    obtain ⟨⟨r0, _⟩, ⟨r1, _⟩, ⟨r2, _⟩, ⟨r3, _⟩⟩ := (And.intro ((KR.out.to HW.out).2 0 _ rfl) (And.intro ((KR.out.to HW.out).2 1 _ rfl) (And.intro ((KR.out.to HW.out).2 2 _ rfl) ((KR.out.to HW.out).2 3 _ rfl))))
    go_wp2_with fail
    refine (CI2.out _ HW.out).mono ?_
    rintro e w3 ⟨rfl, hb0⟩
    have hbx : Below w3.heap.size w3 (w3.alloc (.cells #[.string ⟨#[]⟩, .int .i64 0, .string ⟨#[]⟩, .int .i64 0] 27)) := (Below.refl _ _).alloc (Nat.le_refl _) _
    have hb := hb0.trans (hbx.mono hb0.size)
    have KO := hid (Blk.new w3 #[.string ⟨#[]⟩, .int .i64 0, .string ⟨#[]⟩, .int .i64 0] 27)
    have HW4 := hid (HW.out.trans (hb.mono HW.out.size))
    clear hb hb0 hbx r0 r1 r2 r3
    obtain ⟨⟨r0, _⟩, ⟨r1, _⟩, ⟨r2, _⟩, ⟨r3, _⟩⟩ := (And.intro ((KR.out.to HW4.out).2 0 _ rfl) (And.intro ((KR.out.to HW4.out).2 1 _ rfl) (And.intro ((KR.out.to HW4.out).2 2 _ rfl) ((KR.out.to HW4.out).2 3 _ rfl))))
    go_wp2_with fail
    generalize hbo : w3.heap.size = bo at *
    generalize w3.alloc (.cells #[.string ⟨#[]⟩, .int .i64 0, .string ⟨#[]⟩, .int .i64 0] 27) = w4 at *
    clear hbo
    refine (CS2.out _ HW4.out).mono ?_
    rintro e w5 ⟨rfl, hb0⟩
    have hbx : Below w5.heap.size w5 (w5.alloc (.cells #[.string ⟨#[]⟩, .int .i64 0, .string ⟨#[]⟩, .int .i64 0] 27)) := (Below.refl _ _).alloc (Nat.le_refl _) _
    have hb := hb0.trans (hbx.mono hb0.size)
    have KW := hid (Blk.new w5 #[.string ⟨#[]⟩, .int .i64 0, .string ⟨#[]⟩, .int .i64 0] 27)
    have HW6 := hid (HW4.out.trans (hb.mono HW4.out.size))
    have HO6 := hid hb
    clear hb hb0 hbx r0 r1 r2 r3
    obtain ⟨⟨r0, _⟩, ⟨r1, _⟩, ⟨r2, _⟩, ⟨r3, _⟩⟩ := (And.intro ((KR.out.to HW6.out).2 0 _ rfl) (And.intro ((KR.out.to HW6.out).2 1 _ rfl) (And.intro ((KR.out.to HW6.out).2 2 _ rfl) ((KR.out.to HW6.out).2 3 _ rfl))))
    obtain ⟨⟨o0, _⟩, ⟨o1, _⟩, ⟨o2, _⟩, ⟨o3, _⟩⟩ := (And.intro ((KO.out.to HO6.out).2 0 _ rfl) (And.intro ((KO.out.to HO6.out).2 1 _ rfl) (And.intro ((KO.out.to HO6.out).2 2 _ rfl) ((KO.out.to HO6.out).2 3 _ rfl))))
    go_wp2_with fail
    generalize hbw : w5.heap.size = bw at *
    generalize w5.alloc (.cells #[.string ⟨#[]⟩, .int .i64 0, .string ⟨#[]⟩, .int .i64 0] 27) = w6 at *
    clear hbw
    have HE6 := hid (Below.refl w6.heap.size w6)
    obtain ⟨⟨p0, _⟩, ⟨p1, _⟩, ⟨p2, _⟩, ⟨p3, _⟩⟩ := (And.intro ((KW.out.to HE6.out).2 0 _ rfl) (And.intro ((KW.out.to HE6.out).2 1 _ rfl) (And.intro ((KW.out.to HE6.out).2 2 _ rfl) ((KW.out.to HE6.out).2 3 _ rfl))))
    refine (CF.out _ HW6.out).mono ?_
    rintro e w7 ⟨he7, hb⟩
    rw [hf] at he7
    subst he7
    have HW7 := hid (HW6.out.trans (hb.mono HW6.out.size))
    have HO7 := hid (HO6.out.trans (hb.mono HO6.out.size))
    have HE7 := hid (HE6.out.trans (hb.mono HE6.out.size))
    clear hb r0 r1 r2 r3 o0 o1 o2 o3 p0 p1 p2 p3
    obtain ⟨⟨r0, _⟩, ⟨r1, _⟩, ⟨r2, _⟩, ⟨r3, _⟩⟩ := (And.intro ((KR.out.to HW7.out).2 0 _ rfl) (And.intro ((KR.out.to HW7.out).2 1 _ rfl) (And.intro ((KR.out.to HW7.out).2 2 _ rfl) ((KR.out.to HW7.out).2 3 _ rfl))))
    obtain ⟨⟨o0, _⟩, ⟨o1, _⟩, ⟨o2, _⟩, ⟨o3, _⟩⟩ := (And.intro ((KO.out.to HO7.out).2 0 _ rfl) (And.intro ((KO.out.to HO7.out).2 1 _ rfl) (And.intro ((KO.out.to HO7.out).2 2 _ rfl) ((KO.out.to HO7.out).2 3 _ rfl))))
    obtain ⟨⟨p0, _⟩, ⟨p1, _⟩, ⟨p2, _⟩, ⟨p3, _⟩⟩ := (And.intro ((KW.out.to HE7.out).2 0 _ rfl) (And.intro ((KW.out.to HE7.out).2 1 _ rfl) (And.intro ((KW.out.to HE7.out).2 2 _ rfl) ((KW.out.to HE7.out).2 3 _ rfl))))
    go_wp2_with fail
    refine (CV.out _).mono ?_
    rintro e w8 ⟨he8, hb9⟩
    rw [hr] at he8
    subst he8
    have hb := (show Below w7.heap.size w7 w8 from ((Below.refl _ _).alloc (Nat.le_refl _) _).trans (hb9.mono (by simp)))
    clear hb9
    have HW8 := hid (HW7.out.trans (hb.mono HW7.out.size))
    have HO8 := hid (HO7.out.trans (hb.mono HO7.out.size))
    have HE8 := hid (HE7.out.trans (hb.mono HE7.out.size))
    clear hb r0 r1 r2 r3 o0 o1 o2 o3 p0 p1 p2 p3
    obtain ⟨⟨r0, _⟩, ⟨r1, _⟩, ⟨r2, _⟩, ⟨r3, _⟩⟩ := (And.intro ((KR.out.to HW8.out).2 0 _ rfl) (And.intro ((KR.out.to HW8.out).2 1 _ rfl) (And.intro ((KR.out.to HW8.out).2 2 _ rfl) ((KR.out.to HW8.out).2 3 _ rfl))))
    obtain ⟨⟨o0, _⟩, ⟨o1, _⟩, ⟨o2, _⟩, ⟨o3, _⟩⟩ := (And.intro ((KO.out.to HO8.out).2 0 _ rfl) (And.intro ((KO.out.to HO8.out).2 1 _ rfl) (And.intro ((KO.out.to HO8.out).2 2 _ rfl) ((KO.out.to HO8.out).2 3 _ rfl))))
    obtain ⟨⟨p0, _⟩, ⟨p1, _⟩, ⟨p2, _⟩, ⟨p3, _⟩⟩ := (And.intro ((KW.out.to HE8.out).2 0 _ rfl) (And.intro ((KW.out.to HE8.out).2 1 _ rfl) (And.intro ((KW.out.to HE8.out).2 2 _ rfl) ((KW.out.to HE8.out).2 3 _ rfl))))
    go_wp2_with fail
    go_ret
    exact ⟨ret_bool (by simp), HB.out.trans (HW8.out.mono HB.out.size)⟩
  · have hXX := hX
    have CI2 := hid (fun (W : World) (hW : Below w2.heap.size w2 W) => (show Calls Try.prog 10 #[.slice fA fn fc, .agg #[.string nm, .int .i64 lv, .string tx, .int .i64 sq]] W (fun e w' => e = .returned (.tuple #[.agg #[.string ⟨#[]⟩, .int .i64 0, .string ⟨#[]⟩, .int .i64 0], .bool false]) ∧ Below W.heap.size W w') from by have h9 := CI.out W hW; rw [hX] at h9; exact h9))
    have CS2 := hid (fun (W : World) (hW : Below w2.heap.size w2 W) => (show Calls Try.prog 7 #[.slice fA fn fc, .agg #[.string nm, .int .i64 lv, .string tx, .int .i64 sq]] W (fun e w' => e = .returned (.tuple #[.agg #[.string ⟨#[]⟩, .int .i64 0, .string ⟨#[]⟩, .int .i64 0], .bool false]) ∧ Below W.heap.size W w') from by have h9 := CS.out W hW; rw [hX] at h9; exact h9))
    clear hX CI CS
    obtain ⟨⟨r0, _⟩, ⟨r1, _⟩, ⟨r2, _⟩, ⟨r3, _⟩⟩ := (And.intro ((KR.out.to HW.out).2 0 _ rfl) (And.intro ((KR.out.to HW.out).2 1 _ rfl) (And.intro ((KR.out.to HW.out).2 2 _ rfl) ((KR.out.to HW.out).2 3 _ rfl))))
    go_wp2_with fail
    refine (CI2.out _ HW.out).mono ?_
    rintro e w3 ⟨rfl, hb0⟩
    have hbx : Below w3.heap.size w3 (w3.alloc (.cells #[.string ⟨#[]⟩, .int .i64 0, .string ⟨#[]⟩, .int .i64 0] 27)) := (Below.refl _ _).alloc (Nat.le_refl _) _
    have hb := hb0.trans (hbx.mono hb0.size)
    have KO := hid (Blk.new w3 #[.string ⟨#[]⟩, .int .i64 0, .string ⟨#[]⟩, .int .i64 0] 27)
    have HW4 := hid (HW.out.trans (hb.mono HW.out.size))
    clear hb hb0 hbx r0 r1 r2 r3
    obtain ⟨⟨r0, _⟩, ⟨r1, _⟩, ⟨r2, _⟩, ⟨r3, _⟩⟩ := (And.intro ((KR.out.to HW4.out).2 0 _ rfl) (And.intro ((KR.out.to HW4.out).2 1 _ rfl) (And.intro ((KR.out.to HW4.out).2 2 _ rfl) ((KR.out.to HW4.out).2 3 _ rfl))))
    go_wp2_with fail
    generalize hbo : w3.heap.size = bo at *
    generalize w3.alloc (.cells #[.string ⟨#[]⟩, .int .i64 0, .string ⟨#[]⟩, .int .i64 0] 27) = w4 at *
    clear hbo
    refine (CS2.out _ HW4.out).mono ?_
    rintro e w5 ⟨rfl, hb0⟩
    have hbx : Below w5.heap.size w5 (w5.alloc (.cells #[.string ⟨#[]⟩, .int .i64 0, .string ⟨#[]⟩, .int .i64 0] 27)) := (Below.refl _ _).alloc (Nat.le_refl _) _
    have hb := hb0.trans (hbx.mono hb0.size)
    have KW := hid (Blk.new w5 #[.string ⟨#[]⟩, .int .i64 0, .string ⟨#[]⟩, .int .i64 0] 27)
    have HW6 := hid (HW4.out.trans (hb.mono HW4.out.size))
    have HO6 := hid hb
    clear hb hb0 hbx r0 r1 r2 r3
    obtain ⟨⟨r0, _⟩, ⟨r1, _⟩, ⟨r2, _⟩, ⟨r3, _⟩⟩ := (And.intro ((KR.out.to HW6.out).2 0 _ rfl) (And.intro ((KR.out.to HW6.out).2 1 _ rfl) (And.intro ((KR.out.to HW6.out).2 2 _ rfl) ((KR.out.to HW6.out).2 3 _ rfl))))
    obtain ⟨⟨o0, _⟩, ⟨o1, _⟩, ⟨o2, _⟩, ⟨o3, _⟩⟩ := (And.intro ((KO.out.to HO6.out).2 0 _ rfl) (And.intro ((KO.out.to HO6.out).2 1 _ rfl) (And.intro ((KO.out.to HO6.out).2 2 _ rfl) ((KO.out.to HO6.out).2 3 _ rfl))))
    go_wp2_with fail
    generalize hbw : w5.heap.size = bw at *
    generalize w5.alloc (.cells #[.string ⟨#[]⟩, .int .i64 0, .string ⟨#[]⟩, .int .i64 0] 27) = w6 at *
    clear hbw
    have HE6 := hid (Below.refl w6.heap.size w6)
    obtain ⟨⟨p0, _⟩, ⟨p1, _⟩, ⟨p2, _⟩, ⟨p3, _⟩⟩ := (And.intro ((KW.out.to HE6.out).2 0 _ rfl) (And.intro ((KW.out.to HE6.out).2 1 _ rfl) (And.intro ((KW.out.to HE6.out).2 2 _ rfl) ((KW.out.to HE6.out).2 3 _ rfl))))
    refine (CF.out _ HW6.out).mono ?_
    rintro e w7 ⟨he7, hb⟩
    rw [hf] at he7
    subst he7
    have HW7 := hid (HW6.out.trans (hb.mono HW6.out.size))
    have HO7 := hid (HO6.out.trans (hb.mono HO6.out.size))
    have HE7 := hid (HE6.out.trans (hb.mono HE6.out.size))
    clear hb r0 r1 r2 r3 o0 o1 o2 o3 p0 p1 p2 p3
    obtain ⟨⟨r0, _⟩, ⟨r1, _⟩, ⟨r2, _⟩, ⟨r3, _⟩⟩ := (And.intro ((KR.out.to HW7.out).2 0 _ rfl) (And.intro ((KR.out.to HW7.out).2 1 _ rfl) (And.intro ((KR.out.to HW7.out).2 2 _ rfl) ((KR.out.to HW7.out).2 3 _ rfl))))
    obtain ⟨⟨o0, _⟩, ⟨o1, _⟩, ⟨o2, _⟩, ⟨o3, _⟩⟩ := (And.intro ((KO.out.to HO7.out).2 0 _ rfl) (And.intro ((KO.out.to HO7.out).2 1 _ rfl) (And.intro ((KO.out.to HO7.out).2 2 _ rfl) ((KO.out.to HO7.out).2 3 _ rfl))))
    obtain ⟨⟨p0, _⟩, ⟨p1, _⟩, ⟨p2, _⟩, ⟨p3, _⟩⟩ := (And.intro ((KW.out.to HE7.out).2 0 _ rfl) (And.intro ((KW.out.to HE7.out).2 1 _ rfl) (And.intro ((KW.out.to HE7.out).2 2 _ rfl) ((KW.out.to HE7.out).2 3 _ rfl))))
    go_wp2_with fail
    refine (CV.out _).mono ?_
    rintro e w8 ⟨he8, hb9⟩
    rw [hr] at he8
    subst he8
    have hb := (show Below w7.heap.size w7 w8 from ((Below.refl _ _).alloc (Nat.le_refl _) _).trans (hb9.mono (by simp)))
    clear hb9
    have HW8 := hid (HW7.out.trans (hb.mono HW7.out.size))
    have HO8 := hid (HO7.out.trans (hb.mono HO7.out.size))
    have HE8 := hid (HE7.out.trans (hb.mono HE7.out.size))
    clear hb r0 r1 r2 r3 o0 o1 o2 o3 p0 p1 p2 p3
    obtain ⟨⟨r0, _⟩, ⟨r1, _⟩, ⟨r2, _⟩, ⟨r3, _⟩⟩ := (And.intro ((KR.out.to HW8.out).2 0 _ rfl) (And.intro ((KR.out.to HW8.out).2 1 _ rfl) (And.intro ((KR.out.to HW8.out).2 2 _ rfl) ((KR.out.to HW8.out).2 3 _ rfl))))
    obtain ⟨⟨o0, _⟩, ⟨o1, _⟩, ⟨o2, _⟩, ⟨o3, _⟩⟩ := (And.intro ((KO.out.to HO8.out).2 0 _ rfl) (And.intro ((KO.out.to HO8.out).2 1 _ rfl) (And.intro ((KO.out.to HO8.out).2 2 _ rfl) ((KO.out.to HO8.out).2 3 _ rfl))))
    obtain ⟨⟨p0, _⟩, ⟨p1, _⟩, ⟨p2, _⟩, ⟨p3, _⟩⟩ := (And.intro ((KW.out.to HE8.out).2 0 _ rfl) (And.intro ((KW.out.to HE8.out).2 1 _ rfl) (And.intro ((KW.out.to HE8.out).2 2 _ rfl) ((KW.out.to HE8.out).2 3 _ rfl))))
    have hkc : ((fn : Int) / 2) = ((fn / 2 : Nat) : Int) := by omega
    have hn0 : 0 < fn := by
      rcases Nat.eq_zero_or_pos fn with hn0 | hn0
      · exfalso
        have hl0 : l = [] := List.eq_nil_of_length_eq_zero (by rw [hfn.out]; exact hn0)
        subst hl0
        have h9 : fX [] nm tx lv sq = some lv := by unfold fX; rw [hr, hf]; rfl
        simp only [List.take_nil, List.drop_nil] at h1 h2
        rw [h9] at hXX
        cases hXX
      · exact hn0
    · obtain ⟨g, rfl⟩ : ∃ g, fA = some ⟨g, 0, none⟩ := by
        rcases hA with ⟨_, h, _⟩ | h
        · omega
        · exact h
      have hkn : fn / 2 < fn := by omega
      have hck : ¬ fc = fn / 2 := by omega
      have hb1 : ((fn / 2 : Nat) : Int) ≤ (fn : Int) := by omega
      have hb2 : ((fn / 2 : Nat) : Int) ≤ (fc : Int) := by omega
      have hb3 : (0 : Int) ≤ ((fn / 2 : Nat) : Int) := by omega
      have hb4 : fn / 2 ≤ fn := by omega
      have HT1 := hid (fun (W : World) (hW : Below w8.heap.size w8 W) => (show Calls Try.prog 10 #[.slice (some ⟨g, 0, none⟩) (fn / 2) fc, .agg #[.string nm, .int .i64 lv, .string tx, .int .i64 sq]] W (fun e w' => e = .returned (.tuple #[.agg #[.string ⟨#[]⟩, .int .i64 0, .string ⟨#[]⟩, .int .i64 0], .bool false]) ∧ Below W.heap.size W w') from by have h9 := CJ.out (fn / 2) (some ⟨g, 0, none⟩) fc (l.take (fn / 2)) nm tx lv sq hz1 hz2 W (HW8.out.trans (hW.mono HW8.out.size)) ((FF.out W (HW8.out.trans (hW.mono HW8.out.size))).1.takeF (Nat.le_of_lt hkn)); rw [h1] at h9; exact h9))
      have HT2 := hid (fun (W : World) (hW2 : Below w2.heap.size w2 W) => (show Calls Try.prog 10 #[.slice (some ⟨g, fn / 2 * 3, none⟩) (fn - fn / 2) (fc - fn / 2), .agg #[.string ⟨#[]⟩, .int .i64 0, .string ⟨#[]⟩, .int .i64 0]] W (fun e w' => e = .returned (.tuple #[.agg #[.string ⟨#[]⟩, .int .i64 0, .string ⟨#[]⟩, .int .i64 0], .bool false]) ∧ Below W.heap.size W w') from by have h9 := CJ.out (fn - fn / 2) (some ⟨g, 0 + fn / 2 * 3, none⟩) (fc - fn / 2) (l.drop (fn / 2)) ⟨#[]⟩ ⟨#[]⟩ 0 0 (by decide) (by decide) W hW2 ((FF.out W hW2).1.dropF (Nat.le_of_lt hkn)); rw [h2, Nat.zero_add] at h9; exact h9))
      generalize fn / 2 = k at *
      go_wp2_with fail
      go_cut [10, 11] from 14 (fun sa sb wc => ∃ b : Nat, sa = .pointer (some ⟨b, 0, none⟩) ∧ sb = .bool false ∧ Blk wc b [.string ⟨#[]⟩, .int .i64 0, .string ⟨#[]⟩, .int .i64 0] ∧ Below w8.heap.size w8 wc)
      case first =>
        try clear CI2
        try clear CS2
        try clear CF
        try clear CV
        try clear CJ
        try clear FF
        try clear FI
        try clear HO8 HE8 KO KW
        try clear HO20 HE20
        try clear HB
        try clear hXX
        have KS := hid (KR.out.to HW8.out)
        have SF := hid (fun (W : World) (hW : Below w8.heap.size w8 W) => (show W.cell? ⟨rb, 0, none⟩ = some (.string nm) ∧ W.cell? ⟨rb, 1, none⟩ = some (.int .i64 lv) ∧ W.cell? ⟨rb, 2, none⟩ = some (.string tx) ∧ W.cell? ⟨rb, 3, none⟩ = some (.int .i64 sq) from ⟨((KS.out.to hW).2 0 _ rfl).1, ((KS.out.to hW).2 1 _ rfl).1, ((KS.out.to hW).2 2 _ rfl).1, ((KS.out.to hW).2 3 _ rfl).1⟩))
        have HNd := hid ((Below.refl w8.heap.size w8).drew)
        refine wp_region_held_drew (S := fun w' : World => w'.cell? ⟨rb, 0, none⟩ = some (.string nm) ∧ w'.cell? ⟨rb, 1, none⟩ = some (.int .i64 lv) ∧ w'.cell? ⟨rb, 2, none⟩ = some (.string tx) ∧ w'.cell? ⟨rb, 3, none⟩ = some (.int .i64 sq)) (by kernel_rfl) (SF.out _ HNd.out) (fun hS => ?_)
        refine wpAnyH_take (i := 0) (oi := ?oi101) (v := ?v101) ?hi101 (by kernel_rfl) ?hf101 ?hr101 ?hQ101 (Or.inl ⟨?hw101, ?hy101⟩) (by assumption) ?rest101
        case hi101 => simp only [List.getElem?_toArray, List.getElem?_cons_succ, List.getElem?_cons_zero]; rfl
        case hf101 => kernel_rfl
        case hr101 => kernel_rfl
        case hw101 => rfl
        case hy101 => (intro w hSw; (try dsimp only at hSw); go_simp; all_goals (first | done | with_reducible rfl))
        case hQ101 => exact fun _ _ _ h => h
        simp only [Act.put, List.setIfInBounds_toArray, List.set_cons_zero, List.set_cons_succ]
        refine wpAnyH_take (i := 1) (oi := ?oi102) (v := ?v102) ?hi102 (by kernel_rfl) ?hf102 ?hr102 ?hQ102 (Or.inl ⟨?hw102, ?hy102⟩) (by assumption) ?rest102
        case hi102 => simp only [List.getElem?_toArray, List.getElem?_cons_succ, List.getElem?_cons_zero]; rfl
        case hf102 => kernel_rfl
        case hr102 => kernel_rfl
        case hw102 => rfl
        case hy102 => (intro w hSw; (try dsimp only at hSw); go_simp; all_goals (first | done | with_reducible rfl))
        case hQ102 => exact fun _ _ _ h => h
        simp only [Act.put, List.setIfInBounds_toArray, List.set_cons_zero, List.set_cons_succ]
        refine wpAnyH_take (i := 2) (oi := ?oi103) (v := ?v103) ?hi103 (by kernel_rfl) ?hf103 ?hr103 ?hQ103 (Or.inl ⟨?hw103, ?hy103⟩) (by assumption) ?rest103
        case hi103 => simp only [List.getElem?_toArray, List.getElem?_cons_succ, List.getElem?_cons_zero]; rfl
        case hf103 => kernel_rfl
        case hr103 => kernel_rfl
        case hw103 => rfl
        case hy103 => (intro w hSw; (try dsimp only at hSw); go_simp; all_goals (first | done | with_reducible rfl))
        case hQ103 => exact fun _ _ _ h => h
        simp only [Act.put, List.setIfInBounds_toArray, List.set_cons_zero, List.set_cons_succ]
        refine wpAnyH_take (i := 3) (oi := ?oi104) (v := ?v104) ?hi104 (by kernel_rfl) ?hf104 ?hr104 ?hQ104 (Or.inl ⟨?hw104, ?hy104⟩) (by assumption) ?rest104
        case hi104 => simp only [List.getElem?_toArray, List.getElem?_cons_succ, List.getElem?_cons_zero]; rfl
        case hf104 => kernel_rfl
        case hr104 => kernel_rfl
        case hw104 => rfl
        case hy104 => (intro w hSw; (try dsimp only at hSw); go_simp; all_goals (first | done | with_reducible rfl))
        case hQ104 => exact fun _ _ _ h => h
        simp only [Act.put, List.setIfInBounds_toArray, List.set_cons_zero, List.set_cons_succ]
        refine wpAnyH_ready (rs := [4, 8]) (by kernel_rfl) (by simp) ?_
        refine AllReadyH.cons (o := ?oi105) ?hi105 (fun K hK => ?stepA105) (AllReadyH.cons (o := ?oj105) ?hj105 (fun K hK => ?stepB105) AllReadyH.nil)
        case hi105 => simp only [List.getElem?_toArray, List.getElem?_cons_succ, List.getElem?_cons_zero]; rfl
        case hj105 => simp only [List.getElem?_toArray, List.getElem?_cons_succ, List.getElem?_cons_zero]; rfl
        all_goals rw [if_pos (by rfl)]
        all_goals go_simp
        · go_at_call 10
          refine (HT1.out _ HNd.out).mono ?_
          rintro e w40 ⟨rfl, hb⟩
          have HN5 := hid (HNd.out.trans (hb.mono HNd.out.size))
          clear hb
          refine hK.out _ _ (SF.out _ HN5.out) (fun hS => ?_)
          refine wpAnyH_take (i := 5) (oi := ?oi106) (v := ?v106) ?hi106 (by kernel_rfl) ?hf106 ?hr106 ?hQ106 (Or.inl ⟨?hw106, ?hy106⟩) (by assumption) ?rest106
          case hi106 => simp only [List.getElem?_toArray, List.getElem?_cons_succ, List.getElem?_cons_zero]; rfl
          case hf106 => kernel_rfl
          case hr106 => kernel_rfl
          case hw106 => rfl
          case hy106 => (intro w hSw; (try dsimp only at hSw); go_simp; all_goals (first | done | with_reducible rfl))
          case hQ106 => exact fun _ _ _ h => h
          simp only [Act.put, List.setIfInBounds_toArray, List.set_cons_zero, List.set_cons_succ]
          refine wpAnyH_take (i := 6) (oi := ?oi107) (v := ?v107) ?hi107 (by kernel_rfl) ?hf107 ?hr107 ?hQ107 (Or.inl ⟨?hw107, ?hy107⟩) (by assumption) ?rest107
          case hi107 => simp only [List.getElem?_toArray, List.getElem?_cons_succ, List.getElem?_cons_zero]; rfl
          case hf107 => kernel_rfl
          case hr107 => kernel_rfl
          case hw107 => rfl
          case hy107 => (intro w hSw; (try dsimp only at hSw); go_simp; all_goals (first | done | with_reducible rfl))
          case hQ107 => exact fun _ _ _ h => h
          simp only [Act.put, List.setIfInBounds_toArray, List.set_cons_zero, List.set_cons_succ]
          refine wpAnyH_take (i := 7) (oi := ?oi108) (v := ?v108) ?hi108 (by kernel_rfl) ?hf108 ?hr108 ?hQ108 (Or.inl ⟨?hw108, ?hy108⟩) (by assumption) ?rest108
          case hi108 => simp only [List.getElem?_toArray, List.getElem?_cons_succ, List.getElem?_cons_zero]; rfl
          case hf108 => kernel_rfl
          case hr108 => kernel_rfl
          case hw108 => rfl
          case hy108 => (intro w hSw; (try dsimp only at hSw); go_simp; all_goals (first | done | with_reducible rfl))
          case hQ108 => exact fun _ _ _ h => h
          simp only [Act.put, List.setIfInBounds_toArray, List.set_cons_zero, List.set_cons_succ]
          refine wpAnyH_ready (rs := [8]) (by kernel_rfl) (by simp) ?_
          refine AllReadyH.cons (o := ?oi109) ?hi109 (fun K hK => ?step109) AllReadyH.nil
          case hi109 => simp only [List.getElem?_toArray, List.getElem?_cons_succ, List.getElem?_cons_zero]; rfl
          rw [if_pos (by rfl)]
          go_simp
          have KN := hid (Blk.new w40 #[.string ⟨#[]⟩, .int .i64 0, .string ⟨#[]⟩, .int .i64 0] 27)
          have HN6 := hid (HN5.out.alloc HN5.out.size (.cells #[.string ⟨#[]⟩, .int .i64 0, .string ⟨#[]⟩, .int .i64 0] 27))
          refine hK.out _ _ (SF.out _ HN6.out) (fun hS => ?_)
          skip
          obtain ⟨z0, y0⟩ := KN.out.2 0 _ rfl
          obtain ⟨z1, y1⟩ := KN.out.2 1 _ rfl
          obtain ⟨z2, y2⟩ := KN.out.2 2 _ rfl
          obtain ⟨z3, y3⟩ := KN.out.2 3 _ rfl
          refine wpAnyH_ready (rs := [9]) (by kernel_rfl) (by simp) ?_
          refine AllReadyH.cons (o := ?oi110) ?hi110 (fun K hK => ?step110) AllReadyH.nil
          case hi110 => simp only [List.getElem?_toArray, List.getElem?_cons_succ, List.getElem?_cons_zero]; rfl
          rw [if_pos (by rfl)]
          go_simp
          have KE := hid (Blk.new w40 #[.string ⟨#[]⟩, .int .i64 0, .string ⟨#[]⟩, .int .i64 0] 27)
          have HE := hid (HN5.out.alloc HN5.out.size (.cells #[.string ⟨#[]⟩, .int .i64 0, .string ⟨#[]⟩, .int .i64 0] 27))
          refine hK.out _ _ (SF.out _ HE.out) (fun hS => ?_)
          refine wpAnyH_take (i := 10) (oi := ?oi111) (v := ?v111) ?hi111 (by kernel_rfl) ?hf111 ?hr111 ?hQ111 (Or.inl ⟨?hw111, ?hy111⟩) (by assumption) ?rest111
          case hi111 => simp only [List.getElem?_toArray, List.getElem?_cons_succ, List.getElem?_cons_zero]; rfl
          case hf111 => kernel_rfl
          case hr111 => kernel_rfl
          case hw111 => rfl
          case hy111 => (intro w hSw; (try dsimp only at hSw); go_simp; all_goals (first | done | with_reducible rfl))
          case hQ111 => exact fun _ _ _ h => h
          simp only [Act.put, List.setIfInBounds_toArray, List.set_cons_zero, List.set_cons_succ]
          refine wpAnyH_done (by kernel_rfl) ?_ _
          clear z0 y0 z1 y1 z2 y2 z3 y3
          go_wp2_with fail
          go_meet
          case rel => exact ⟨_, rfl, rfl, KE.out, HE.out⟩
        · have KN0 := hid (show Blk _ w8.heap.size [.string ⟨#[]⟩, .int .i64 0, .string ⟨#[]⟩, .int .i64 0] from Blk.new w8.drew #[.string ⟨#[]⟩, .int .i64 0, .string ⟨#[]⟩, .int .i64 0] 27)
          have HN0 := hid (HNd.out.alloc (Nat.le_refl _) (.cells #[.string ⟨#[]⟩, .int .i64 0, .string ⟨#[]⟩, .int .i64 0] 27))
          refine hK.out _ _ (SF.out _ HN0.out) (fun hS => ?_)
          refine wpAnyH_ready (rs := [4]) (by kernel_rfl) (by simp) ?_
          refine AllReadyH.cons (o := ?oi112) ?hi112 (fun K hK => ?step112) AllReadyH.nil
          case hi112 => simp only [List.getElem?_toArray, List.getElem?_cons_succ, List.getElem?_cons_zero]; rfl
          rw [if_pos (by rfl)]
          go_simp
          go_at_call 10
          refine (HT1.out _ HN0.out).mono ?_
          rintro e w40 ⟨rfl, hb⟩
          have HN5 := hid (HN0.out.trans (hb.mono HN0.out.size))
          have KN := hid (KN0.out.to hb)
          clear hb
          refine hK.out _ _ (SF.out _ HN5.out) (fun hS => ?_)
          refine wpAnyH_take (i := 5) (oi := ?oi113) (v := ?v113) ?hi113 (by kernel_rfl) ?hf113 ?hr113 ?hQ113 (Or.inl ⟨?hw113, ?hy113⟩) (by assumption) ?rest113
          case hi113 => simp only [List.getElem?_toArray, List.getElem?_cons_succ, List.getElem?_cons_zero]; rfl
          case hf113 => kernel_rfl
          case hr113 => kernel_rfl
          case hw113 => rfl
          case hy113 => (intro w hSw; (try dsimp only at hSw); go_simp; all_goals (first | done | with_reducible rfl))
          case hQ113 => exact fun _ _ _ h => h
          simp only [Act.put, List.setIfInBounds_toArray, List.set_cons_zero, List.set_cons_succ]
          refine wpAnyH_take (i := 6) (oi := ?oi114) (v := ?v114) ?hi114 (by kernel_rfl) ?hf114 ?hr114 ?hQ114 (Or.inl ⟨?hw114, ?hy114⟩) (by assumption) ?rest114
          case hi114 => simp only [List.getElem?_toArray, List.getElem?_cons_succ, List.getElem?_cons_zero]; rfl
          case hf114 => kernel_rfl
          case hr114 => kernel_rfl
          case hw114 => rfl
          case hy114 => (intro w hSw; (try dsimp only at hSw); go_simp; all_goals (first | done | with_reducible rfl))
          case hQ114 => exact fun _ _ _ h => h
          simp only [Act.put, List.setIfInBounds_toArray, List.set_cons_zero, List.set_cons_succ]
          refine wpAnyH_take (i := 7) (oi := ?oi115) (v := ?v115) ?hi115 (by kernel_rfl) ?hf115 ?hr115 ?hQ115 (Or.inl ⟨?hw115, ?hy115⟩) (by assumption) ?rest115
          case hi115 => simp only [List.getElem?_toArray, List.getElem?_cons_succ, List.getElem?_cons_zero]; rfl
          case hf115 => kernel_rfl
          case hr115 => kernel_rfl
          case hw115 => rfl
          case hy115 => (intro w hSw; (try dsimp only at hSw); go_simp; all_goals (first | done | with_reducible rfl))
          case hQ115 => exact fun _ _ _ h => h
          simp only [Act.put, List.setIfInBounds_toArray, List.set_cons_zero, List.set_cons_succ]
          obtain ⟨z0, y0⟩ := KN.out.2 0 _ rfl
          obtain ⟨z1, y1⟩ := KN.out.2 1 _ rfl
          obtain ⟨z2, y2⟩ := KN.out.2 2 _ rfl
          obtain ⟨z3, y3⟩ := KN.out.2 3 _ rfl
          refine wpAnyH_ready (rs := [9]) (by kernel_rfl) (by simp) ?_
          refine AllReadyH.cons (o := ?oi116) ?hi116 (fun K hK => ?step116) AllReadyH.nil
          case hi116 => simp only [List.getElem?_toArray, List.getElem?_cons_succ, List.getElem?_cons_zero]; rfl
          rw [if_pos (by rfl)]
          go_simp
          have KE := hid ((((KN.out.set 0 (.string ⟨#[]⟩)).set 1 (.int .i64 0)).set 2 (.string ⟨#[]⟩)).set 3 (.int .i64 0))
          have HE := hid ((((HN5.out.setCell (p := ⟨w8.heap.size, 0, none⟩) (Nat.le_refl _) (.string ⟨#[]⟩)).setCell (p := ⟨w8.heap.size, 1, none⟩) (Nat.le_refl _) (.int .i64 0)).setCell (p := ⟨w8.heap.size, 2, none⟩) (Nat.le_refl _) (.string ⟨#[]⟩)).setCell (p := ⟨w8.heap.size, 3, none⟩) (Nat.le_refl _) (.int .i64 0))
          refine hK.out _ _ (SF.out _ HE.out) (fun hS => ?_)
          refine wpAnyH_take (i := 10) (oi := ?oi117) (v := ?v117) ?hi117 (by kernel_rfl) ?hf117 ?hr117 ?hQ117 (Or.inl ⟨?hw117, ?hy117⟩) (by assumption) ?rest117
          case hi117 => simp only [List.getElem?_toArray, List.getElem?_cons_succ, List.getElem?_cons_zero]; rfl
          case hf117 => kernel_rfl
          case hr117 => kernel_rfl
          case hw117 => rfl
          case hy117 => (intro w hSw; (try dsimp only at hSw); go_simp; all_goals (first | done | with_reducible rfl))
          case hQ117 => exact fun _ _ _ h => h
          simp only [Act.put, List.setIfInBounds_toArray, List.set_cons_zero, List.set_cons_succ]
          refine wpAnyH_done (by kernel_rfl) ?_ _
          clear z0 y0 z1 y1 z2 y2 z3 y3
          go_wp2_with fail
          go_meet
          case rel => exact ⟨_, rfl, rfl, KE.out, HE.out⟩
      case rest =>
        obtain ⟨b10, rfl, rfl, hk10, hb⟩ := hcut
        rename World => w20
        clear r0 r1 r2 r3 o0 o1 o2 o3 p0 p1 p2 p3
        have KM := hid hk10
        have HW20 := hid (HW8.out.trans (hb.mono HW8.out.size))
        have HO20 := hid (HO8.out.trans (hb.mono HO8.out.size))
        have HE20 := hid (HE8.out.trans (hb.mono HE8.out.size))
        have HN20 := hid hb
        clear hb hk10
        go_wp2_with fail
        go_cut [12, 13] from 14 (fun sa sb wc => ∃ b : Nat, sa = .pointer (some ⟨b, 0, none⟩) ∧ sb = .bool false ∧ Blk wc b [.string ⟨#[]⟩, .int .i64 0, .string ⟨#[]⟩, .int .i64 0] ∧ Below w20.heap.size w20 wc)
        case first =>
          try clear CI2
          try clear CS2
          try clear CF
          try clear CV
          try clear CJ
          try clear FF
          try clear FI
          try clear HO8 HE8 KO KW
          try clear HO20 HE20
          try clear HB
          try clear hXX
          have KS := hid KM.out
          have SF := hid (fun (W : World) (hW : Below w20.heap.size w20 W) => (show W.cell? ⟨b10, 0, none⟩ = some (.string ⟨#[]⟩) ∧ W.cell? ⟨b10, 1, none⟩ = some (.int .i64 0) ∧ W.cell? ⟨b10, 2, none⟩ = some (.string ⟨#[]⟩) ∧ W.cell? ⟨b10, 3, none⟩ = some (.int .i64 0) from ⟨((KS.out.to hW).2 0 _ rfl).1, ((KS.out.to hW).2 1 _ rfl).1, ((KS.out.to hW).2 2 _ rfl).1, ((KS.out.to hW).2 3 _ rfl).1⟩))
          have HNd := hid ((Below.refl w20.heap.size w20).drew)
          refine wp_region_held_drew (S := fun w' : World => w'.cell? ⟨b10, 0, none⟩ = some (.string ⟨#[]⟩) ∧ w'.cell? ⟨b10, 1, none⟩ = some (.int .i64 0) ∧ w'.cell? ⟨b10, 2, none⟩ = some (.string ⟨#[]⟩) ∧ w'.cell? ⟨b10, 3, none⟩ = some (.int .i64 0)) (by kernel_rfl) (SF.out _ HNd.out) (fun hS => ?_)
          refine wpAnyH_take (i := 0) (oi := ?oi118) (v := ?v118) ?hi118 (by kernel_rfl) ?hf118 ?hr118 ?hQ118 (Or.inl ⟨?hw118, ?hy118⟩) (by assumption) ?rest118
          case hi118 => simp only [List.getElem?_toArray, List.getElem?_cons_succ, List.getElem?_cons_zero]; rfl
          case hf118 => kernel_rfl
          case hr118 => kernel_rfl
          case hw118 => rfl
          case hy118 => (intro w hSw; (try dsimp only at hSw); go_simp; all_goals (first | done | with_reducible rfl))
          case hQ118 => exact fun _ _ _ h => h
          simp only [Act.put, List.setIfInBounds_toArray, List.set_cons_zero, List.set_cons_succ]
          refine wpAnyH_take (i := 1) (oi := ?oi119) (v := ?v119) ?hi119 (by kernel_rfl) ?hf119 ?hr119 ?hQ119 (Or.inl ⟨?hw119, ?hy119⟩) (by assumption) ?rest119
          case hi119 => simp only [List.getElem?_toArray, List.getElem?_cons_succ, List.getElem?_cons_zero]; rfl
          case hf119 => kernel_rfl
          case hr119 => kernel_rfl
          case hw119 => rfl
          case hy119 => (intro w hSw; (try dsimp only at hSw); go_simp; all_goals (first | done | with_reducible rfl))
          case hQ119 => exact fun _ _ _ h => h
          simp only [Act.put, List.setIfInBounds_toArray, List.set_cons_zero, List.set_cons_succ]
          refine wpAnyH_take (i := 2) (oi := ?oi120) (v := ?v120) ?hi120 (by kernel_rfl) ?hf120 ?hr120 ?hQ120 (Or.inl ⟨?hw120, ?hy120⟩) (by assumption) ?rest120
          case hi120 => simp only [List.getElem?_toArray, List.getElem?_cons_succ, List.getElem?_cons_zero]; rfl
          case hf120 => kernel_rfl
          case hr120 => kernel_rfl
          case hw120 => rfl
          case hy120 => (intro w hSw; (try dsimp only at hSw); go_simp; all_goals (first | done | with_reducible rfl))
          case hQ120 => exact fun _ _ _ h => h
          simp only [Act.put, List.setIfInBounds_toArray, List.set_cons_zero, List.set_cons_succ]
          refine wpAnyH_take (i := 3) (oi := ?oi121) (v := ?v121) ?hi121 (by kernel_rfl) ?hf121 ?hr121 ?hQ121 (Or.inl ⟨?hw121, ?hy121⟩) (by assumption) ?rest121
          case hi121 => simp only [List.getElem?_toArray, List.getElem?_cons_succ, List.getElem?_cons_zero]; rfl
          case hf121 => kernel_rfl
          case hr121 => kernel_rfl
          case hw121 => rfl
          case hy121 => (intro w hSw; (try dsimp only at hSw); go_simp; all_goals (first | done | with_reducible rfl))
          case hQ121 => exact fun _ _ _ h => h
          simp only [Act.put, List.setIfInBounds_toArray, List.set_cons_zero, List.set_cons_succ]
          refine wpAnyH_ready (rs := [4, 8]) (by kernel_rfl) (by simp) ?_
          refine AllReadyH.cons (o := ?oi122) ?hi122 (fun K hK => ?stepA122) (AllReadyH.cons (o := ?oj122) ?hj122 (fun K hK => ?stepB122) AllReadyH.nil)
          case hi122 => simp only [List.getElem?_toArray, List.getElem?_cons_succ, List.getElem?_cons_zero]; rfl
          case hj122 => simp only [List.getElem?_toArray, List.getElem?_cons_succ, List.getElem?_cons_zero]; rfl
          all_goals rw [if_pos (by rfl)]
          all_goals go_simp
          · go_at_call 10
            refine ((fun W (hW : Below w20.heap.size w20 W) => HT2.out W (HW20.out.trans (hW.mono HW20.out.size))) _ HNd.out).mono ?_
            rintro e w40 ⟨rfl, hb⟩
            have HN5 := hid (HNd.out.trans (hb.mono HNd.out.size))
            clear hb
            refine hK.out _ _ (SF.out _ HN5.out) (fun hS => ?_)
            refine wpAnyH_take (i := 5) (oi := ?oi123) (v := ?v123) ?hi123 (by kernel_rfl) ?hf123 ?hr123 ?hQ123 (Or.inl ⟨?hw123, ?hy123⟩) (by assumption) ?rest123
            case hi123 => simp only [List.getElem?_toArray, List.getElem?_cons_succ, List.getElem?_cons_zero]; rfl
            case hf123 => kernel_rfl
            case hr123 => kernel_rfl
            case hw123 => rfl
            case hy123 => (intro w hSw; (try dsimp only at hSw); go_simp; all_goals (first | done | with_reducible rfl))
            case hQ123 => exact fun _ _ _ h => h
            simp only [Act.put, List.setIfInBounds_toArray, List.set_cons_zero, List.set_cons_succ]
            refine wpAnyH_take (i := 6) (oi := ?oi124) (v := ?v124) ?hi124 (by kernel_rfl) ?hf124 ?hr124 ?hQ124 (Or.inl ⟨?hw124, ?hy124⟩) (by assumption) ?rest124
            case hi124 => simp only [List.getElem?_toArray, List.getElem?_cons_succ, List.getElem?_cons_zero]; rfl
            case hf124 => kernel_rfl
            case hr124 => kernel_rfl
            case hw124 => rfl
            case hy124 => (intro w hSw; (try dsimp only at hSw); go_simp; all_goals (first | done | with_reducible rfl))
            case hQ124 => exact fun _ _ _ h => h
            simp only [Act.put, List.setIfInBounds_toArray, List.set_cons_zero, List.set_cons_succ]
            refine wpAnyH_take (i := 7) (oi := ?oi125) (v := ?v125) ?hi125 (by kernel_rfl) ?hf125 ?hr125 ?hQ125 (Or.inl ⟨?hw125, ?hy125⟩) (by assumption) ?rest125
            case hi125 => simp only [List.getElem?_toArray, List.getElem?_cons_succ, List.getElem?_cons_zero]; rfl
            case hf125 => kernel_rfl
            case hr125 => kernel_rfl
            case hw125 => rfl
            case hy125 => (intro w hSw; (try dsimp only at hSw); go_simp; all_goals (first | done | with_reducible rfl))
            case hQ125 => exact fun _ _ _ h => h
            simp only [Act.put, List.setIfInBounds_toArray, List.set_cons_zero, List.set_cons_succ]
            refine wpAnyH_ready (rs := [8]) (by kernel_rfl) (by simp) ?_
            refine AllReadyH.cons (o := ?oi126) ?hi126 (fun K hK => ?step126) AllReadyH.nil
            case hi126 => simp only [List.getElem?_toArray, List.getElem?_cons_succ, List.getElem?_cons_zero]; rfl
            rw [if_pos (by rfl)]
            go_simp
            have KN := hid (Blk.new w40 #[.string ⟨#[]⟩, .int .i64 0, .string ⟨#[]⟩, .int .i64 0] 27)
            have HN6 := hid (HN5.out.alloc HN5.out.size (.cells #[.string ⟨#[]⟩, .int .i64 0, .string ⟨#[]⟩, .int .i64 0] 27))
            refine hK.out _ _ (SF.out _ HN6.out) (fun hS => ?_)
            skip
            obtain ⟨z0, y0⟩ := KN.out.2 0 _ rfl
            obtain ⟨z1, y1⟩ := KN.out.2 1 _ rfl
            obtain ⟨z2, y2⟩ := KN.out.2 2 _ rfl
            obtain ⟨z3, y3⟩ := KN.out.2 3 _ rfl
            refine wpAnyH_ready (rs := [9]) (by kernel_rfl) (by simp) ?_
            refine AllReadyH.cons (o := ?oi127) ?hi127 (fun K hK => ?step127) AllReadyH.nil
            case hi127 => simp only [List.getElem?_toArray, List.getElem?_cons_succ, List.getElem?_cons_zero]; rfl
            rw [if_pos (by rfl)]
            go_simp
            have KE := hid (Blk.new w40 #[.string ⟨#[]⟩, .int .i64 0, .string ⟨#[]⟩, .int .i64 0] 27)
            have HE := hid (HN5.out.alloc HN5.out.size (.cells #[.string ⟨#[]⟩, .int .i64 0, .string ⟨#[]⟩, .int .i64 0] 27))
            refine hK.out _ _ (SF.out _ HE.out) (fun hS => ?_)
            refine wpAnyH_take (i := 10) (oi := ?oi128) (v := ?v128) ?hi128 (by kernel_rfl) ?hf128 ?hr128 ?hQ128 (Or.inl ⟨?hw128, ?hy128⟩) (by assumption) ?rest128
            case hi128 => simp only [List.getElem?_toArray, List.getElem?_cons_succ, List.getElem?_cons_zero]; rfl
            case hf128 => kernel_rfl
            case hr128 => kernel_rfl
            case hw128 => rfl
            case hy128 => (intro w hSw; (try dsimp only at hSw); go_simp; all_goals (first | done | with_reducible rfl))
            case hQ128 => exact fun _ _ _ h => h
            simp only [Act.put, List.setIfInBounds_toArray, List.set_cons_zero, List.set_cons_succ]
            refine wpAnyH_done (by kernel_rfl) ?_ _
            clear z0 y0 z1 y1 z2 y2 z3 y3
            go_wp2_with fail
            go_meet
            case rel => exact ⟨_, rfl, rfl, KE.out, HE.out⟩
          · have KN0 := hid (show Blk _ w20.heap.size [.string ⟨#[]⟩, .int .i64 0, .string ⟨#[]⟩, .int .i64 0] from Blk.new w20.drew #[.string ⟨#[]⟩, .int .i64 0, .string ⟨#[]⟩, .int .i64 0] 27)
            have HN0 := hid (HNd.out.alloc (Nat.le_refl _) (.cells #[.string ⟨#[]⟩, .int .i64 0, .string ⟨#[]⟩, .int .i64 0] 27))
            refine hK.out _ _ (SF.out _ HN0.out) (fun hS => ?_)
            refine wpAnyH_ready (rs := [4]) (by kernel_rfl) (by simp) ?_
            refine AllReadyH.cons (o := ?oi129) ?hi129 (fun K hK => ?step129) AllReadyH.nil
            case hi129 => simp only [List.getElem?_toArray, List.getElem?_cons_succ, List.getElem?_cons_zero]; rfl
            rw [if_pos (by rfl)]
            go_simp
            go_at_call 10
            refine ((fun W (hW : Below w20.heap.size w20 W) => HT2.out W (HW20.out.trans (hW.mono HW20.out.size))) _ HN0.out).mono ?_
            rintro e w40 ⟨rfl, hb⟩
            have HN5 := hid (HN0.out.trans (hb.mono HN0.out.size))
            have KN := hid (KN0.out.to hb)
            clear hb
            refine hK.out _ _ (SF.out _ HN5.out) (fun hS => ?_)
            refine wpAnyH_take (i := 5) (oi := ?oi130) (v := ?v130) ?hi130 (by kernel_rfl) ?hf130 ?hr130 ?hQ130 (Or.inl ⟨?hw130, ?hy130⟩) (by assumption) ?rest130
            case hi130 => simp only [List.getElem?_toArray, List.getElem?_cons_succ, List.getElem?_cons_zero]; rfl
            case hf130 => kernel_rfl
            case hr130 => kernel_rfl
            case hw130 => rfl
            case hy130 => (intro w hSw; (try dsimp only at hSw); go_simp; all_goals (first | done | with_reducible rfl))
            case hQ130 => exact fun _ _ _ h => h
            simp only [Act.put, List.setIfInBounds_toArray, List.set_cons_zero, List.set_cons_succ]
            refine wpAnyH_take (i := 6) (oi := ?oi131) (v := ?v131) ?hi131 (by kernel_rfl) ?hf131 ?hr131 ?hQ131 (Or.inl ⟨?hw131, ?hy131⟩) (by assumption) ?rest131
            case hi131 => simp only [List.getElem?_toArray, List.getElem?_cons_succ, List.getElem?_cons_zero]; rfl
            case hf131 => kernel_rfl
            case hr131 => kernel_rfl
            case hw131 => rfl
            case hy131 => (intro w hSw; (try dsimp only at hSw); go_simp; all_goals (first | done | with_reducible rfl))
            case hQ131 => exact fun _ _ _ h => h
            simp only [Act.put, List.setIfInBounds_toArray, List.set_cons_zero, List.set_cons_succ]
            refine wpAnyH_take (i := 7) (oi := ?oi132) (v := ?v132) ?hi132 (by kernel_rfl) ?hf132 ?hr132 ?hQ132 (Or.inl ⟨?hw132, ?hy132⟩) (by assumption) ?rest132
            case hi132 => simp only [List.getElem?_toArray, List.getElem?_cons_succ, List.getElem?_cons_zero]; rfl
            case hf132 => kernel_rfl
            case hr132 => kernel_rfl
            case hw132 => rfl
            case hy132 => (intro w hSw; (try dsimp only at hSw); go_simp; all_goals (first | done | with_reducible rfl))
            case hQ132 => exact fun _ _ _ h => h
            simp only [Act.put, List.setIfInBounds_toArray, List.set_cons_zero, List.set_cons_succ]
            obtain ⟨z0, y0⟩ := KN.out.2 0 _ rfl
            obtain ⟨z1, y1⟩ := KN.out.2 1 _ rfl
            obtain ⟨z2, y2⟩ := KN.out.2 2 _ rfl
            obtain ⟨z3, y3⟩ := KN.out.2 3 _ rfl
            refine wpAnyH_ready (rs := [9]) (by kernel_rfl) (by simp) ?_
            refine AllReadyH.cons (o := ?oi133) ?hi133 (fun K hK => ?step133) AllReadyH.nil
            case hi133 => simp only [List.getElem?_toArray, List.getElem?_cons_succ, List.getElem?_cons_zero]; rfl
            rw [if_pos (by rfl)]
            go_simp
            have KE := hid ((((KN.out.set 0 (.string ⟨#[]⟩)).set 1 (.int .i64 0)).set 2 (.string ⟨#[]⟩)).set 3 (.int .i64 0))
            have HE := hid ((((HN5.out.setCell (p := ⟨w20.heap.size, 0, none⟩) (Nat.le_refl _) (.string ⟨#[]⟩)).setCell (p := ⟨w20.heap.size, 1, none⟩) (Nat.le_refl _) (.int .i64 0)).setCell (p := ⟨w20.heap.size, 2, none⟩) (Nat.le_refl _) (.string ⟨#[]⟩)).setCell (p := ⟨w20.heap.size, 3, none⟩) (Nat.le_refl _) (.int .i64 0))
            refine hK.out _ _ (SF.out _ HE.out) (fun hS => ?_)
            refine wpAnyH_take (i := 10) (oi := ?oi134) (v := ?v134) ?hi134 (by kernel_rfl) ?hf134 ?hr134 ?hQ134 (Or.inl ⟨?hw134, ?hy134⟩) (by assumption) ?rest134
            case hi134 => simp only [List.getElem?_toArray, List.getElem?_cons_succ, List.getElem?_cons_zero]; rfl
            case hf134 => kernel_rfl
            case hr134 => kernel_rfl
            case hw134 => rfl
            case hy134 => (intro w hSw; (try dsimp only at hSw); go_simp; all_goals (first | done | with_reducible rfl))
            case hQ134 => exact fun _ _ _ h => h
            simp only [Act.put, List.setIfInBounds_toArray, List.set_cons_zero, List.set_cons_succ]
            refine wpAnyH_done (by kernel_rfl) ?_ _
            clear z0 y0 z1 y1 z2 y2 z3 y3
            go_wp2_with fail
            go_meet
            case rel => exact ⟨_, rfl, rfl, KE.out, HE.out⟩
        case rest =>
          obtain ⟨b12, rfl, rfl, hk12, hb⟩ := hcut
          rename World => w21
          have KN12 := hid hk12
          have HW21 := hid (HW20.out.trans (hb.mono HW20.out.size))
          have HO21 := hid (HO20.out.trans (hb.mono HO20.out.size))
          have HE21 := hid (HE20.out.trans (hb.mono HE20.out.size))
          clear hb hk12
          obtain ⟨⟨r0, _⟩, ⟨r1, _⟩, ⟨r2, _⟩, ⟨r3, _⟩⟩ := (And.intro ((KR.out.to HW21.out).2 0 _ rfl) (And.intro ((KR.out.to HW21.out).2 1 _ rfl) (And.intro ((KR.out.to HW21.out).2 2 _ rfl) ((KR.out.to HW21.out).2 3 _ rfl))))
          obtain ⟨⟨o0, _⟩, ⟨o1, _⟩, ⟨o2, _⟩, ⟨o3, _⟩⟩ := (And.intro ((KO.out.to HO21.out).2 0 _ rfl) (And.intro ((KO.out.to HO21.out).2 1 _ rfl) (And.intro ((KO.out.to HO21.out).2 2 _ rfl) ((KO.out.to HO21.out).2 3 _ rfl))))
          have s0 := (KN12.out.2 0 _ rfl).1
          have s1 := (KN12.out.2 1 _ rfl).1
          have s2 := (KN12.out.2 2 _ rfl).1
          have s3 := (KN12.out.2 3 _ rfl).1
          go_wp2_with fail
          go_ret
          exact ⟨ret_bool (by simp), HB.out.trans (HW21.out.mono HB.out.size)⟩
  · have hXX := hX
    have CI2 := hid (fun (W : World) (hW : Below w2.heap.size w2 W) => (show Calls Try.prog 10 #[.slice fA fn fc, .agg #[.string nm, .int .i64 lv, .string tx, .int .i64 sq]] W (fun e w' => e = .returned (.tuple #[.agg #[.string ⟨#[]⟩, .int .i64 0, .string ⟨#[]⟩, .int .i64 0], .bool false]) ∧ Below W.heap.size W w') from by have h9 := CI.out W hW; rw [hX] at h9; exact h9))
    have CS2 := hid (fun (W : World) (hW : Below w2.heap.size w2 W) => (show Calls Try.prog 7 #[.slice fA fn fc, .agg #[.string nm, .int .i64 lv, .string tx, .int .i64 sq]] W (fun e w' => e = .returned (.tuple #[.agg #[.string ⟨#[]⟩, .int .i64 0, .string ⟨#[]⟩, .int .i64 0], .bool false]) ∧ Below W.heap.size W w') from by have h9 := CS.out W hW; rw [hX] at h9; exact h9))
    clear hX CI CS
    obtain ⟨⟨r0, _⟩, ⟨r1, _⟩, ⟨r2, _⟩, ⟨r3, _⟩⟩ := (And.intro ((KR.out.to HW.out).2 0 _ rfl) (And.intro ((KR.out.to HW.out).2 1 _ rfl) (And.intro ((KR.out.to HW.out).2 2 _ rfl) ((KR.out.to HW.out).2 3 _ rfl))))
    go_wp2_with fail
    refine (CI2.out _ HW.out).mono ?_
    rintro e w3 ⟨rfl, hb0⟩
    have hbx : Below w3.heap.size w3 (w3.alloc (.cells #[.string ⟨#[]⟩, .int .i64 0, .string ⟨#[]⟩, .int .i64 0] 27)) := (Below.refl _ _).alloc (Nat.le_refl _) _
    have hb := hb0.trans (hbx.mono hb0.size)
    have KO := hid (Blk.new w3 #[.string ⟨#[]⟩, .int .i64 0, .string ⟨#[]⟩, .int .i64 0] 27)
    have HW4 := hid (HW.out.trans (hb.mono HW.out.size))
    clear hb hb0 hbx r0 r1 r2 r3
    obtain ⟨⟨r0, _⟩, ⟨r1, _⟩, ⟨r2, _⟩, ⟨r3, _⟩⟩ := (And.intro ((KR.out.to HW4.out).2 0 _ rfl) (And.intro ((KR.out.to HW4.out).2 1 _ rfl) (And.intro ((KR.out.to HW4.out).2 2 _ rfl) ((KR.out.to HW4.out).2 3 _ rfl))))
    go_wp2_with fail
    generalize hbo : w3.heap.size = bo at *
    generalize w3.alloc (.cells #[.string ⟨#[]⟩, .int .i64 0, .string ⟨#[]⟩, .int .i64 0] 27) = w4 at *
    clear hbo
    refine (CS2.out _ HW4.out).mono ?_
    rintro e w5 ⟨rfl, hb0⟩
    have hbx : Below w5.heap.size w5 (w5.alloc (.cells #[.string ⟨#[]⟩, .int .i64 0, .string ⟨#[]⟩, .int .i64 0] 27)) := (Below.refl _ _).alloc (Nat.le_refl _) _
    have hb := hb0.trans (hbx.mono hb0.size)
    have KW := hid (Blk.new w5 #[.string ⟨#[]⟩, .int .i64 0, .string ⟨#[]⟩, .int .i64 0] 27)
    have HW6 := hid (HW4.out.trans (hb.mono HW4.out.size))
    have HO6 := hid hb
    clear hb hb0 hbx r0 r1 r2 r3
    obtain ⟨⟨r0, _⟩, ⟨r1, _⟩, ⟨r2, _⟩, ⟨r3, _⟩⟩ := (And.intro ((KR.out.to HW6.out).2 0 _ rfl) (And.intro ((KR.out.to HW6.out).2 1 _ rfl) (And.intro ((KR.out.to HW6.out).2 2 _ rfl) ((KR.out.to HW6.out).2 3 _ rfl))))
    obtain ⟨⟨o0, _⟩, ⟨o1, _⟩, ⟨o2, _⟩, ⟨o3, _⟩⟩ := (And.intro ((KO.out.to HO6.out).2 0 _ rfl) (And.intro ((KO.out.to HO6.out).2 1 _ rfl) (And.intro ((KO.out.to HO6.out).2 2 _ rfl) ((KO.out.to HO6.out).2 3 _ rfl))))
    go_wp2_with fail
    generalize hbw : w5.heap.size = bw at *
    generalize w5.alloc (.cells #[.string ⟨#[]⟩, .int .i64 0, .string ⟨#[]⟩, .int .i64 0] 27) = w6 at *
    clear hbw
    have HE6 := hid (Below.refl w6.heap.size w6)
    obtain ⟨⟨p0, _⟩, ⟨p1, _⟩, ⟨p2, _⟩, ⟨p3, _⟩⟩ := (And.intro ((KW.out.to HE6.out).2 0 _ rfl) (And.intro ((KW.out.to HE6.out).2 1 _ rfl) (And.intro ((KW.out.to HE6.out).2 2 _ rfl) ((KW.out.to HE6.out).2 3 _ rfl))))
    refine (CF.out _ HW6.out).mono ?_
    rintro e w7 ⟨he7, hb⟩
    rw [hf] at he7
    subst he7
    have HW7 := hid (HW6.out.trans (hb.mono HW6.out.size))
    have HO7 := hid (HO6.out.trans (hb.mono HO6.out.size))
    have HE7 := hid (HE6.out.trans (hb.mono HE6.out.size))
    clear hb r0 r1 r2 r3 o0 o1 o2 o3 p0 p1 p2 p3
    obtain ⟨⟨r0, _⟩, ⟨r1, _⟩, ⟨r2, _⟩, ⟨r3, _⟩⟩ := (And.intro ((KR.out.to HW7.out).2 0 _ rfl) (And.intro ((KR.out.to HW7.out).2 1 _ rfl) (And.intro ((KR.out.to HW7.out).2 2 _ rfl) ((KR.out.to HW7.out).2 3 _ rfl))))
    obtain ⟨⟨o0, _⟩, ⟨o1, _⟩, ⟨o2, _⟩, ⟨o3, _⟩⟩ := (And.intro ((KO.out.to HO7.out).2 0 _ rfl) (And.intro ((KO.out.to HO7.out).2 1 _ rfl) (And.intro ((KO.out.to HO7.out).2 2 _ rfl) ((KO.out.to HO7.out).2 3 _ rfl))))
    obtain ⟨⟨p0, _⟩, ⟨p1, _⟩, ⟨p2, _⟩, ⟨p3, _⟩⟩ := (And.intro ((KW.out.to HE7.out).2 0 _ rfl) (And.intro ((KW.out.to HE7.out).2 1 _ rfl) (And.intro ((KW.out.to HE7.out).2 2 _ rfl) ((KW.out.to HE7.out).2 3 _ rfl))))
    go_wp2_with fail
    refine (CV.out _).mono ?_
    rintro e w8 ⟨he8, hb9⟩
    rw [hr] at he8
    subst he8
    have hb := (show Below w7.heap.size w7 w8 from ((Below.refl _ _).alloc (Nat.le_refl _) _).trans (hb9.mono (by simp)))
    clear hb9
    have HW8 := hid (HW7.out.trans (hb.mono HW7.out.size))
    have HO8 := hid (HO7.out.trans (hb.mono HO7.out.size))
    have HE8 := hid (HE7.out.trans (hb.mono HE7.out.size))
    clear hb r0 r1 r2 r3 o0 o1 o2 o3 p0 p1 p2 p3
    obtain ⟨⟨r0, _⟩, ⟨r1, _⟩, ⟨r2, _⟩, ⟨r3, _⟩⟩ := (And.intro ((KR.out.to HW8.out).2 0 _ rfl) (And.intro ((KR.out.to HW8.out).2 1 _ rfl) (And.intro ((KR.out.to HW8.out).2 2 _ rfl) ((KR.out.to HW8.out).2 3 _ rfl))))
    obtain ⟨⟨o0, _⟩, ⟨o1, _⟩, ⟨o2, _⟩, ⟨o3, _⟩⟩ := (And.intro ((KO.out.to HO8.out).2 0 _ rfl) (And.intro ((KO.out.to HO8.out).2 1 _ rfl) (And.intro ((KO.out.to HO8.out).2 2 _ rfl) ((KO.out.to HO8.out).2 3 _ rfl))))
    obtain ⟨⟨p0, _⟩, ⟨p1, _⟩, ⟨p2, _⟩, ⟨p3, _⟩⟩ := (And.intro ((KW.out.to HE8.out).2 0 _ rfl) (And.intro ((KW.out.to HE8.out).2 1 _ rfl) (And.intro ((KW.out.to HE8.out).2 2 _ rfl) ((KW.out.to HE8.out).2 3 _ rfl))))
    have hkc : ((fn : Int) / 2) = ((fn / 2 : Nat) : Int) := by omega
    have hn0 : 0 < fn := by
      rcases Nat.eq_zero_or_pos fn with hn0 | hn0
      · exfalso
        have hl0 : l = [] := List.eq_nil_of_length_eq_zero (by rw [hfn.out]; exact hn0)
        subst hl0
        have h9 : fX [] nm tx lv sq = some lv := by unfold fX; rw [hr, hf]; rfl
        simp only [List.take_nil, List.drop_nil] at h1 h2
        rw [h9] at hXX
        cases hXX
      · exact hn0
    · obtain ⟨g, rfl⟩ : ∃ g, fA = some ⟨g, 0, none⟩ := by
        rcases hA with ⟨_, h, _⟩ | h
        · omega
        · exact h
      have hkn : fn / 2 < fn := by omega
      have hck : ¬ fc = fn / 2 := by omega
      have hb1 : ((fn / 2 : Nat) : Int) ≤ (fn : Int) := by omega
      have hb2 : ((fn / 2 : Nat) : Int) ≤ (fc : Int) := by omega
      have hb3 : (0 : Int) ≤ ((fn / 2 : Nat) : Int) := by omega
      have hb4 : fn / 2 ≤ fn := by omega
      have HT1 := hid (fun (W : World) (hW : Below w8.heap.size w8 W) => (show Calls Try.prog 10 #[.slice (some ⟨g, 0, none⟩) (fn / 2) fc, .agg #[.string nm, .int .i64 lv, .string tx, .int .i64 sq]] W (fun e w' => e = .returned (.tuple #[.agg #[.string nm, .int .i64 q1, .string tx, .int .i64 sq], .bool true]) ∧ Below W.heap.size W w') from by have h9 := CJ.out (fn / 2) (some ⟨g, 0, none⟩) fc (l.take (fn / 2)) nm tx lv sq hz1 hz2 W (HW8.out.trans (hW.mono HW8.out.size)) ((FF.out W (HW8.out.trans (hW.mono HW8.out.size))).1.takeF (Nat.le_of_lt hkn)); rw [h1] at h9; exact h9))
      have HT2 := hid (fun (W : World) (hW2 : Below w2.heap.size w2 W) => (show Calls Try.prog 10 #[.slice (some ⟨g, fn / 2 * 3, none⟩) (fn - fn / 2) (fc - fn / 2), .agg #[.string nm, .int .i64 q1, .string tx, .int .i64 sq]] W (fun e w' => e = .returned (.tuple #[.agg #[.string ⟨#[]⟩, .int .i64 0, .string ⟨#[]⟩, .int .i64 0], .bool false]) ∧ Below W.heap.size W w') from by have h9 := CJ.out (fn - fn / 2) (some ⟨g, 0 + fn / 2 * 3, none⟩) (fc - fn / 2) (l.drop (fn / 2)) nm tx q1 sq hz1 hz2 W hW2 ((FF.out W hW2).1.dropF (Nat.le_of_lt hkn)); rw [h2, Nat.zero_add] at h9; exact h9))
      generalize fn / 2 = k at *
      go_wp2_with fail
      go_cut [10, 11] from 14 (fun sa sb wc => ∃ b : Nat, sa = .pointer (some ⟨b, 0, none⟩) ∧ sb = .bool true ∧ Blk wc b [.string nm, .int .i64 q1, .string tx, .int .i64 sq] ∧ Below w8.heap.size w8 wc)
      case first =>
        try clear CI2
        try clear CS2
        try clear CF
        try clear CV
        try clear CJ
        try clear FF
        try clear FI
        try clear HO8 HE8 KO KW
        try clear HO20 HE20
        try clear HB
        try clear hXX
        have KS := hid (KR.out.to HW8.out)
        have SF := hid (fun (W : World) (hW : Below w8.heap.size w8 W) => (show W.cell? ⟨rb, 0, none⟩ = some (.string nm) ∧ W.cell? ⟨rb, 1, none⟩ = some (.int .i64 lv) ∧ W.cell? ⟨rb, 2, none⟩ = some (.string tx) ∧ W.cell? ⟨rb, 3, none⟩ = some (.int .i64 sq) from ⟨((KS.out.to hW).2 0 _ rfl).1, ((KS.out.to hW).2 1 _ rfl).1, ((KS.out.to hW).2 2 _ rfl).1, ((KS.out.to hW).2 3 _ rfl).1⟩))
        have HNd := hid ((Below.refl w8.heap.size w8).drew)
        refine wp_region_held_drew (S := fun w' : World => w'.cell? ⟨rb, 0, none⟩ = some (.string nm) ∧ w'.cell? ⟨rb, 1, none⟩ = some (.int .i64 lv) ∧ w'.cell? ⟨rb, 2, none⟩ = some (.string tx) ∧ w'.cell? ⟨rb, 3, none⟩ = some (.int .i64 sq)) (by kernel_rfl) (SF.out _ HNd.out) (fun hS => ?_)
        refine wpAnyH_take (i := 0) (oi := ?oi135) (v := ?v135) ?hi135 (by kernel_rfl) ?hf135 ?hr135 ?hQ135 (Or.inl ⟨?hw135, ?hy135⟩) (by assumption) ?rest135
        case hi135 => simp only [List.getElem?_toArray, List.getElem?_cons_succ, List.getElem?_cons_zero]; rfl
        case hf135 => kernel_rfl
        case hr135 => kernel_rfl
        case hw135 => rfl
        case hy135 => (intro w hSw; (try dsimp only at hSw); go_simp; all_goals (first | done | with_reducible rfl))
        case hQ135 => exact fun _ _ _ h => h
        simp only [Act.put, List.setIfInBounds_toArray, List.set_cons_zero, List.set_cons_succ]
        refine wpAnyH_take (i := 1) (oi := ?oi136) (v := ?v136) ?hi136 (by kernel_rfl) ?hf136 ?hr136 ?hQ136 (Or.inl ⟨?hw136, ?hy136⟩) (by assumption) ?rest136
        case hi136 => simp only [List.getElem?_toArray, List.getElem?_cons_succ, List.getElem?_cons_zero]; rfl
        case hf136 => kernel_rfl
        case hr136 => kernel_rfl
        case hw136 => rfl
        case hy136 => (intro w hSw; (try dsimp only at hSw); go_simp; all_goals (first | done | with_reducible rfl))
        case hQ136 => exact fun _ _ _ h => h
        simp only [Act.put, List.setIfInBounds_toArray, List.set_cons_zero, List.set_cons_succ]
        refine wpAnyH_take (i := 2) (oi := ?oi137) (v := ?v137) ?hi137 (by kernel_rfl) ?hf137 ?hr137 ?hQ137 (Or.inl ⟨?hw137, ?hy137⟩) (by assumption) ?rest137
        case hi137 => simp only [List.getElem?_toArray, List.getElem?_cons_succ, List.getElem?_cons_zero]; rfl
        case hf137 => kernel_rfl
        case hr137 => kernel_rfl
        case hw137 => rfl
        case hy137 => (intro w hSw; (try dsimp only at hSw); go_simp; all_goals (first | done | with_reducible rfl))
        case hQ137 => exact fun _ _ _ h => h
        simp only [Act.put, List.setIfInBounds_toArray, List.set_cons_zero, List.set_cons_succ]
        refine wpAnyH_take (i := 3) (oi := ?oi138) (v := ?v138) ?hi138 (by kernel_rfl) ?hf138 ?hr138 ?hQ138 (Or.inl ⟨?hw138, ?hy138⟩) (by assumption) ?rest138
        case hi138 => simp only [List.getElem?_toArray, List.getElem?_cons_succ, List.getElem?_cons_zero]; rfl
        case hf138 => kernel_rfl
        case hr138 => kernel_rfl
        case hw138 => rfl
        case hy138 => (intro w hSw; (try dsimp only at hSw); go_simp; all_goals (first | done | with_reducible rfl))
        case hQ138 => exact fun _ _ _ h => h
        simp only [Act.put, List.setIfInBounds_toArray, List.set_cons_zero, List.set_cons_succ]
        refine wpAnyH_ready (rs := [4, 8]) (by kernel_rfl) (by simp) ?_
        refine AllReadyH.cons (o := ?oi139) ?hi139 (fun K hK => ?stepA139) (AllReadyH.cons (o := ?oj139) ?hj139 (fun K hK => ?stepB139) AllReadyH.nil)
        case hi139 => simp only [List.getElem?_toArray, List.getElem?_cons_succ, List.getElem?_cons_zero]; rfl
        case hj139 => simp only [List.getElem?_toArray, List.getElem?_cons_succ, List.getElem?_cons_zero]; rfl
        all_goals rw [if_pos (by rfl)]
        all_goals go_simp
        · go_at_call 10
          refine (HT1.out _ HNd.out).mono ?_
          rintro e w40 ⟨rfl, hb⟩
          have HN5 := hid (HNd.out.trans (hb.mono HNd.out.size))
          clear hb
          refine hK.out _ _ (SF.out _ HN5.out) (fun hS => ?_)
          refine wpAnyH_take (i := 5) (oi := ?oi140) (v := ?v140) ?hi140 (by kernel_rfl) ?hf140 ?hr140 ?hQ140 (Or.inl ⟨?hw140, ?hy140⟩) (by assumption) ?rest140
          case hi140 => simp only [List.getElem?_toArray, List.getElem?_cons_succ, List.getElem?_cons_zero]; rfl
          case hf140 => kernel_rfl
          case hr140 => kernel_rfl
          case hw140 => rfl
          case hy140 => (intro w hSw; (try dsimp only at hSw); go_simp; all_goals (first | done | with_reducible rfl))
          case hQ140 => exact fun _ _ _ h => h
          simp only [Act.put, List.setIfInBounds_toArray, List.set_cons_zero, List.set_cons_succ]
          refine wpAnyH_take (i := 6) (oi := ?oi141) (v := ?v141) ?hi141 (by kernel_rfl) ?hf141 ?hr141 ?hQ141 (Or.inl ⟨?hw141, ?hy141⟩) (by assumption) ?rest141
          case hi141 => simp only [List.getElem?_toArray, List.getElem?_cons_succ, List.getElem?_cons_zero]; rfl
          case hf141 => kernel_rfl
          case hr141 => kernel_rfl
          case hw141 => rfl
          case hy141 => (intro w hSw; (try dsimp only at hSw); go_simp; all_goals (first | done | with_reducible rfl))
          case hQ141 => exact fun _ _ _ h => h
          simp only [Act.put, List.setIfInBounds_toArray, List.set_cons_zero, List.set_cons_succ]
          refine wpAnyH_take (i := 7) (oi := ?oi142) (v := ?v142) ?hi142 (by kernel_rfl) ?hf142 ?hr142 ?hQ142 (Or.inl ⟨?hw142, ?hy142⟩) (by assumption) ?rest142
          case hi142 => simp only [List.getElem?_toArray, List.getElem?_cons_succ, List.getElem?_cons_zero]; rfl
          case hf142 => kernel_rfl
          case hr142 => kernel_rfl
          case hw142 => rfl
          case hy142 => (intro w hSw; (try dsimp only at hSw); go_simp; all_goals (first | done | with_reducible rfl))
          case hQ142 => exact fun _ _ _ h => h
          simp only [Act.put, List.setIfInBounds_toArray, List.set_cons_zero, List.set_cons_succ]
          refine wpAnyH_ready (rs := [8]) (by kernel_rfl) (by simp) ?_
          refine AllReadyH.cons (o := ?oi143) ?hi143 (fun K hK => ?step143) AllReadyH.nil
          case hi143 => simp only [List.getElem?_toArray, List.getElem?_cons_succ, List.getElem?_cons_zero]; rfl
          rw [if_pos (by rfl)]
          go_simp
          have KN := hid (Blk.new w40 #[.string ⟨#[]⟩, .int .i64 0, .string ⟨#[]⟩, .int .i64 0] 27)
          have HN6 := hid (HN5.out.alloc HN5.out.size (.cells #[.string ⟨#[]⟩, .int .i64 0, .string ⟨#[]⟩, .int .i64 0] 27))
          refine hK.out _ _ (SF.out _ HN6.out) (fun hS => ?_)
          skip
          obtain ⟨z0, y0⟩ := KN.out.2 0 _ rfl
          obtain ⟨z1, y1⟩ := KN.out.2 1 _ rfl
          obtain ⟨z2, y2⟩ := KN.out.2 2 _ rfl
          obtain ⟨z3, y3⟩ := KN.out.2 3 _ rfl
          refine wpAnyH_ready (rs := [9]) (by kernel_rfl) (by simp) ?_
          refine AllReadyH.cons (o := ?oi144) ?hi144 (fun K hK => ?step144) AllReadyH.nil
          case hi144 => simp only [List.getElem?_toArray, List.getElem?_cons_succ, List.getElem?_cons_zero]; rfl
          rw [if_pos (by rfl)]
          go_simp
          have KE := hid (Blk.new w40 #[.string nm, .int .i64 q1, .string tx, .int .i64 sq] 27)
          have HE := hid (HN5.out.alloc HN5.out.size (.cells #[.string nm, .int .i64 q1, .string tx, .int .i64 sq] 27))
          refine hK.out _ _ (SF.out _ HE.out) (fun hS => ?_)
          refine wpAnyH_take (i := 10) (oi := ?oi145) (v := ?v145) ?hi145 (by kernel_rfl) ?hf145 ?hr145 ?hQ145 (Or.inl ⟨?hw145, ?hy145⟩) (by assumption) ?rest145
          case hi145 => simp only [List.getElem?_toArray, List.getElem?_cons_succ, List.getElem?_cons_zero]; rfl
          case hf145 => kernel_rfl
          case hr145 => kernel_rfl
          case hw145 => rfl
          case hy145 => (intro w hSw; (try dsimp only at hSw); go_simp; all_goals (first | done | with_reducible rfl))
          case hQ145 => exact fun _ _ _ h => h
          simp only [Act.put, List.setIfInBounds_toArray, List.set_cons_zero, List.set_cons_succ]
          refine wpAnyH_done (by kernel_rfl) ?_ _
          clear z0 y0 z1 y1 z2 y2 z3 y3
          go_wp2_with fail
          go_meet
          case rel => exact ⟨_, rfl, rfl, KE.out, HE.out⟩
        · have KN0 := hid (show Blk _ w8.heap.size [.string ⟨#[]⟩, .int .i64 0, .string ⟨#[]⟩, .int .i64 0] from Blk.new w8.drew #[.string ⟨#[]⟩, .int .i64 0, .string ⟨#[]⟩, .int .i64 0] 27)
          have HN0 := hid (HNd.out.alloc (Nat.le_refl _) (.cells #[.string ⟨#[]⟩, .int .i64 0, .string ⟨#[]⟩, .int .i64 0] 27))
          refine hK.out _ _ (SF.out _ HN0.out) (fun hS => ?_)
          refine wpAnyH_ready (rs := [4]) (by kernel_rfl) (by simp) ?_
          refine AllReadyH.cons (o := ?oi146) ?hi146 (fun K hK => ?step146) AllReadyH.nil
          case hi146 => simp only [List.getElem?_toArray, List.getElem?_cons_succ, List.getElem?_cons_zero]; rfl
          rw [if_pos (by rfl)]
          go_simp
          go_at_call 10
          refine (HT1.out _ HN0.out).mono ?_
          rintro e w40 ⟨rfl, hb⟩
          have HN5 := hid (HN0.out.trans (hb.mono HN0.out.size))
          have KN := hid (KN0.out.to hb)
          clear hb
          refine hK.out _ _ (SF.out _ HN5.out) (fun hS => ?_)
          refine wpAnyH_take (i := 5) (oi := ?oi147) (v := ?v147) ?hi147 (by kernel_rfl) ?hf147 ?hr147 ?hQ147 (Or.inl ⟨?hw147, ?hy147⟩) (by assumption) ?rest147
          case hi147 => simp only [List.getElem?_toArray, List.getElem?_cons_succ, List.getElem?_cons_zero]; rfl
          case hf147 => kernel_rfl
          case hr147 => kernel_rfl
          case hw147 => rfl
          case hy147 => (intro w hSw; (try dsimp only at hSw); go_simp; all_goals (first | done | with_reducible rfl))
          case hQ147 => exact fun _ _ _ h => h
          simp only [Act.put, List.setIfInBounds_toArray, List.set_cons_zero, List.set_cons_succ]
          refine wpAnyH_take (i := 6) (oi := ?oi148) (v := ?v148) ?hi148 (by kernel_rfl) ?hf148 ?hr148 ?hQ148 (Or.inl ⟨?hw148, ?hy148⟩) (by assumption) ?rest148
          case hi148 => simp only [List.getElem?_toArray, List.getElem?_cons_succ, List.getElem?_cons_zero]; rfl
          case hf148 => kernel_rfl
          case hr148 => kernel_rfl
          case hw148 => rfl
          case hy148 => (intro w hSw; (try dsimp only at hSw); go_simp; all_goals (first | done | with_reducible rfl))
          case hQ148 => exact fun _ _ _ h => h
          simp only [Act.put, List.setIfInBounds_toArray, List.set_cons_zero, List.set_cons_succ]
          refine wpAnyH_take (i := 7) (oi := ?oi149) (v := ?v149) ?hi149 (by kernel_rfl) ?hf149 ?hr149 ?hQ149 (Or.inl ⟨?hw149, ?hy149⟩) (by assumption) ?rest149
          case hi149 => simp only [List.getElem?_toArray, List.getElem?_cons_succ, List.getElem?_cons_zero]; rfl
          case hf149 => kernel_rfl
          case hr149 => kernel_rfl
          case hw149 => rfl
          case hy149 => (intro w hSw; (try dsimp only at hSw); go_simp; all_goals (first | done | with_reducible rfl))
          case hQ149 => exact fun _ _ _ h => h
          simp only [Act.put, List.setIfInBounds_toArray, List.set_cons_zero, List.set_cons_succ]
          obtain ⟨z0, y0⟩ := KN.out.2 0 _ rfl
          obtain ⟨z1, y1⟩ := KN.out.2 1 _ rfl
          obtain ⟨z2, y2⟩ := KN.out.2 2 _ rfl
          obtain ⟨z3, y3⟩ := KN.out.2 3 _ rfl
          refine wpAnyH_ready (rs := [9]) (by kernel_rfl) (by simp) ?_
          refine AllReadyH.cons (o := ?oi150) ?hi150 (fun K hK => ?step150) AllReadyH.nil
          case hi150 => simp only [List.getElem?_toArray, List.getElem?_cons_succ, List.getElem?_cons_zero]; rfl
          rw [if_pos (by rfl)]
          go_simp
          have KE := hid ((((KN.out.set 0 (.string nm)).set 1 (.int .i64 q1)).set 2 (.string tx)).set 3 (.int .i64 sq))
          have HE := hid ((((HN5.out.setCell (p := ⟨w8.heap.size, 0, none⟩) (Nat.le_refl _) (.string nm)).setCell (p := ⟨w8.heap.size, 1, none⟩) (Nat.le_refl _) (.int .i64 q1)).setCell (p := ⟨w8.heap.size, 2, none⟩) (Nat.le_refl _) (.string tx)).setCell (p := ⟨w8.heap.size, 3, none⟩) (Nat.le_refl _) (.int .i64 sq))
          refine hK.out _ _ (SF.out _ HE.out) (fun hS => ?_)
          refine wpAnyH_take (i := 10) (oi := ?oi151) (v := ?v151) ?hi151 (by kernel_rfl) ?hf151 ?hr151 ?hQ151 (Or.inl ⟨?hw151, ?hy151⟩) (by assumption) ?rest151
          case hi151 => simp only [List.getElem?_toArray, List.getElem?_cons_succ, List.getElem?_cons_zero]; rfl
          case hf151 => kernel_rfl
          case hr151 => kernel_rfl
          case hw151 => rfl
          case hy151 => (intro w hSw; (try dsimp only at hSw); go_simp; all_goals (first | done | with_reducible rfl))
          case hQ151 => exact fun _ _ _ h => h
          simp only [Act.put, List.setIfInBounds_toArray, List.set_cons_zero, List.set_cons_succ]
          refine wpAnyH_done (by kernel_rfl) ?_ _
          clear z0 y0 z1 y1 z2 y2 z3 y3
          go_wp2_with fail
          go_meet
          case rel => exact ⟨_, rfl, rfl, KE.out, HE.out⟩
      case rest =>
        obtain ⟨b10, rfl, rfl, hk10, hb⟩ := hcut
        rename World => w20
        clear r0 r1 r2 r3 o0 o1 o2 o3 p0 p1 p2 p3
        have KM := hid hk10
        have HW20 := hid (HW8.out.trans (hb.mono HW8.out.size))
        have HO20 := hid (HO8.out.trans (hb.mono HO8.out.size))
        have HE20 := hid (HE8.out.trans (hb.mono HE8.out.size))
        have HN20 := hid hb
        clear hb hk10
        go_wp2_with fail
        go_cut [12, 13] from 14 (fun sa sb wc => ∃ b : Nat, sa = .pointer (some ⟨b, 0, none⟩) ∧ sb = .bool false ∧ Blk wc b [.string ⟨#[]⟩, .int .i64 0, .string ⟨#[]⟩, .int .i64 0] ∧ Below w20.heap.size w20 wc)
        case first =>
          try clear CI2
          try clear CS2
          try clear CF
          try clear CV
          try clear CJ
          try clear FF
          try clear FI
          try clear HO8 HE8 KO KW
          try clear HO20 HE20
          try clear HB
          try clear hXX
          have KS := hid KM.out
          have SF := hid (fun (W : World) (hW : Below w20.heap.size w20 W) => (show W.cell? ⟨b10, 0, none⟩ = some (.string nm) ∧ W.cell? ⟨b10, 1, none⟩ = some (.int .i64 q1) ∧ W.cell? ⟨b10, 2, none⟩ = some (.string tx) ∧ W.cell? ⟨b10, 3, none⟩ = some (.int .i64 sq) from ⟨((KS.out.to hW).2 0 _ rfl).1, ((KS.out.to hW).2 1 _ rfl).1, ((KS.out.to hW).2 2 _ rfl).1, ((KS.out.to hW).2 3 _ rfl).1⟩))
          have HNd := hid ((Below.refl w20.heap.size w20).drew)
          refine wp_region_held_drew (S := fun w' : World => w'.cell? ⟨b10, 0, none⟩ = some (.string nm) ∧ w'.cell? ⟨b10, 1, none⟩ = some (.int .i64 q1) ∧ w'.cell? ⟨b10, 2, none⟩ = some (.string tx) ∧ w'.cell? ⟨b10, 3, none⟩ = some (.int .i64 sq)) (by kernel_rfl) (SF.out _ HNd.out) (fun hS => ?_)
          refine wpAnyH_take (i := 0) (oi := ?oi152) (v := ?v152) ?hi152 (by kernel_rfl) ?hf152 ?hr152 ?hQ152 (Or.inl ⟨?hw152, ?hy152⟩) (by assumption) ?rest152
          case hi152 => simp only [List.getElem?_toArray, List.getElem?_cons_succ, List.getElem?_cons_zero]; rfl
          case hf152 => kernel_rfl
          case hr152 => kernel_rfl
          case hw152 => rfl
          case hy152 => (intro w hSw; (try dsimp only at hSw); go_simp; all_goals (first | done | with_reducible rfl))
          case hQ152 => exact fun _ _ _ h => h
          simp only [Act.put, List.setIfInBounds_toArray, List.set_cons_zero, List.set_cons_succ]
          refine wpAnyH_take (i := 1) (oi := ?oi153) (v := ?v153) ?hi153 (by kernel_rfl) ?hf153 ?hr153 ?hQ153 (Or.inl ⟨?hw153, ?hy153⟩) (by assumption) ?rest153
          case hi153 => simp only [List.getElem?_toArray, List.getElem?_cons_succ, List.getElem?_cons_zero]; rfl
          case hf153 => kernel_rfl
          case hr153 => kernel_rfl
          case hw153 => rfl
          case hy153 => (intro w hSw; (try dsimp only at hSw); go_simp; all_goals (first | done | with_reducible rfl))
          case hQ153 => exact fun _ _ _ h => h
          simp only [Act.put, List.setIfInBounds_toArray, List.set_cons_zero, List.set_cons_succ]
          refine wpAnyH_take (i := 2) (oi := ?oi154) (v := ?v154) ?hi154 (by kernel_rfl) ?hf154 ?hr154 ?hQ154 (Or.inl ⟨?hw154, ?hy154⟩) (by assumption) ?rest154
          case hi154 => simp only [List.getElem?_toArray, List.getElem?_cons_succ, List.getElem?_cons_zero]; rfl
          case hf154 => kernel_rfl
          case hr154 => kernel_rfl
          case hw154 => rfl
          case hy154 => (intro w hSw; (try dsimp only at hSw); go_simp; all_goals (first | done | with_reducible rfl))
          case hQ154 => exact fun _ _ _ h => h
          simp only [Act.put, List.setIfInBounds_toArray, List.set_cons_zero, List.set_cons_succ]
          refine wpAnyH_take (i := 3) (oi := ?oi155) (v := ?v155) ?hi155 (by kernel_rfl) ?hf155 ?hr155 ?hQ155 (Or.inl ⟨?hw155, ?hy155⟩) (by assumption) ?rest155
          case hi155 => simp only [List.getElem?_toArray, List.getElem?_cons_succ, List.getElem?_cons_zero]; rfl
          case hf155 => kernel_rfl
          case hr155 => kernel_rfl
          case hw155 => rfl
          case hy155 => (intro w hSw; (try dsimp only at hSw); go_simp; all_goals (first | done | with_reducible rfl))
          case hQ155 => exact fun _ _ _ h => h
          simp only [Act.put, List.setIfInBounds_toArray, List.set_cons_zero, List.set_cons_succ]
          refine wpAnyH_ready (rs := [4, 8]) (by kernel_rfl) (by simp) ?_
          refine AllReadyH.cons (o := ?oi156) ?hi156 (fun K hK => ?stepA156) (AllReadyH.cons (o := ?oj156) ?hj156 (fun K hK => ?stepB156) AllReadyH.nil)
          case hi156 => simp only [List.getElem?_toArray, List.getElem?_cons_succ, List.getElem?_cons_zero]; rfl
          case hj156 => simp only [List.getElem?_toArray, List.getElem?_cons_succ, List.getElem?_cons_zero]; rfl
          all_goals rw [if_pos (by rfl)]
          all_goals go_simp
          · go_at_call 10
            refine ((fun W (hW : Below w20.heap.size w20 W) => HT2.out W (HW20.out.trans (hW.mono HW20.out.size))) _ HNd.out).mono ?_
            rintro e w40 ⟨rfl, hb⟩
            have HN5 := hid (HNd.out.trans (hb.mono HNd.out.size))
            clear hb
            refine hK.out _ _ (SF.out _ HN5.out) (fun hS => ?_)
            refine wpAnyH_take (i := 5) (oi := ?oi157) (v := ?v157) ?hi157 (by kernel_rfl) ?hf157 ?hr157 ?hQ157 (Or.inl ⟨?hw157, ?hy157⟩) (by assumption) ?rest157
            case hi157 => simp only [List.getElem?_toArray, List.getElem?_cons_succ, List.getElem?_cons_zero]; rfl
            case hf157 => kernel_rfl
            case hr157 => kernel_rfl
            case hw157 => rfl
            case hy157 => (intro w hSw; (try dsimp only at hSw); go_simp; all_goals (first | done | with_reducible rfl))
            case hQ157 => exact fun _ _ _ h => h
            simp only [Act.put, List.setIfInBounds_toArray, List.set_cons_zero, List.set_cons_succ]
            refine wpAnyH_take (i := 6) (oi := ?oi158) (v := ?v158) ?hi158 (by kernel_rfl) ?hf158 ?hr158 ?hQ158 (Or.inl ⟨?hw158, ?hy158⟩) (by assumption) ?rest158
            case hi158 => simp only [List.getElem?_toArray, List.getElem?_cons_succ, List.getElem?_cons_zero]; rfl
            case hf158 => kernel_rfl
            case hr158 => kernel_rfl
            case hw158 => rfl
            case hy158 => (intro w hSw; (try dsimp only at hSw); go_simp; all_goals (first | done | with_reducible rfl))
            case hQ158 => exact fun _ _ _ h => h
            simp only [Act.put, List.setIfInBounds_toArray, List.set_cons_zero, List.set_cons_succ]
            refine wpAnyH_take (i := 7) (oi := ?oi159) (v := ?v159) ?hi159 (by kernel_rfl) ?hf159 ?hr159 ?hQ159 (Or.inl ⟨?hw159, ?hy159⟩) (by assumption) ?rest159
            case hi159 => simp only [List.getElem?_toArray, List.getElem?_cons_succ, List.getElem?_cons_zero]; rfl
            case hf159 => kernel_rfl
            case hr159 => kernel_rfl
            case hw159 => rfl
            case hy159 => (intro w hSw; (try dsimp only at hSw); go_simp; all_goals (first | done | with_reducible rfl))
            case hQ159 => exact fun _ _ _ h => h
            simp only [Act.put, List.setIfInBounds_toArray, List.set_cons_zero, List.set_cons_succ]
            refine wpAnyH_ready (rs := [8]) (by kernel_rfl) (by simp) ?_
            refine AllReadyH.cons (o := ?oi160) ?hi160 (fun K hK => ?step160) AllReadyH.nil
            case hi160 => simp only [List.getElem?_toArray, List.getElem?_cons_succ, List.getElem?_cons_zero]; rfl
            rw [if_pos (by rfl)]
            go_simp
            have KN := hid (Blk.new w40 #[.string ⟨#[]⟩, .int .i64 0, .string ⟨#[]⟩, .int .i64 0] 27)
            have HN6 := hid (HN5.out.alloc HN5.out.size (.cells #[.string ⟨#[]⟩, .int .i64 0, .string ⟨#[]⟩, .int .i64 0] 27))
            refine hK.out _ _ (SF.out _ HN6.out) (fun hS => ?_)
            skip
            obtain ⟨z0, y0⟩ := KN.out.2 0 _ rfl
            obtain ⟨z1, y1⟩ := KN.out.2 1 _ rfl
            obtain ⟨z2, y2⟩ := KN.out.2 2 _ rfl
            obtain ⟨z3, y3⟩ := KN.out.2 3 _ rfl
            refine wpAnyH_ready (rs := [9]) (by kernel_rfl) (by simp) ?_
            refine AllReadyH.cons (o := ?oi161) ?hi161 (fun K hK => ?step161) AllReadyH.nil
            case hi161 => simp only [List.getElem?_toArray, List.getElem?_cons_succ, List.getElem?_cons_zero]; rfl
            rw [if_pos (by rfl)]
            go_simp
            have KE := hid (Blk.new w40 #[.string ⟨#[]⟩, .int .i64 0, .string ⟨#[]⟩, .int .i64 0] 27)
            have HE := hid (HN5.out.alloc HN5.out.size (.cells #[.string ⟨#[]⟩, .int .i64 0, .string ⟨#[]⟩, .int .i64 0] 27))
            refine hK.out _ _ (SF.out _ HE.out) (fun hS => ?_)
            refine wpAnyH_take (i := 10) (oi := ?oi162) (v := ?v162) ?hi162 (by kernel_rfl) ?hf162 ?hr162 ?hQ162 (Or.inl ⟨?hw162, ?hy162⟩) (by assumption) ?rest162
            case hi162 => simp only [List.getElem?_toArray, List.getElem?_cons_succ, List.getElem?_cons_zero]; rfl
            case hf162 => kernel_rfl
            case hr162 => kernel_rfl
            case hw162 => rfl
            case hy162 => (intro w hSw; (try dsimp only at hSw); go_simp; all_goals (first | done | with_reducible rfl))
            case hQ162 => exact fun _ _ _ h => h
            simp only [Act.put, List.setIfInBounds_toArray, List.set_cons_zero, List.set_cons_succ]
            refine wpAnyH_done (by kernel_rfl) ?_ _
            clear z0 y0 z1 y1 z2 y2 z3 y3
            go_wp2_with fail
            go_meet
            case rel => exact ⟨_, rfl, rfl, KE.out, HE.out⟩
          · have KN0 := hid (show Blk _ w20.heap.size [.string ⟨#[]⟩, .int .i64 0, .string ⟨#[]⟩, .int .i64 0] from Blk.new w20.drew #[.string ⟨#[]⟩, .int .i64 0, .string ⟨#[]⟩, .int .i64 0] 27)
            have HN0 := hid (HNd.out.alloc (Nat.le_refl _) (.cells #[.string ⟨#[]⟩, .int .i64 0, .string ⟨#[]⟩, .int .i64 0] 27))
            refine hK.out _ _ (SF.out _ HN0.out) (fun hS => ?_)
            refine wpAnyH_ready (rs := [4]) (by kernel_rfl) (by simp) ?_
            refine AllReadyH.cons (o := ?oi163) ?hi163 (fun K hK => ?step163) AllReadyH.nil
            case hi163 => simp only [List.getElem?_toArray, List.getElem?_cons_succ, List.getElem?_cons_zero]; rfl
            rw [if_pos (by rfl)]
            go_simp
            go_at_call 10
            refine ((fun W (hW : Below w20.heap.size w20 W) => HT2.out W (HW20.out.trans (hW.mono HW20.out.size))) _ HN0.out).mono ?_
            rintro e w40 ⟨rfl, hb⟩
            have HN5 := hid (HN0.out.trans (hb.mono HN0.out.size))
            have KN := hid (KN0.out.to hb)
            clear hb
            refine hK.out _ _ (SF.out _ HN5.out) (fun hS => ?_)
            refine wpAnyH_take (i := 5) (oi := ?oi164) (v := ?v164) ?hi164 (by kernel_rfl) ?hf164 ?hr164 ?hQ164 (Or.inl ⟨?hw164, ?hy164⟩) (by assumption) ?rest164
            case hi164 => simp only [List.getElem?_toArray, List.getElem?_cons_succ, List.getElem?_cons_zero]; rfl
            case hf164 => kernel_rfl
            case hr164 => kernel_rfl
            case hw164 => rfl
            case hy164 => (intro w hSw; (try dsimp only at hSw); go_simp; all_goals (first | done | with_reducible rfl))
            case hQ164 => exact fun _ _ _ h => h
            simp only [Act.put, List.setIfInBounds_toArray, List.set_cons_zero, List.set_cons_succ]
            refine wpAnyH_take (i := 6) (oi := ?oi165) (v := ?v165) ?hi165 (by kernel_rfl) ?hf165 ?hr165 ?hQ165 (Or.inl ⟨?hw165, ?hy165⟩) (by assumption) ?rest165
            case hi165 => simp only [List.getElem?_toArray, List.getElem?_cons_succ, List.getElem?_cons_zero]; rfl
            case hf165 => kernel_rfl
            case hr165 => kernel_rfl
            case hw165 => rfl
            case hy165 => (intro w hSw; (try dsimp only at hSw); go_simp; all_goals (first | done | with_reducible rfl))
            case hQ165 => exact fun _ _ _ h => h
            simp only [Act.put, List.setIfInBounds_toArray, List.set_cons_zero, List.set_cons_succ]
            refine wpAnyH_take (i := 7) (oi := ?oi166) (v := ?v166) ?hi166 (by kernel_rfl) ?hf166 ?hr166 ?hQ166 (Or.inl ⟨?hw166, ?hy166⟩) (by assumption) ?rest166
            case hi166 => simp only [List.getElem?_toArray, List.getElem?_cons_succ, List.getElem?_cons_zero]; rfl
            case hf166 => kernel_rfl
            case hr166 => kernel_rfl
            case hw166 => rfl
            case hy166 => (intro w hSw; (try dsimp only at hSw); go_simp; all_goals (first | done | with_reducible rfl))
            case hQ166 => exact fun _ _ _ h => h
            simp only [Act.put, List.setIfInBounds_toArray, List.set_cons_zero, List.set_cons_succ]
            obtain ⟨z0, y0⟩ := KN.out.2 0 _ rfl
            obtain ⟨z1, y1⟩ := KN.out.2 1 _ rfl
            obtain ⟨z2, y2⟩ := KN.out.2 2 _ rfl
            obtain ⟨z3, y3⟩ := KN.out.2 3 _ rfl
            refine wpAnyH_ready (rs := [9]) (by kernel_rfl) (by simp) ?_
            refine AllReadyH.cons (o := ?oi167) ?hi167 (fun K hK => ?step167) AllReadyH.nil
            case hi167 => simp only [List.getElem?_toArray, List.getElem?_cons_succ, List.getElem?_cons_zero]; rfl
            rw [if_pos (by rfl)]
            go_simp
            have KE := hid ((((KN.out.set 0 (.string ⟨#[]⟩)).set 1 (.int .i64 0)).set 2 (.string ⟨#[]⟩)).set 3 (.int .i64 0))
            have HE := hid ((((HN5.out.setCell (p := ⟨w20.heap.size, 0, none⟩) (Nat.le_refl _) (.string ⟨#[]⟩)).setCell (p := ⟨w20.heap.size, 1, none⟩) (Nat.le_refl _) (.int .i64 0)).setCell (p := ⟨w20.heap.size, 2, none⟩) (Nat.le_refl _) (.string ⟨#[]⟩)).setCell (p := ⟨w20.heap.size, 3, none⟩) (Nat.le_refl _) (.int .i64 0))
            refine hK.out _ _ (SF.out _ HE.out) (fun hS => ?_)
            refine wpAnyH_take (i := 10) (oi := ?oi168) (v := ?v168) ?hi168 (by kernel_rfl) ?hf168 ?hr168 ?hQ168 (Or.inl ⟨?hw168, ?hy168⟩) (by assumption) ?rest168
            case hi168 => simp only [List.getElem?_toArray, List.getElem?_cons_succ, List.getElem?_cons_zero]; rfl
            case hf168 => kernel_rfl
            case hr168 => kernel_rfl
            case hw168 => rfl
            case hy168 => (intro w hSw; (try dsimp only at hSw); go_simp; all_goals (first | done | with_reducible rfl))
            case hQ168 => exact fun _ _ _ h => h
            simp only [Act.put, List.setIfInBounds_toArray, List.set_cons_zero, List.set_cons_succ]
            refine wpAnyH_done (by kernel_rfl) ?_ _
            clear z0 y0 z1 y1 z2 y2 z3 y3
            go_wp2_with fail
            go_meet
            case rel => exact ⟨_, rfl, rfl, KE.out, HE.out⟩
        case rest =>
          obtain ⟨b12, rfl, rfl, hk12, hb⟩ := hcut
          rename World => w21
          have KN12 := hid hk12
          have HW21 := hid (HW20.out.trans (hb.mono HW20.out.size))
          have HO21 := hid (HO20.out.trans (hb.mono HO20.out.size))
          have HE21 := hid (HE20.out.trans (hb.mono HE20.out.size))
          clear hb hk12
          obtain ⟨⟨r0, _⟩, ⟨r1, _⟩, ⟨r2, _⟩, ⟨r3, _⟩⟩ := (And.intro ((KR.out.to HW21.out).2 0 _ rfl) (And.intro ((KR.out.to HW21.out).2 1 _ rfl) (And.intro ((KR.out.to HW21.out).2 2 _ rfl) ((KR.out.to HW21.out).2 3 _ rfl))))
          obtain ⟨⟨o0, _⟩, ⟨o1, _⟩, ⟨o2, _⟩, ⟨o3, _⟩⟩ := (And.intro ((KO.out.to HO21.out).2 0 _ rfl) (And.intro ((KO.out.to HO21.out).2 1 _ rfl) (And.intro ((KO.out.to HO21.out).2 2 _ rfl) ((KO.out.to HO21.out).2 3 _ rfl))))
          have s0 := (KN12.out.2 0 _ rfl).1
          have s1 := (KN12.out.2 1 _ rfl).1
          have s2 := (KN12.out.2 2 _ rfl).1
          have s3 := (KN12.out.2 3 _ rfl).1
          go_wp2_with fail
          go_ret
          exact ⟨ret_bool (by simp), HB.out.trans (HW21.out.mono HB.out.size)⟩
  · have hXX := hX
    have CI2 := hid (fun (W : World) (hW : Below w2.heap.size w2 W) => (show Calls Try.prog 10 #[.slice fA fn fc, .agg #[.string nm, .int .i64 lv, .string tx, .int .i64 sq]] W (fun e w' => e = .returned (.tuple #[.agg #[.string nm, .int .i64 q2, .string tx, .int .i64 sq], .bool true]) ∧ Below W.heap.size W w') from by have h9 := CI.out W hW; rw [hX] at h9; exact h9))
    have CS2 := hid (fun (W : World) (hW : Below w2.heap.size w2 W) => (show Calls Try.prog 7 #[.slice fA fn fc, .agg #[.string nm, .int .i64 lv, .string tx, .int .i64 sq]] W (fun e w' => e = .returned (.tuple #[.agg #[.string nm, .int .i64 q2, .string tx, .int .i64 sq], .bool true]) ∧ Below W.heap.size W w') from by have h9 := CS.out W hW; rw [hX] at h9; exact h9))
    clear hX CI CS
    obtain ⟨⟨r0, _⟩, ⟨r1, _⟩, ⟨r2, _⟩, ⟨r3, _⟩⟩ := (And.intro ((KR.out.to HW.out).2 0 _ rfl) (And.intro ((KR.out.to HW.out).2 1 _ rfl) (And.intro ((KR.out.to HW.out).2 2 _ rfl) ((KR.out.to HW.out).2 3 _ rfl))))
    go_wp2_with fail
    refine (CI2.out _ HW.out).mono ?_
    rintro e w3 ⟨rfl, hb0⟩
    have hbx : Below w3.heap.size w3 (w3.alloc (.cells #[.string nm, .int .i64 q2, .string tx, .int .i64 sq] 27)) := (Below.refl _ _).alloc (Nat.le_refl _) _
    have hb := hb0.trans (hbx.mono hb0.size)
    have KO := hid (Blk.new w3 #[.string nm, .int .i64 q2, .string tx, .int .i64 sq] 27)
    have HW4 := hid (HW.out.trans (hb.mono HW.out.size))
    clear hb hb0 hbx r0 r1 r2 r3
    obtain ⟨⟨r0, _⟩, ⟨r1, _⟩, ⟨r2, _⟩, ⟨r3, _⟩⟩ := (And.intro ((KR.out.to HW4.out).2 0 _ rfl) (And.intro ((KR.out.to HW4.out).2 1 _ rfl) (And.intro ((KR.out.to HW4.out).2 2 _ rfl) ((KR.out.to HW4.out).2 3 _ rfl))))
    go_wp2_with fail
    generalize hbo : w3.heap.size = bo at *
    generalize w3.alloc (.cells #[.string nm, .int .i64 q2, .string tx, .int .i64 sq] 27) = w4 at *
    clear hbo
    refine (CS2.out _ HW4.out).mono ?_
    rintro e w5 ⟨rfl, hb0⟩
    have hbx : Below w5.heap.size w5 (w5.alloc (.cells #[.string nm, .int .i64 q2, .string tx, .int .i64 sq] 27)) := (Below.refl _ _).alloc (Nat.le_refl _) _
    have hb := hb0.trans (hbx.mono hb0.size)
    have KW := hid (Blk.new w5 #[.string nm, .int .i64 q2, .string tx, .int .i64 sq] 27)
    have HW6 := hid (HW4.out.trans (hb.mono HW4.out.size))
    have HO6 := hid hb
    clear hb hb0 hbx r0 r1 r2 r3
    obtain ⟨⟨r0, _⟩, ⟨r1, _⟩, ⟨r2, _⟩, ⟨r3, _⟩⟩ := (And.intro ((KR.out.to HW6.out).2 0 _ rfl) (And.intro ((KR.out.to HW6.out).2 1 _ rfl) (And.intro ((KR.out.to HW6.out).2 2 _ rfl) ((KR.out.to HW6.out).2 3 _ rfl))))
    obtain ⟨⟨o0, _⟩, ⟨o1, _⟩, ⟨o2, _⟩, ⟨o3, _⟩⟩ := (And.intro ((KO.out.to HO6.out).2 0 _ rfl) (And.intro ((KO.out.to HO6.out).2 1 _ rfl) (And.intro ((KO.out.to HO6.out).2 2 _ rfl) ((KO.out.to HO6.out).2 3 _ rfl))))
    go_wp2_with fail
    generalize hbw : w5.heap.size = bw at *
    generalize w5.alloc (.cells #[.string nm, .int .i64 q2, .string tx, .int .i64 sq] 27) = w6 at *
    clear hbw
    have HE6 := hid (Below.refl w6.heap.size w6)
    obtain ⟨⟨p0, _⟩, ⟨p1, _⟩, ⟨p2, _⟩, ⟨p3, _⟩⟩ := (And.intro ((KW.out.to HE6.out).2 0 _ rfl) (And.intro ((KW.out.to HE6.out).2 1 _ rfl) (And.intro ((KW.out.to HE6.out).2 2 _ rfl) ((KW.out.to HE6.out).2 3 _ rfl))))
    refine (CF.out _ HW6.out).mono ?_
    rintro e w7 ⟨he7, hb⟩
    rw [hf] at he7
    subst he7
    have HW7 := hid (HW6.out.trans (hb.mono HW6.out.size))
    have HO7 := hid (HO6.out.trans (hb.mono HO6.out.size))
    have HE7 := hid (HE6.out.trans (hb.mono HE6.out.size))
    clear hb r0 r1 r2 r3 o0 o1 o2 o3 p0 p1 p2 p3
    obtain ⟨⟨r0, _⟩, ⟨r1, _⟩, ⟨r2, _⟩, ⟨r3, _⟩⟩ := (And.intro ((KR.out.to HW7.out).2 0 _ rfl) (And.intro ((KR.out.to HW7.out).2 1 _ rfl) (And.intro ((KR.out.to HW7.out).2 2 _ rfl) ((KR.out.to HW7.out).2 3 _ rfl))))
    obtain ⟨⟨o0, _⟩, ⟨o1, _⟩, ⟨o2, _⟩, ⟨o3, _⟩⟩ := (And.intro ((KO.out.to HO7.out).2 0 _ rfl) (And.intro ((KO.out.to HO7.out).2 1 _ rfl) (And.intro ((KO.out.to HO7.out).2 2 _ rfl) ((KO.out.to HO7.out).2 3 _ rfl))))
    obtain ⟨⟨p0, _⟩, ⟨p1, _⟩, ⟨p2, _⟩, ⟨p3, _⟩⟩ := (And.intro ((KW.out.to HE7.out).2 0 _ rfl) (And.intro ((KW.out.to HE7.out).2 1 _ rfl) (And.intro ((KW.out.to HE7.out).2 2 _ rfl) ((KW.out.to HE7.out).2 3 _ rfl))))
    go_wp2_with fail
    refine (CV.out _).mono ?_
    rintro e w8 ⟨he8, hb9⟩
    rw [hr] at he8
    subst he8
    have hb := (show Below w7.heap.size w7 w8 from ((Below.refl _ _).alloc (Nat.le_refl _) _).trans (hb9.mono (by simp)))
    clear hb9
    have HW8 := hid (HW7.out.trans (hb.mono HW7.out.size))
    have HO8 := hid (HO7.out.trans (hb.mono HO7.out.size))
    have HE8 := hid (HE7.out.trans (hb.mono HE7.out.size))
    clear hb r0 r1 r2 r3 o0 o1 o2 o3 p0 p1 p2 p3
    obtain ⟨⟨r0, _⟩, ⟨r1, _⟩, ⟨r2, _⟩, ⟨r3, _⟩⟩ := (And.intro ((KR.out.to HW8.out).2 0 _ rfl) (And.intro ((KR.out.to HW8.out).2 1 _ rfl) (And.intro ((KR.out.to HW8.out).2 2 _ rfl) ((KR.out.to HW8.out).2 3 _ rfl))))
    obtain ⟨⟨o0, _⟩, ⟨o1, _⟩, ⟨o2, _⟩, ⟨o3, _⟩⟩ := (And.intro ((KO.out.to HO8.out).2 0 _ rfl) (And.intro ((KO.out.to HO8.out).2 1 _ rfl) (And.intro ((KO.out.to HO8.out).2 2 _ rfl) ((KO.out.to HO8.out).2 3 _ rfl))))
    obtain ⟨⟨p0, _⟩, ⟨p1, _⟩, ⟨p2, _⟩, ⟨p3, _⟩⟩ := (And.intro ((KW.out.to HE8.out).2 0 _ rfl) (And.intro ((KW.out.to HE8.out).2 1 _ rfl) (And.intro ((KW.out.to HE8.out).2 2 _ rfl) ((KW.out.to HE8.out).2 3 _ rfl))))
    have hkc : ((fn : Int) / 2) = ((fn / 2 : Nat) : Int) := by omega
    rcases Nat.eq_zero_or_pos fn with hn0 | hn0
    · have hl0 : l = [] := List.eq_nil_of_length_eq_zero (by rw [hfn.out]; exact hn0)
      subst hl0
      subst hn0
      simp only [List.take_nil, List.drop_nil] at h1 h2
      have hk0 : ((0 : Int) / 2) = 0 := by decide
      rcases hA with ⟨hA1, _, hc⟩ | ⟨g, hA1⟩
      · subst hA1 hc
        have HT1 := hid (fun (W : World) (hW : Below w8.heap.size w8 W) => (show Calls Try.prog 10 #[.slice none 0 0, .agg #[.string nm, .int .i64 lv, .string tx, .int .i64 sq]] W (fun e w' => e = .returned (.tuple #[.agg #[.string nm, .int .i64 q1, .string tx, .int .i64 sq], .bool true]) ∧ Below W.heap.size W w') from by have h9 := CJ.out 0 none 0 [] nm tx lv sq hz1 hz2 W (HW8.out.trans (hW.mono HW8.out.size)) ⟨⟨rfl, _, _, rfl, Nat.zero_le _, by unfold maxLen; omega, fun h => absurd h (by omega)⟩, fun _ h => by cases h⟩; rw [h1] at h9; exact h9))
        have HT2 := hid (fun (W : World) (hW2 : Below w2.heap.size w2 W) => (show Calls Try.prog 10 #[.slice none 0 0, .agg #[.string nm, .int .i64 q1, .string tx, .int .i64 sq]] W (fun e w' => e = .returned (.tuple #[.agg #[.string nm, .int .i64 q2, .string tx, .int .i64 sq], .bool true]) ∧ Below W.heap.size W w') from by have h9 := CJ.out 0 none 0 [] nm tx q1 sq hz1 hz2 W hW2 ⟨⟨rfl, _, _, rfl, Nat.zero_le _, by unfold maxLen; omega, fun h => absurd h (by omega)⟩, fun _ h => by cases h⟩; rw [h2] at h9; exact h9))
        go_wp2_with fail
        go_cut [10, 11] from 14 (fun sa sb wc => ∃ b : Nat, sa = .pointer (some ⟨b, 0, none⟩) ∧ sb = .bool true ∧ Blk wc b [.string nm, .int .i64 q1, .string tx, .int .i64 sq] ∧ Below w8.heap.size w8 wc)
        case first =>
          try clear CI2
          try clear CS2
          try clear CF
          try clear CV
          try clear CJ
          try clear FF
          try clear FI
          try clear HO8 HE8 KO KW
          try clear HO20 HE20
          try clear HB
          try clear hXX
          have KS := hid (KR.out.to HW8.out)
          have SF := hid (fun (W : World) (hW : Below w8.heap.size w8 W) => (show W.cell? ⟨rb, 0, none⟩ = some (.string nm) ∧ W.cell? ⟨rb, 1, none⟩ = some (.int .i64 lv) ∧ W.cell? ⟨rb, 2, none⟩ = some (.string tx) ∧ W.cell? ⟨rb, 3, none⟩ = some (.int .i64 sq) from ⟨((KS.out.to hW).2 0 _ rfl).1, ((KS.out.to hW).2 1 _ rfl).1, ((KS.out.to hW).2 2 _ rfl).1, ((KS.out.to hW).2 3 _ rfl).1⟩))
          have HNd := hid ((Below.refl w8.heap.size w8).drew)
          refine wp_region_held_drew (S := fun w' : World => w'.cell? ⟨rb, 0, none⟩ = some (.string nm) ∧ w'.cell? ⟨rb, 1, none⟩ = some (.int .i64 lv) ∧ w'.cell? ⟨rb, 2, none⟩ = some (.string tx) ∧ w'.cell? ⟨rb, 3, none⟩ = some (.int .i64 sq)) (by kernel_rfl) (SF.out _ HNd.out) (fun hS => ?_)
          refine wpAnyH_take (i := 0) (oi := ?oi169) (v := ?v169) ?hi169 (by kernel_rfl) ?hf169 ?hr169 ?hQ169 (Or.inl ⟨?hw169, ?hy169⟩) (by assumption) ?rest169
          case hi169 => simp only [List.getElem?_toArray, List.getElem?_cons_succ, List.getElem?_cons_zero]; rfl
          case hf169 => kernel_rfl
          case hr169 => kernel_rfl
          case hw169 => rfl
          case hy169 => (intro w hSw; (try dsimp only at hSw); go_simp; all_goals (first | done | with_reducible rfl))
          case hQ169 => exact fun _ _ _ h => h
          simp only [Act.put, List.setIfInBounds_toArray, List.set_cons_zero, List.set_cons_succ]
          refine wpAnyH_take (i := 1) (oi := ?oi170) (v := ?v170) ?hi170 (by kernel_rfl) ?hf170 ?hr170 ?hQ170 (Or.inl ⟨?hw170, ?hy170⟩) (by assumption) ?rest170
          case hi170 => simp only [List.getElem?_toArray, List.getElem?_cons_succ, List.getElem?_cons_zero]; rfl
          case hf170 => kernel_rfl
          case hr170 => kernel_rfl
          case hw170 => rfl
          case hy170 => (intro w hSw; (try dsimp only at hSw); go_simp; all_goals (first | done | with_reducible rfl))
          case hQ170 => exact fun _ _ _ h => h
          simp only [Act.put, List.setIfInBounds_toArray, List.set_cons_zero, List.set_cons_succ]
          refine wpAnyH_take (i := 2) (oi := ?oi171) (v := ?v171) ?hi171 (by kernel_rfl) ?hf171 ?hr171 ?hQ171 (Or.inl ⟨?hw171, ?hy171⟩) (by assumption) ?rest171
          case hi171 => simp only [List.getElem?_toArray, List.getElem?_cons_succ, List.getElem?_cons_zero]; rfl
          case hf171 => kernel_rfl
          case hr171 => kernel_rfl
          case hw171 => rfl
          case hy171 => (intro w hSw; (try dsimp only at hSw); go_simp; all_goals (first | done | with_reducible rfl))
          case hQ171 => exact fun _ _ _ h => h
          simp only [Act.put, List.setIfInBounds_toArray, List.set_cons_zero, List.set_cons_succ]
          refine wpAnyH_take (i := 3) (oi := ?oi172) (v := ?v172) ?hi172 (by kernel_rfl) ?hf172 ?hr172 ?hQ172 (Or.inl ⟨?hw172, ?hy172⟩) (by assumption) ?rest172
          case hi172 => simp only [List.getElem?_toArray, List.getElem?_cons_succ, List.getElem?_cons_zero]; rfl
          case hf172 => kernel_rfl
          case hr172 => kernel_rfl
          case hw172 => rfl
          case hy172 => (intro w hSw; (try dsimp only at hSw); go_simp; all_goals (first | done | with_reducible rfl))
          case hQ172 => exact fun _ _ _ h => h
          simp only [Act.put, List.setIfInBounds_toArray, List.set_cons_zero, List.set_cons_succ]
          refine wpAnyH_ready (rs := [4, 8]) (by kernel_rfl) (by simp) ?_
          refine AllReadyH.cons (o := ?oi173) ?hi173 (fun K hK => ?stepA173) (AllReadyH.cons (o := ?oj173) ?hj173 (fun K hK => ?stepB173) AllReadyH.nil)
          case hi173 => simp only [List.getElem?_toArray, List.getElem?_cons_succ, List.getElem?_cons_zero]; rfl
          case hj173 => simp only [List.getElem?_toArray, List.getElem?_cons_succ, List.getElem?_cons_zero]; rfl
          all_goals rw [if_pos (by rfl)]
          all_goals go_simp
          · go_at_call 10
            refine (HT1.out _ HNd.out).mono ?_
            rintro e w40 ⟨rfl, hb⟩
            have HN5 := hid (HNd.out.trans (hb.mono HNd.out.size))
            clear hb
            refine hK.out _ _ (SF.out _ HN5.out) (fun hS => ?_)
            refine wpAnyH_take (i := 5) (oi := ?oi174) (v := ?v174) ?hi174 (by kernel_rfl) ?hf174 ?hr174 ?hQ174 (Or.inl ⟨?hw174, ?hy174⟩) (by assumption) ?rest174
            case hi174 => simp only [List.getElem?_toArray, List.getElem?_cons_succ, List.getElem?_cons_zero]; rfl
            case hf174 => kernel_rfl
            case hr174 => kernel_rfl
            case hw174 => rfl
            case hy174 => (intro w hSw; (try dsimp only at hSw); go_simp; all_goals (first | done | with_reducible rfl))
            case hQ174 => exact fun _ _ _ h => h
            simp only [Act.put, List.setIfInBounds_toArray, List.set_cons_zero, List.set_cons_succ]
            refine wpAnyH_take (i := 6) (oi := ?oi175) (v := ?v175) ?hi175 (by kernel_rfl) ?hf175 ?hr175 ?hQ175 (Or.inl ⟨?hw175, ?hy175⟩) (by assumption) ?rest175
            case hi175 => simp only [List.getElem?_toArray, List.getElem?_cons_succ, List.getElem?_cons_zero]; rfl
            case hf175 => kernel_rfl
            case hr175 => kernel_rfl
            case hw175 => rfl
            case hy175 => (intro w hSw; (try dsimp only at hSw); go_simp; all_goals (first | done | with_reducible rfl))
            case hQ175 => exact fun _ _ _ h => h
            simp only [Act.put, List.setIfInBounds_toArray, List.set_cons_zero, List.set_cons_succ]
            refine wpAnyH_take (i := 7) (oi := ?oi176) (v := ?v176) ?hi176 (by kernel_rfl) ?hf176 ?hr176 ?hQ176 (Or.inl ⟨?hw176, ?hy176⟩) (by assumption) ?rest176
            case hi176 => simp only [List.getElem?_toArray, List.getElem?_cons_succ, List.getElem?_cons_zero]; rfl
            case hf176 => kernel_rfl
            case hr176 => kernel_rfl
            case hw176 => rfl
            case hy176 => (intro w hSw; (try dsimp only at hSw); go_simp; all_goals (first | done | with_reducible rfl))
            case hQ176 => exact fun _ _ _ h => h
            simp only [Act.put, List.setIfInBounds_toArray, List.set_cons_zero, List.set_cons_succ]
            refine wpAnyH_ready (rs := [8]) (by kernel_rfl) (by simp) ?_
            refine AllReadyH.cons (o := ?oi177) ?hi177 (fun K hK => ?step177) AllReadyH.nil
            case hi177 => simp only [List.getElem?_toArray, List.getElem?_cons_succ, List.getElem?_cons_zero]; rfl
            rw [if_pos (by rfl)]
            go_simp
            have KN := hid (Blk.new w40 #[.string ⟨#[]⟩, .int .i64 0, .string ⟨#[]⟩, .int .i64 0] 27)
            have HN6 := hid (HN5.out.alloc HN5.out.size (.cells #[.string ⟨#[]⟩, .int .i64 0, .string ⟨#[]⟩, .int .i64 0] 27))
            refine hK.out _ _ (SF.out _ HN6.out) (fun hS => ?_)
            skip
            obtain ⟨z0, y0⟩ := KN.out.2 0 _ rfl
            obtain ⟨z1, y1⟩ := KN.out.2 1 _ rfl
            obtain ⟨z2, y2⟩ := KN.out.2 2 _ rfl
            obtain ⟨z3, y3⟩ := KN.out.2 3 _ rfl
            refine wpAnyH_ready (rs := [9]) (by kernel_rfl) (by simp) ?_
            refine AllReadyH.cons (o := ?oi178) ?hi178 (fun K hK => ?step178) AllReadyH.nil
            case hi178 => simp only [List.getElem?_toArray, List.getElem?_cons_succ, List.getElem?_cons_zero]; rfl
            rw [if_pos (by rfl)]
            go_simp
            have KE := hid (Blk.new w40 #[.string nm, .int .i64 q1, .string tx, .int .i64 sq] 27)
            have HE := hid (HN5.out.alloc HN5.out.size (.cells #[.string nm, .int .i64 q1, .string tx, .int .i64 sq] 27))
            refine hK.out _ _ (SF.out _ HE.out) (fun hS => ?_)
            refine wpAnyH_take (i := 10) (oi := ?oi179) (v := ?v179) ?hi179 (by kernel_rfl) ?hf179 ?hr179 ?hQ179 (Or.inl ⟨?hw179, ?hy179⟩) (by assumption) ?rest179
            case hi179 => simp only [List.getElem?_toArray, List.getElem?_cons_succ, List.getElem?_cons_zero]; rfl
            case hf179 => kernel_rfl
            case hr179 => kernel_rfl
            case hw179 => rfl
            case hy179 => (intro w hSw; (try dsimp only at hSw); go_simp; all_goals (first | done | with_reducible rfl))
            case hQ179 => exact fun _ _ _ h => h
            simp only [Act.put, List.setIfInBounds_toArray, List.set_cons_zero, List.set_cons_succ]
            refine wpAnyH_done (by kernel_rfl) ?_ _
            clear z0 y0 z1 y1 z2 y2 z3 y3
            go_wp2_with fail
            go_meet
            case rel => exact ⟨_, rfl, rfl, KE.out, HE.out⟩
          · have KN0 := hid (show Blk _ w8.heap.size [.string ⟨#[]⟩, .int .i64 0, .string ⟨#[]⟩, .int .i64 0] from Blk.new w8.drew #[.string ⟨#[]⟩, .int .i64 0, .string ⟨#[]⟩, .int .i64 0] 27)
            have HN0 := hid (HNd.out.alloc (Nat.le_refl _) (.cells #[.string ⟨#[]⟩, .int .i64 0, .string ⟨#[]⟩, .int .i64 0] 27))
            refine hK.out _ _ (SF.out _ HN0.out) (fun hS => ?_)
            refine wpAnyH_ready (rs := [4]) (by kernel_rfl) (by simp) ?_
            refine AllReadyH.cons (o := ?oi180) ?hi180 (fun K hK => ?step180) AllReadyH.nil
            case hi180 => simp only [List.getElem?_toArray, List.getElem?_cons_succ, List.getElem?_cons_zero]; rfl
            rw [if_pos (by rfl)]
            go_simp
            go_at_call 10
            refine (HT1.out _ HN0.out).mono ?_
            rintro e w40 ⟨rfl, hb⟩
            have HN5 := hid (HN0.out.trans (hb.mono HN0.out.size))
            have KN := hid (KN0.out.to hb)
            clear hb
            refine hK.out _ _ (SF.out _ HN5.out) (fun hS => ?_)
            refine wpAnyH_take (i := 5) (oi := ?oi181) (v := ?v181) ?hi181 (by kernel_rfl) ?hf181 ?hr181 ?hQ181 (Or.inl ⟨?hw181, ?hy181⟩) (by assumption) ?rest181
            case hi181 => simp only [List.getElem?_toArray, List.getElem?_cons_succ, List.getElem?_cons_zero]; rfl
            case hf181 => kernel_rfl
            case hr181 => kernel_rfl
            case hw181 => rfl
            case hy181 => (intro w hSw; (try dsimp only at hSw); go_simp; all_goals (first | done | with_reducible rfl))
            case hQ181 => exact fun _ _ _ h => h
            simp only [Act.put, List.setIfInBounds_toArray, List.set_cons_zero, List.set_cons_succ]
            refine wpAnyH_take (i := 6) (oi := ?oi182) (v := ?v182) ?hi182 (by kernel_rfl) ?hf182 ?hr182 ?hQ182 (Or.inl ⟨?hw182, ?hy182⟩) (by assumption) ?rest182
            case hi182 => simp only [List.getElem?_toArray, List.getElem?_cons_succ, List.getElem?_cons_zero]; rfl
            case hf182 => kernel_rfl
            case hr182 => kernel_rfl
            case hw182 => rfl
            case hy182 => (intro w hSw; (try dsimp only at hSw); go_simp; all_goals (first | done | with_reducible rfl))
            case hQ182 => exact fun _ _ _ h => h
            simp only [Act.put, List.setIfInBounds_toArray, List.set_cons_zero, List.set_cons_succ]
            refine wpAnyH_take (i := 7) (oi := ?oi183) (v := ?v183) ?hi183 (by kernel_rfl) ?hf183 ?hr183 ?hQ183 (Or.inl ⟨?hw183, ?hy183⟩) (by assumption) ?rest183
            case hi183 => simp only [List.getElem?_toArray, List.getElem?_cons_succ, List.getElem?_cons_zero]; rfl
            case hf183 => kernel_rfl
            case hr183 => kernel_rfl
            case hw183 => rfl
            case hy183 => (intro w hSw; (try dsimp only at hSw); go_simp; all_goals (first | done | with_reducible rfl))
            case hQ183 => exact fun _ _ _ h => h
            simp only [Act.put, List.setIfInBounds_toArray, List.set_cons_zero, List.set_cons_succ]
            obtain ⟨z0, y0⟩ := KN.out.2 0 _ rfl
            obtain ⟨z1, y1⟩ := KN.out.2 1 _ rfl
            obtain ⟨z2, y2⟩ := KN.out.2 2 _ rfl
            obtain ⟨z3, y3⟩ := KN.out.2 3 _ rfl
            refine wpAnyH_ready (rs := [9]) (by kernel_rfl) (by simp) ?_
            refine AllReadyH.cons (o := ?oi184) ?hi184 (fun K hK => ?step184) AllReadyH.nil
            case hi184 => simp only [List.getElem?_toArray, List.getElem?_cons_succ, List.getElem?_cons_zero]; rfl
            rw [if_pos (by rfl)]
            go_simp
            have KE := hid ((((KN.out.set 0 (.string nm)).set 1 (.int .i64 q1)).set 2 (.string tx)).set 3 (.int .i64 sq))
            have HE := hid ((((HN5.out.setCell (p := ⟨w8.heap.size, 0, none⟩) (Nat.le_refl _) (.string nm)).setCell (p := ⟨w8.heap.size, 1, none⟩) (Nat.le_refl _) (.int .i64 q1)).setCell (p := ⟨w8.heap.size, 2, none⟩) (Nat.le_refl _) (.string tx)).setCell (p := ⟨w8.heap.size, 3, none⟩) (Nat.le_refl _) (.int .i64 sq))
            refine hK.out _ _ (SF.out _ HE.out) (fun hS => ?_)
            refine wpAnyH_take (i := 10) (oi := ?oi185) (v := ?v185) ?hi185 (by kernel_rfl) ?hf185 ?hr185 ?hQ185 (Or.inl ⟨?hw185, ?hy185⟩) (by assumption) ?rest185
            case hi185 => simp only [List.getElem?_toArray, List.getElem?_cons_succ, List.getElem?_cons_zero]; rfl
            case hf185 => kernel_rfl
            case hr185 => kernel_rfl
            case hw185 => rfl
            case hy185 => (intro w hSw; (try dsimp only at hSw); go_simp; all_goals (first | done | with_reducible rfl))
            case hQ185 => exact fun _ _ _ h => h
            simp only [Act.put, List.setIfInBounds_toArray, List.set_cons_zero, List.set_cons_succ]
            refine wpAnyH_done (by kernel_rfl) ?_ _
            clear z0 y0 z1 y1 z2 y2 z3 y3
            go_wp2_with fail
            go_meet
            case rel => exact ⟨_, rfl, rfl, KE.out, HE.out⟩
        case rest =>
          obtain ⟨b10, rfl, rfl, hk10, hb⟩ := hcut
          rename World => w20
          clear r0 r1 r2 r3 o0 o1 o2 o3 p0 p1 p2 p3
          have KM := hid hk10
          have HW20 := hid (HW8.out.trans (hb.mono HW8.out.size))
          have HO20 := hid (HO8.out.trans (hb.mono HO8.out.size))
          have HE20 := hid (HE8.out.trans (hb.mono HE8.out.size))
          have HN20 := hid hb
          clear hb hk10
          go_wp2_with fail
          go_cut [12, 13] from 14 (fun sa sb wc => ∃ b : Nat, sa = .pointer (some ⟨b, 0, none⟩) ∧ sb = .bool true ∧ Blk wc b [.string nm, .int .i64 q2, .string tx, .int .i64 sq] ∧ Below w20.heap.size w20 wc)
          case first =>
            try clear CI2
            try clear CS2
            try clear CF
            try clear CV
            try clear CJ
            try clear FF
            try clear FI
            try clear HO8 HE8 KO KW
            try clear HO20 HE20
            try clear HB
            try clear hXX
            have KS := hid KM.out
            have SF := hid (fun (W : World) (hW : Below w20.heap.size w20 W) => (show W.cell? ⟨b10, 0, none⟩ = some (.string nm) ∧ W.cell? ⟨b10, 1, none⟩ = some (.int .i64 q1) ∧ W.cell? ⟨b10, 2, none⟩ = some (.string tx) ∧ W.cell? ⟨b10, 3, none⟩ = some (.int .i64 sq) from ⟨((KS.out.to hW).2 0 _ rfl).1, ((KS.out.to hW).2 1 _ rfl).1, ((KS.out.to hW).2 2 _ rfl).1, ((KS.out.to hW).2 3 _ rfl).1⟩))
            have HNd := hid ((Below.refl w20.heap.size w20).drew)
            refine wp_region_held_drew (S := fun w' : World => w'.cell? ⟨b10, 0, none⟩ = some (.string nm) ∧ w'.cell? ⟨b10, 1, none⟩ = some (.int .i64 q1) ∧ w'.cell? ⟨b10, 2, none⟩ = some (.string tx) ∧ w'.cell? ⟨b10, 3, none⟩ = some (.int .i64 sq)) (by kernel_rfl) (SF.out _ HNd.out) (fun hS => ?_)
            refine wpAnyH_take (i := 0) (oi := ?oi186) (v := ?v186) ?hi186 (by kernel_rfl) ?hf186 ?hr186 ?hQ186 (Or.inl ⟨?hw186, ?hy186⟩) (by assumption) ?rest186
            case hi186 => simp only [List.getElem?_toArray, List.getElem?_cons_succ, List.getElem?_cons_zero]; rfl
            case hf186 => kernel_rfl
            case hr186 => kernel_rfl
            case hw186 => rfl
            case hy186 => (intro w hSw; (try dsimp only at hSw); go_simp; all_goals (first | done | with_reducible rfl))
            case hQ186 => exact fun _ _ _ h => h
            simp only [Act.put, List.setIfInBounds_toArray, List.set_cons_zero, List.set_cons_succ]
            refine wpAnyH_take (i := 1) (oi := ?oi187) (v := ?v187) ?hi187 (by kernel_rfl) ?hf187 ?hr187 ?hQ187 (Or.inl ⟨?hw187, ?hy187⟩) (by assumption) ?rest187
            case hi187 => simp only [List.getElem?_toArray, List.getElem?_cons_succ, List.getElem?_cons_zero]; rfl
            case hf187 => kernel_rfl
            case hr187 => kernel_rfl
            case hw187 => rfl
            case hy187 => (intro w hSw; (try dsimp only at hSw); go_simp; all_goals (first | done | with_reducible rfl))
            case hQ187 => exact fun _ _ _ h => h
            simp only [Act.put, List.setIfInBounds_toArray, List.set_cons_zero, List.set_cons_succ]
            refine wpAnyH_take (i := 2) (oi := ?oi188) (v := ?v188) ?hi188 (by kernel_rfl) ?hf188 ?hr188 ?hQ188 (Or.inl ⟨?hw188, ?hy188⟩) (by assumption) ?rest188
            case hi188 => simp only [List.getElem?_toArray, List.getElem?_cons_succ, List.getElem?_cons_zero]; rfl
            case hf188 => kernel_rfl
            case hr188 => kernel_rfl
            case hw188 => rfl
            case hy188 => (intro w hSw; (try dsimp only at hSw); go_simp; all_goals (first | done | with_reducible rfl))
            case hQ188 => exact fun _ _ _ h => h
            simp only [Act.put, List.setIfInBounds_toArray, List.set_cons_zero, List.set_cons_succ]
            refine wpAnyH_take (i := 3) (oi := ?oi189) (v := ?v189) ?hi189 (by kernel_rfl) ?hf189 ?hr189 ?hQ189 (Or.inl ⟨?hw189, ?hy189⟩) (by assumption) ?rest189
            case hi189 => simp only [List.getElem?_toArray, List.getElem?_cons_succ, List.getElem?_cons_zero]; rfl
            case hf189 => kernel_rfl
            case hr189 => kernel_rfl
            case hw189 => rfl
            case hy189 => (intro w hSw; (try dsimp only at hSw); go_simp; all_goals (first | done | with_reducible rfl))
            case hQ189 => exact fun _ _ _ h => h
            simp only [Act.put, List.setIfInBounds_toArray, List.set_cons_zero, List.set_cons_succ]
            refine wpAnyH_ready (rs := [4, 8]) (by kernel_rfl) (by simp) ?_
            refine AllReadyH.cons (o := ?oi190) ?hi190 (fun K hK => ?stepA190) (AllReadyH.cons (o := ?oj190) ?hj190 (fun K hK => ?stepB190) AllReadyH.nil)
            case hi190 => simp only [List.getElem?_toArray, List.getElem?_cons_succ, List.getElem?_cons_zero]; rfl
            case hj190 => simp only [List.getElem?_toArray, List.getElem?_cons_succ, List.getElem?_cons_zero]; rfl
            all_goals rw [if_pos (by rfl)]
            all_goals go_simp
            · go_at_call 10
              refine ((fun W (hW : Below w20.heap.size w20 W) => HT2.out W (HW20.out.trans (hW.mono HW20.out.size))) _ HNd.out).mono ?_
              rintro e w40 ⟨rfl, hb⟩
              have HN5 := hid (HNd.out.trans (hb.mono HNd.out.size))
              clear hb
              refine hK.out _ _ (SF.out _ HN5.out) (fun hS => ?_)
              refine wpAnyH_take (i := 5) (oi := ?oi191) (v := ?v191) ?hi191 (by kernel_rfl) ?hf191 ?hr191 ?hQ191 (Or.inl ⟨?hw191, ?hy191⟩) (by assumption) ?rest191
              case hi191 => simp only [List.getElem?_toArray, List.getElem?_cons_succ, List.getElem?_cons_zero]; rfl
              case hf191 => kernel_rfl
              case hr191 => kernel_rfl
              case hw191 => rfl
              case hy191 => (intro w hSw; (try dsimp only at hSw); go_simp; all_goals (first | done | with_reducible rfl))
              case hQ191 => exact fun _ _ _ h => h
              simp only [Act.put, List.setIfInBounds_toArray, List.set_cons_zero, List.set_cons_succ]
              refine wpAnyH_take (i := 6) (oi := ?oi192) (v := ?v192) ?hi192 (by kernel_rfl) ?hf192 ?hr192 ?hQ192 (Or.inl ⟨?hw192, ?hy192⟩) (by assumption) ?rest192
              case hi192 => simp only [List.getElem?_toArray, List.getElem?_cons_succ, List.getElem?_cons_zero]; rfl
              case hf192 => kernel_rfl
              case hr192 => kernel_rfl
              case hw192 => rfl
              case hy192 => (intro w hSw; (try dsimp only at hSw); go_simp; all_goals (first | done | with_reducible rfl))
              case hQ192 => exact fun _ _ _ h => h
              simp only [Act.put, List.setIfInBounds_toArray, List.set_cons_zero, List.set_cons_succ]
              refine wpAnyH_take (i := 7) (oi := ?oi193) (v := ?v193) ?hi193 (by kernel_rfl) ?hf193 ?hr193 ?hQ193 (Or.inl ⟨?hw193, ?hy193⟩) (by assumption) ?rest193
              case hi193 => simp only [List.getElem?_toArray, List.getElem?_cons_succ, List.getElem?_cons_zero]; rfl
              case hf193 => kernel_rfl
              case hr193 => kernel_rfl
              case hw193 => rfl
              case hy193 => (intro w hSw; (try dsimp only at hSw); go_simp; all_goals (first | done | with_reducible rfl))
              case hQ193 => exact fun _ _ _ h => h
              simp only [Act.put, List.setIfInBounds_toArray, List.set_cons_zero, List.set_cons_succ]
              refine wpAnyH_ready (rs := [8]) (by kernel_rfl) (by simp) ?_
              refine AllReadyH.cons (o := ?oi194) ?hi194 (fun K hK => ?step194) AllReadyH.nil
              case hi194 => simp only [List.getElem?_toArray, List.getElem?_cons_succ, List.getElem?_cons_zero]; rfl
              rw [if_pos (by rfl)]
              go_simp
              have KN := hid (Blk.new w40 #[.string ⟨#[]⟩, .int .i64 0, .string ⟨#[]⟩, .int .i64 0] 27)
              have HN6 := hid (HN5.out.alloc HN5.out.size (.cells #[.string ⟨#[]⟩, .int .i64 0, .string ⟨#[]⟩, .int .i64 0] 27))
              refine hK.out _ _ (SF.out _ HN6.out) (fun hS => ?_)
              skip
              obtain ⟨z0, y0⟩ := KN.out.2 0 _ rfl
              obtain ⟨z1, y1⟩ := KN.out.2 1 _ rfl
              obtain ⟨z2, y2⟩ := KN.out.2 2 _ rfl
              obtain ⟨z3, y3⟩ := KN.out.2 3 _ rfl
              refine wpAnyH_ready (rs := [9]) (by kernel_rfl) (by simp) ?_
              refine AllReadyH.cons (o := ?oi195) ?hi195 (fun K hK => ?step195) AllReadyH.nil
              case hi195 => simp only [List.getElem?_toArray, List.getElem?_cons_succ, List.getElem?_cons_zero]; rfl
              rw [if_pos (by rfl)]
              go_simp
              have KE := hid (Blk.new w40 #[.string nm, .int .i64 q2, .string tx, .int .i64 sq] 27)
              have HE := hid (HN5.out.alloc HN5.out.size (.cells #[.string nm, .int .i64 q2, .string tx, .int .i64 sq] 27))
              refine hK.out _ _ (SF.out _ HE.out) (fun hS => ?_)
              refine wpAnyH_take (i := 10) (oi := ?oi196) (v := ?v196) ?hi196 (by kernel_rfl) ?hf196 ?hr196 ?hQ196 (Or.inl ⟨?hw196, ?hy196⟩) (by assumption) ?rest196
              case hi196 => simp only [List.getElem?_toArray, List.getElem?_cons_succ, List.getElem?_cons_zero]; rfl
              case hf196 => kernel_rfl
              case hr196 => kernel_rfl
              case hw196 => rfl
              case hy196 => (intro w hSw; (try dsimp only at hSw); go_simp; all_goals (first | done | with_reducible rfl))
              case hQ196 => exact fun _ _ _ h => h
              simp only [Act.put, List.setIfInBounds_toArray, List.set_cons_zero, List.set_cons_succ]
              refine wpAnyH_done (by kernel_rfl) ?_ _
              clear z0 y0 z1 y1 z2 y2 z3 y3
              go_wp2_with fail
              go_meet
              case rel => exact ⟨_, rfl, rfl, KE.out, HE.out⟩
            · have KN0 := hid (show Blk _ w20.heap.size [.string ⟨#[]⟩, .int .i64 0, .string ⟨#[]⟩, .int .i64 0] from Blk.new w20.drew #[.string ⟨#[]⟩, .int .i64 0, .string ⟨#[]⟩, .int .i64 0] 27)
              have HN0 := hid (HNd.out.alloc (Nat.le_refl _) (.cells #[.string ⟨#[]⟩, .int .i64 0, .string ⟨#[]⟩, .int .i64 0] 27))
              refine hK.out _ _ (SF.out _ HN0.out) (fun hS => ?_)
              refine wpAnyH_ready (rs := [4]) (by kernel_rfl) (by simp) ?_
              refine AllReadyH.cons (o := ?oi197) ?hi197 (fun K hK => ?step197) AllReadyH.nil
              case hi197 => simp only [List.getElem?_toArray, List.getElem?_cons_succ, List.getElem?_cons_zero]; rfl
              rw [if_pos (by rfl)]
              go_simp
              go_at_call 10
              refine ((fun W (hW : Below w20.heap.size w20 W) => HT2.out W (HW20.out.trans (hW.mono HW20.out.size))) _ HN0.out).mono ?_
              rintro e w40 ⟨rfl, hb⟩
              have HN5 := hid (HN0.out.trans (hb.mono HN0.out.size))
              have KN := hid (KN0.out.to hb)
              clear hb
              refine hK.out _ _ (SF.out _ HN5.out) (fun hS => ?_)
              refine wpAnyH_take (i := 5) (oi := ?oi198) (v := ?v198) ?hi198 (by kernel_rfl) ?hf198 ?hr198 ?hQ198 (Or.inl ⟨?hw198, ?hy198⟩) (by assumption) ?rest198
              case hi198 => simp only [List.getElem?_toArray, List.getElem?_cons_succ, List.getElem?_cons_zero]; rfl
              case hf198 => kernel_rfl
              case hr198 => kernel_rfl
              case hw198 => rfl
              case hy198 => (intro w hSw; (try dsimp only at hSw); go_simp; all_goals (first | done | with_reducible rfl))
              case hQ198 => exact fun _ _ _ h => h
              simp only [Act.put, List.setIfInBounds_toArray, List.set_cons_zero, List.set_cons_succ]
              refine wpAnyH_take (i := 6) (oi := ?oi199) (v := ?v199) ?hi199 (by kernel_rfl) ?hf199 ?hr199 ?hQ199 (Or.inl ⟨?hw199, ?hy199⟩) (by assumption) ?rest199
              case hi199 => simp only [List.getElem?_toArray, List.getElem?_cons_succ, List.getElem?_cons_zero]; rfl
              case hf199 => kernel_rfl
              case hr199 => kernel_rfl
              case hw199 => rfl
              case hy199 => (intro w hSw; (try dsimp only at hSw); go_simp; all_goals (first | done | with_reducible rfl))
              case hQ199 => exact fun _ _ _ h => h
              simp only [Act.put, List.setIfInBounds_toArray, List.set_cons_zero, List.set_cons_succ]
              refine wpAnyH_take (i := 7) (oi := ?oi200) (v := ?v200) ?hi200 (by kernel_rfl) ?hf200 ?hr200 ?hQ200 (Or.inl ⟨?hw200, ?hy200⟩) (by assumption) ?rest200
              case hi200 => simp only [List.getElem?_toArray, List.getElem?_cons_succ, List.getElem?_cons_zero]; rfl
              case hf200 => kernel_rfl
              case hr200 => kernel_rfl
              case hw200 => rfl
              case hy200 => (intro w hSw; (try dsimp only at hSw); go_simp; all_goals (first | done | with_reducible rfl))
              case hQ200 => exact fun _ _ _ h => h
              simp only [Act.put, List.setIfInBounds_toArray, List.set_cons_zero, List.set_cons_succ]
              obtain ⟨z0, y0⟩ := KN.out.2 0 _ rfl
              obtain ⟨z1, y1⟩ := KN.out.2 1 _ rfl
              obtain ⟨z2, y2⟩ := KN.out.2 2 _ rfl
              obtain ⟨z3, y3⟩ := KN.out.2 3 _ rfl
              refine wpAnyH_ready (rs := [9]) (by kernel_rfl) (by simp) ?_
              refine AllReadyH.cons (o := ?oi201) ?hi201 (fun K hK => ?step201) AllReadyH.nil
              case hi201 => simp only [List.getElem?_toArray, List.getElem?_cons_succ, List.getElem?_cons_zero]; rfl
              rw [if_pos (by rfl)]
              go_simp
              have KE := hid ((((KN.out.set 0 (.string nm)).set 1 (.int .i64 q2)).set 2 (.string tx)).set 3 (.int .i64 sq))
              have HE := hid ((((HN5.out.setCell (p := ⟨w20.heap.size, 0, none⟩) (Nat.le_refl _) (.string nm)).setCell (p := ⟨w20.heap.size, 1, none⟩) (Nat.le_refl _) (.int .i64 q2)).setCell (p := ⟨w20.heap.size, 2, none⟩) (Nat.le_refl _) (.string tx)).setCell (p := ⟨w20.heap.size, 3, none⟩) (Nat.le_refl _) (.int .i64 sq))
              refine hK.out _ _ (SF.out _ HE.out) (fun hS => ?_)
              refine wpAnyH_take (i := 10) (oi := ?oi202) (v := ?v202) ?hi202 (by kernel_rfl) ?hf202 ?hr202 ?hQ202 (Or.inl ⟨?hw202, ?hy202⟩) (by assumption) ?rest202
              case hi202 => simp only [List.getElem?_toArray, List.getElem?_cons_succ, List.getElem?_cons_zero]; rfl
              case hf202 => kernel_rfl
              case hr202 => kernel_rfl
              case hw202 => rfl
              case hy202 => (intro w hSw; (try dsimp only at hSw); go_simp; all_goals (first | done | with_reducible rfl))
              case hQ202 => exact fun _ _ _ h => h
              simp only [Act.put, List.setIfInBounds_toArray, List.set_cons_zero, List.set_cons_succ]
              refine wpAnyH_done (by kernel_rfl) ?_ _
              clear z0 y0 z1 y1 z2 y2 z3 y3
              go_wp2_with fail
              go_meet
              case rel => exact ⟨_, rfl, rfl, KE.out, HE.out⟩
          case rest =>
            obtain ⟨b12, rfl, rfl, hk12, hb⟩ := hcut
            rename World => w21
            have KN12 := hid hk12
            have HW21 := hid (HW20.out.trans (hb.mono HW20.out.size))
            have HO21 := hid (HO20.out.trans (hb.mono HO20.out.size))
            have HE21 := hid (HE20.out.trans (hb.mono HE20.out.size))
            clear hb hk12
            obtain ⟨⟨r0, _⟩, ⟨r1, _⟩, ⟨r2, _⟩, ⟨r3, _⟩⟩ := (And.intro ((KR.out.to HW21.out).2 0 _ rfl) (And.intro ((KR.out.to HW21.out).2 1 _ rfl) (And.intro ((KR.out.to HW21.out).2 2 _ rfl) ((KR.out.to HW21.out).2 3 _ rfl))))
            obtain ⟨⟨o0, _⟩, ⟨o1, _⟩, ⟨o2, _⟩, ⟨o3, _⟩⟩ := (And.intro ((KO.out.to HO21.out).2 0 _ rfl) (And.intro ((KO.out.to HO21.out).2 1 _ rfl) (And.intro ((KO.out.to HO21.out).2 2 _ rfl) ((KO.out.to HO21.out).2 3 _ rfl))))
            have s0 := (KN12.out.2 0 _ rfl).1
            have s1 := (KN12.out.2 1 _ rfl).1
            have s2 := (KN12.out.2 2 _ rfl).1
            have s3 := (KN12.out.2 3 _ rfl).1
            go_wp2_with fail
            go_ret
            exact ⟨ret_bool (by simp), HB.out.trans (HW21.out.mono HB.out.size)⟩
      · subst hA1
        by_cases hc0 : fc = 0
        · subst hc0
          have HT1 := hid (fun (W : World) (hW : Below w8.heap.size w8 W) => (show Calls Try.prog 10 #[.slice (some ⟨g, 0, none⟩) 0 0, .agg #[.string nm, .int .i64 lv, .string tx, .int .i64 sq]] W (fun e w' => e = .returned (.tuple #[.agg #[.string nm, .int .i64 q1, .string tx, .int .i64 sq], .bool true]) ∧ Below W.heap.size W w') from by have h9 := CJ.out 0 (some ⟨g, 0, none⟩) 0 [] nm tx lv sq hz1 hz2 W (HW8.out.trans (hW.mono HW8.out.size)) ⟨⟨rfl, _, _, rfl, Nat.zero_le _, by unfold maxLen; omega, fun h => absurd h (by omega)⟩, fun _ h => by cases h⟩; rw [h1] at h9; exact h9))
          have HT2 := hid (fun (W : World) (hW2 : Below w2.heap.size w2 W) => (show Calls Try.prog 10 #[.slice (some ⟨g, 0, none⟩) 0 0, .agg #[.string nm, .int .i64 q1, .string tx, .int .i64 sq]] W (fun e w' => e = .returned (.tuple #[.agg #[.string nm, .int .i64 q2, .string tx, .int .i64 sq], .bool true]) ∧ Below W.heap.size W w') from by have h9 := CJ.out 0 (some ⟨g, 0, none⟩) 0 [] nm tx q1 sq hz1 hz2 W hW2 ⟨⟨rfl, _, _, rfl, Nat.zero_le _, by unfold maxLen; omega, fun h => absurd h (by omega)⟩, fun _ h => by cases h⟩; rw [h2] at h9; exact h9))
          go_wp2_with fail
          go_cut [10, 11] from 14 (fun sa sb wc => ∃ b : Nat, sa = .pointer (some ⟨b, 0, none⟩) ∧ sb = .bool true ∧ Blk wc b [.string nm, .int .i64 q1, .string tx, .int .i64 sq] ∧ Below w8.heap.size w8 wc)
          case first =>
            try clear CI2
            try clear CS2
            try clear CF
            try clear CV
            try clear CJ
            try clear FF
            try clear FI
            try clear HO8 HE8 KO KW
            try clear HO20 HE20
            try clear HB
            try clear hXX
            have KS := hid (KR.out.to HW8.out)
            have SF := hid (fun (W : World) (hW : Below w8.heap.size w8 W) => (show W.cell? ⟨rb, 0, none⟩ = some (.string nm) ∧ W.cell? ⟨rb, 1, none⟩ = some (.int .i64 lv) ∧ W.cell? ⟨rb, 2, none⟩ = some (.string tx) ∧ W.cell? ⟨rb, 3, none⟩ = some (.int .i64 sq) from ⟨((KS.out.to hW).2 0 _ rfl).1, ((KS.out.to hW).2 1 _ rfl).1, ((KS.out.to hW).2 2 _ rfl).1, ((KS.out.to hW).2 3 _ rfl).1⟩))
            have HNd := hid ((Below.refl w8.heap.size w8).drew)
            refine wp_region_held_drew (S := fun w' : World => w'.cell? ⟨rb, 0, none⟩ = some (.string nm) ∧ w'.cell? ⟨rb, 1, none⟩ = some (.int .i64 lv) ∧ w'.cell? ⟨rb, 2, none⟩ = some (.string tx) ∧ w'.cell? ⟨rb, 3, none⟩ = some (.int .i64 sq)) (by kernel_rfl) (SF.out _ HNd.out) (fun hS => ?_)
            refine wpAnyH_take (i := 0) (oi := ?oi203) (v := ?v203) ?hi203 (by kernel_rfl) ?hf203 ?hr203 ?hQ203 (Or.inl ⟨?hw203, ?hy203⟩) (by assumption) ?rest203
            case hi203 => simp only [List.getElem?_toArray, List.getElem?_cons_succ, List.getElem?_cons_zero]; rfl
            case hf203 => kernel_rfl
            case hr203 => kernel_rfl
            case hw203 => rfl
            case hy203 => (intro w hSw; (try dsimp only at hSw); go_simp; all_goals (first | done | with_reducible rfl))
            case hQ203 => exact fun _ _ _ h => h
            simp only [Act.put, List.setIfInBounds_toArray, List.set_cons_zero, List.set_cons_succ]
            refine wpAnyH_take (i := 1) (oi := ?oi204) (v := ?v204) ?hi204 (by kernel_rfl) ?hf204 ?hr204 ?hQ204 (Or.inl ⟨?hw204, ?hy204⟩) (by assumption) ?rest204
            case hi204 => simp only [List.getElem?_toArray, List.getElem?_cons_succ, List.getElem?_cons_zero]; rfl
            case hf204 => kernel_rfl
            case hr204 => kernel_rfl
            case hw204 => rfl
            case hy204 => (intro w hSw; (try dsimp only at hSw); go_simp; all_goals (first | done | with_reducible rfl))
            case hQ204 => exact fun _ _ _ h => h
            simp only [Act.put, List.setIfInBounds_toArray, List.set_cons_zero, List.set_cons_succ]
            refine wpAnyH_take (i := 2) (oi := ?oi205) (v := ?v205) ?hi205 (by kernel_rfl) ?hf205 ?hr205 ?hQ205 (Or.inl ⟨?hw205, ?hy205⟩) (by assumption) ?rest205
            case hi205 => simp only [List.getElem?_toArray, List.getElem?_cons_succ, List.getElem?_cons_zero]; rfl
            case hf205 => kernel_rfl
            case hr205 => kernel_rfl
            case hw205 => rfl
            case hy205 => (intro w hSw; (try dsimp only at hSw); go_simp; all_goals (first | done | with_reducible rfl))
            case hQ205 => exact fun _ _ _ h => h
            simp only [Act.put, List.setIfInBounds_toArray, List.set_cons_zero, List.set_cons_succ]
            refine wpAnyH_take (i := 3) (oi := ?oi206) (v := ?v206) ?hi206 (by kernel_rfl) ?hf206 ?hr206 ?hQ206 (Or.inl ⟨?hw206, ?hy206⟩) (by assumption) ?rest206
            case hi206 => simp only [List.getElem?_toArray, List.getElem?_cons_succ, List.getElem?_cons_zero]; rfl
            case hf206 => kernel_rfl
            case hr206 => kernel_rfl
            case hw206 => rfl
            case hy206 => (intro w hSw; (try dsimp only at hSw); go_simp; all_goals (first | done | with_reducible rfl))
            case hQ206 => exact fun _ _ _ h => h
            simp only [Act.put, List.setIfInBounds_toArray, List.set_cons_zero, List.set_cons_succ]
            refine wpAnyH_ready (rs := [4, 8]) (by kernel_rfl) (by simp) ?_
            refine AllReadyH.cons (o := ?oi207) ?hi207 (fun K hK => ?stepA207) (AllReadyH.cons (o := ?oj207) ?hj207 (fun K hK => ?stepB207) AllReadyH.nil)
            case hi207 => simp only [List.getElem?_toArray, List.getElem?_cons_succ, List.getElem?_cons_zero]; rfl
            case hj207 => simp only [List.getElem?_toArray, List.getElem?_cons_succ, List.getElem?_cons_zero]; rfl
            all_goals rw [if_pos (by rfl)]
            all_goals go_simp
            · go_at_call 10
              refine (HT1.out _ HNd.out).mono ?_
              rintro e w40 ⟨rfl, hb⟩
              have HN5 := hid (HNd.out.trans (hb.mono HNd.out.size))
              clear hb
              refine hK.out _ _ (SF.out _ HN5.out) (fun hS => ?_)
              refine wpAnyH_take (i := 5) (oi := ?oi208) (v := ?v208) ?hi208 (by kernel_rfl) ?hf208 ?hr208 ?hQ208 (Or.inl ⟨?hw208, ?hy208⟩) (by assumption) ?rest208
              case hi208 => simp only [List.getElem?_toArray, List.getElem?_cons_succ, List.getElem?_cons_zero]; rfl
              case hf208 => kernel_rfl
              case hr208 => kernel_rfl
              case hw208 => rfl
              case hy208 => (intro w hSw; (try dsimp only at hSw); go_simp; all_goals (first | done | with_reducible rfl))
              case hQ208 => exact fun _ _ _ h => h
              simp only [Act.put, List.setIfInBounds_toArray, List.set_cons_zero, List.set_cons_succ]
              refine wpAnyH_take (i := 6) (oi := ?oi209) (v := ?v209) ?hi209 (by kernel_rfl) ?hf209 ?hr209 ?hQ209 (Or.inl ⟨?hw209, ?hy209⟩) (by assumption) ?rest209
              case hi209 => simp only [List.getElem?_toArray, List.getElem?_cons_succ, List.getElem?_cons_zero]; rfl
              case hf209 => kernel_rfl
              case hr209 => kernel_rfl
              case hw209 => rfl
              case hy209 => (intro w hSw; (try dsimp only at hSw); go_simp; all_goals (first | done | with_reducible rfl))
              case hQ209 => exact fun _ _ _ h => h
              simp only [Act.put, List.setIfInBounds_toArray, List.set_cons_zero, List.set_cons_succ]
              refine wpAnyH_take (i := 7) (oi := ?oi210) (v := ?v210) ?hi210 (by kernel_rfl) ?hf210 ?hr210 ?hQ210 (Or.inl ⟨?hw210, ?hy210⟩) (by assumption) ?rest210
              case hi210 => simp only [List.getElem?_toArray, List.getElem?_cons_succ, List.getElem?_cons_zero]; rfl
              case hf210 => kernel_rfl
              case hr210 => kernel_rfl
              case hw210 => rfl
              case hy210 => (intro w hSw; (try dsimp only at hSw); go_simp; all_goals (first | done | with_reducible rfl))
              case hQ210 => exact fun _ _ _ h => h
              simp only [Act.put, List.setIfInBounds_toArray, List.set_cons_zero, List.set_cons_succ]
              refine wpAnyH_ready (rs := [8]) (by kernel_rfl) (by simp) ?_
              refine AllReadyH.cons (o := ?oi211) ?hi211 (fun K hK => ?step211) AllReadyH.nil
              case hi211 => simp only [List.getElem?_toArray, List.getElem?_cons_succ, List.getElem?_cons_zero]; rfl
              rw [if_pos (by rfl)]
              go_simp
              have KN := hid (Blk.new w40 #[.string ⟨#[]⟩, .int .i64 0, .string ⟨#[]⟩, .int .i64 0] 27)
              have HN6 := hid (HN5.out.alloc HN5.out.size (.cells #[.string ⟨#[]⟩, .int .i64 0, .string ⟨#[]⟩, .int .i64 0] 27))
              refine hK.out _ _ (SF.out _ HN6.out) (fun hS => ?_)
              skip
              obtain ⟨z0, y0⟩ := KN.out.2 0 _ rfl
              obtain ⟨z1, y1⟩ := KN.out.2 1 _ rfl
              obtain ⟨z2, y2⟩ := KN.out.2 2 _ rfl
              obtain ⟨z3, y3⟩ := KN.out.2 3 _ rfl
              refine wpAnyH_ready (rs := [9]) (by kernel_rfl) (by simp) ?_
              refine AllReadyH.cons (o := ?oi212) ?hi212 (fun K hK => ?step212) AllReadyH.nil
              case hi212 => simp only [List.getElem?_toArray, List.getElem?_cons_succ, List.getElem?_cons_zero]; rfl
              rw [if_pos (by rfl)]
              go_simp
              have KE := hid (Blk.new w40 #[.string nm, .int .i64 q1, .string tx, .int .i64 sq] 27)
              have HE := hid (HN5.out.alloc HN5.out.size (.cells #[.string nm, .int .i64 q1, .string tx, .int .i64 sq] 27))
              refine hK.out _ _ (SF.out _ HE.out) (fun hS => ?_)
              refine wpAnyH_take (i := 10) (oi := ?oi213) (v := ?v213) ?hi213 (by kernel_rfl) ?hf213 ?hr213 ?hQ213 (Or.inl ⟨?hw213, ?hy213⟩) (by assumption) ?rest213
              case hi213 => simp only [List.getElem?_toArray, List.getElem?_cons_succ, List.getElem?_cons_zero]; rfl
              case hf213 => kernel_rfl
              case hr213 => kernel_rfl
              case hw213 => rfl
              case hy213 => (intro w hSw; (try dsimp only at hSw); go_simp; all_goals (first | done | with_reducible rfl))
              case hQ213 => exact fun _ _ _ h => h
              simp only [Act.put, List.setIfInBounds_toArray, List.set_cons_zero, List.set_cons_succ]
              refine wpAnyH_done (by kernel_rfl) ?_ _
              clear z0 y0 z1 y1 z2 y2 z3 y3
              go_wp2_with fail
              go_meet
              case rel => exact ⟨_, rfl, rfl, KE.out, HE.out⟩
            · have KN0 := hid (show Blk _ w8.heap.size [.string ⟨#[]⟩, .int .i64 0, .string ⟨#[]⟩, .int .i64 0] from Blk.new w8.drew #[.string ⟨#[]⟩, .int .i64 0, .string ⟨#[]⟩, .int .i64 0] 27)
              have HN0 := hid (HNd.out.alloc (Nat.le_refl _) (.cells #[.string ⟨#[]⟩, .int .i64 0, .string ⟨#[]⟩, .int .i64 0] 27))
              refine hK.out _ _ (SF.out _ HN0.out) (fun hS => ?_)
              refine wpAnyH_ready (rs := [4]) (by kernel_rfl) (by simp) ?_
              refine AllReadyH.cons (o := ?oi214) ?hi214 (fun K hK => ?step214) AllReadyH.nil
              case hi214 => simp only [List.getElem?_toArray, List.getElem?_cons_succ, List.getElem?_cons_zero]; rfl
              rw [if_pos (by rfl)]
              go_simp
              go_at_call 10
              refine (HT1.out _ HN0.out).mono ?_
              rintro e w40 ⟨rfl, hb⟩
              have HN5 := hid (HN0.out.trans (hb.mono HN0.out.size))
              have KN := hid (KN0.out.to hb)
              clear hb
              refine hK.out _ _ (SF.out _ HN5.out) (fun hS => ?_)
              refine wpAnyH_take (i := 5) (oi := ?oi215) (v := ?v215) ?hi215 (by kernel_rfl) ?hf215 ?hr215 ?hQ215 (Or.inl ⟨?hw215, ?hy215⟩) (by assumption) ?rest215
              case hi215 => simp only [List.getElem?_toArray, List.getElem?_cons_succ, List.getElem?_cons_zero]; rfl
              case hf215 => kernel_rfl
              case hr215 => kernel_rfl
              case hw215 => rfl
              case hy215 => (intro w hSw; (try dsimp only at hSw); go_simp; all_goals (first | done | with_reducible rfl))
              case hQ215 => exact fun _ _ _ h => h
              simp only [Act.put, List.setIfInBounds_toArray, List.set_cons_zero, List.set_cons_succ]
              refine wpAnyH_take (i := 6) (oi := ?oi216) (v := ?v216) ?hi216 (by kernel_rfl) ?hf216 ?hr216 ?hQ216 (Or.inl ⟨?hw216, ?hy216⟩) (by assumption) ?rest216
              case hi216 => simp only [List.getElem?_toArray, List.getElem?_cons_succ, List.getElem?_cons_zero]; rfl
              case hf216 => kernel_rfl
              case hr216 => kernel_rfl
              case hw216 => rfl
              case hy216 => (intro w hSw; (try dsimp only at hSw); go_simp; all_goals (first | done | with_reducible rfl))
              case hQ216 => exact fun _ _ _ h => h
              simp only [Act.put, List.setIfInBounds_toArray, List.set_cons_zero, List.set_cons_succ]
              refine wpAnyH_take (i := 7) (oi := ?oi217) (v := ?v217) ?hi217 (by kernel_rfl) ?hf217 ?hr217 ?hQ217 (Or.inl ⟨?hw217, ?hy217⟩) (by assumption) ?rest217
              case hi217 => simp only [List.getElem?_toArray, List.getElem?_cons_succ, List.getElem?_cons_zero]; rfl
              case hf217 => kernel_rfl
              case hr217 => kernel_rfl
              case hw217 => rfl
              case hy217 => (intro w hSw; (try dsimp only at hSw); go_simp; all_goals (first | done | with_reducible rfl))
              case hQ217 => exact fun _ _ _ h => h
              simp only [Act.put, List.setIfInBounds_toArray, List.set_cons_zero, List.set_cons_succ]
              obtain ⟨z0, y0⟩ := KN.out.2 0 _ rfl
              obtain ⟨z1, y1⟩ := KN.out.2 1 _ rfl
              obtain ⟨z2, y2⟩ := KN.out.2 2 _ rfl
              obtain ⟨z3, y3⟩ := KN.out.2 3 _ rfl
              refine wpAnyH_ready (rs := [9]) (by kernel_rfl) (by simp) ?_
              refine AllReadyH.cons (o := ?oi218) ?hi218 (fun K hK => ?step218) AllReadyH.nil
              case hi218 => simp only [List.getElem?_toArray, List.getElem?_cons_succ, List.getElem?_cons_zero]; rfl
              rw [if_pos (by rfl)]
              go_simp
              have KE := hid ((((KN.out.set 0 (.string nm)).set 1 (.int .i64 q1)).set 2 (.string tx)).set 3 (.int .i64 sq))
              have HE := hid ((((HN5.out.setCell (p := ⟨w8.heap.size, 0, none⟩) (Nat.le_refl _) (.string nm)).setCell (p := ⟨w8.heap.size, 1, none⟩) (Nat.le_refl _) (.int .i64 q1)).setCell (p := ⟨w8.heap.size, 2, none⟩) (Nat.le_refl _) (.string tx)).setCell (p := ⟨w8.heap.size, 3, none⟩) (Nat.le_refl _) (.int .i64 sq))
              refine hK.out _ _ (SF.out _ HE.out) (fun hS => ?_)
              refine wpAnyH_take (i := 10) (oi := ?oi219) (v := ?v219) ?hi219 (by kernel_rfl) ?hf219 ?hr219 ?hQ219 (Or.inl ⟨?hw219, ?hy219⟩) (by assumption) ?rest219
              case hi219 => simp only [List.getElem?_toArray, List.getElem?_cons_succ, List.getElem?_cons_zero]; rfl
              case hf219 => kernel_rfl
              case hr219 => kernel_rfl
              case hw219 => rfl
              case hy219 => (intro w hSw; (try dsimp only at hSw); go_simp; all_goals (first | done | with_reducible rfl))
              case hQ219 => exact fun _ _ _ h => h
              simp only [Act.put, List.setIfInBounds_toArray, List.set_cons_zero, List.set_cons_succ]
              refine wpAnyH_done (by kernel_rfl) ?_ _
              clear z0 y0 z1 y1 z2 y2 z3 y3
              go_wp2_with fail
              go_meet
              case rel => exact ⟨_, rfl, rfl, KE.out, HE.out⟩
          case rest =>
            obtain ⟨b10, rfl, rfl, hk10, hb⟩ := hcut
            rename World => w20
            clear r0 r1 r2 r3 o0 o1 o2 o3 p0 p1 p2 p3
            have KM := hid hk10
            have HW20 := hid (HW8.out.trans (hb.mono HW8.out.size))
            have HO20 := hid (HO8.out.trans (hb.mono HO8.out.size))
            have HE20 := hid (HE8.out.trans (hb.mono HE8.out.size))
            have HN20 := hid hb
            clear hb hk10
            go_wp2_with fail
            go_cut [12, 13] from 14 (fun sa sb wc => ∃ b : Nat, sa = .pointer (some ⟨b, 0, none⟩) ∧ sb = .bool true ∧ Blk wc b [.string nm, .int .i64 q2, .string tx, .int .i64 sq] ∧ Below w20.heap.size w20 wc)
            case first =>
              try clear CI2
              try clear CS2
              try clear CF
              try clear CV
              try clear CJ
              try clear FF
              try clear FI
              try clear HO8 HE8 KO KW
              try clear HO20 HE20
              try clear HB
              try clear hXX
              have KS := hid KM.out
              have SF := hid (fun (W : World) (hW : Below w20.heap.size w20 W) => (show W.cell? ⟨b10, 0, none⟩ = some (.string nm) ∧ W.cell? ⟨b10, 1, none⟩ = some (.int .i64 q1) ∧ W.cell? ⟨b10, 2, none⟩ = some (.string tx) ∧ W.cell? ⟨b10, 3, none⟩ = some (.int .i64 sq) from ⟨((KS.out.to hW).2 0 _ rfl).1, ((KS.out.to hW).2 1 _ rfl).1, ((KS.out.to hW).2 2 _ rfl).1, ((KS.out.to hW).2 3 _ rfl).1⟩))
              have HNd := hid ((Below.refl w20.heap.size w20).drew)
              refine wp_region_held_drew (S := fun w' : World => w'.cell? ⟨b10, 0, none⟩ = some (.string nm) ∧ w'.cell? ⟨b10, 1, none⟩ = some (.int .i64 q1) ∧ w'.cell? ⟨b10, 2, none⟩ = some (.string tx) ∧ w'.cell? ⟨b10, 3, none⟩ = some (.int .i64 sq)) (by kernel_rfl) (SF.out _ HNd.out) (fun hS => ?_)
              refine wpAnyH_take (i := 0) (oi := ?oi220) (v := ?v220) ?hi220 (by kernel_rfl) ?hf220 ?hr220 ?hQ220 (Or.inl ⟨?hw220, ?hy220⟩) (by assumption) ?rest220
              case hi220 => simp only [List.getElem?_toArray, List.getElem?_cons_succ, List.getElem?_cons_zero]; rfl
              case hf220 => kernel_rfl
              case hr220 => kernel_rfl
              case hw220 => rfl
              case hy220 => (intro w hSw; (try dsimp only at hSw); go_simp; all_goals (first | done | with_reducible rfl))
              case hQ220 => exact fun _ _ _ h => h
              simp only [Act.put, List.setIfInBounds_toArray, List.set_cons_zero, List.set_cons_succ]
              refine wpAnyH_take (i := 1) (oi := ?oi221) (v := ?v221) ?hi221 (by kernel_rfl) ?hf221 ?hr221 ?hQ221 (Or.inl ⟨?hw221, ?hy221⟩) (by assumption) ?rest221
              case hi221 => simp only [List.getElem?_toArray, List.getElem?_cons_succ, List.getElem?_cons_zero]; rfl
              case hf221 => kernel_rfl
              case hr221 => kernel_rfl
              case hw221 => rfl
              case hy221 => (intro w hSw; (try dsimp only at hSw); go_simp; all_goals (first | done | with_reducible rfl))
              case hQ221 => exact fun _ _ _ h => h
              simp only [Act.put, List.setIfInBounds_toArray, List.set_cons_zero, List.set_cons_succ]
              refine wpAnyH_take (i := 2) (oi := ?oi222) (v := ?v222) ?hi222 (by kernel_rfl) ?hf222 ?hr222 ?hQ222 (Or.inl ⟨?hw222, ?hy222⟩) (by assumption) ?rest222
              case hi222 => simp only [List.getElem?_toArray, List.getElem?_cons_succ, List.getElem?_cons_zero]; rfl
              case hf222 => kernel_rfl
              case hr222 => kernel_rfl
              case hw222 => rfl
              case hy222 => (intro w hSw; (try dsimp only at hSw); go_simp; all_goals (first | done | with_reducible rfl))
              case hQ222 => exact fun _ _ _ h => h
              simp only [Act.put, List.setIfInBounds_toArray, List.set_cons_zero, List.set_cons_succ]
              refine wpAnyH_take (i := 3) (oi := ?oi223) (v := ?v223) ?hi223 (by kernel_rfl) ?hf223 ?hr223 ?hQ223 (Or.inl ⟨?hw223, ?hy223⟩) (by assumption) ?rest223
              case hi223 => simp only [List.getElem?_toArray, List.getElem?_cons_succ, List.getElem?_cons_zero]; rfl
              case hf223 => kernel_rfl
              case hr223 => kernel_rfl
              case hw223 => rfl
              case hy223 => (intro w hSw; (try dsimp only at hSw); go_simp; all_goals (first | done | with_reducible rfl))
              case hQ223 => exact fun _ _ _ h => h
              simp only [Act.put, List.setIfInBounds_toArray, List.set_cons_zero, List.set_cons_succ]
              refine wpAnyH_ready (rs := [4, 8]) (by kernel_rfl) (by simp) ?_
              refine AllReadyH.cons (o := ?oi224) ?hi224 (fun K hK => ?stepA224) (AllReadyH.cons (o := ?oj224) ?hj224 (fun K hK => ?stepB224) AllReadyH.nil)
              case hi224 => simp only [List.getElem?_toArray, List.getElem?_cons_succ, List.getElem?_cons_zero]; rfl
              case hj224 => simp only [List.getElem?_toArray, List.getElem?_cons_succ, List.getElem?_cons_zero]; rfl
              all_goals rw [if_pos (by rfl)]
              all_goals go_simp
              · go_at_call 10
                refine ((fun W (hW : Below w20.heap.size w20 W) => HT2.out W (HW20.out.trans (hW.mono HW20.out.size))) _ HNd.out).mono ?_
                rintro e w40 ⟨rfl, hb⟩
                have HN5 := hid (HNd.out.trans (hb.mono HNd.out.size))
                clear hb
                refine hK.out _ _ (SF.out _ HN5.out) (fun hS => ?_)
                refine wpAnyH_take (i := 5) (oi := ?oi225) (v := ?v225) ?hi225 (by kernel_rfl) ?hf225 ?hr225 ?hQ225 (Or.inl ⟨?hw225, ?hy225⟩) (by assumption) ?rest225
                case hi225 => simp only [List.getElem?_toArray, List.getElem?_cons_succ, List.getElem?_cons_zero]; rfl
                case hf225 => kernel_rfl
                case hr225 => kernel_rfl
                case hw225 => rfl
                case hy225 => (intro w hSw; (try dsimp only at hSw); go_simp; all_goals (first | done | with_reducible rfl))
                case hQ225 => exact fun _ _ _ h => h
                simp only [Act.put, List.setIfInBounds_toArray, List.set_cons_zero, List.set_cons_succ]
                refine wpAnyH_take (i := 6) (oi := ?oi226) (v := ?v226) ?hi226 (by kernel_rfl) ?hf226 ?hr226 ?hQ226 (Or.inl ⟨?hw226, ?hy226⟩) (by assumption) ?rest226
                case hi226 => simp only [List.getElem?_toArray, List.getElem?_cons_succ, List.getElem?_cons_zero]; rfl
                case hf226 => kernel_rfl
                case hr226 => kernel_rfl
                case hw226 => rfl
                case hy226 => (intro w hSw; (try dsimp only at hSw); go_simp; all_goals (first | done | with_reducible rfl))
                case hQ226 => exact fun _ _ _ h => h
                simp only [Act.put, List.setIfInBounds_toArray, List.set_cons_zero, List.set_cons_succ]
                refine wpAnyH_take (i := 7) (oi := ?oi227) (v := ?v227) ?hi227 (by kernel_rfl) ?hf227 ?hr227 ?hQ227 (Or.inl ⟨?hw227, ?hy227⟩) (by assumption) ?rest227
                case hi227 => simp only [List.getElem?_toArray, List.getElem?_cons_succ, List.getElem?_cons_zero]; rfl
                case hf227 => kernel_rfl
                case hr227 => kernel_rfl
                case hw227 => rfl
                case hy227 => (intro w hSw; (try dsimp only at hSw); go_simp; all_goals (first | done | with_reducible rfl))
                case hQ227 => exact fun _ _ _ h => h
                simp only [Act.put, List.setIfInBounds_toArray, List.set_cons_zero, List.set_cons_succ]
                refine wpAnyH_ready (rs := [8]) (by kernel_rfl) (by simp) ?_
                refine AllReadyH.cons (o := ?oi228) ?hi228 (fun K hK => ?step228) AllReadyH.nil
                case hi228 => simp only [List.getElem?_toArray, List.getElem?_cons_succ, List.getElem?_cons_zero]; rfl
                rw [if_pos (by rfl)]
                go_simp
                have KN := hid (Blk.new w40 #[.string ⟨#[]⟩, .int .i64 0, .string ⟨#[]⟩, .int .i64 0] 27)
                have HN6 := hid (HN5.out.alloc HN5.out.size (.cells #[.string ⟨#[]⟩, .int .i64 0, .string ⟨#[]⟩, .int .i64 0] 27))
                refine hK.out _ _ (SF.out _ HN6.out) (fun hS => ?_)
                skip
                obtain ⟨z0, y0⟩ := KN.out.2 0 _ rfl
                obtain ⟨z1, y1⟩ := KN.out.2 1 _ rfl
                obtain ⟨z2, y2⟩ := KN.out.2 2 _ rfl
                obtain ⟨z3, y3⟩ := KN.out.2 3 _ rfl
                refine wpAnyH_ready (rs := [9]) (by kernel_rfl) (by simp) ?_
                refine AllReadyH.cons (o := ?oi229) ?hi229 (fun K hK => ?step229) AllReadyH.nil
                case hi229 => simp only [List.getElem?_toArray, List.getElem?_cons_succ, List.getElem?_cons_zero]; rfl
                rw [if_pos (by rfl)]
                go_simp
                have KE := hid (Blk.new w40 #[.string nm, .int .i64 q2, .string tx, .int .i64 sq] 27)
                have HE := hid (HN5.out.alloc HN5.out.size (.cells #[.string nm, .int .i64 q2, .string tx, .int .i64 sq] 27))
                refine hK.out _ _ (SF.out _ HE.out) (fun hS => ?_)
                refine wpAnyH_take (i := 10) (oi := ?oi230) (v := ?v230) ?hi230 (by kernel_rfl) ?hf230 ?hr230 ?hQ230 (Or.inl ⟨?hw230, ?hy230⟩) (by assumption) ?rest230
                case hi230 => simp only [List.getElem?_toArray, List.getElem?_cons_succ, List.getElem?_cons_zero]; rfl
                case hf230 => kernel_rfl
                case hr230 => kernel_rfl
                case hw230 => rfl
                case hy230 => (intro w hSw; (try dsimp only at hSw); go_simp; all_goals (first | done | with_reducible rfl))
                case hQ230 => exact fun _ _ _ h => h
                simp only [Act.put, List.setIfInBounds_toArray, List.set_cons_zero, List.set_cons_succ]
                refine wpAnyH_done (by kernel_rfl) ?_ _
                clear z0 y0 z1 y1 z2 y2 z3 y3
                go_wp2_with fail
                go_meet
                case rel => exact ⟨_, rfl, rfl, KE.out, HE.out⟩
              · have KN0 := hid (show Blk _ w20.heap.size [.string ⟨#[]⟩, .int .i64 0, .string ⟨#[]⟩, .int .i64 0] from Blk.new w20.drew #[.string ⟨#[]⟩, .int .i64 0, .string ⟨#[]⟩, .int .i64 0] 27)
                have HN0 := hid (HNd.out.alloc (Nat.le_refl _) (.cells #[.string ⟨#[]⟩, .int .i64 0, .string ⟨#[]⟩, .int .i64 0] 27))
                refine hK.out _ _ (SF.out _ HN0.out) (fun hS => ?_)
                refine wpAnyH_ready (rs := [4]) (by kernel_rfl) (by simp) ?_
                refine AllReadyH.cons (o := ?oi231) ?hi231 (fun K hK => ?step231) AllReadyH.nil
                case hi231 => simp only [List.getElem?_toArray, List.getElem?_cons_succ, List.getElem?_cons_zero]; rfl
                rw [if_pos (by rfl)]
                go_simp
                go_at_call 10
                refine ((fun W (hW : Below w20.heap.size w20 W) => HT2.out W (HW20.out.trans (hW.mono HW20.out.size))) _ HN0.out).mono ?_
                rintro e w40 ⟨rfl, hb⟩
                have HN5 := hid (HN0.out.trans (hb.mono HN0.out.size))
                have KN := hid (KN0.out.to hb)
                clear hb
                refine hK.out _ _ (SF.out _ HN5.out) (fun hS => ?_)
                refine wpAnyH_take (i := 5) (oi := ?oi232) (v := ?v232) ?hi232 (by kernel_rfl) ?hf232 ?hr232 ?hQ232 (Or.inl ⟨?hw232, ?hy232⟩) (by assumption) ?rest232
                case hi232 => simp only [List.getElem?_toArray, List.getElem?_cons_succ, List.getElem?_cons_zero]; rfl
                case hf232 => kernel_rfl
                case hr232 => kernel_rfl
                case hw232 => rfl
                case hy232 => (intro w hSw; (try dsimp only at hSw); go_simp; all_goals (first | done | with_reducible rfl))
                case hQ232 => exact fun _ _ _ h => h
                simp only [Act.put, List.setIfInBounds_toArray, List.set_cons_zero, List.set_cons_succ]
                refine wpAnyH_take (i := 6) (oi := ?oi233) (v := ?v233) ?hi233 (by kernel_rfl) ?hf233 ?hr233 ?hQ233 (Or.inl ⟨?hw233, ?hy233⟩) (by assumption) ?rest233
                case hi233 => simp only [List.getElem?_toArray, List.getElem?_cons_succ, List.getElem?_cons_zero]; rfl
                case hf233 => kernel_rfl
                case hr233 => kernel_rfl
                case hw233 => rfl
                case hy233 => (intro w hSw; (try dsimp only at hSw); go_simp; all_goals (first | done | with_reducible rfl))
                case hQ233 => exact fun _ _ _ h => h
                simp only [Act.put, List.setIfInBounds_toArray, List.set_cons_zero, List.set_cons_succ]
                refine wpAnyH_take (i := 7) (oi := ?oi234) (v := ?v234) ?hi234 (by kernel_rfl) ?hf234 ?hr234 ?hQ234 (Or.inl ⟨?hw234, ?hy234⟩) (by assumption) ?rest234
                case hi234 => simp only [List.getElem?_toArray, List.getElem?_cons_succ, List.getElem?_cons_zero]; rfl
                case hf234 => kernel_rfl
                case hr234 => kernel_rfl
                case hw234 => rfl
                case hy234 => (intro w hSw; (try dsimp only at hSw); go_simp; all_goals (first | done | with_reducible rfl))
                case hQ234 => exact fun _ _ _ h => h
                simp only [Act.put, List.setIfInBounds_toArray, List.set_cons_zero, List.set_cons_succ]
                obtain ⟨z0, y0⟩ := KN.out.2 0 _ rfl
                obtain ⟨z1, y1⟩ := KN.out.2 1 _ rfl
                obtain ⟨z2, y2⟩ := KN.out.2 2 _ rfl
                obtain ⟨z3, y3⟩ := KN.out.2 3 _ rfl
                refine wpAnyH_ready (rs := [9]) (by kernel_rfl) (by simp) ?_
                refine AllReadyH.cons (o := ?oi235) ?hi235 (fun K hK => ?step235) AllReadyH.nil
                case hi235 => simp only [List.getElem?_toArray, List.getElem?_cons_succ, List.getElem?_cons_zero]; rfl
                rw [if_pos (by rfl)]
                go_simp
                have KE := hid ((((KN.out.set 0 (.string nm)).set 1 (.int .i64 q2)).set 2 (.string tx)).set 3 (.int .i64 sq))
                have HE := hid ((((HN5.out.setCell (p := ⟨w20.heap.size, 0, none⟩) (Nat.le_refl _) (.string nm)).setCell (p := ⟨w20.heap.size, 1, none⟩) (Nat.le_refl _) (.int .i64 q2)).setCell (p := ⟨w20.heap.size, 2, none⟩) (Nat.le_refl _) (.string tx)).setCell (p := ⟨w20.heap.size, 3, none⟩) (Nat.le_refl _) (.int .i64 sq))
                refine hK.out _ _ (SF.out _ HE.out) (fun hS => ?_)
                refine wpAnyH_take (i := 10) (oi := ?oi236) (v := ?v236) ?hi236 (by kernel_rfl) ?hf236 ?hr236 ?hQ236 (Or.inl ⟨?hw236, ?hy236⟩) (by assumption) ?rest236
                case hi236 => simp only [List.getElem?_toArray, List.getElem?_cons_succ, List.getElem?_cons_zero]; rfl
                case hf236 => kernel_rfl
                case hr236 => kernel_rfl
                case hw236 => rfl
                case hy236 => (intro w hSw; (try dsimp only at hSw); go_simp; all_goals (first | done | with_reducible rfl))
                case hQ236 => exact fun _ _ _ h => h
                simp only [Act.put, List.setIfInBounds_toArray, List.set_cons_zero, List.set_cons_succ]
                refine wpAnyH_done (by kernel_rfl) ?_ _
                clear z0 y0 z1 y1 z2 y2 z3 y3
                go_wp2_with fail
                go_meet
                case rel => exact ⟨_, rfl, rfl, KE.out, HE.out⟩
            case rest =>
              obtain ⟨b12, rfl, rfl, hk12, hb⟩ := hcut
              rename World => w21
              have KN12 := hid hk12
              have HW21 := hid (HW20.out.trans (hb.mono HW20.out.size))
              have HO21 := hid (HO20.out.trans (hb.mono HO20.out.size))
              have HE21 := hid (HE20.out.trans (hb.mono HE20.out.size))
              clear hb hk12
              obtain ⟨⟨r0, _⟩, ⟨r1, _⟩, ⟨r2, _⟩, ⟨r3, _⟩⟩ := (And.intro ((KR.out.to HW21.out).2 0 _ rfl) (And.intro ((KR.out.to HW21.out).2 1 _ rfl) (And.intro ((KR.out.to HW21.out).2 2 _ rfl) ((KR.out.to HW21.out).2 3 _ rfl))))
              obtain ⟨⟨o0, _⟩, ⟨o1, _⟩, ⟨o2, _⟩, ⟨o3, _⟩⟩ := (And.intro ((KO.out.to HO21.out).2 0 _ rfl) (And.intro ((KO.out.to HO21.out).2 1 _ rfl) (And.intro ((KO.out.to HO21.out).2 2 _ rfl) ((KO.out.to HO21.out).2 3 _ rfl))))
              have s0 := (KN12.out.2 0 _ rfl).1
              have s1 := (KN12.out.2 1 _ rfl).1
              have s2 := (KN12.out.2 2 _ rfl).1
              have s3 := (KN12.out.2 3 _ rfl).1
              go_wp2_with fail
              go_ret
              exact ⟨ret_bool (by simp), HB.out.trans (HW21.out.mono HB.out.size)⟩
        · skip
          have HT1 := hid (fun (W : World) (hW : Below w8.heap.size w8 W) => (show Calls Try.prog 10 #[.slice (some ⟨g, 0, none⟩) 0 fc, .agg #[.string nm, .int .i64 lv, .string tx, .int .i64 sq]] W (fun e w' => e = .returned (.tuple #[.agg #[.string nm, .int .i64 q1, .string tx, .int .i64 sq], .bool true]) ∧ Below W.heap.size W w') from by have h9 := CJ.out 0 (some ⟨g, 0, none⟩) fc [] nm tx lv sq hz1 hz2 W (HW8.out.trans (hW.mono HW8.out.size)) ⟨⟨rfl, _, _, rfl, Nat.zero_le _, by unfold maxLen; omega, fun h => absurd h (by omega)⟩, fun _ h => by cases h⟩; rw [h1] at h9; exact h9))
          have HT2 := hid (fun (W : World) (hW2 : Below w2.heap.size w2 W) => (show Calls Try.prog 10 #[.slice (some ⟨g, 0, none⟩) 0 fc, .agg #[.string nm, .int .i64 q1, .string tx, .int .i64 sq]] W (fun e w' => e = .returned (.tuple #[.agg #[.string nm, .int .i64 q2, .string tx, .int .i64 sq], .bool true]) ∧ Below W.heap.size W w') from by have h9 := CJ.out 0 (some ⟨g, 0, none⟩) fc [] nm tx q1 sq hz1 hz2 W hW2 ⟨⟨rfl, _, _, rfl, Nat.zero_le _, by unfold maxLen; omega, fun h => absurd h (by omega)⟩, fun _ h => by cases h⟩; rw [h2] at h9; exact h9))
          go_wp2_with fail
          go_cut [10, 11] from 14 (fun sa sb wc => ∃ b : Nat, sa = .pointer (some ⟨b, 0, none⟩) ∧ sb = .bool true ∧ Blk wc b [.string nm, .int .i64 q1, .string tx, .int .i64 sq] ∧ Below w8.heap.size w8 wc)
          case first =>
            try clear CI2
            try clear CS2
            try clear CF
            try clear CV
            try clear CJ
            try clear FF
            try clear FI
            try clear HO8 HE8 KO KW
            try clear HO20 HE20
            try clear HB
            try clear hXX
            have KS := hid (KR.out.to HW8.out)
            have SF := hid (fun (W : World) (hW : Below w8.heap.size w8 W) => (show W.cell? ⟨rb, 0, none⟩ = some (.string nm) ∧ W.cell? ⟨rb, 1, none⟩ = some (.int .i64 lv) ∧ W.cell? ⟨rb, 2, none⟩ = some (.string tx) ∧ W.cell? ⟨rb, 3, none⟩ = some (.int .i64 sq) from ⟨((KS.out.to hW).2 0 _ rfl).1, ((KS.out.to hW).2 1 _ rfl).1, ((KS.out.to hW).2 2 _ rfl).1, ((KS.out.to hW).2 3 _ rfl).1⟩))
            have HNd := hid ((Below.refl w8.heap.size w8).drew)
            refine wp_region_held_drew (S := fun w' : World => w'.cell? ⟨rb, 0, none⟩ = some (.string nm) ∧ w'.cell? ⟨rb, 1, none⟩ = some (.int .i64 lv) ∧ w'.cell? ⟨rb, 2, none⟩ = some (.string tx) ∧ w'.cell? ⟨rb, 3, none⟩ = some (.int .i64 sq)) (by kernel_rfl) (SF.out _ HNd.out) (fun hS => ?_)
            refine wpAnyH_take (i := 0) (oi := ?oi237) (v := ?v237) ?hi237 (by kernel_rfl) ?hf237 ?hr237 ?hQ237 (Or.inl ⟨?hw237, ?hy237⟩) (by assumption) ?rest237
            case hi237 => simp only [List.getElem?_toArray, List.getElem?_cons_succ, List.getElem?_cons_zero]; rfl
            case hf237 => kernel_rfl
            case hr237 => kernel_rfl
            case hw237 => rfl
            case hy237 => (intro w hSw; (try dsimp only at hSw); go_simp; all_goals (first | done | with_reducible rfl))
            case hQ237 => exact fun _ _ _ h => h
            simp only [Act.put, List.setIfInBounds_toArray, List.set_cons_zero, List.set_cons_succ]
            refine wpAnyH_take (i := 1) (oi := ?oi238) (v := ?v238) ?hi238 (by kernel_rfl) ?hf238 ?hr238 ?hQ238 (Or.inl ⟨?hw238, ?hy238⟩) (by assumption) ?rest238
            case hi238 => simp only [List.getElem?_toArray, List.getElem?_cons_succ, List.getElem?_cons_zero]; rfl
            case hf238 => kernel_rfl
            case hr238 => kernel_rfl
            case hw238 => rfl
            case hy238 => (intro w hSw; (try dsimp only at hSw); go_simp; all_goals (first | done | with_reducible rfl))
            case hQ238 => exact fun _ _ _ h => h
            simp only [Act.put, List.setIfInBounds_toArray, List.set_cons_zero, List.set_cons_succ]
            refine wpAnyH_take (i := 2) (oi := ?oi239) (v := ?v239) ?hi239 (by kernel_rfl) ?hf239 ?hr239 ?hQ239 (Or.inl ⟨?hw239, ?hy239⟩) (by assumption) ?rest239
            case hi239 => simp only [List.getElem?_toArray, List.getElem?_cons_succ, List.getElem?_cons_zero]; rfl
            case hf239 => kernel_rfl
            case hr239 => kernel_rfl
            case hw239 => rfl
            case hy239 => (intro w hSw; (try dsimp only at hSw); go_simp; all_goals (first | done | with_reducible rfl))
            case hQ239 => exact fun _ _ _ h => h
            simp only [Act.put, List.setIfInBounds_toArray, List.set_cons_zero, List.set_cons_succ]
            refine wpAnyH_take (i := 3) (oi := ?oi240) (v := ?v240) ?hi240 (by kernel_rfl) ?hf240 ?hr240 ?hQ240 (Or.inl ⟨?hw240, ?hy240⟩) (by assumption) ?rest240
            case hi240 => simp only [List.getElem?_toArray, List.getElem?_cons_succ, List.getElem?_cons_zero]; rfl
            case hf240 => kernel_rfl
            case hr240 => kernel_rfl
            case hw240 => rfl
            case hy240 => (intro w hSw; (try dsimp only at hSw); go_simp; all_goals (first | done | with_reducible rfl))
            case hQ240 => exact fun _ _ _ h => h
            simp only [Act.put, List.setIfInBounds_toArray, List.set_cons_zero, List.set_cons_succ]
            refine wpAnyH_ready (rs := [4, 8]) (by kernel_rfl) (by simp) ?_
            refine AllReadyH.cons (o := ?oi241) ?hi241 (fun K hK => ?stepA241) (AllReadyH.cons (o := ?oj241) ?hj241 (fun K hK => ?stepB241) AllReadyH.nil)
            case hi241 => simp only [List.getElem?_toArray, List.getElem?_cons_succ, List.getElem?_cons_zero]; rfl
            case hj241 => simp only [List.getElem?_toArray, List.getElem?_cons_succ, List.getElem?_cons_zero]; rfl
            all_goals rw [if_pos (by rfl)]
            all_goals go_simp
            · go_at_call 10
              refine (HT1.out _ HNd.out).mono ?_
              rintro e w40 ⟨rfl, hb⟩
              have HN5 := hid (HNd.out.trans (hb.mono HNd.out.size))
              clear hb
              refine hK.out _ _ (SF.out _ HN5.out) (fun hS => ?_)
              refine wpAnyH_take (i := 5) (oi := ?oi242) (v := ?v242) ?hi242 (by kernel_rfl) ?hf242 ?hr242 ?hQ242 (Or.inl ⟨?hw242, ?hy242⟩) (by assumption) ?rest242
              case hi242 => simp only [List.getElem?_toArray, List.getElem?_cons_succ, List.getElem?_cons_zero]; rfl
              case hf242 => kernel_rfl
              case hr242 => kernel_rfl
              case hw242 => rfl
              case hy242 => (intro w hSw; (try dsimp only at hSw); go_simp; all_goals (first | done | with_reducible rfl))
              case hQ242 => exact fun _ _ _ h => h
              simp only [Act.put, List.setIfInBounds_toArray, List.set_cons_zero, List.set_cons_succ]
              refine wpAnyH_take (i := 6) (oi := ?oi243) (v := ?v243) ?hi243 (by kernel_rfl) ?hf243 ?hr243 ?hQ243 (Or.inl ⟨?hw243, ?hy243⟩) (by assumption) ?rest243
              case hi243 => simp only [List.getElem?_toArray, List.getElem?_cons_succ, List.getElem?_cons_zero]; rfl
              case hf243 => kernel_rfl
              case hr243 => kernel_rfl
              case hw243 => rfl
              case hy243 => (intro w hSw; (try dsimp only at hSw); go_simp; all_goals (first | done | with_reducible rfl))
              case hQ243 => exact fun _ _ _ h => h
              simp only [Act.put, List.setIfInBounds_toArray, List.set_cons_zero, List.set_cons_succ]
              refine wpAnyH_take (i := 7) (oi := ?oi244) (v := ?v244) ?hi244 (by kernel_rfl) ?hf244 ?hr244 ?hQ244 (Or.inl ⟨?hw244, ?hy244⟩) (by assumption) ?rest244
              case hi244 => simp only [List.getElem?_toArray, List.getElem?_cons_succ, List.getElem?_cons_zero]; rfl
              case hf244 => kernel_rfl
              case hr244 => kernel_rfl
              case hw244 => rfl
              case hy244 => (intro w hSw; (try dsimp only at hSw); go_simp; all_goals (first | done | with_reducible rfl))
              case hQ244 => exact fun _ _ _ h => h
              simp only [Act.put, List.setIfInBounds_toArray, List.set_cons_zero, List.set_cons_succ]
              refine wpAnyH_ready (rs := [8]) (by kernel_rfl) (by simp) ?_
              refine AllReadyH.cons (o := ?oi245) ?hi245 (fun K hK => ?step245) AllReadyH.nil
              case hi245 => simp only [List.getElem?_toArray, List.getElem?_cons_succ, List.getElem?_cons_zero]; rfl
              rw [if_pos (by rfl)]
              go_simp
              have KN := hid (Blk.new w40 #[.string ⟨#[]⟩, .int .i64 0, .string ⟨#[]⟩, .int .i64 0] 27)
              have HN6 := hid (HN5.out.alloc HN5.out.size (.cells #[.string ⟨#[]⟩, .int .i64 0, .string ⟨#[]⟩, .int .i64 0] 27))
              refine hK.out _ _ (SF.out _ HN6.out) (fun hS => ?_)
              skip
              obtain ⟨z0, y0⟩ := KN.out.2 0 _ rfl
              obtain ⟨z1, y1⟩ := KN.out.2 1 _ rfl
              obtain ⟨z2, y2⟩ := KN.out.2 2 _ rfl
              obtain ⟨z3, y3⟩ := KN.out.2 3 _ rfl
              refine wpAnyH_ready (rs := [9]) (by kernel_rfl) (by simp) ?_
              refine AllReadyH.cons (o := ?oi246) ?hi246 (fun K hK => ?step246) AllReadyH.nil
              case hi246 => simp only [List.getElem?_toArray, List.getElem?_cons_succ, List.getElem?_cons_zero]; rfl
              rw [if_pos (by rfl)]
              go_simp
              have KE := hid (Blk.new w40 #[.string nm, .int .i64 q1, .string tx, .int .i64 sq] 27)
              have HE := hid (HN5.out.alloc HN5.out.size (.cells #[.string nm, .int .i64 q1, .string tx, .int .i64 sq] 27))
              refine hK.out _ _ (SF.out _ HE.out) (fun hS => ?_)
              refine wpAnyH_take (i := 10) (oi := ?oi247) (v := ?v247) ?hi247 (by kernel_rfl) ?hf247 ?hr247 ?hQ247 (Or.inl ⟨?hw247, ?hy247⟩) (by assumption) ?rest247
              case hi247 => simp only [List.getElem?_toArray, List.getElem?_cons_succ, List.getElem?_cons_zero]; rfl
              case hf247 => kernel_rfl
              case hr247 => kernel_rfl
              case hw247 => rfl
              case hy247 => (intro w hSw; (try dsimp only at hSw); go_simp; all_goals (first | done | with_reducible rfl))
              case hQ247 => exact fun _ _ _ h => h
              simp only [Act.put, List.setIfInBounds_toArray, List.set_cons_zero, List.set_cons_succ]
              refine wpAnyH_done (by kernel_rfl) ?_ _
              clear z0 y0 z1 y1 z2 y2 z3 y3
              go_wp2_with fail
              go_meet
              case rel => exact ⟨_, rfl, rfl, KE.out, HE.out⟩
            · have KN0 := hid (show Blk _ w8.heap.size [.string ⟨#[]⟩, .int .i64 0, .string ⟨#[]⟩, .int .i64 0] from Blk.new w8.drew #[.string ⟨#[]⟩, .int .i64 0, .string ⟨#[]⟩, .int .i64 0] 27)
              have HN0 := hid (HNd.out.alloc (Nat.le_refl _) (.cells #[.string ⟨#[]⟩, .int .i64 0, .string ⟨#[]⟩, .int .i64 0] 27))
              refine hK.out _ _ (SF.out _ HN0.out) (fun hS => ?_)
              refine wpAnyH_ready (rs := [4]) (by kernel_rfl) (by simp) ?_
              refine AllReadyH.cons (o := ?oi248) ?hi248 (fun K hK => ?step248) AllReadyH.nil
              case hi248 => simp only [List.getElem?_toArray, List.getElem?_cons_succ, List.getElem?_cons_zero]; rfl
              rw [if_pos (by rfl)]
              go_simp
              go_at_call 10
              refine (HT1.out _ HN0.out).mono ?_
              rintro e w40 ⟨rfl, hb⟩
              have HN5 := hid (HN0.out.trans (hb.mono HN0.out.size))
              have KN := hid (KN0.out.to hb)
              clear hb
              refine hK.out _ _ (SF.out _ HN5.out) (fun hS => ?_)
              refine wpAnyH_take (i := 5) (oi := ?oi249) (v := ?v249) ?hi249 (by kernel_rfl) ?hf249 ?hr249 ?hQ249 (Or.inl ⟨?hw249, ?hy249⟩) (by assumption) ?rest249
              case hi249 => simp only [List.getElem?_toArray, List.getElem?_cons_succ, List.getElem?_cons_zero]; rfl
              case hf249 => kernel_rfl
              case hr249 => kernel_rfl
              case hw249 => rfl
              case hy249 => (intro w hSw; (try dsimp only at hSw); go_simp; all_goals (first | done | with_reducible rfl))
              case hQ249 => exact fun _ _ _ h => h
              simp only [Act.put, List.setIfInBounds_toArray, List.set_cons_zero, List.set_cons_succ]
              refine wpAnyH_take (i := 6) (oi := ?oi250) (v := ?v250) ?hi250 (by kernel_rfl) ?hf250 ?hr250 ?hQ250 (Or.inl ⟨?hw250, ?hy250⟩) (by assumption) ?rest250
              case hi250 => simp only [List.getElem?_toArray, List.getElem?_cons_succ, List.getElem?_cons_zero]; rfl
              case hf250 => kernel_rfl
              case hr250 => kernel_rfl
              case hw250 => rfl
              case hy250 => (intro w hSw; (try dsimp only at hSw); go_simp; all_goals (first | done | with_reducible rfl))
              case hQ250 => exact fun _ _ _ h => h
              simp only [Act.put, List.setIfInBounds_toArray, List.set_cons_zero, List.set_cons_succ]
              refine wpAnyH_take (i := 7) (oi := ?oi251) (v := ?v251) ?hi251 (by kernel_rfl) ?hf251 ?hr251 ?hQ251 (Or.inl ⟨?hw251, ?hy251⟩) (by assumption) ?rest251
              case hi251 => simp only [List.getElem?_toArray, List.getElem?_cons_succ, List.getElem?_cons_zero]; rfl
              case hf251 => kernel_rfl
              case hr251 => kernel_rfl
              case hw251 => rfl
              case hy251 => (intro w hSw; (try dsimp only at hSw); go_simp; all_goals (first | done | with_reducible rfl))
              case hQ251 => exact fun _ _ _ h => h
              simp only [Act.put, List.setIfInBounds_toArray, List.set_cons_zero, List.set_cons_succ]
              obtain ⟨z0, y0⟩ := KN.out.2 0 _ rfl
              obtain ⟨z1, y1⟩ := KN.out.2 1 _ rfl
              obtain ⟨z2, y2⟩ := KN.out.2 2 _ rfl
              obtain ⟨z3, y3⟩ := KN.out.2 3 _ rfl
              refine wpAnyH_ready (rs := [9]) (by kernel_rfl) (by simp) ?_
              refine AllReadyH.cons (o := ?oi252) ?hi252 (fun K hK => ?step252) AllReadyH.nil
              case hi252 => simp only [List.getElem?_toArray, List.getElem?_cons_succ, List.getElem?_cons_zero]; rfl
              rw [if_pos (by rfl)]
              go_simp
              have KE := hid ((((KN.out.set 0 (.string nm)).set 1 (.int .i64 q1)).set 2 (.string tx)).set 3 (.int .i64 sq))
              have HE := hid ((((HN5.out.setCell (p := ⟨w8.heap.size, 0, none⟩) (Nat.le_refl _) (.string nm)).setCell (p := ⟨w8.heap.size, 1, none⟩) (Nat.le_refl _) (.int .i64 q1)).setCell (p := ⟨w8.heap.size, 2, none⟩) (Nat.le_refl _) (.string tx)).setCell (p := ⟨w8.heap.size, 3, none⟩) (Nat.le_refl _) (.int .i64 sq))
              refine hK.out _ _ (SF.out _ HE.out) (fun hS => ?_)
              refine wpAnyH_take (i := 10) (oi := ?oi253) (v := ?v253) ?hi253 (by kernel_rfl) ?hf253 ?hr253 ?hQ253 (Or.inl ⟨?hw253, ?hy253⟩) (by assumption) ?rest253
              case hi253 => simp only [List.getElem?_toArray, List.getElem?_cons_succ, List.getElem?_cons_zero]; rfl
              case hf253 => kernel_rfl
              case hr253 => kernel_rfl
              case hw253 => rfl
              case hy253 => (intro w hSw; (try dsimp only at hSw); go_simp; all_goals (first | done | with_reducible rfl))
              case hQ253 => exact fun _ _ _ h => h
              simp only [Act.put, List.setIfInBounds_toArray, List.set_cons_zero, List.set_cons_succ]
              refine wpAnyH_done (by kernel_rfl) ?_ _
              clear z0 y0 z1 y1 z2 y2 z3 y3
              go_wp2_with fail
              go_meet
              case rel => exact ⟨_, rfl, rfl, KE.out, HE.out⟩
          case rest =>
            obtain ⟨b10, rfl, rfl, hk10, hb⟩ := hcut
            rename World => w20
            clear r0 r1 r2 r3 o0 o1 o2 o3 p0 p1 p2 p3
            have KM := hid hk10
            have HW20 := hid (HW8.out.trans (hb.mono HW8.out.size))
            have HO20 := hid (HO8.out.trans (hb.mono HO8.out.size))
            have HE20 := hid (HE8.out.trans (hb.mono HE8.out.size))
            have HN20 := hid hb
            clear hb hk10
            go_wp2_with fail
            go_cut [12, 13] from 14 (fun sa sb wc => ∃ b : Nat, sa = .pointer (some ⟨b, 0, none⟩) ∧ sb = .bool true ∧ Blk wc b [.string nm, .int .i64 q2, .string tx, .int .i64 sq] ∧ Below w20.heap.size w20 wc)
            case first =>
              try clear CI2
              try clear CS2
              try clear CF
              try clear CV
              try clear CJ
              try clear FF
              try clear FI
              try clear HO8 HE8 KO KW
              try clear HO20 HE20
              try clear HB
              try clear hXX
              have KS := hid KM.out
              have SF := hid (fun (W : World) (hW : Below w20.heap.size w20 W) => (show W.cell? ⟨b10, 0, none⟩ = some (.string nm) ∧ W.cell? ⟨b10, 1, none⟩ = some (.int .i64 q1) ∧ W.cell? ⟨b10, 2, none⟩ = some (.string tx) ∧ W.cell? ⟨b10, 3, none⟩ = some (.int .i64 sq) from ⟨((KS.out.to hW).2 0 _ rfl).1, ((KS.out.to hW).2 1 _ rfl).1, ((KS.out.to hW).2 2 _ rfl).1, ((KS.out.to hW).2 3 _ rfl).1⟩))
              have HNd := hid ((Below.refl w20.heap.size w20).drew)
              refine wp_region_held_drew (S := fun w' : World => w'.cell? ⟨b10, 0, none⟩ = some (.string nm) ∧ w'.cell? ⟨b10, 1, none⟩ = some (.int .i64 q1) ∧ w'.cell? ⟨b10, 2, none⟩ = some (.string tx) ∧ w'.cell? ⟨b10, 3, none⟩ = some (.int .i64 sq)) (by kernel_rfl) (SF.out _ HNd.out) (fun hS => ?_)
              refine wpAnyH_take (i := 0) (oi := ?oi254) (v := ?v254) ?hi254 (by kernel_rfl) ?hf254 ?hr254 ?hQ254 (Or.inl ⟨?hw254, ?hy254⟩) (by assumption) ?rest254
              case hi254 => simp only [List.getElem?_toArray, List.getElem?_cons_succ, List.getElem?_cons_zero]; rfl
              case hf254 => kernel_rfl
              case hr254 => kernel_rfl
              case hw254 => rfl
              case hy254 => (intro w hSw; (try dsimp only at hSw); go_simp; all_goals (first | done | with_reducible rfl))
              case hQ254 => exact fun _ _ _ h => h
              simp only [Act.put, List.setIfInBounds_toArray, List.set_cons_zero, List.set_cons_succ]
              refine wpAnyH_take (i := 1) (oi := ?oi255) (v := ?v255) ?hi255 (by kernel_rfl) ?hf255 ?hr255 ?hQ255 (Or.inl ⟨?hw255, ?hy255⟩) (by assumption) ?rest255
              case hi255 => simp only [List.getElem?_toArray, List.getElem?_cons_succ, List.getElem?_cons_zero]; rfl
              case hf255 => kernel_rfl
              case hr255 => kernel_rfl
              case hw255 => rfl
              case hy255 => (intro w hSw; (try dsimp only at hSw); go_simp; all_goals (first | done | with_reducible rfl))
              case hQ255 => exact fun _ _ _ h => h
              simp only [Act.put, List.setIfInBounds_toArray, List.set_cons_zero, List.set_cons_succ]
              refine wpAnyH_take (i := 2) (oi := ?oi256) (v := ?v256) ?hi256 (by kernel_rfl) ?hf256 ?hr256 ?hQ256 (Or.inl ⟨?hw256, ?hy256⟩) (by assumption) ?rest256
              case hi256 => simp only [List.getElem?_toArray, List.getElem?_cons_succ, List.getElem?_cons_zero]; rfl
              case hf256 => kernel_rfl
              case hr256 => kernel_rfl
              case hw256 => rfl
              case hy256 => (intro w hSw; (try dsimp only at hSw); go_simp; all_goals (first | done | with_reducible rfl))
              case hQ256 => exact fun _ _ _ h => h
              simp only [Act.put, List.setIfInBounds_toArray, List.set_cons_zero, List.set_cons_succ]
              refine wpAnyH_take (i := 3) (oi := ?oi257) (v := ?v257) ?hi257 (by kernel_rfl) ?hf257 ?hr257 ?hQ257 (Or.inl ⟨?hw257, ?hy257⟩) (by assumption) ?rest257
              case hi257 => simp only [List.getElem?_toArray, List.getElem?_cons_succ, List.getElem?_cons_zero]; rfl
              case hf257 => kernel_rfl
              case hr257 => kernel_rfl
              case hw257 => rfl
              case hy257 => (intro w hSw; (try dsimp only at hSw); go_simp; all_goals (first | done | with_reducible rfl))
              case hQ257 => exact fun _ _ _ h => h
              simp only [Act.put, List.setIfInBounds_toArray, List.set_cons_zero, List.set_cons_succ]
              refine wpAnyH_ready (rs := [4, 8]) (by kernel_rfl) (by simp) ?_
              refine AllReadyH.cons (o := ?oi258) ?hi258 (fun K hK => ?stepA258) (AllReadyH.cons (o := ?oj258) ?hj258 (fun K hK => ?stepB258) AllReadyH.nil)
              case hi258 => simp only [List.getElem?_toArray, List.getElem?_cons_succ, List.getElem?_cons_zero]; rfl
              case hj258 => simp only [List.getElem?_toArray, List.getElem?_cons_succ, List.getElem?_cons_zero]; rfl
              all_goals rw [if_pos (by rfl)]
              all_goals go_simp
              · go_at_call 10
                refine ((fun W (hW : Below w20.heap.size w20 W) => HT2.out W (HW20.out.trans (hW.mono HW20.out.size))) _ HNd.out).mono ?_
                rintro e w40 ⟨rfl, hb⟩
                have HN5 := hid (HNd.out.trans (hb.mono HNd.out.size))
                clear hb
                refine hK.out _ _ (SF.out _ HN5.out) (fun hS => ?_)
                refine wpAnyH_take (i := 5) (oi := ?oi259) (v := ?v259) ?hi259 (by kernel_rfl) ?hf259 ?hr259 ?hQ259 (Or.inl ⟨?hw259, ?hy259⟩) (by assumption) ?rest259
                case hi259 => simp only [List.getElem?_toArray, List.getElem?_cons_succ, List.getElem?_cons_zero]; rfl
                case hf259 => kernel_rfl
                case hr259 => kernel_rfl
                case hw259 => rfl
                case hy259 => (intro w hSw; (try dsimp only at hSw); go_simp; all_goals (first | done | with_reducible rfl))
                case hQ259 => exact fun _ _ _ h => h
                simp only [Act.put, List.setIfInBounds_toArray, List.set_cons_zero, List.set_cons_succ]
                refine wpAnyH_take (i := 6) (oi := ?oi260) (v := ?v260) ?hi260 (by kernel_rfl) ?hf260 ?hr260 ?hQ260 (Or.inl ⟨?hw260, ?hy260⟩) (by assumption) ?rest260
                case hi260 => simp only [List.getElem?_toArray, List.getElem?_cons_succ, List.getElem?_cons_zero]; rfl
                case hf260 => kernel_rfl
                case hr260 => kernel_rfl
                case hw260 => rfl
                case hy260 => (intro w hSw; (try dsimp only at hSw); go_simp; all_goals (first | done | with_reducible rfl))
                case hQ260 => exact fun _ _ _ h => h
                simp only [Act.put, List.setIfInBounds_toArray, List.set_cons_zero, List.set_cons_succ]
                refine wpAnyH_take (i := 7) (oi := ?oi261) (v := ?v261) ?hi261 (by kernel_rfl) ?hf261 ?hr261 ?hQ261 (Or.inl ⟨?hw261, ?hy261⟩) (by assumption) ?rest261
                case hi261 => simp only [List.getElem?_toArray, List.getElem?_cons_succ, List.getElem?_cons_zero]; rfl
                case hf261 => kernel_rfl
                case hr261 => kernel_rfl
                case hw261 => rfl
                case hy261 => (intro w hSw; (try dsimp only at hSw); go_simp; all_goals (first | done | with_reducible rfl))
                case hQ261 => exact fun _ _ _ h => h
                simp only [Act.put, List.setIfInBounds_toArray, List.set_cons_zero, List.set_cons_succ]
                refine wpAnyH_ready (rs := [8]) (by kernel_rfl) (by simp) ?_
                refine AllReadyH.cons (o := ?oi262) ?hi262 (fun K hK => ?step262) AllReadyH.nil
                case hi262 => simp only [List.getElem?_toArray, List.getElem?_cons_succ, List.getElem?_cons_zero]; rfl
                rw [if_pos (by rfl)]
                go_simp
                have KN := hid (Blk.new w40 #[.string ⟨#[]⟩, .int .i64 0, .string ⟨#[]⟩, .int .i64 0] 27)
                have HN6 := hid (HN5.out.alloc HN5.out.size (.cells #[.string ⟨#[]⟩, .int .i64 0, .string ⟨#[]⟩, .int .i64 0] 27))
                refine hK.out _ _ (SF.out _ HN6.out) (fun hS => ?_)
                skip
                obtain ⟨z0, y0⟩ := KN.out.2 0 _ rfl
                obtain ⟨z1, y1⟩ := KN.out.2 1 _ rfl
                obtain ⟨z2, y2⟩ := KN.out.2 2 _ rfl
                obtain ⟨z3, y3⟩ := KN.out.2 3 _ rfl
                refine wpAnyH_ready (rs := [9]) (by kernel_rfl) (by simp) ?_
                refine AllReadyH.cons (o := ?oi263) ?hi263 (fun K hK => ?step263) AllReadyH.nil
                case hi263 => simp only [List.getElem?_toArray, List.getElem?_cons_succ, List.getElem?_cons_zero]; rfl
                rw [if_pos (by rfl)]
                go_simp
                have KE := hid (Blk.new w40 #[.string nm, .int .i64 q2, .string tx, .int .i64 sq] 27)
                have HE := hid (HN5.out.alloc HN5.out.size (.cells #[.string nm, .int .i64 q2, .string tx, .int .i64 sq] 27))
                refine hK.out _ _ (SF.out _ HE.out) (fun hS => ?_)
                refine wpAnyH_take (i := 10) (oi := ?oi264) (v := ?v264) ?hi264 (by kernel_rfl) ?hf264 ?hr264 ?hQ264 (Or.inl ⟨?hw264, ?hy264⟩) (by assumption) ?rest264
                case hi264 => simp only [List.getElem?_toArray, List.getElem?_cons_succ, List.getElem?_cons_zero]; rfl
                case hf264 => kernel_rfl
                case hr264 => kernel_rfl
                case hw264 => rfl
                case hy264 => (intro w hSw; (try dsimp only at hSw); go_simp; all_goals (first | done | with_reducible rfl))
                case hQ264 => exact fun _ _ _ h => h
                simp only [Act.put, List.setIfInBounds_toArray, List.set_cons_zero, List.set_cons_succ]
                refine wpAnyH_done (by kernel_rfl) ?_ _
                clear z0 y0 z1 y1 z2 y2 z3 y3
                go_wp2_with fail
                go_meet
                case rel => exact ⟨_, rfl, rfl, KE.out, HE.out⟩
              · have KN0 := hid (show Blk _ w20.heap.size [.string ⟨#[]⟩, .int .i64 0, .string ⟨#[]⟩, .int .i64 0] from Blk.new w20.drew #[.string ⟨#[]⟩, .int .i64 0, .string ⟨#[]⟩, .int .i64 0] 27)
                have HN0 := hid (HNd.out.alloc (Nat.le_refl _) (.cells #[.string ⟨#[]⟩, .int .i64 0, .string ⟨#[]⟩, .int .i64 0] 27))
                refine hK.out _ _ (SF.out _ HN0.out) (fun hS => ?_)
                refine wpAnyH_ready (rs := [4]) (by kernel_rfl) (by simp) ?_
                refine AllReadyH.cons (o := ?oi265) ?hi265 (fun K hK => ?step265) AllReadyH.nil
                case hi265 => simp only [List.getElem?_toArray, List.getElem?_cons_succ, List.getElem?_cons_zero]; rfl
                rw [if_pos (by rfl)]
                go_simp
                go_at_call 10
                refine ((fun W (hW : Below w20.heap.size w20 W) => HT2.out W (HW20.out.trans (hW.mono HW20.out.size))) _ HN0.out).mono ?_
                rintro e w40 ⟨rfl, hb⟩
                have HN5 := hid (HN0.out.trans (hb.mono HN0.out.size))
                have KN := hid (KN0.out.to hb)
                clear hb
                refine hK.out _ _ (SF.out _ HN5.out) (fun hS => ?_)
                refine wpAnyH_take (i := 5) (oi := ?oi266) (v := ?v266) ?hi266 (by kernel_rfl) ?hf266 ?hr266 ?hQ266 (Or.inl ⟨?hw266, ?hy266⟩) (by assumption) ?rest266
                case hi266 => simp only [List.getElem?_toArray, List.getElem?_cons_succ, List.getElem?_cons_zero]; rfl
                case hf266 => kernel_rfl
                case hr266 => kernel_rfl
                case hw266 => rfl
                case hy266 => (intro w hSw; (try dsimp only at hSw); go_simp; all_goals (first | done | with_reducible rfl))
                case hQ266 => exact fun _ _ _ h => h
                simp only [Act.put, List.setIfInBounds_toArray, List.set_cons_zero, List.set_cons_succ]
                refine wpAnyH_take (i := 6) (oi := ?oi267) (v := ?v267) ?hi267 (by kernel_rfl) ?hf267 ?hr267 ?hQ267 (Or.inl ⟨?hw267, ?hy267⟩) (by assumption) ?rest267
                case hi267 => simp only [List.getElem?_toArray, List.getElem?_cons_succ, List.getElem?_cons_zero]; rfl
                case hf267 => kernel_rfl
                case hr267 => kernel_rfl
                case hw267 => rfl
                case hy267 => (intro w hSw; (try dsimp only at hSw); go_simp; all_goals (first | done | with_reducible rfl))
                case hQ267 => exact fun _ _ _ h => h
                simp only [Act.put, List.setIfInBounds_toArray, List.set_cons_zero, List.set_cons_succ]
                refine wpAnyH_take (i := 7) (oi := ?oi268) (v := ?v268) ?hi268 (by kernel_rfl) ?hf268 ?hr268 ?hQ268 (Or.inl ⟨?hw268, ?hy268⟩) (by assumption) ?rest268
                case hi268 => simp only [List.getElem?_toArray, List.getElem?_cons_succ, List.getElem?_cons_zero]; rfl
                case hf268 => kernel_rfl
                case hr268 => kernel_rfl
                case hw268 => rfl
                case hy268 => (intro w hSw; (try dsimp only at hSw); go_simp; all_goals (first | done | with_reducible rfl))
                case hQ268 => exact fun _ _ _ h => h
                simp only [Act.put, List.setIfInBounds_toArray, List.set_cons_zero, List.set_cons_succ]
                obtain ⟨z0, y0⟩ := KN.out.2 0 _ rfl
                obtain ⟨z1, y1⟩ := KN.out.2 1 _ rfl
                obtain ⟨z2, y2⟩ := KN.out.2 2 _ rfl
                obtain ⟨z3, y3⟩ := KN.out.2 3 _ rfl
                refine wpAnyH_ready (rs := [9]) (by kernel_rfl) (by simp) ?_
                refine AllReadyH.cons (o := ?oi269) ?hi269 (fun K hK => ?step269) AllReadyH.nil
                case hi269 => simp only [List.getElem?_toArray, List.getElem?_cons_succ, List.getElem?_cons_zero]; rfl
                rw [if_pos (by rfl)]
                go_simp
                have KE := hid ((((KN.out.set 0 (.string nm)).set 1 (.int .i64 q2)).set 2 (.string tx)).set 3 (.int .i64 sq))
                have HE := hid ((((HN5.out.setCell (p := ⟨w20.heap.size, 0, none⟩) (Nat.le_refl _) (.string nm)).setCell (p := ⟨w20.heap.size, 1, none⟩) (Nat.le_refl _) (.int .i64 q2)).setCell (p := ⟨w20.heap.size, 2, none⟩) (Nat.le_refl _) (.string tx)).setCell (p := ⟨w20.heap.size, 3, none⟩) (Nat.le_refl _) (.int .i64 sq))
                refine hK.out _ _ (SF.out _ HE.out) (fun hS => ?_)
                refine wpAnyH_take (i := 10) (oi := ?oi270) (v := ?v270) ?hi270 (by kernel_rfl) ?hf270 ?hr270 ?hQ270 (Or.inl ⟨?hw270, ?hy270⟩) (by assumption) ?rest270
                case hi270 => simp only [List.getElem?_toArray, List.getElem?_cons_succ, List.getElem?_cons_zero]; rfl
                case hf270 => kernel_rfl
                case hr270 => kernel_rfl
                case hw270 => rfl
                case hy270 => (intro w hSw; (try dsimp only at hSw); go_simp; all_goals (first | done | with_reducible rfl))
                case hQ270 => exact fun _ _ _ h => h
                simp only [Act.put, List.setIfInBounds_toArray, List.set_cons_zero, List.set_cons_succ]
                refine wpAnyH_done (by kernel_rfl) ?_ _
                clear z0 y0 z1 y1 z2 y2 z3 y3
                go_wp2_with fail
                go_meet
                case rel => exact ⟨_, rfl, rfl, KE.out, HE.out⟩
            case rest =>
              obtain ⟨b12, rfl, rfl, hk12, hb⟩ := hcut
              rename World => w21
              have KN12 := hid hk12
              have HW21 := hid (HW20.out.trans (hb.mono HW20.out.size))
              have HO21 := hid (HO20.out.trans (hb.mono HO20.out.size))
              have HE21 := hid (HE20.out.trans (hb.mono HE20.out.size))
              clear hb hk12
              obtain ⟨⟨r0, _⟩, ⟨r1, _⟩, ⟨r2, _⟩, ⟨r3, _⟩⟩ := (And.intro ((KR.out.to HW21.out).2 0 _ rfl) (And.intro ((KR.out.to HW21.out).2 1 _ rfl) (And.intro ((KR.out.to HW21.out).2 2 _ rfl) ((KR.out.to HW21.out).2 3 _ rfl))))
              obtain ⟨⟨o0, _⟩, ⟨o1, _⟩, ⟨o2, _⟩, ⟨o3, _⟩⟩ := (And.intro ((KO.out.to HO21.out).2 0 _ rfl) (And.intro ((KO.out.to HO21.out).2 1 _ rfl) (And.intro ((KO.out.to HO21.out).2 2 _ rfl) ((KO.out.to HO21.out).2 3 _ rfl))))
              have s0 := (KN12.out.2 0 _ rfl).1
              have s1 := (KN12.out.2 1 _ rfl).1
              have s2 := (KN12.out.2 2 _ rfl).1
              have s3 := (KN12.out.2 3 _ rfl).1
              go_wp2_with fail
              go_ret
              exact ⟨ret_bool (by simp), HB.out.trans (HW21.out.mono HB.out.size)⟩
    · obtain ⟨g, rfl⟩ : ∃ g, fA = some ⟨g, 0, none⟩ := by
        rcases hA with ⟨_, h, _⟩ | h
        · omega
        · exact h
      have hkn : fn / 2 < fn := by omega
      have hck : ¬ fc = fn / 2 := by omega
      have hb1 : ((fn / 2 : Nat) : Int) ≤ (fn : Int) := by omega
      have hb2 : ((fn / 2 : Nat) : Int) ≤ (fc : Int) := by omega
      have hb3 : (0 : Int) ≤ ((fn / 2 : Nat) : Int) := by omega
      have hb4 : fn / 2 ≤ fn := by omega
      have HT1 := hid (fun (W : World) (hW : Below w8.heap.size w8 W) => (show Calls Try.prog 10 #[.slice (some ⟨g, 0, none⟩) (fn / 2) fc, .agg #[.string nm, .int .i64 lv, .string tx, .int .i64 sq]] W (fun e w' => e = .returned (.tuple #[.agg #[.string nm, .int .i64 q1, .string tx, .int .i64 sq], .bool true]) ∧ Below W.heap.size W w') from by have h9 := CJ.out (fn / 2) (some ⟨g, 0, none⟩) fc (l.take (fn / 2)) nm tx lv sq hz1 hz2 W (HW8.out.trans (hW.mono HW8.out.size)) ((FF.out W (HW8.out.trans (hW.mono HW8.out.size))).1.takeF (Nat.le_of_lt hkn)); rw [h1] at h9; exact h9))
      have HT2 := hid (fun (W : World) (hW2 : Below w2.heap.size w2 W) => (show Calls Try.prog 10 #[.slice (some ⟨g, fn / 2 * 3, none⟩) (fn - fn / 2) (fc - fn / 2), .agg #[.string nm, .int .i64 q1, .string tx, .int .i64 sq]] W (fun e w' => e = .returned (.tuple #[.agg #[.string nm, .int .i64 q2, .string tx, .int .i64 sq], .bool true]) ∧ Below W.heap.size W w') from by have h9 := CJ.out (fn - fn / 2) (some ⟨g, 0 + fn / 2 * 3, none⟩) (fc - fn / 2) (l.drop (fn / 2)) nm tx q1 sq hz1 hz2 W hW2 ((FF.out W hW2).1.dropF (Nat.le_of_lt hkn)); rw [h2, Nat.zero_add] at h9; exact h9))
      generalize fn / 2 = k at *
      go_wp2_with fail
      go_cut [10, 11] from 14 (fun sa sb wc => ∃ b : Nat, sa = .pointer (some ⟨b, 0, none⟩) ∧ sb = .bool true ∧ Blk wc b [.string nm, .int .i64 q1, .string tx, .int .i64 sq] ∧ Below w8.heap.size w8 wc)
      case first =>
        try clear CI2
        try clear CS2
        try clear CF
        try clear CV
        try clear CJ
        try clear FF
        try clear FI
        try clear HO8 HE8 KO KW
        try clear HO20 HE20
        try clear HB
        try clear hXX
        have KS := hid (KR.out.to HW8.out)
        have SF := hid (fun (W : World) (hW : Below w8.heap.size w8 W) => (show W.cell? ⟨rb, 0, none⟩ = some (.string nm) ∧ W.cell? ⟨rb, 1, none⟩ = some (.int .i64 lv) ∧ W.cell? ⟨rb, 2, none⟩ = some (.string tx) ∧ W.cell? ⟨rb, 3, none⟩ = some (.int .i64 sq) from ⟨((KS.out.to hW).2 0 _ rfl).1, ((KS.out.to hW).2 1 _ rfl).1, ((KS.out.to hW).2 2 _ rfl).1, ((KS.out.to hW).2 3 _ rfl).1⟩))
        have HNd := hid ((Below.refl w8.heap.size w8).drew)
        refine wp_region_held_drew (S := fun w' : World => w'.cell? ⟨rb, 0, none⟩ = some (.string nm) ∧ w'.cell? ⟨rb, 1, none⟩ = some (.int .i64 lv) ∧ w'.cell? ⟨rb, 2, none⟩ = some (.string tx) ∧ w'.cell? ⟨rb, 3, none⟩ = some (.int .i64 sq)) (by kernel_rfl) (SF.out _ HNd.out) (fun hS => ?_)
        refine wpAnyH_take (i := 0) (oi := ?oi271) (v := ?v271) ?hi271 (by kernel_rfl) ?hf271 ?hr271 ?hQ271 (Or.inl ⟨?hw271, ?hy271⟩) (by assumption) ?rest271
        case hi271 => simp only [List.getElem?_toArray, List.getElem?_cons_succ, List.getElem?_cons_zero]; rfl
        case hf271 => kernel_rfl
        case hr271 => kernel_rfl
        case hw271 => rfl
        case hy271 => (intro w hSw; (try dsimp only at hSw); go_simp; all_goals (first | done | with_reducible rfl))
        case hQ271 => exact fun _ _ _ h => h
        simp only [Act.put, List.setIfInBounds_toArray, List.set_cons_zero, List.set_cons_succ]
        refine wpAnyH_take (i := 1) (oi := ?oi272) (v := ?v272) ?hi272 (by kernel_rfl) ?hf272 ?hr272 ?hQ272 (Or.inl ⟨?hw272, ?hy272⟩) (by assumption) ?rest272
        case hi272 => simp only [List.getElem?_toArray, List.getElem?_cons_succ, List.getElem?_cons_zero]; rfl
        case hf272 => kernel_rfl
        case hr272 => kernel_rfl
        case hw272 => rfl
        case hy272 => (intro w hSw; (try dsimp only at hSw); go_simp; all_goals (first | done | with_reducible rfl))
        case hQ272 => exact fun _ _ _ h => h
        simp only [Act.put, List.setIfInBounds_toArray, List.set_cons_zero, List.set_cons_succ]
        refine wpAnyH_take (i := 2) (oi := ?oi273) (v := ?v273) ?hi273 (by kernel_rfl) ?hf273 ?hr273 ?hQ273 (Or.inl ⟨?hw273, ?hy273⟩) (by assumption) ?rest273
        case hi273 => simp only [List.getElem?_toArray, List.getElem?_cons_succ, List.getElem?_cons_zero]; rfl
        case hf273 => kernel_rfl
        case hr273 => kernel_rfl
        case hw273 => rfl
        case hy273 => (intro w hSw; (try dsimp only at hSw); go_simp; all_goals (first | done | with_reducible rfl))
        case hQ273 => exact fun _ _ _ h => h
        simp only [Act.put, List.setIfInBounds_toArray, List.set_cons_zero, List.set_cons_succ]
        refine wpAnyH_take (i := 3) (oi := ?oi274) (v := ?v274) ?hi274 (by kernel_rfl) ?hf274 ?hr274 ?hQ274 (Or.inl ⟨?hw274, ?hy274⟩) (by assumption) ?rest274
        case hi274 => simp only [List.getElem?_toArray, List.getElem?_cons_succ, List.getElem?_cons_zero]; rfl
        case hf274 => kernel_rfl
        case hr274 => kernel_rfl
        case hw274 => rfl
        case hy274 => (intro w hSw; (try dsimp only at hSw); go_simp; all_goals (first | done | with_reducible rfl))
        case hQ274 => exact fun _ _ _ h => h
        simp only [Act.put, List.setIfInBounds_toArray, List.set_cons_zero, List.set_cons_succ]
        refine wpAnyH_ready (rs := [4, 8]) (by kernel_rfl) (by simp) ?_
        refine AllReadyH.cons (o := ?oi275) ?hi275 (fun K hK => ?stepA275) (AllReadyH.cons (o := ?oj275) ?hj275 (fun K hK => ?stepB275) AllReadyH.nil)
        case hi275 => simp only [List.getElem?_toArray, List.getElem?_cons_succ, List.getElem?_cons_zero]; rfl
        case hj275 => simp only [List.getElem?_toArray, List.getElem?_cons_succ, List.getElem?_cons_zero]; rfl
        all_goals rw [if_pos (by rfl)]
        all_goals go_simp
        · go_at_call 10
          refine (HT1.out _ HNd.out).mono ?_
          rintro e w40 ⟨rfl, hb⟩
          have HN5 := hid (HNd.out.trans (hb.mono HNd.out.size))
          clear hb
          refine hK.out _ _ (SF.out _ HN5.out) (fun hS => ?_)
          refine wpAnyH_take (i := 5) (oi := ?oi276) (v := ?v276) ?hi276 (by kernel_rfl) ?hf276 ?hr276 ?hQ276 (Or.inl ⟨?hw276, ?hy276⟩) (by assumption) ?rest276
          case hi276 => simp only [List.getElem?_toArray, List.getElem?_cons_succ, List.getElem?_cons_zero]; rfl
          case hf276 => kernel_rfl
          case hr276 => kernel_rfl
          case hw276 => rfl
          case hy276 => (intro w hSw; (try dsimp only at hSw); go_simp; all_goals (first | done | with_reducible rfl))
          case hQ276 => exact fun _ _ _ h => h
          simp only [Act.put, List.setIfInBounds_toArray, List.set_cons_zero, List.set_cons_succ]
          refine wpAnyH_take (i := 6) (oi := ?oi277) (v := ?v277) ?hi277 (by kernel_rfl) ?hf277 ?hr277 ?hQ277 (Or.inl ⟨?hw277, ?hy277⟩) (by assumption) ?rest277
          case hi277 => simp only [List.getElem?_toArray, List.getElem?_cons_succ, List.getElem?_cons_zero]; rfl
          case hf277 => kernel_rfl
          case hr277 => kernel_rfl
          case hw277 => rfl
          case hy277 => (intro w hSw; (try dsimp only at hSw); go_simp; all_goals (first | done | with_reducible rfl))
          case hQ277 => exact fun _ _ _ h => h
          simp only [Act.put, List.setIfInBounds_toArray, List.set_cons_zero, List.set_cons_succ]
          refine wpAnyH_take (i := 7) (oi := ?oi278) (v := ?v278) ?hi278 (by kernel_rfl) ?hf278 ?hr278 ?hQ278 (Or.inl ⟨?hw278, ?hy278⟩) (by assumption) ?rest278
          case hi278 => simp only [List.getElem?_toArray, List.getElem?_cons_succ, List.getElem?_cons_zero]; rfl
          case hf278 => kernel_rfl
          case hr278 => kernel_rfl
          case hw278 => rfl
          case hy278 => (intro w hSw; (try dsimp only at hSw); go_simp; all_goals (first | done | with_reducible rfl))
          case hQ278 => exact fun _ _ _ h => h
          simp only [Act.put, List.setIfInBounds_toArray, List.set_cons_zero, List.set_cons_succ]
          refine wpAnyH_ready (rs := [8]) (by kernel_rfl) (by simp) ?_
          refine AllReadyH.cons (o := ?oi279) ?hi279 (fun K hK => ?step279) AllReadyH.nil
          case hi279 => simp only [List.getElem?_toArray, List.getElem?_cons_succ, List.getElem?_cons_zero]; rfl
          rw [if_pos (by rfl)]
          go_simp
          have KN := hid (Blk.new w40 #[.string ⟨#[]⟩, .int .i64 0, .string ⟨#[]⟩, .int .i64 0] 27)
          have HN6 := hid (HN5.out.alloc HN5.out.size (.cells #[.string ⟨#[]⟩, .int .i64 0, .string ⟨#[]⟩, .int .i64 0] 27))
          refine hK.out _ _ (SF.out _ HN6.out) (fun hS => ?_)
          skip
          obtain ⟨z0, y0⟩ := KN.out.2 0 _ rfl
          obtain ⟨z1, y1⟩ := KN.out.2 1 _ rfl
          obtain ⟨z2, y2⟩ := KN.out.2 2 _ rfl
          obtain ⟨z3, y3⟩ := KN.out.2 3 _ rfl
          refine wpAnyH_ready (rs := [9]) (by kernel_rfl) (by simp) ?_
          refine AllReadyH.cons (o := ?oi280) ?hi280 (fun K hK => ?step280) AllReadyH.nil
          case hi280 => simp only [List.getElem?_toArray, List.getElem?_cons_succ, List.getElem?_cons_zero]; rfl
          rw [if_pos (by rfl)]
          go_simp
          have KE := hid (Blk.new w40 #[.string nm, .int .i64 q1, .string tx, .int .i64 sq] 27)
          have HE := hid (HN5.out.alloc HN5.out.size (.cells #[.string nm, .int .i64 q1, .string tx, .int .i64 sq] 27))
          refine hK.out _ _ (SF.out _ HE.out) (fun hS => ?_)
          refine wpAnyH_take (i := 10) (oi := ?oi281) (v := ?v281) ?hi281 (by kernel_rfl) ?hf281 ?hr281 ?hQ281 (Or.inl ⟨?hw281, ?hy281⟩) (by assumption) ?rest281
          case hi281 => simp only [List.getElem?_toArray, List.getElem?_cons_succ, List.getElem?_cons_zero]; rfl
          case hf281 => kernel_rfl
          case hr281 => kernel_rfl
          case hw281 => rfl
          case hy281 => (intro w hSw; (try dsimp only at hSw); go_simp; all_goals (first | done | with_reducible rfl))
          case hQ281 => exact fun _ _ _ h => h
          simp only [Act.put, List.setIfInBounds_toArray, List.set_cons_zero, List.set_cons_succ]
          refine wpAnyH_done (by kernel_rfl) ?_ _
          clear z0 y0 z1 y1 z2 y2 z3 y3
          go_wp2_with fail
          go_meet
          case rel => exact ⟨_, rfl, rfl, KE.out, HE.out⟩
        · have KN0 := hid (show Blk _ w8.heap.size [.string ⟨#[]⟩, .int .i64 0, .string ⟨#[]⟩, .int .i64 0] from Blk.new w8.drew #[.string ⟨#[]⟩, .int .i64 0, .string ⟨#[]⟩, .int .i64 0] 27)
          have HN0 := hid (HNd.out.alloc (Nat.le_refl _) (.cells #[.string ⟨#[]⟩, .int .i64 0, .string ⟨#[]⟩, .int .i64 0] 27))
          refine hK.out _ _ (SF.out _ HN0.out) (fun hS => ?_)
          refine wpAnyH_ready (rs := [4]) (by kernel_rfl) (by simp) ?_
          refine AllReadyH.cons (o := ?oi282) ?hi282 (fun K hK => ?step282) AllReadyH.nil
          case hi282 => simp only [List.getElem?_toArray, List.getElem?_cons_succ, List.getElem?_cons_zero]; rfl
          rw [if_pos (by rfl)]
          go_simp
          go_at_call 10
          refine (HT1.out _ HN0.out).mono ?_
          rintro e w40 ⟨rfl, hb⟩
          have HN5 := hid (HN0.out.trans (hb.mono HN0.out.size))
          have KN := hid (KN0.out.to hb)
          clear hb
          refine hK.out _ _ (SF.out _ HN5.out) (fun hS => ?_)
          refine wpAnyH_take (i := 5) (oi := ?oi283) (v := ?v283) ?hi283 (by kernel_rfl) ?hf283 ?hr283 ?hQ283 (Or.inl ⟨?hw283, ?hy283⟩) (by assumption) ?rest283
          case hi283 => simp only [List.getElem?_toArray, List.getElem?_cons_succ, List.getElem?_cons_zero]; rfl
          case hf283 => kernel_rfl
          case hr283 => kernel_rfl
          case hw283 => rfl
          case hy283 => (intro w hSw; (try dsimp only at hSw); go_simp; all_goals (first | done | with_reducible rfl))
          case hQ283 => exact fun _ _ _ h => h
          simp only [Act.put, List.setIfInBounds_toArray, List.set_cons_zero, List.set_cons_succ]
          refine wpAnyH_take (i := 6) (oi := ?oi284) (v := ?v284) ?hi284 (by kernel_rfl) ?hf284 ?hr284 ?hQ284 (Or.inl ⟨?hw284, ?hy284⟩) (by assumption) ?rest284
          case hi284 => simp only [List.getElem?_toArray, List.getElem?_cons_succ, List.getElem?_cons_zero]; rfl
          case hf284 => kernel_rfl
          case hr284 => kernel_rfl
          case hw284 => rfl
          case hy284 => (intro w hSw; (try dsimp only at hSw); go_simp; all_goals (first | done | with_reducible rfl))
          case hQ284 => exact fun _ _ _ h => h
          simp only [Act.put, List.setIfInBounds_toArray, List.set_cons_zero, List.set_cons_succ]
          refine wpAnyH_take (i := 7) (oi := ?oi285) (v := ?v285) ?hi285 (by kernel_rfl) ?hf285 ?hr285 ?hQ285 (Or.inl ⟨?hw285, ?hy285⟩) (by assumption) ?rest285
          case hi285 => simp only [List.getElem?_toArray, List.getElem?_cons_succ, List.getElem?_cons_zero]; rfl
          case hf285 => kernel_rfl
          case hr285 => kernel_rfl
          case hw285 => rfl
          case hy285 => (intro w hSw; (try dsimp only at hSw); go_simp; all_goals (first | done | with_reducible rfl))
          case hQ285 => exact fun _ _ _ h => h
          simp only [Act.put, List.setIfInBounds_toArray, List.set_cons_zero, List.set_cons_succ]
          obtain ⟨z0, y0⟩ := KN.out.2 0 _ rfl
          obtain ⟨z1, y1⟩ := KN.out.2 1 _ rfl
          obtain ⟨z2, y2⟩ := KN.out.2 2 _ rfl
          obtain ⟨z3, y3⟩ := KN.out.2 3 _ rfl
          refine wpAnyH_ready (rs := [9]) (by kernel_rfl) (by simp) ?_
          refine AllReadyH.cons (o := ?oi286) ?hi286 (fun K hK => ?step286) AllReadyH.nil
          case hi286 => simp only [List.getElem?_toArray, List.getElem?_cons_succ, List.getElem?_cons_zero]; rfl
          rw [if_pos (by rfl)]
          go_simp
          have KE := hid ((((KN.out.set 0 (.string nm)).set 1 (.int .i64 q1)).set 2 (.string tx)).set 3 (.int .i64 sq))
          have HE := hid ((((HN5.out.setCell (p := ⟨w8.heap.size, 0, none⟩) (Nat.le_refl _) (.string nm)).setCell (p := ⟨w8.heap.size, 1, none⟩) (Nat.le_refl _) (.int .i64 q1)).setCell (p := ⟨w8.heap.size, 2, none⟩) (Nat.le_refl _) (.string tx)).setCell (p := ⟨w8.heap.size, 3, none⟩) (Nat.le_refl _) (.int .i64 sq))
          refine hK.out _ _ (SF.out _ HE.out) (fun hS => ?_)
          refine wpAnyH_take (i := 10) (oi := ?oi287) (v := ?v287) ?hi287 (by kernel_rfl) ?hf287 ?hr287 ?hQ287 (Or.inl ⟨?hw287, ?hy287⟩) (by assumption) ?rest287
          case hi287 => simp only [List.getElem?_toArray, List.getElem?_cons_succ, List.getElem?_cons_zero]; rfl
          case hf287 => kernel_rfl
          case hr287 => kernel_rfl
          case hw287 => rfl
          case hy287 => (intro w hSw; (try dsimp only at hSw); go_simp; all_goals (first | done | with_reducible rfl))
          case hQ287 => exact fun _ _ _ h => h
          simp only [Act.put, List.setIfInBounds_toArray, List.set_cons_zero, List.set_cons_succ]
          refine wpAnyH_done (by kernel_rfl) ?_ _
          clear z0 y0 z1 y1 z2 y2 z3 y3
          go_wp2_with fail
          go_meet
          case rel => exact ⟨_, rfl, rfl, KE.out, HE.out⟩
      case rest =>
        obtain ⟨b10, rfl, rfl, hk10, hb⟩ := hcut
        rename World => w20
        clear r0 r1 r2 r3 o0 o1 o2 o3 p0 p1 p2 p3
        have KM := hid hk10
        have HW20 := hid (HW8.out.trans (hb.mono HW8.out.size))
        have HO20 := hid (HO8.out.trans (hb.mono HO8.out.size))
        have HE20 := hid (HE8.out.trans (hb.mono HE8.out.size))
        have HN20 := hid hb
        clear hb hk10
        go_wp2_with fail
        go_cut [12, 13] from 14 (fun sa sb wc => ∃ b : Nat, sa = .pointer (some ⟨b, 0, none⟩) ∧ sb = .bool true ∧ Blk wc b [.string nm, .int .i64 q2, .string tx, .int .i64 sq] ∧ Below w20.heap.size w20 wc)
        case first =>
          try clear CI2
          try clear CS2
          try clear CF
          try clear CV
          try clear CJ
          try clear FF
          try clear FI
          try clear HO8 HE8 KO KW
          try clear HO20 HE20
          try clear HB
          try clear hXX
          have KS := hid KM.out
          have SF := hid (fun (W : World) (hW : Below w20.heap.size w20 W) => (show W.cell? ⟨b10, 0, none⟩ = some (.string nm) ∧ W.cell? ⟨b10, 1, none⟩ = some (.int .i64 q1) ∧ W.cell? ⟨b10, 2, none⟩ = some (.string tx) ∧ W.cell? ⟨b10, 3, none⟩ = some (.int .i64 sq) from ⟨((KS.out.to hW).2 0 _ rfl).1, ((KS.out.to hW).2 1 _ rfl).1, ((KS.out.to hW).2 2 _ rfl).1, ((KS.out.to hW).2 3 _ rfl).1⟩))
          have HNd := hid ((Below.refl w20.heap.size w20).drew)
          refine wp_region_held_drew (S := fun w' : World => w'.cell? ⟨b10, 0, none⟩ = some (.string nm) ∧ w'.cell? ⟨b10, 1, none⟩ = some (.int .i64 q1) ∧ w'.cell? ⟨b10, 2, none⟩ = some (.string tx) ∧ w'.cell? ⟨b10, 3, none⟩ = some (.int .i64 sq)) (by kernel_rfl) (SF.out _ HNd.out) (fun hS => ?_)
          refine wpAnyH_take (i := 0) (oi := ?oi288) (v := ?v288) ?hi288 (by kernel_rfl) ?hf288 ?hr288 ?hQ288 (Or.inl ⟨?hw288, ?hy288⟩) (by assumption) ?rest288
          case hi288 => simp only [List.getElem?_toArray, List.getElem?_cons_succ, List.getElem?_cons_zero]; rfl
          case hf288 => kernel_rfl
          case hr288 => kernel_rfl
          case hw288 => rfl
          case hy288 => (intro w hSw; (try dsimp only at hSw); go_simp; all_goals (first | done | with_reducible rfl))
          case hQ288 => exact fun _ _ _ h => h
          simp only [Act.put, List.setIfInBounds_toArray, List.set_cons_zero, List.set_cons_succ]
          refine wpAnyH_take (i := 1) (oi := ?oi289) (v := ?v289) ?hi289 (by kernel_rfl) ?hf289 ?hr289 ?hQ289 (Or.inl ⟨?hw289, ?hy289⟩) (by assumption) ?rest289
          case hi289 => simp only [List.getElem?_toArray, List.getElem?_cons_succ, List.getElem?_cons_zero]; rfl
          case hf289 => kernel_rfl
          case hr289 => kernel_rfl
          case hw289 => rfl
          case hy289 => (intro w hSw; (try dsimp only at hSw); go_simp; all_goals (first | done | with_reducible rfl))
          case hQ289 => exact fun _ _ _ h => h
          simp only [Act.put, List.setIfInBounds_toArray, List.set_cons_zero, List.set_cons_succ]
          refine wpAnyH_take (i := 2) (oi := ?oi290) (v := ?v290) ?hi290 (by kernel_rfl) ?hf290 ?hr290 ?hQ290 (Or.inl ⟨?hw290, ?hy290⟩) (by assumption) ?rest290
          case hi290 => simp only [List.getElem?_toArray, List.getElem?_cons_succ, List.getElem?_cons_zero]; rfl
          case hf290 => kernel_rfl
          case hr290 => kernel_rfl
          case hw290 => rfl
          case hy290 => (intro w hSw; (try dsimp only at hSw); go_simp; all_goals (first | done | with_reducible rfl))
          case hQ290 => exact fun _ _ _ h => h
          simp only [Act.put, List.setIfInBounds_toArray, List.set_cons_zero, List.set_cons_succ]
          refine wpAnyH_take (i := 3) (oi := ?oi291) (v := ?v291) ?hi291 (by kernel_rfl) ?hf291 ?hr291 ?hQ291 (Or.inl ⟨?hw291, ?hy291⟩) (by assumption) ?rest291
          case hi291 => simp only [List.getElem?_toArray, List.getElem?_cons_succ, List.getElem?_cons_zero]; rfl
          case hf291 => kernel_rfl
          case hr291 => kernel_rfl
          case hw291 => rfl
          case hy291 => (intro w hSw; (try dsimp only at hSw); go_simp; all_goals (first | done | with_reducible rfl))
          case hQ291 => exact fun _ _ _ h => h
          simp only [Act.put, List.setIfInBounds_toArray, List.set_cons_zero, List.set_cons_succ]
          refine wpAnyH_ready (rs := [4, 8]) (by kernel_rfl) (by simp) ?_
          refine AllReadyH.cons (o := ?oi292) ?hi292 (fun K hK => ?stepA292) (AllReadyH.cons (o := ?oj292) ?hj292 (fun K hK => ?stepB292) AllReadyH.nil)
          case hi292 => simp only [List.getElem?_toArray, List.getElem?_cons_succ, List.getElem?_cons_zero]; rfl
          case hj292 => simp only [List.getElem?_toArray, List.getElem?_cons_succ, List.getElem?_cons_zero]; rfl
          all_goals rw [if_pos (by rfl)]
          all_goals go_simp
          · go_at_call 10
            refine ((fun W (hW : Below w20.heap.size w20 W) => HT2.out W (HW20.out.trans (hW.mono HW20.out.size))) _ HNd.out).mono ?_
            rintro e w40 ⟨rfl, hb⟩
            have HN5 := hid (HNd.out.trans (hb.mono HNd.out.size))
            clear hb
            refine hK.out _ _ (SF.out _ HN5.out) (fun hS => ?_)
            refine wpAnyH_take (i := 5) (oi := ?oi293) (v := ?v293) ?hi293 (by kernel_rfl) ?hf293 ?hr293 ?hQ293 (Or.inl ⟨?hw293, ?hy293⟩) (by assumption) ?rest293
            case hi293 => simp only [List.getElem?_toArray, List.getElem?_cons_succ, List.getElem?_cons_zero]; rfl
            case hf293 => kernel_rfl
            case hr293 => kernel_rfl
            case hw293 => rfl
            case hy293 => (intro w hSw; (try dsimp only at hSw); go_simp; all_goals (first | done | with_reducible rfl))
            case hQ293 => exact fun _ _ _ h => h
            simp only [Act.put, List.setIfInBounds_toArray, List.set_cons_zero, List.set_cons_succ]
            refine wpAnyH_take (i := 6) (oi := ?oi294) (v := ?v294) ?hi294 (by kernel_rfl) ?hf294 ?hr294 ?hQ294 (Or.inl ⟨?hw294, ?hy294⟩) (by assumption) ?rest294
            case hi294 => simp only [List.getElem?_toArray, List.getElem?_cons_succ, List.getElem?_cons_zero]; rfl
            case hf294 => kernel_rfl
            case hr294 => kernel_rfl
            case hw294 => rfl
            case hy294 => (intro w hSw; (try dsimp only at hSw); go_simp; all_goals (first | done | with_reducible rfl))
            case hQ294 => exact fun _ _ _ h => h
            simp only [Act.put, List.setIfInBounds_toArray, List.set_cons_zero, List.set_cons_succ]
            refine wpAnyH_take (i := 7) (oi := ?oi295) (v := ?v295) ?hi295 (by kernel_rfl) ?hf295 ?hr295 ?hQ295 (Or.inl ⟨?hw295, ?hy295⟩) (by assumption) ?rest295
            case hi295 => simp only [List.getElem?_toArray, List.getElem?_cons_succ, List.getElem?_cons_zero]; rfl
            case hf295 => kernel_rfl
            case hr295 => kernel_rfl
            case hw295 => rfl
            case hy295 => (intro w hSw; (try dsimp only at hSw); go_simp; all_goals (first | done | with_reducible rfl))
            case hQ295 => exact fun _ _ _ h => h
            simp only [Act.put, List.setIfInBounds_toArray, List.set_cons_zero, List.set_cons_succ]
            refine wpAnyH_ready (rs := [8]) (by kernel_rfl) (by simp) ?_
            refine AllReadyH.cons (o := ?oi296) ?hi296 (fun K hK => ?step296) AllReadyH.nil
            case hi296 => simp only [List.getElem?_toArray, List.getElem?_cons_succ, List.getElem?_cons_zero]; rfl
            rw [if_pos (by rfl)]
            go_simp
            have KN := hid (Blk.new w40 #[.string ⟨#[]⟩, .int .i64 0, .string ⟨#[]⟩, .int .i64 0] 27)
            have HN6 := hid (HN5.out.alloc HN5.out.size (.cells #[.string ⟨#[]⟩, .int .i64 0, .string ⟨#[]⟩, .int .i64 0] 27))
            refine hK.out _ _ (SF.out _ HN6.out) (fun hS => ?_)
            skip
            obtain ⟨z0, y0⟩ := KN.out.2 0 _ rfl
            obtain ⟨z1, y1⟩ := KN.out.2 1 _ rfl
            obtain ⟨z2, y2⟩ := KN.out.2 2 _ rfl
            obtain ⟨z3, y3⟩ := KN.out.2 3 _ rfl
            refine wpAnyH_ready (rs := [9]) (by kernel_rfl) (by simp) ?_
            refine AllReadyH.cons (o := ?oi297) ?hi297 (fun K hK => ?step297) AllReadyH.nil
            case hi297 => simp only [List.getElem?_toArray, List.getElem?_cons_succ, List.getElem?_cons_zero]; rfl
            rw [if_pos (by rfl)]
            go_simp
            have KE := hid (Blk.new w40 #[.string nm, .int .i64 q2, .string tx, .int .i64 sq] 27)
            have HE := hid (HN5.out.alloc HN5.out.size (.cells #[.string nm, .int .i64 q2, .string tx, .int .i64 sq] 27))
            refine hK.out _ _ (SF.out _ HE.out) (fun hS => ?_)
            refine wpAnyH_take (i := 10) (oi := ?oi298) (v := ?v298) ?hi298 (by kernel_rfl) ?hf298 ?hr298 ?hQ298 (Or.inl ⟨?hw298, ?hy298⟩) (by assumption) ?rest298
            case hi298 => simp only [List.getElem?_toArray, List.getElem?_cons_succ, List.getElem?_cons_zero]; rfl
            case hf298 => kernel_rfl
            case hr298 => kernel_rfl
            case hw298 => rfl
            case hy298 => (intro w hSw; (try dsimp only at hSw); go_simp; all_goals (first | done | with_reducible rfl))
            case hQ298 => exact fun _ _ _ h => h
            simp only [Act.put, List.setIfInBounds_toArray, List.set_cons_zero, List.set_cons_succ]
            refine wpAnyH_done (by kernel_rfl) ?_ _
            clear z0 y0 z1 y1 z2 y2 z3 y3
            go_wp2_with fail
            go_meet
            case rel => exact ⟨_, rfl, rfl, KE.out, HE.out⟩
          · have KN0 := hid (show Blk _ w20.heap.size [.string ⟨#[]⟩, .int .i64 0, .string ⟨#[]⟩, .int .i64 0] from Blk.new w20.drew #[.string ⟨#[]⟩, .int .i64 0, .string ⟨#[]⟩, .int .i64 0] 27)
            have HN0 := hid (HNd.out.alloc (Nat.le_refl _) (.cells #[.string ⟨#[]⟩, .int .i64 0, .string ⟨#[]⟩, .int .i64 0] 27))
            refine hK.out _ _ (SF.out _ HN0.out) (fun hS => ?_)
            refine wpAnyH_ready (rs := [4]) (by kernel_rfl) (by simp) ?_
            refine AllReadyH.cons (o := ?oi299) ?hi299 (fun K hK => ?step299) AllReadyH.nil
            case hi299 => simp only [List.getElem?_toArray, List.getElem?_cons_succ, List.getElem?_cons_zero]; rfl
            rw [if_pos (by rfl)]
            go_simp
            go_at_call 10
            refine ((fun W (hW : Below w20.heap.size w20 W) => HT2.out W (HW20.out.trans (hW.mono HW20.out.size))) _ HN0.out).mono ?_
            rintro e w40 ⟨rfl, hb⟩
            have HN5 := hid (HN0.out.trans (hb.mono HN0.out.size))
            have KN := hid (KN0.out.to hb)
            clear hb
            refine hK.out _ _ (SF.out _ HN5.out) (fun hS => ?_)
            refine wpAnyH_take (i := 5) (oi := ?oi300) (v := ?v300) ?hi300 (by kernel_rfl) ?hf300 ?hr300 ?hQ300 (Or.inl ⟨?hw300, ?hy300⟩) (by assumption) ?rest300
            case hi300 => simp only [List.getElem?_toArray, List.getElem?_cons_succ, List.getElem?_cons_zero]; rfl
            case hf300 => kernel_rfl
            case hr300 => kernel_rfl
            case hw300 => rfl
            case hy300 => (intro w hSw; (try dsimp only at hSw); go_simp; all_goals (first | done | with_reducible rfl))
            case hQ300 => exact fun _ _ _ h => h
            simp only [Act.put, List.setIfInBounds_toArray, List.set_cons_zero, List.set_cons_succ]
            refine wpAnyH_take (i := 6) (oi := ?oi301) (v := ?v301) ?hi301 (by kernel_rfl) ?hf301 ?hr301 ?hQ301 (Or.inl ⟨?hw301, ?hy301⟩) (by assumption) ?rest301
            case hi301 => simp only [List.getElem?_toArray, List.getElem?_cons_succ, List.getElem?_cons_zero]; rfl
            case hf301 => kernel_rfl
            case hr301 => kernel_rfl
            case hw301 => rfl
            case hy301 => (intro w hSw; (try dsimp only at hSw); go_simp; all_goals (first | done | with_reducible rfl))
            case hQ301 => exact fun _ _ _ h => h
            simp only [Act.put, List.setIfInBounds_toArray, List.set_cons_zero, List.set_cons_succ]
            refine wpAnyH_take (i := 7) (oi := ?oi302) (v := ?v302) ?hi302 (by kernel_rfl) ?hf302 ?hr302 ?hQ302 (Or.inl ⟨?hw302, ?hy302⟩) (by assumption) ?rest302
            case hi302 => simp only [List.getElem?_toArray, List.getElem?_cons_succ, List.getElem?_cons_zero]; rfl
            case hf302 => kernel_rfl
            case hr302 => kernel_rfl
            case hw302 => rfl
            case hy302 => (intro w hSw; (try dsimp only at hSw); go_simp; all_goals (first | done | with_reducible rfl))
            case hQ302 => exact fun _ _ _ h => h
            simp only [Act.put, List.setIfInBounds_toArray, List.set_cons_zero, List.set_cons_succ]
            obtain ⟨z0, y0⟩ := KN.out.2 0 _ rfl
            obtain ⟨z1, y1⟩ := KN.out.2 1 _ rfl
            obtain ⟨z2, y2⟩ := KN.out.2 2 _ rfl
            obtain ⟨z3, y3⟩ := KN.out.2 3 _ rfl
            refine wpAnyH_ready (rs := [9]) (by kernel_rfl) (by simp) ?_
            refine AllReadyH.cons (o := ?oi303) ?hi303 (fun K hK => ?step303) AllReadyH.nil
            case hi303 => simp only [List.getElem?_toArray, List.getElem?_cons_succ, List.getElem?_cons_zero]; rfl
            rw [if_pos (by rfl)]
            go_simp
            have KE := hid ((((KN.out.set 0 (.string nm)).set 1 (.int .i64 q2)).set 2 (.string tx)).set 3 (.int .i64 sq))
            have HE := hid ((((HN5.out.setCell (p := ⟨w20.heap.size, 0, none⟩) (Nat.le_refl _) (.string nm)).setCell (p := ⟨w20.heap.size, 1, none⟩) (Nat.le_refl _) (.int .i64 q2)).setCell (p := ⟨w20.heap.size, 2, none⟩) (Nat.le_refl _) (.string tx)).setCell (p := ⟨w20.heap.size, 3, none⟩) (Nat.le_refl _) (.int .i64 sq))
            refine hK.out _ _ (SF.out _ HE.out) (fun hS => ?_)
            refine wpAnyH_take (i := 10) (oi := ?oi304) (v := ?v304) ?hi304 (by kernel_rfl) ?hf304 ?hr304 ?hQ304 (Or.inl ⟨?hw304, ?hy304⟩) (by assumption) ?rest304
            case hi304 => simp only [List.getElem?_toArray, List.getElem?_cons_succ, List.getElem?_cons_zero]; rfl
            case hf304 => kernel_rfl
            case hr304 => kernel_rfl
            case hw304 => rfl
            case hy304 => (intro w hSw; (try dsimp only at hSw); go_simp; all_goals (first | done | with_reducible rfl))
            case hQ304 => exact fun _ _ _ h => h
            simp only [Act.put, List.setIfInBounds_toArray, List.set_cons_zero, List.set_cons_succ]
            refine wpAnyH_done (by kernel_rfl) ?_ _
            clear z0 y0 z1 y1 z2 y2 z3 y3
            go_wp2_with fail
            go_meet
            case rel => exact ⟨_, rfl, rfl, KE.out, HE.out⟩
        case rest =>
          obtain ⟨b12, rfl, rfl, hk12, hb⟩ := hcut
          rename World => w21
          have KN12 := hid hk12
          have HW21 := hid (HW20.out.trans (hb.mono HW20.out.size))
          have HO21 := hid (HO20.out.trans (hb.mono HO20.out.size))
          have HE21 := hid (HE20.out.trans (hb.mono HE20.out.size))
          clear hb hk12
          obtain ⟨⟨r0, _⟩, ⟨r1, _⟩, ⟨r2, _⟩, ⟨r3, _⟩⟩ := (And.intro ((KR.out.to HW21.out).2 0 _ rfl) (And.intro ((KR.out.to HW21.out).2 1 _ rfl) (And.intro ((KR.out.to HW21.out).2 2 _ rfl) ((KR.out.to HW21.out).2 3 _ rfl))))
          obtain ⟨⟨o0, _⟩, ⟨o1, _⟩, ⟨o2, _⟩, ⟨o3, _⟩⟩ := (And.intro ((KO.out.to HO21.out).2 0 _ rfl) (And.intro ((KO.out.to HO21.out).2 1 _ rfl) (And.intro ((KO.out.to HO21.out).2 2 _ rfl) ((KO.out.to HO21.out).2 3 _ rfl))))
          have s0 := (KN12.out.2 0 _ rfl).1
          have s1 := (KN12.out.2 1 _ rfl).1
          have s2 := (KN12.out.2 2 _ rfl).1
          have s3 := (KN12.out.2 3 _ rfl).1
          go_wp2_with fail
          go_ret
          exact ⟨ret_bool (by simp), HB.out.trans (HW21.out.mono HB.out.size)⟩
end Go.Proofs.Yteekkccgdkmjoaa
