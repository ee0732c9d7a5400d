/-
  WALK: the law FnValidWarnings. By gen_dvw.py.
-/
import Derived.Test.YtaniaadmphojeaaDoorE42
namespace Go.Proofs.YtaniaadmphojeaaDoor
open Go.RowKit Go.Proofs.YtaniaadmphojeaaDoor.Nm
set_option linter.unusedSimpArgs false
set_option linter.unusedVariables false

set_option maxHeartbeats 8000000 in
set_option maxRecDepth 100000 in
theorem walk_FnValidWarnings (a0 : Option Addr) (len0 cap0 : Nat) (z0 : List Int) (w : World) (w0 : IsRow .u8 w a0 len0 cap0 z0) :
    Calls Tryd.prog 4 #[.slice a0 len0 cap0] w (BoolPost w true) := by
  have hb0 := w0.leW
  by_cases h1 : (1048576 : Int) < (len0 : Int)
  · go_enter Tryd.func4, Tryd.ntmps4
    go_wp2_with fail
    go_ret
    exact ⟨rfl, Below.refl _ _⟩
  have DR := hid (drawValidWarnings_c a0 len0 cap0 z0 w w0)
  clear w0
  go_enter Tryd.func4, Tryd.ntmps4
  go_wp2_with fail
  refine DR.out.mono ?_
  rintro e w1 ⟨v, l, n, rfl, ho, hb, hf, hln, hn⟩
  obtain ⟨A, c, rfl, hnc, hcm⟩ := (Sl.of_own ho).form
  unfold maxLen at hcm
  have SL := hid (show Wrns w1 w1.heap.size n (.slice A n c) l from ⟨Sl.of_own ho, fun x hx => by have h := hf x hx; unfold wncellsFit maxTxt; omega⟩)
  have HB := hid hb
  have HN := hid hln
  have C1 := hid (fun (W : World) (hW : Below w1.heap.size w1 W) => implValidWarnings_c (.slice A n c) n w1.heap.size l W (SL.out.below hW (Nat.le_refl _)) hW.size)
  have C2 := hid (fun (W : World) (hW : Below w1.heap.size w1 W) => specValidWarningsX_c (.slice A n c) n w1.heap.size l W (SL.out.below hW (Nat.le_refl _)) hW.size)
  have K1 := hid (fun (hq : wrnsOk l = true) (W : World) (hW : Below w1.heap.size w1 W) => (show Calls Tryd.prog 21 #[.slice A (n - 1) c] W (BoolPost W true) by
    have h9 := implValidWarnings_c (.slice A (n - 1) c) (n - 1) w1.heap.size (l.take (n - 1)) W ((SL.out.below hW (Nat.le_refl _)).take (by omega)) hW.size
    rwa [wrnsOk_take hq] at h9))
  have KI := hid (fun (a : Int) (W : World) (hW : Below w1.heap.size w1 W) => (show Calls Tryd.prog 12 #[.slice (some ⟨W.heap.size, 0, none⟩) 1 1, .slice A n c] (W.alloc (.cells #[.int .i64 a, .string ⟨#[]⟩, .string ⟨#[]⟩, .int .i64 0] 44)) (ShowPost (W.alloc (.cells #[.int .i64 a, .string ⟨#[]⟩, .string ⟨#[]⟩, .int .i64 0] 44)) (shX [allR a] l)) from by
    have hbx : Below W.heap.size W (W.alloc (.cells #[.int .i64 a, .string ⟨#[]⟩, .string ⟨#[]⟩, .int .i64 0] 44)) := (Below.refl _ _).alloc (Nat.le_refl _) _
    have hW2 := hW.trans (hbx.mono hW.size)
    have hw := SL.out.below hW2 (Nat.le_refl _)
    refine implShow_c (B := (W.alloc (.cells #[.int .i64 a, .string ⟨#[]⟩, .string ⟨#[]⟩, .int .i64 0] 44)).heap.size) (rulLit_in W a) ?_ (Nat.le_refl _)
    refine ⟨?_, by rw [HN.out]; unfold maxTxt; omega⟩
    have h9 := hw.more hW2.size
    rw [HN.out]; exact h9))
  have X0 := hid (fun (hq : wrnsOk l = true) => shX_ign hq)
  have X1 := hid (fun (hq : wrnsOk l = true) => (shX_alw hq).imp id (fun h => h.trans HN.out))
  generalize wrnsOk l = q at *
  clear ho hb hf hln DR
  go_wp2_with fail
  refine (C1.out _ (Below.refl _ _)).mono ?_
  rintro e w2 ⟨rfl, hb⟩
  have H2 := hid hb
  have b0 : (q != q) = false := by simp
  have b1 : (q == q) = true := by simp
  clear hb
  go_wp2_with fail
  refine (C2.out _ H2.out).mono ?_
  rintro e w3 ⟨rfl, hb⟩
  have H3 := hid (H2.out.trans (hb.mono H2.out.size))
  clear hb H2
  cases q with
  | false =>
    go_wp2_with fail
    refine (C2.out _ H3.out).mono ?_
    rintro e w4 ⟨rfl, hb⟩
    have H4 := hid (HB.out.trans ((H3.out.trans (hb.mono H3.out.size)).mono HB.out.size))
    clear hb
    go_wp2_with fail
    go_ret
    exact ⟨rfl, H4.out⟩
  | true =>
    replace K1 := hid (K1.out (by trivial))
    have I0 := hid (KI.out 0 _ H3.out)
    rw [X0.out rfl] at I0
    have H4 := hid (H3.out.alloc H3.out.size (.cells #[.int .i64 0, .string ⟨#[]⟩, .string ⟨#[]⟩, .int .i64 0] 44))
    clear X0
    go_wp2_with fail
    refine I0.out.mono ?_
    rintro e w5 ⟨u, rs0, rfl, hs, hr, hb⟩
    obtain ⟨A5, n5, c5, rfl⟩ := hs.form hr
    obtain rfl : n5 = 0 := hs.count hr
    have H5 := hid (H4.out.trans (hb.mono H4.out.size))
    clear hs hr hb I0 H4
    obtain ⟨hx1, hx2⟩ := X1.out (by trivial)
    have I1 := hid (KI.out 1 _ H5.out)
    generalize shX [allR 1] l = X at *
    obtain ⟨Xa, Xb⟩ := X
    obtain rfl : Xb = false := hx1
    replace hx2 := hid (show Xa.length = n from hx2)
    have H6 := hid (H5.out.alloc H5.out.size (.cells #[.int .i64 1, .string ⟨#[]⟩, .string ⟨#[]⟩, .int .i64 0] 44))
    clear X1 KI
    go_wp2_with fail
    refine I1.out.mono ?_
    rintro e w7 ⟨u, rs0, rfl, hs, hr, hb⟩
    obtain ⟨A7, n7, c7, rfl⟩ := hs.form hr
    obtain rfl : n7 = n := (hs.count hr).trans hx2.out
    have H7 := hid (H6.out.trans (hb.mono H6.out.size))
    clear hs hr hb I1 H6
    have b2 : ((n7 : Int) == (n7 : Int)) = true := by simp
    rcases Nat.eq_zero_or_pos n7 with hz | hz
    · subst hz
      go_wp2_with fail
      go_ret
      exact ⟨rfl, HB.out.trans (H7.out.mono HB.out.size)⟩
    · have q0 : ((n7 : Int) == 0) = false := by simp; omega
      have q1 : IntKind.i64.wrap ((n7 : Int) - 1) = (n7 : Int) - 1 := by rw [IntKind.wrap_i64]; omega
      have q2 : (0 : Int) ≤ (n7 : Int) - 1 := by omega
      have q3 : ((n7 : Int) - 1).toNat = n7 - 1 := by omega
      have q4 : (n7 : Int) - 1 ≤ (c : Int) := by omega
      go_wp2_with fail
      refine (K1.out _ H7.out).mono ?_
      rintro e w8 ⟨rfl, hb⟩
      have H8 := hid (H7.out.trans (hb.mono H7.out.size))
      clear hb
      go_wp2_with fail
      go_ret
      exact ⟨rfl, HB.out.trans (H8.out.mono HB.out.size)⟩
end Go.Proofs.YtaniaadmphojeaaDoor
