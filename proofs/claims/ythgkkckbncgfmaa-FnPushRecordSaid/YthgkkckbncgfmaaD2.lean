/-
  DRAWS: records that may be invalid, lists of records. By gen_d2.py.
-/
import Derived.Test.YthgkkckbncgfmaaD1
namespace Go.Proofs.Ythgkkckbncgfmaa
open Go.RowKit Nm
set_option linter.unusedSimpArgs false
set_option linter.unusedVariables false

def texts2 : List (List UInt8) := [[65], [97, 32, 109, 117, 99, 104, 32, 108, 111, 110, 103, 101, 114, 32, 116, 101, 120, 116]]
set_option maxHeartbeats 4000000 in
set_option maxRecDepth 100000 in
theorem someRecord_c (R p : Nat) (w : World) (hr : Rdr w R p) (hp : p ≤ 800000) :
    Calls Try.prog 44 #[.pointer (some ⟨R, 0, none⟩)] w (RecPost R p 7 w) := by
  have hlt := hr.lt
  have K0 := hid (Blk.new w #[.string ByteArray.empty, .int .i64 0, .string ByteArray.empty, .int .i64 0] 33)
  have C := hid (aRecord_c R p _ (hr.below ((Below.refl _ _).alloc (Nat.le_refl _) (.cells #[.string ByteArray.empty, .int .i64 0, .string ByteArray.empty, .int .i64 0] 33))) (by omega))
  clear hr
  go_enter Try.func44, Try.ntmps44
  go_wp2_with fail
  refine C.out.mono ?_
  rintro e w1 ⟨nm, tx, lv, sq, p1, ⟨hnm, htx⟩, ⟨hl0, hl1⟩, ⟨hs0, hs1⟩, rfl, hp1, hr1, hg1⟩
  have hlt1 : w.heap.size < w1.heap.size := by have := hg1.size; simp at this; omega
  have G1 := grown_tr (World.grownBy_alloc w _ _) hg1
  have K1 := K0.out.kept hg1 (by simp; omega)
  have G2 := hid (grown_new G1 ((Below.refl w1.heap.size w1).alloc (Nat.le_refl _) (.cells #[.string nm, .int .i64 lv, .string tx, .int .i64 sq] 33)))
  have K2 := hid (K1.alloc (.cells #[.string nm, .int .i64 lv, .string tx, .int .i64 sq] 33))
  have B2 := hid (Blk.new w1 #[.string nm, .int .i64 lv, .string tx, .int .i64 sq] 33)
  have C2 := hid (pick_c R p1 40 _ (hr1.below ((Below.refl _ _).alloc (Nat.le_refl _) (.cells #[.string nm, .int .i64 lv, .string tx, .int .i64 sq] 33))) (by omega) (by omega))
  have hne : w1.heap.size ≠ w.heap.size := by omega
  have hRne : R ≠ w1.heap.size := by omega
  clear hr1 hg1 C G1 K1 K0
  go_wp2_with fail
  generalize hb1 : w1.heap.size = b1 at *
  refine C2.out.mono ?_
  rintro e w3 ⟨k, rfl, hk1, hk2, hr3, hg3⟩
  have hk : k < 40 := by have := hk1 (by omega); omega
  have G3 := hid (grown_tr G2.out hg3)
  have K3 := hid (K2.out.kept hg3 (by simp; omega))
  have B3 := hid (B2.out.kept hg3 (by simp; omega))
  have R3 := hid hr3
  have hb3 := B3.out.1
  clear hr3 hg3 C2 K2 B2 G2 hk1 hk2 hb1
  rcases (show k = 0 ∨ k = 1 ∨ k = 2 ∨ k = 3 ∨ 4 ≤ k by omega) with rfl | rfl | rfl | rfl | hk4
  · have C3 := hid (anyName_c R (p1 + 1) w3 R3.out (by omega))
    go_wp2_with fail
    refine C3.out.mono ?_
    rintro e w4 ⟨x, p4, hx, rfl, hp4, hr4, hg4⟩
    have G4 := hid (grown_tr G3.out hg4)
    have R4 := hid hr4
    have B4 := hid (B3.out.kept hg4 (by simp; omega))
    have K4 := hid (K3.out.kept hg4 (by simp; omega))
    clear hr4 hg4 C3 G3 R3 B3 K3
    have KB := B4.out
    have K0 := K4.out
    obtain ⟨k0, g0⟩ := KB.2 0 _ rfl
    obtain ⟨k1, g1⟩ := KB.2 1 _ rfl
    obtain ⟨k2, g2⟩ := KB.2 2 _ rfl
    obtain ⟨k3, g3⟩ := KB.2 3 _ rfl
    obtain ⟨l0, h0⟩ := K0.2 0 _ rfl
    obtain ⟨l1, h1⟩ := K0.2 1 _ rfl
    obtain ⟨l2, h2⟩ := K0.2 2 _ rfl
    obtain ⟨l3, h3⟩ := K0.2 3 _ rfl
    go_wp2_with fail
    have RB := (((((K0.apart ⟨b1, 0, none⟩ (.string x) (by exact hne)).set 0 (.string x)).set 1 (.int .i64 lv)).set 2 (.string tx)).set 3 (.int .i64 sq))
    have f0 := (RB.2 0 _ rfl).1
    have f1 := (RB.2 1 _ rfl).1
    have f2 := (RB.2 2 _ rfl).1
    have f3 := (RB.2 3 _ rfl).1
    refine bodyPost_ret (v := .agg #[.string x, .int .i64 lv, .string tx, .int .i64 sq]) (by simp [results, Try.results44, go_sem, f0, f1, f2, f3]) rfl ?_
    refine ⟨x, tx, lv, sq, p4, ⟨by omega, by omega⟩, ⟨by omega, by omega⟩, ⟨by omega, by omega⟩, rfl, by omega, (((((R4.out.set (b := b1) (by omega)).set hlt).set hlt).set hlt).set hlt), (grown_at (grown_at (grown_at (grown_at (grown_at (b := b1) G4.out (by omega)) (Nat.le_refl _)) (Nat.le_refl _)) (Nat.le_refl _)) (Nat.le_refl _))⟩
  · have C3 := hid (one_lit R (p1 + 1) 2 [0, 61] w3 R3.out (by omega) rfl (by omega) (by omega) 0 61 (by decide))
    go_wp2_with fail
    refine C3.out.mono ?_
    rintro e w4 ⟨x, hx, rfl, hr4, hg4⟩
    have G4 := hid (grown_tr G3.out hg4)
    have R4 := hid hr4
    have B4 := hid (B3.out.kept hg4 (by simp; omega))
    have K4 := hid (K3.out.kept hg4 (by simp; omega))
    clear hr4 hg4 C3 G3 R3 B3 K3
    have KB := B4.out
    have K0 := K4.out
    obtain ⟨k0, g0⟩ := KB.2 0 _ rfl
    obtain ⟨k1, g1⟩ := KB.2 1 _ rfl
    obtain ⟨k2, g2⟩ := KB.2 2 _ rfl
    obtain ⟨k3, g3⟩ := KB.2 3 _ rfl
    obtain ⟨l0, h0⟩ := K0.2 0 _ rfl
    obtain ⟨l1, h1⟩ := K0.2 1 _ rfl
    obtain ⟨l2, h2⟩ := K0.2 2 _ rfl
    obtain ⟨l3, h3⟩ := K0.2 3 _ rfl
    go_wp2_with fail
    have RB := (((((K0.apart ⟨b1, 1, none⟩ (.int .i64 x) (by exact hne)).set 0 (.string nm)).set 1 (.int .i64 x)).set 2 (.string tx)).set 3 (.int .i64 sq))
    have f0 := (RB.2 0 _ rfl).1
    have f1 := (RB.2 1 _ rfl).1
    have f2 := (RB.2 2 _ rfl).1
    have f3 := (RB.2 3 _ rfl).1
    refine bodyPost_ret (v := .agg #[.string nm, .int .i64 x, .string tx, .int .i64 sq]) (by simp [results, Try.results44, go_sem, f0, f1, f2, f3]) rfl ?_
    refine ⟨nm, tx, x, sq, p1 + 1 + 1, ⟨by omega, by omega⟩, ⟨by omega, by omega⟩, ⟨by omega, by omega⟩, rfl, by omega, (((((R4.out.set (b := b1) (by omega)).set hlt).set hlt).set hlt).set hlt), (grown_at (grown_at (grown_at (grown_at (grown_at (b := b1) G4.out (by omega)) (Nat.le_refl _)) (Nat.le_refl _)) (Nat.le_refl _)) (Nat.le_refl _))⟩
  · have C3 := hid (of_lit R (p1 + 1) 2 20 texts2 w3 R3.out (by omega) rfl (by omega) (by omega) (by decide))
    go_wp2_with fail
    refine C3.out.mono ?_
    rintro e w4 ⟨x, p4, hx, rfl, hp4, hr4, hg4⟩
    have G4 := hid (grown_tr G3.out hg4)
    have R4 := hid hr4
    have B4 := hid (B3.out.kept hg4 (by simp; omega))
    have K4 := hid (K3.out.kept hg4 (by simp; omega))
    clear hr4 hg4 C3 G3 R3 B3 K3
    have KB := B4.out
    have K0 := K4.out
    obtain ⟨k0, g0⟩ := KB.2 0 _ rfl
    obtain ⟨k1, g1⟩ := KB.2 1 _ rfl
    obtain ⟨k2, g2⟩ := KB.2 2 _ rfl
    obtain ⟨k3, g3⟩ := KB.2 3 _ rfl
    obtain ⟨l0, h0⟩ := K0.2 0 _ rfl
    obtain ⟨l1, h1⟩ := K0.2 1 _ rfl
    obtain ⟨l2, h2⟩ := K0.2 2 _ rfl
    obtain ⟨l3, h3⟩ := K0.2 3 _ rfl
    go_wp2_with fail
    have RB := (((((K0.apart ⟨b1, 2, none⟩ (.string x) (by exact hne)).set 0 (.string nm)).set 1 (.int .i64 lv)).set 2 (.string x)).set 3 (.int .i64 sq))
    have f0 := (RB.2 0 _ rfl).1
    have f1 := (RB.2 1 _ rfl).1
    have f2 := (RB.2 2 _ rfl).1
    have f3 := (RB.2 3 _ rfl).1
    refine bodyPost_ret (v := .agg #[.string nm, .int .i64 lv, .string x, .int .i64 sq]) (by simp [results, Try.results44, go_sem, f0, f1, f2, f3]) rfl ?_
    refine ⟨nm, x, lv, sq, p4, ⟨by omega, by omega⟩, ⟨by omega, by omega⟩, ⟨by omega, by omega⟩, rfl, by omega, (((((R4.out.set (b := b1) (by omega)).set hlt).set hlt).set hlt).set hlt), (grown_at (grown_at (grown_at (grown_at (grown_at (b := b1) G4.out (by omega)) (Nat.le_refl _)) (Nat.le_refl _)) (Nat.le_refl _)) (Nat.le_refl _))⟩
  · have C3 := hid (one_lit R (p1 + 1) 3 [-1, 1000, 999] w3 R3.out (by omega) rfl (by omega) (by omega) (-1) 1000 (by decide))
    go_wp2_with fail
    refine C3.out.mono ?_
    rintro e w4 ⟨x, hx, rfl, hr4, hg4⟩
    have G4 := hid (grown_tr G3.out hg4)
    have R4 := hid hr4
    have B4 := hid (B3.out.kept hg4 (by simp; omega))
    have K4 := hid (K3.out.kept hg4 (by simp; omega))
    clear hr4 hg4 C3 G3 R3 B3 K3
    have KB := B4.out
    have K0 := K4.out
    obtain ⟨k0, g0⟩ := KB.2 0 _ rfl
    obtain ⟨k1, g1⟩ := KB.2 1 _ rfl
    obtain ⟨k2, g2⟩ := KB.2 2 _ rfl
    obtain ⟨k3, g3⟩ := KB.2 3 _ rfl
    obtain ⟨l0, h0⟩ := K0.2 0 _ rfl
    obtain ⟨l1, h1⟩ := K0.2 1 _ rfl
    obtain ⟨l2, h2⟩ := K0.2 2 _ rfl
    obtain ⟨l3, h3⟩ := K0.2 3 _ rfl
    go_wp2_with fail
    have RB := (((((K0.apart ⟨b1, 3, none⟩ (.int .i64 x) (by exact hne)).set 0 (.string nm)).set 1 (.int .i64 lv)).set 2 (.string tx)).set 3 (.int .i64 x))
    have f0 := (RB.2 0 _ rfl).1
    have f1 := (RB.2 1 _ rfl).1
    have f2 := (RB.2 2 _ rfl).1
    have f3 := (RB.2 3 _ rfl).1
    refine bodyPost_ret (v := .agg #[.string nm, .int .i64 lv, .string tx, .int .i64 x]) (by simp [results, Try.results44, go_sem, f0, f1, f2, f3]) rfl ?_
    refine ⟨nm, tx, lv, x, p1 + 1 + 1, ⟨by omega, by omega⟩, ⟨by omega, by omega⟩, ⟨by omega, by omega⟩, rfl, by omega, (((((R4.out.set (b := b1) (by omega)).set hlt).set hlt).set hlt).set hlt), (grown_at (grown_at (grown_at (grown_at (grown_at (b := b1) G4.out (by omega)) (Nat.le_refl _)) (Nat.le_refl _)) (Nat.le_refl _)) (Nat.le_refl _))⟩
  · have q0 : ((k : Int) == 0) = false := by simp; omega
    have q1 : ((k : Int) == 1) = false := by simp; omega
    have q2 : ((k : Int) == 2) = false := by simp; omega
    have q3 : ((k : Int) == 3) = false := by simp; omega
    clear hk hk4
    have KB := B3.out
    have K0 := K3.out
    obtain ⟨k0, g0⟩ := KB.2 0 _ rfl
    obtain ⟨k1, g1⟩ := KB.2 1 _ rfl
    obtain ⟨k2, g2⟩ := KB.2 2 _ rfl
    obtain ⟨k3, g3⟩ := KB.2 3 _ rfl
    obtain ⟨l0, h0⟩ := K0.2 0 _ rfl
    obtain ⟨l1, h1⟩ := K0.2 1 _ rfl
    obtain ⟨l2, h2⟩ := K0.2 2 _ rfl
    obtain ⟨l3, h3⟩ := K0.2 3 _ rfl
    go_wp2_with fail
    have RB := ((((K0.set 0 (.string nm)).set 1 (.int .i64 lv)).set 2 (.string tx)).set 3 (.int .i64 sq))
    have f0 := (RB.2 0 _ rfl).1
    have f1 := (RB.2 1 _ rfl).1
    have f2 := (RB.2 2 _ rfl).1
    have f3 := (RB.2 3 _ rfl).1
    refine bodyPost_ret (v := .agg #[.string nm, .int .i64 lv, .string tx, .int .i64 sq]) (by simp [results, Try.results44, go_sem, f0, f1, f2, f3]) rfl ?_
    refine ⟨nm, tx, lv, sq, p1 + 1, ⟨by omega, by omega⟩, ⟨by omega, by omega⟩, ⟨by omega, by omega⟩, rfl, by omega, ((((R3.out.set hlt).set hlt).set hlt).set hlt), (grown_at (grown_at (grown_at (grown_at G3.out (Nat.le_refl _)) (Nat.le_refl _)) (Nat.le_refl _)) (Nat.le_refl _))⟩
end Go.Proofs.Ythgkkckbncgfmaa
