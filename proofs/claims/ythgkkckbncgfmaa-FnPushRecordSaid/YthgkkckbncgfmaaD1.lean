/-
  DRAWS: texts, records.
-/
import Derived.Test.YthgkkckbncgfmaaD0
import Derived.Test.YthgkkckbncgfmaaKRecs
namespace Go.Proofs.Ythgkkckbncgfmaa
open Go.RowKit Nm
set_option linter.unusedSimpArgs false
set_option linter.unusedVariables false

def texts7 : List (List UInt8) := [[120], [110, 111], [120, 32, 121], [], [97, 108, 108, 32, 105, 115, 32, 119, 101, 108, 108], [110, 111, 32, 120], [103, 111, 32, 111, 110]]
set_option maxHeartbeats 1000000 in
set_option maxRecDepth 100000 in
theorem aText_c (R p : Nat) (w : World) (hr : Rdr w R p) (hp : p ≤ 1000000) :
    Calls Try.prog 67 #[.pointer (some ⟨R, 0, none⟩)] w (TxtPost R p 1 20 w) := by
  have C := hid (of_lit R p 7 20 texts7 w hr hp rfl (by omega) (by omega) (by decide))
  clear hr
  go_enter Try.func67, Try.ntmps67
  go_wp2_with fail
  refine C.out.mono ?_
  rintro e w1 ⟨x, p1, h1, rfl, h2, h3, h4⟩
  have H := hid (And.intro h3 h4)
  clear h3 h4
  go_wp2_with fail
  go_ret
  exact ⟨x, p1, h1, rfl, h2, H.out.1, H.out.2⟩

/-- a drawn record -/
def RecPost (R p dp : Nat) (w : World) (e : Ending) (w' : World) : Prop :=
  ∃ (nm tx : ByteArray) (lv sq : Int) (p' : Nat), (nm.size ≤ 20 ∧ tx.size ≤ 20) ∧ (-1000 ≤ lv ∧ lv ≤ 1000) ∧ (-1000 ≤ sq ∧ sq ≤ 1000) ∧ e = .returned (.agg #[.string nm, .int .i64 lv, .string tx, .int .i64 sq]) ∧ p' ≤ p + dp ∧ Rdr w' R p' ∧ w.grownBy w' (some R)

set_option maxHeartbeats 2000000 in
set_option maxRecDepth 100000 in
theorem aRecord_c (R p : Nat) (w : World) (hr : Rdr w R p) (hp : p ≤ 900000) :
    Calls Try.prog 57 #[.pointer (some ⟨R, 0, none⟩)] w (RecPost R p 4 w) := by
  have hlt := hr.lt
  have K0 := hid (Blk.new w #[.string ByteArray.empty, .int .i64 0, .string ByteArray.empty, .int .i64 0] 33)
  have C := hid (aName_c R p _ (hr.below ((Below.refl _ _).alloc (Nat.le_refl _) (.cells #[.string ByteArray.empty, .int .i64 0, .string ByteArray.empty, .int .i64 0] 33))) (by omega))
  clear hr
  go_enter Try.func57, Try.ntmps57
  go_wp2_with fail
  refine C.out.mono ?_
  rintro e w1 ⟨nm, p1, hnm, rfl, hp1, hr1, hg1⟩
  have G1 := hid (grown_tr (World.grownBy_alloc w _ _) hg1)
  have K1 := hid (K0.out.kept hg1 (by simp; omega))
  have C2 := hid (one_lit R p1 8 [20, 30, 10, 40, 50, 15, 1, 60] w1 hr1 (by omega) rfl (by omega) (by omega) 0 60 (by decide))
  clear hr1 hg1 C
  go_wp2_with fail
  refine C2.out.mono ?_
  rintro e w2 ⟨lv, hlv, rfl, hr2, hg2⟩
  have G2 := hid (grown_tr G1.out hg2)
  have K2 := hid (K1.out.kept hg2 (by simp; omega))
  have C3 := hid (aText_c R (p1 + 1) w2 hr2 (by omega))
  clear hr2 hg2 C2 K0 K1 G1
  go_wp2_with fail
  refine C3.out.mono ?_
  rintro e w3 ⟨tx, p3, htx, rfl, hp3, hr3, hg3⟩
  have G3 := hid (grown_tr G2.out hg3)
  have K3 := hid (K2.out.kept hg3 (by simp; omega))
  have C4 := hid (pick_c R p3 10 w3 hr3 (by omega) (by omega))
  clear hr3 hg3 C3 K2 G2
  go_wp2_with fail
  refine C4.out.mono ?_
  rintro e w4 ⟨k, rfl, hk1, hk2, hr4, hg4⟩
  have hk : (k : Int) < 10 := hk1 (by omega)
  have G4 := hid (grown_tr G3.out hg4)
  have K4 := K3.out.kept hg4 (by simp; omega)
  have R4 := hid hr4
  obtain ⟨k0, g0⟩ := K4.2 0 _ rfl
  obtain ⟨k1, g1⟩ := K4.2 1 _ rfl
  obtain ⟨k2, g2⟩ := K4.2 2 _ rfl
  obtain ⟨k3, g3⟩ := K4.2 3 _ rfl
  clear hr4 hg4 C4 K3 G3 hk1 hk2
  go_wp2_with fail
  have RB := (((K4.set 0 (.string nm)).set 1 (.int .i64 lv)).set 2 (.string tx)).set 3 (.int .i64 (k : Int))
  have f0 := (RB.2 0 _ rfl).1
  have f1 := (RB.2 1 _ rfl).1
  have f2 := (RB.2 2 _ rfl).1
  have f3 := (RB.2 3 _ rfl).1
  refine bodyPost_ret (v := .agg #[.string nm, .int .i64 lv, .string tx, .int .i64 (k : Int)]) (by simp [results, Try.results57, go_sem, f0, f1, f2, f3]) rfl ?_
  refine ⟨nm, tx, lv, k, p3 + 1, ⟨by omega, htx⟩, by omega, by omega, rfl, by omega, ?_, ?_⟩
  · exact (((R4.out.set hlt).set hlt).set hlt).set hlt
  · exact grown_at (grown_at (grown_at (grown_at G4.out (Nat.le_refl _)) (Nat.le_refl _)) (Nat.le_refl _)) (Nat.le_refl _)
end Go.Proofs.Ythgkkckbncgfmaa
