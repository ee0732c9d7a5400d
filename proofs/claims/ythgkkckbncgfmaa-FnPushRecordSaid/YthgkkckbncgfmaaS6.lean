/-
  STORES: PushRecord of the model. By gen_s6.py.
-/
import Derived.Test.YthgkkckbncgfmaaS5
namespace Go.Proofs.Ythgkkckbncgfmaa
open Go.RowKit Nm
set_option linter.unusedSimpArgs false
set_option linter.unusedVariables false

def pushOk (d : Buf) (r : Rec) : Bool := bufOk d && recOk r
def pushXB (d : Buf) (r : Rec) : Buf := if pushOk d r then pushB d r else ⟨0, 0, []⟩
def pushXR (d : Buf) (r : Rec) : List Rec := if pushOk d r then pushR d r else []
theorem push_none {w w2 : World} {e : Ending} (he : e = .returned (.tuple #[.agg #[.int .i64 0, .int .i64 0, .slice none 0 0], .slice none 0 0, .bool false])) (hb : Below w.heap.size w w2) : PushPost w ⟨0, 0, []⟩ [] false e w2 :=
  ⟨_, _, _, _, he, ⟨_, rfl, rfl⟩, rfl, Rows.cons_nil (Rows.one (World.ownsRow_nil _ _ _ _)), hb⟩
theorem bufOk_len {d : Buf} (h : bufOk d = true) : d.rc.length ≤ 12 ∧ (d.rc.length : Int) < d.rm := by
  unfold bufOk at h
  simp only [Bool.and_eq_true, decide_eq_true_eq] at h
  have := h.1.2; have := h.2.2.2.1
  omega

set_option maxHeartbeats 8000000 in
set_option maxRecDepth 100000 in
theorem specPushRecord_c {w : World} {B : Nat} {v : Value} {d : Buf} (nm tx : ByteArray) (rl sq : Int) (h : BufIn w B v d) (hB : B ≤ w.heap.size) (h1 : nm.size ≤ maxTxt) (h2 : tx.size ≤ maxTxt) :
    Calls Try.prog 33 #[v, .agg #[.string nm, .int .i64 rl, .string tx, .int .i64 sq]] w (PushPost w (pushXB d (⟨nm.data.toList, rl, tx.data.toList, sq⟩ : Rec)) (pushXR d (⟨nm.data.toList, rl, tx.data.toList, sq⟩ : Rec)) (pushOk d (⟨nm.data.toList, rl, tx.data.toList, sq⟩ : Rec))) := by
  obtain ⟨A, n, c, e⟩ := h.form
  have C1 := hid (fun (w1 : World) (hb : Below w.heap.size w w1) => specValidBuffer0_c (h.below hb hB) (Nat.le_trans hB hb.size))
  have C3 := hid (fun (W : World) => specValidRecord_c nm tx rl sq W h1 h2)
  have C4 := hid (fun (w1 : World) (hb : Below w.heap.size w w1) => specPush_c nm tx rl sq (h.below hb hB) (Nat.le_trans hB hb.size))
  clear h
  generalize hX0 : pushXB d (⟨nm.data.toList, rl, tx.data.toList, sq⟩ : Rec) = X0
  generalize hX1 : pushXR d (⟨nm.data.toList, rl, tx.data.toList, sq⟩ : Rec) = X1
  generalize hX2 : pushOk d (⟨nm.data.toList, rl, tx.data.toList, sq⟩ : Rec) = X2
  unfold pushXB at hX0
  unfold pushXR at hX1
  unfold pushOk at hX0 hX1 hX2
  generalize bufOk d = z at C1 hX0 hX1 hX2
  generalize recOk (⟨nm.data.toList, rl, tx.data.toList, sq⟩ : Rec) = y at C3 hX0 hX1 hX2
  generalize pushB d (⟨nm.data.toList, rl, tx.data.toList, sq⟩ : Rec) = P0 at C4 hX0
  generalize pushR d (⟨nm.data.toList, rl, tx.data.toList, sq⟩ : Rec) = P1 at C4 hX1
  obtain ⟨rm, lv, rc⟩ := d
  subst e
  have KB := hid (((Blk.new w #[.int .i64 rm, .int .i64 lv, .slice A n c] 39).alloc (.cells #[.string nm, .int .i64 rl, .string tx, .int .i64 sq] 33)).alloc (.cells #[.int .i64 0, .int .i64 0, .slice none 0 0] 39))
  have KR := hid ((Blk.new (w.alloc (.cells #[.int .i64 rm, .int .i64 lv, .slice A n c] 39)) #[.string nm, .int .i64 rl, .string tx, .int .i64 sq] 33).alloc (.cells #[.int .i64 0, .int .i64 0, .slice none 0 0] 39))
  have KO := hid (Blk.new ((w.alloc (.cells #[.int .i64 rm, .int .i64 lv, .slice A n c] 39)).alloc (.cells #[.string nm, .int .i64 rl, .string tx, .int .i64 sq] 33)) #[.int .i64 0, .int .i64 0, .slice none 0 0] 39)
  simp only [World.size_alloc] at KR KO
  have HB := hid (show Below w.heap.size w (((w.alloc (.cells #[.int .i64 rm, .int .i64 lv, .slice A n c] 39)).alloc (.cells #[.string nm, .int .i64 rl, .string tx, .int .i64 sq] 33)).alloc (.cells #[.int .i64 0, .int .i64 0, .slice none 0 0] 39)) from (((Below.refl _ _).alloc (Nat.le_refl _) _).alloc (by simp) _).alloc (by simp; omega) _)
  cases z with
  | false =>
    have E0 := hid (show X0 = ⟨0, 0, []⟩ from hX0.symm)
    have E1 := hid (show X1 = [] from hX1.symm)
    have E2 := hid (show X2 = false from hX2.symm)
    clear hX0 hX1 hX2
    go_enter Try.func33, Try.ntmps33
    go_wp2_with fail
    refine (C1.out _ HB.out).mono ?_
    rintro e w1 ⟨rfl, hb1⟩
    replace KB := hid (KB.out.to hb1)
    replace KR := hid (KR.out.to hb1)
    replace KO := hid (KO.out.to hb1)
    replace HB := hid (HB.out.trans (hb1.mono HB.out.size))
    clear hb1
    have d0 := (KB.out.2 0 _ rfl).1
    have d1 := (KB.out.2 1 _ rfl).1
    have d2 := (KB.out.2 2 _ rfl).1
    have r0 := (KR.out.2 0 _ rfl).1
    have r1 := (KR.out.2 1 _ rfl).1
    have r2 := (KR.out.2 2 _ rfl).1
    have r3 := (KR.out.2 3 _ rfl).1
    obtain ⟨q0c, q0f⟩ := KO.out.2 0 _ rfl
    obtain ⟨q1c, q1f⟩ := KO.out.2 1 _ rfl
    obtain ⟨q2c, q2f⟩ := KO.out.2 2 _ rfl
    go_wp2_with fail
    have RB := (((KO.out.set 0 (.int .i64 0)).set 1 (.int .i64 0)).set 2 (.slice none 0 0))
    have f0 := (RB.2 0 _ rfl).1
    have f1 := (RB.2 1 _ rfl).1
    have f2 := (RB.2 2 _ rfl).1
    refine bodyPost_ret (v := .tuple #[.agg #[.int .i64 0, .int .i64 0, .slice none 0 0], .slice none 0 0, .bool false]) (by simp [results, Try.results33, go_sem, f0, f1, f2]) rfl ?_
    rw [E0.out, E1.out, E2.out]
    refine push_none rfl ?_
    iterate 3 refine Below.setCell ?_ (by simp <;> omega) _
    exact HB.out
  | true =>
    cases y with
    | false =>
      have E0 := hid (show X0 = ⟨0, 0, []⟩ from hX0.symm)
      have E1 := hid (show X1 = [] from hX1.symm)
      have E2 := hid (show X2 = false from hX2.symm)
      clear hX0 hX1 hX2
      go_enter Try.func33, Try.ntmps33
      go_wp2_with fail
      refine (C1.out _ HB.out).mono ?_
      rintro e w1 ⟨rfl, hb1⟩
      replace KB := hid (KB.out.to hb1)
      replace KR := hid (KR.out.to hb1)
      replace KO := hid (KO.out.to hb1)
      replace HB := hid (HB.out.trans (hb1.mono HB.out.size))
      clear hb1
      have d0 := (KB.out.2 0 _ rfl).1
      have d1 := (KB.out.2 1 _ rfl).1
      have d2 := (KB.out.2 2 _ rfl).1
      have r0 := (KR.out.2 0 _ rfl).1
      have r1 := (KR.out.2 1 _ rfl).1
      have r2 := (KR.out.2 2 _ rfl).1
      have r3 := (KR.out.2 3 _ rfl).1
      obtain ⟨q0c, q0f⟩ := KO.out.2 0 _ rfl
      obtain ⟨q1c, q1f⟩ := KO.out.2 1 _ rfl
      obtain ⟨q2c, q2f⟩ := KO.out.2 2 _ rfl
      go_wp2_with fail
      refine (C3.out _).mono ?_
      rintro e w2 ⟨rfl, hb2⟩
      replace KB := hid (KB.out.to hb2)
      replace KR := hid (KR.out.to hb2)
      replace KO := hid (KO.out.to hb2)
      replace HB := hid (HB.out.trans (hb2.mono HB.out.size))
      clear hb2
      clear d0 d1 d2 r0 r1 r2 r3 q0c q0f q1c q1f q2c q2f
      have d0 := (KB.out.2 0 _ rfl).1
      have d1 := (KB.out.2 1 _ rfl).1
      have d2 := (KB.out.2 2 _ rfl).1
      have r0 := (KR.out.2 0 _ rfl).1
      have r1 := (KR.out.2 1 _ rfl).1
      have r2 := (KR.out.2 2 _ rfl).1
      have r3 := (KR.out.2 3 _ rfl).1
      obtain ⟨q0c, q0f⟩ := KO.out.2 0 _ rfl
      obtain ⟨q1c, q1f⟩ := KO.out.2 1 _ rfl
      obtain ⟨q2c, q2f⟩ := KO.out.2 2 _ rfl
      go_wp2_with fail
      have RB := (((KO.out.set 0 (.int .i64 0)).set 1 (.int .i64 0)).set 2 (.slice none 0 0))
      have f0 := (RB.2 0 _ rfl).1
      have f1 := (RB.2 1 _ rfl).1
      have f2 := (RB.2 2 _ rfl).1
      refine bodyPost_ret (v := .tuple #[.agg #[.int .i64 0, .int .i64 0, .slice none 0 0], .slice none 0 0, .bool false]) (by simp [results, Try.results33, go_sem, f0, f1, f2]) rfl ?_
      rw [E0.out, E1.out, E2.out]
      refine push_none rfl ?_
      iterate 3 refine Below.setCell ?_ (by simp <;> omega) _
      exact HB.out
    | true =>
      have E0 := hid (show X0 = P0 from hX0.symm)
      have E1 := hid (show X1 = P1 from hX1.symm)
      have E2 := hid (show X2 = true from hX2.symm)
      clear hX0 hX1 hX2
      go_enter Try.func33, Try.ntmps33
      go_wp2_with fail
      refine (C1.out _ HB.out).mono ?_
      rintro e w1 ⟨rfl, hb1⟩
      replace KB := hid (KB.out.to hb1)
      replace KR := hid (KR.out.to hb1)
      replace KO := hid (KO.out.to hb1)
      replace HB := hid (HB.out.trans (hb1.mono HB.out.size))
      clear hb1
      have d0 := (KB.out.2 0 _ rfl).1
      have d1 := (KB.out.2 1 _ rfl).1
      have d2 := (KB.out.2 2 _ rfl).1
      have r0 := (KR.out.2 0 _ rfl).1
      have r1 := (KR.out.2 1 _ rfl).1
      have r2 := (KR.out.2 2 _ rfl).1
      have r3 := (KR.out.2 3 _ rfl).1
      obtain ⟨q0c, q0f⟩ := KO.out.2 0 _ rfl
      obtain ⟨q1c, q1f⟩ := KO.out.2 1 _ rfl
      obtain ⟨q2c, q2f⟩ := KO.out.2 2 _ rfl
      go_wp2_with fail
      refine (C3.out _).mono ?_
      rintro e w2 ⟨rfl, hb2⟩
      replace KB := hid (KB.out.to hb2)
      replace KR := hid (KR.out.to hb2)
      replace KO := hid (KO.out.to hb2)
      replace HB := hid (HB.out.trans (hb2.mono HB.out.size))
      clear hb2
      clear d0 d1 d2 r0 r1 r2 r3 q0c q0f q1c q1f q2c q2f
      have d0 := (KB.out.2 0 _ rfl).1
      have d1 := (KB.out.2 1 _ rfl).1
      have d2 := (KB.out.2 2 _ rfl).1
      have r0 := (KR.out.2 0 _ rfl).1
      have r1 := (KR.out.2 1 _ rfl).1
      have r2 := (KR.out.2 2 _ rfl).1
      have r3 := (KR.out.2 3 _ rfl).1
      obtain ⟨q0c, q0f⟩ := KO.out.2 0 _ rfl
      obtain ⟨q1c, q1f⟩ := KO.out.2 1 _ rfl
      obtain ⟨q2c, q2f⟩ := KO.out.2 2 _ rfl
      go_wp2_with fail
      have HS := hid (show w.heap.size + 2 < w2.heap.size by have := KO.out.1; omega)
      refine (C4.out _ HB.out).mono ?_
      rintro e w3 ⟨u0, rs0, u1, rs1, rfl, hs0, hs1, hr, hb3⟩
      obtain ⟨A0, n0, c0, rfl⟩ := hs0.form hr.left
      obtain ⟨A1, n1, c1, rfl⟩ := hs1.form hr.right
      replace KB := hid (KB.out.to hb3)
      replace KR := hid (KR.out.to hb3)
      replace KO := hid (KO.out.to hb3)
      replace KO := hid (KO.out.alloc (.cells #[.int .i64 P0.rm, .int .i64 P0.lv, .slice A0 n0 c0] 39))
      replace HB := hid ((HB.out.trans (hb3.mono HB.out.size)).alloc (HB.out.trans (hb3.mono HB.out.size)).size (.cells #[.int .i64 P0.rm, .int .i64 P0.lv, .slice A0 n0 c0] 39))
      have HR := hid (hr.below ((Below.refl _ _).alloc (Nat.le_refl _) (.cells #[.int .i64 P0.rm, .int .i64 P0.lv, .slice A0 n0 c0] 39)))
      have HS0 := hid hs0
      have HS1 := hid hs1
      clear hb3 hr hs0 hs1
      clear d0 d1 d2 r0 r1 r2 r3 q0c q0f q1c q1f q2c q2f
      obtain ⟨q0c, q0f⟩ := KO.out.2 0 _ rfl
      obtain ⟨q1c, q1f⟩ := KO.out.2 1 _ rfl
      obtain ⟨q2c, q2f⟩ := KO.out.2 2 _ rfl
      go_wp2_with fail
      have RB := (((KO.out.set 0 (.int .i64 P0.rm)).set 1 (.int .i64 P0.lv)).set 2 (.slice A0 n0 c0))
      have f0 := (RB.2 0 _ rfl).1
      have f1 := (RB.2 1 _ rfl).1
      have f2 := (RB.2 2 _ rfl).1
      refine bodyPost_ret (v := .tuple #[.agg #[.int .i64 P0.rm, .int .i64 P0.lv, .slice A0 n0 c0], .slice A1 n1 c1, .bool true]) (by simp [results, Try.results33, go_sem, f0, f1, f2]) rfl ?_
      rw [E0.out, E1.out, E2.out]
      have hs := HS.out
      refine ⟨_, _, _, _, rfl, HS0.out, HS1.out, Rows.base (lo := w2.heap.size) ?_ (by omega), ?_⟩
      · iterate 3 refine Rows.low ?_ (by omega)
        exact HR.out
      · iterate 3 refine Below.setCell ?_ (by simp <;> omega) _
        exact HB.out
end Go.Proofs.Ythgkkckbncgfmaa
