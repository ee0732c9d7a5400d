/-
  TREES changed: the program's MoveBranch. By gen_c15.py.
-/
import Derived.Test.YtcgcbgbmofooiaaC14
namespace Go.Proofs.Ytcgcbgbmofooiaa
open Go.RowKit Nm
set_option linter.unusedSimpArgs false
set_option linter.unusedVariables false

set_option maxHeartbeats 8000000 in
set_option maxRecDepth 100000 in
theorem implMoveBranch_c {w : World} {B : Nat} {v : Value} {L : List Lgr} {H : List Hnd} {q : Int} (f t : ByteArray) (h : TreeIn w B v L H q) (hB : B ≤ w.heap.size) (hfz : f.size ≤ maxLen) (htz : t.size ≤ maxLen) :
    Calls Try.prog 33 #[v, .string f, .string t] w (TreePostO w (moveX L H q f.data.toList t.data.toList)) := by
  obtain ⟨A1, n1, k1, A2, n2, k2, rfl⟩ := h.form
  have HW := hid (show Below w.heap.size w ((((w.alloc (.cells #[.slice A1 n1 k1, .slice A2 n2 k2, .int .i64 q] 26)).alloc (.cells #[.string f] 9)).alloc (.cells #[.string t] 9)).alloc (.cells #[.slice none 0 0, .slice none 0 0, .int .i64 0] 26)) from ((((Below.refl _ _).alloc (Nat.le_refl _) _).alloc (by simp) _).alloc (by simp; omega) _).alloc (by simp; omega) _)
  have KT := hid ((((Blk.new w #[.slice A1 n1 k1, .slice A2 n2 k2, .int .i64 q] 26).alloc (.cells #[.string f] 9)).alloc (.cells #[.string t] 9)).alloc (.cells #[.slice none 0 0, .slice none 0 0, .int .i64 0] 26))
  have KF := hid (((Blk.new (w.alloc (.cells #[.slice A1 n1 k1, .slice A2 n2 k2, .int .i64 q] 26)) #[.string f] 9).alloc (.cells #[.string t] 9)).alloc (.cells #[.slice none 0 0, .slice none 0 0, .int .i64 0] 26))
  have KN := hid ((Blk.new ((w.alloc (.cells #[.slice A1 n1 k1, .slice A2 n2 k2, .int .i64 q] 26)).alloc (.cells #[.string f] 9)) #[.string t] 9).alloc (.cells #[.slice none 0 0, .slice none 0 0, .int .i64 0] 26))
  have KR := hid (Blk.new (((w.alloc (.cells #[.slice A1 n1 k1, .slice A2 n2 k2, .int .i64 q] 26)).alloc (.cells #[.string f] 9)).alloc (.cells #[.string t] 9)) #[.slice none 0 0, .slice none 0 0, .int .i64 0] 26)
  simp only [World.size_alloc] at KF KN KR
  have Cf := hid (fun (W : World) => implValidName_c f W hfz)
  have Ct := hid (fun (W : World) => implValidName_c t W htz)
  have hmf : ∀ (fn : Fn) (first cap : Array Value) (w : World), (Instr.makeFunc fn first cap).run Try.prog w = .ok (.func fn first cap) w := fun _ _ _ _ => rfl
  by_cases hf0 : f.data.toList = []
  · have e1 := empty_true hf0
    have HE := hid (show moveX L H q f.data.toList t.data.toList = none by unfold moveX; rw [if_pos (by left; exact hf0)])
    clear h hf0
    go_enter Try.func33, Try.ntmps33
    go_wp2_with fail
    refine bodyPost_ret (v := .tuple #[.agg #[.slice none 0 0, .slice none 0 0, .int .i64 0], .bool false]) (by simp [results, Try.results33, go_sem]) rfl ?_
    refine postO_none HE.out rfl ?_
    exact HW.out
  have e1 := empty_false hf0
  by_cases ht0 : t.data.toList = []
  · have e2 := empty_true ht0
    have HE := hid (show moveX L H q f.data.toList t.data.toList = none by unfold moveX; rw [if_pos (by right; left; exact ht0)])
    clear h hf0 ht0
    go_enter Try.func33, Try.ntmps33
    go_wp2_with fail
    refine bodyPost_ret (v := .tuple #[.agg #[.slice none 0 0, .slice none 0 0, .int .i64 0], .bool false]) (by simp [results, Try.results33, go_sem]) rfl ?_
    refine postO_none HE.out rfl ?_
    exact HW.out
  have e2 := empty_false ht0
  cases hnf : nameOk f.data.toList with
  | false =>
    have HE := hid (show moveX L H q f.data.toList t.data.toList = none by unfold moveX; rw [if_pos (by right; right; left; exact hnf)])
    rw [hnf] at Cf
    clear h hf0 ht0 hnf
    go_enter Try.func33, Try.ntmps33
    go_wp2_with fail
    refine (Cf.out _).mono ?_
    rintro e w1 ⟨rfl, hb1⟩
    have HB1 := hid (HW.out.trans (hb1.mono HW.out.size) : Below w.heap.size w w1)
    have KT1 := hid (KT.out.to hb1)
    have KF1 := hid (KF.out.to hb1)
    have KN1 := hid (KN.out.to hb1)
    have KR1 := hid (KR.out.to hb1)
    clear hb1
    have g0 := (KF1.out.2 0 _ rfl).1
    have g1 := (KN1.out.2 0 _ rfl).1
    obtain ⟨q0c, q0f⟩ := KR1.out.2 0 _ rfl
    obtain ⟨q1c, q1f⟩ := KR1.out.2 1 _ rfl
    obtain ⟨q2c, q2f⟩ := KR1.out.2 2 _ rfl
    go_wp2_with fail
    have RB := ((KR1.out.set 0 (.slice none 0 0)).set 1 (.slice none 0 0)).set 2 (.int .i64 0)
    have f0 := (RB.2 0 _ rfl).1
    have f1 := (RB.2 1 _ rfl).1
    have f2 := (RB.2 2 _ rfl).1
    refine bodyPost_ret (v := .tuple #[.agg #[.slice none 0 0, .slice none 0 0, .int .i64 0], .bool false]) (by simp [results, Try.results33, go_sem, f0, f1, f2]) rfl ?_
    refine postO_none HE.out rfl ?_
    iterate 3 refine Below.setCell ?_ (by simp; try omega) _
    exact HB1.out
  | true =>
  cases hnt : nameOk t.data.toList with
  | false =>
    have HE := hid (show moveX L H q f.data.toList t.data.toList = none by unfold moveX; rw [if_pos (by right; right; right; exact hnt)])
    rw [hnf] at Cf
    rw [hnt] at Ct
    clear h hf0 ht0 hnf hnt
    go_enter Try.func33, Try.ntmps33
    go_wp2_with fail
    refine (Cf.out _).mono ?_
    rintro e w1 ⟨rfl, hb1⟩
    have HB1 := hid (HW.out.trans (hb1.mono HW.out.size) : Below w.heap.size w w1)
    have KT1 := hid (KT.out.to hb1)
    have KF1 := hid (KF.out.to hb1)
    have KN1 := hid (KN.out.to hb1)
    have KR1 := hid (KR.out.to hb1)
    clear hb1
    have g0 := (KF1.out.2 0 _ rfl).1
    have g1 := (KN1.out.2 0 _ rfl).1
    go_wp2_with fail
    refine (Ct.out _).mono ?_
    rintro e w2 ⟨rfl, hb2⟩
    have HB2 := hid (HB1.out.trans (hb2.mono HB1.out.size) : Below w.heap.size w w2)
    have KT2 := hid (KT1.out.to hb2)
    have KF2 := hid (KF1.out.to hb2)
    have KN2 := hid (KN1.out.to hb2)
    have KR2 := hid (KR1.out.to hb2)
    clear hb2
    obtain ⟨q0c, q0f⟩ := KR2.out.2 0 _ rfl
    obtain ⟨q1c, q1f⟩ := KR2.out.2 1 _ rfl
    obtain ⟨q2c, q2f⟩ := KR2.out.2 2 _ rfl
    go_wp2_with fail
    have RB := ((KR2.out.set 0 (.slice none 0 0)).set 1 (.slice none 0 0)).set 2 (.int .i64 0)
    have f0 := (RB.2 0 _ rfl).1
    have f1 := (RB.2 1 _ rfl).1
    have f2 := (RB.2 2 _ rfl).1
    refine bodyPost_ret (v := .tuple #[.agg #[.slice none 0 0, .slice none 0 0, .int .i64 0], .bool false]) (by simp [results, Try.results33, go_sem, f0, f1, f2]) rfl ?_
    refine postO_none HE.out rfl ?_
    iterate 3 refine Below.setCell ?_ (by simp; try omega) _
    exact HB2.out
  | true =>
    have hf20 : f.size ≤ 20 := by rw [Lib.size_eq]; exact name_size _ hnf
    have ht20 : t.size ≤ 20 := by rw [Lib.size_eq]; exact name_size _ hnt
    have HE := hid (show moveX L H q f.data.toList t.data.toList = changedO L H q (if movedB L f.data.toList then some (moveT L f.data.toList t.data.toList, H, q) else none) by
      unfold moveX; rw [if_neg (fun a => a.elim hf0 (fun a => a.elim ht0 (fun a => a.elim (fun a => by rw [hnf] at a; cases a) (fun a => by rw [hnt] at a; cases a))))])
    have CH := hid (fun (W : World) (hW : Below w.heap.size w W) => h.below hW hB)
    rw [hnf] at Cf
    rw [hnt] at Ct
    clear h hf0 ht0 hnf hnt
    generalize hX : moveX L H q f.data.toList t.data.toList = X at HE ⊢
    clear hX
    go_enter Try.func33, Try.ntmps33
    go_wp2_with fail
    refine (Cf.out _).mono ?_
    rintro e w1 ⟨rfl, hb1⟩
    have HB1 := hid (HW.out.trans (hb1.mono HW.out.size) : Below w.heap.size w w1)
    have KT1 := hid (KT.out.to hb1)
    have KF1 := hid (KF.out.to hb1)
    have KN1 := hid (KN.out.to hb1)
    have KR1 := hid (KR.out.to hb1)
    clear hb1
    have g0 := (KF1.out.2 0 _ rfl).1
    have g1 := (KN1.out.2 0 _ rfl).1
    go_wp2_with fail
    refine (Ct.out _).mono ?_
    rintro e w2 ⟨rfl, hb2⟩
    have HB2 := hid (HB1.out.trans (hb2.mono HB1.out.size) : Below w.heap.size w w2)
    have KT2 := hid (KT1.out.to hb2)
    have KF2 := hid (KF1.out.to hb2)
    have KN2 := hid (KN1.out.to hb2)
    have KR2 := hid (KR1.out.to hb2)
    clear hb2
    have CQ := hid (implChanged2_c 67 (.pointer (some ⟨w.heap.size + 1, 0, none⟩)) (.pointer (some ⟨w.heap.size + 1 + 1, 0, none⟩)) (if movedB L f.data.toList then some (moveT L f.data.toList t.data.toList, H, q) else none) (CH.out _ HB2.out) (Nat.le_trans hB HB2.out.size) (fun args w => enters rfl (by kernel_rfl) rfl args w)
      (fun W lo bc v1 v2 rs hok hp => moveClo_c f t hf20 ht20 (KF2.out.2 0 _ rfl).1 (KN2.out.2 0 _ rfl).1 hok W lo bc v1 v2 rs hp))
    have d0 := (KT2.out.2 0 _ rfl).1
    have d1 := (KT2.out.2 1 _ rfl).1
    have d2 := (KT2.out.2 2 _ rfl).1
    have hsz2 : w.heap.size + 4 ≤ w2.heap.size := by have := KR2.out.1; omega
    generalize (if movedB L f.data.toList then some (moveT L f.data.toList t.data.toList, H, q) else none) = O at HE CQ
    go_wp2_with fail
    refine (CQ.out).mono ?_
    rintro e w3 ⟨v', rs, rfl, hs, hr, hb3⟩
    have HX' := hid (show changedO L H q O = X from HE.out.symm)
    rw [HX'.out] at hs
    obtain ⟨u1, u2, ls, hs', rfl, hL, hH, rfl⟩ := hs
    have KR3 := hid (KR2.out.to hb3)
    have HB3 := hid (HB2.out.trans (hb3.mono HB2.out.size))
    have HR1 := hid (hr.base (show w.heap.size + 4 ≤ _ from hsz2))
    have HS1 := hid (show TreeS (treeRows ls.length u1 ls hs'.length u2 hs') (.agg #[u1, u2, .int .i64 (resQ X)]) (resL X) (resH X) (resQ X) from ⟨u1, u2, ls, hs', rfl, hL, hH, rfl⟩)
    obtain ⟨hl, hh⟩ := hr.lsIn
    obtain ⟨A3, c3, rfl, _, _⟩ := hl.1.form
    obtain ⟨A4, c4, rfl, _, _⟩ := hh.1.form
    obtain ⟨q0c, q0f⟩ := KR3.out.2 0 _ rfl
    obtain ⟨q1c, q1f⟩ := KR3.out.2 1 _ rfl
    obtain ⟨q2c, q2f⟩ := KR3.out.2 2 _ rfl
    generalize hq0 : resQ X = q0 at *
    generalize hi0 : (changedO L H q O).isSome = i0 at *
    have HI := hid (show X.isSome = i0 by rw [← HX'.out]; exact hi0)
    have HQ0 := hid hq0
    clear hq0 hi0 hb3 hr hl hh hL hH d0 d1 d2 g0 g1
    go_wp2_with fail
    have RB := ((KR3.out.set 0 (.slice A3 ls.length c3)).set 1 (.slice A4 hs'.length c4)).set 2 (.int .i64 q0)
    have f0 := (RB.2 0 _ rfl).1
    have f1 := (RB.2 1 _ rfl).1
    have f2 := (RB.2 2 _ rfl).1
    refine bodyPost_ret (v := .tuple #[.agg #[.slice A3 ls.length c3, .slice A4 hs'.length c4, .int .i64 q0], .bool i0]) (by simp [results, Try.results33, go_sem, f0, f1, f2]) rfl ?_
    refine ⟨_, _, by rw [HI.out], (by rw [HQ0.out]; exact HS1.out), ?_, ?_⟩
    · refine Rows.base ?_ (show w.heap.size ≤ w.heap.size + 4 by omega)
      iterate 3 refine Rows.low ?_ (by omega)
      exact HR1.out
    · iterate 3 refine Below.setCell ?_ (by simp; try omega) _
      exact HB3.out
end Go.Proofs.Ytcgcbgbmofooiaa
