/-
  TREES changed: the program's SetQuiet, changedLogger, SetLevel, SetStop, SetOff.
-/
import Derived.Test.YtcgcbgbmofooiaaC3
namespace Go.Proofs.Ytcgcbgbmofooiaa
open Go.RowKit Nm
set_option linter.unusedSimpArgs false
set_option linter.unusedVariables false

theorem enters {f : FuncId} {fn : Func} {c : Code} (hf : Try.prog.funcs[f]? = some fn) (hname : (fn.name == "runtime.NumGoroutine") = false) (hb : fn.body = some c) (args : Array Value) (w : World) :
    (callFunc f args).run Try.prog w = .ok (.enter f args) w := by
  have h1 : fn.name ≠ "runtime.NumGoroutine" := by simpa using hname
  simp [callFunc, hf, h1, hb]

set_option maxHeartbeats 1000000 in
set_option maxRecDepth 100000 in
theorem setQuietFn_c (bc bq : Nat) (lv : Int) (u : Value) (W : World) (hc : W.cell? ⟨bc, 2, none⟩ = some u) (hf : W.frozen? ⟨bc, 2, none⟩ = false) (hq : W.cell? ⟨bq, 0, none⟩ = some (.int .i64 lv)) :
    Calls Try.prog 56 #[.pointer (some ⟨bc, 0, none⟩), .pointer (some ⟨bq, 0, none⟩)] W fun e w' => e = .returned (.bool true) ∧ w' = W.setCell ⟨bc, 2, none⟩ (.int .i64 lv) := by
  go_enter Try.func56, Try.ntmps56
  go_wp2_with fail
  go_ret
  exact ⟨rfl, rfl⟩
theorem setQuietClo_c {w : World} {L : List Lgr} {H : List Hnd} {q lv : Int} {bq : Nat} (hq : w.cell? ⟨bq, 0, none⟩ = some (.int .i64 lv)) (W : World) (lo bc : Nat) (v1 v2 : Value) (rs : List Row) (hp : CloPre w lo bc W v1 v2 rs L H q) :
    Calls Try.prog 56 #[.pointer (some ⟨bc, 0, none⟩), .pointer (some ⟨bq, 0, none⟩)] W (CloPost lo bc W (some (L, H, lv))) := by
  obtain ⟨hb, hlo, hbc, hk, hs, hr, hap, hd⟩ := hp
  have hbq := World.block_lt_of_cell? w _ hq
  have k2 := hk.2 2 _ rfl
  refine (setQuietFn_c bc bq lv _ W k2.1 k2.2 ((hb.cell (p := ⟨bq, 0, none⟩) hbq).trans hq)).mono ?_
  rintro e w' ⟨rfl, rfl⟩
  obtain ⟨A1, n1, k1, A2, n2, k2', e⟩ := (hs.at_ hr hd).form
  have e' : v1 = .slice A1 n1 k1 ∧ v2 = .slice A2 n2 k2' := by simpa using e
  obtain ⟨rfl, rfl⟩ := e'
  refine ⟨(Below.refl _ _).setCell hbc _, rfl, fun x hx => ?_⟩
  obtain rfl : (L, H, lv) = x := Option.some.inj hx
  refine ⟨A1, n1, k1, A2, n2, k2', rs, hk.set 2 _, ?_, ?_, hd⟩
  · obtain ⟨u1, u2, ls, hs', e, h1, h2, h3⟩ := hs
    have e' : u1 = .slice A1 n1 k1 ∧ u2 = .slice A2 n2 k2' := by simpa using e.symm
    obtain ⟨rfl, rfl⟩ := e'
    exact ⟨_, _, ls, hs', rfl, h1, h2, h3⟩
  · exact ⟨fun r hr' => (hr.1 r hr').kept (grown_set W bc 2 _) (by
      cases hq' : r.v.ownBlock with
      | none => exact .inl rfl
      | some g => right; intro e2; exact hap r hr' (hq'.trans e2)), hr.2⟩
def setQuietX (L : List Lgr) (H : List Hnd) (q lv : Int) : Option TreeD := changedO L H q (some (L, H, lv))

set_option maxHeartbeats 4000000 in
set_option maxRecDepth 100000 in
theorem implSetQuiet_c {w : World} {B : Nat} {v : Value} {L : List Lgr} {H : List Hnd} {q : Int} (lv : Int) (h : TreeIn w B v L H q) (hB : B ≤ w.heap.size) :
    Calls Try.prog 20 #[v, .int .i64 lv] w (TreePostO w (setQuietX L H q lv)) := by
  obtain ⟨A1, n1, k1, A2, n2, k2, rfl⟩ := h.form
  have CC := hid (fun (W : World) (hW : Below w.heap.size w W) (bq : Nat) (hq : W.cell? ⟨bq, 0, none⟩ = some (.int .i64 lv)) =>
    implChanged1_c 56 (.pointer (some ⟨bq, 0, none⟩)) (some (L, H, lv)) (h.below hW hB) (Nat.le_trans hB hW.size) (fun args w => enters rfl (by kernel_rfl) rfl args w) (fun W' lo bc v1 v2 rs _ hp => setQuietClo_c hq W' lo bc v1 v2 rs hp))
  have hmf : ∀ (fn : Fn) (first cap : Array Value) (w : World), (Instr.makeFunc fn first cap).run Try.prog w = .ok (.func fn first cap) w := fun _ _ _ _ => rfl
  clear h
  have HW := hid (show Below w.heap.size w (((w.alloc (.cells #[.slice A1 n1 k1, .slice A2 n2 k2, .int .i64 q] 26)).alloc (.cells #[.int .i64 lv] 3)).alloc (.cells #[.slice none 0 0, .slice none 0 0, .int .i64 0] 26)) from (((Below.refl _ _).alloc (Nat.le_refl _) _).alloc (by simp) _).alloc (by simp; omega) _)
  have KQ := hid (((Blk.new (w.alloc (.cells #[.slice A1 n1 k1, .slice A2 n2 k2, .int .i64 q] 26)) #[.int .i64 lv] 3)).alloc (.cells #[.slice none 0 0, .slice none 0 0, .int .i64 0] 26))
  have KR := hid (Blk.new ((w.alloc (.cells #[.slice A1 n1 k1, .slice A2 n2 k2, .int .i64 q] 26)).alloc (.cells #[.int .i64 lv] 3)) #[.slice none 0 0, .slice none 0 0, .int .i64 0] 26)
  simp only [World.size_alloc] at KQ KR
  have CQ := hid (CC.out _ HW.out (w.heap.size + 1) (KQ.out.2 0 _ rfl).1)
  generalize hX : setQuietX L H q lv = X
  have HX := hid hX
  clear hX CC
  go_enter Try.func20, Try.ntmps20
  go_wp2_with fail
  refine (CQ.out).mono ?_
  rintro e w1 ⟨v', rs, rfl, hs, hr, hb1⟩
  have HX' := hid (show changedO L H q (some (L, H, lv)) = X from HX.out)
  rw [HX'.out] at hs
  obtain ⟨u1, u2, ls, hs', rfl, hL, hH, rfl⟩ := hs
  have KR1 := hid (KR.out.to hb1)
  have HB1 := hid (Below.trans (by go_grown) (hb1.mono (by simp; omega)) : Below w.heap.size w w1)
  have HR1 := hid (hr.base (show w.heap.size + 3 ≤ _ by simp))
  have HS1 := hid (show TreeS (treeRows ls.length u1 ls hs'.length u2 hs') (.agg #[u1, u2, .int .i64 (resQ X)]) (resL X) (resH X) (resQ X) from ⟨u1, u2, ls, hs', rfl, hL, hH, rfl⟩)
  obtain ⟨hl, hh⟩ := hr.lsIn
  obtain ⟨A3, c3, rfl, _, _⟩ := hl.1.form
  obtain ⟨A4, c4, rfl, _, _⟩ := hh.1.form
  obtain ⟨q0c, q0f⟩ := KR1.out.2 0 _ rfl
  obtain ⟨q1c, q1f⟩ := KR1.out.2 1 _ rfl
  obtain ⟨q2c, q2f⟩ := KR1.out.2 2 _ rfl
  generalize hq0 : resQ X = q0 at *
  generalize hi0 : (changedO L H q (some (L, H, lv))).isSome = i0 at *
  have HI := hid (show X.isSome = i0 by rw [← HX'.out]; exact hi0)
  have HQ0 := hid hq0
  clear hq0 hi0 hb1 hr hl hh hL hH
  go_wp2_with fail
  have RB := ((KR1.out.set 0 (.slice A3 ls.length c3)).set 1 (.slice A4 hs'.length c4)).set 2 (.int .i64 q0)
  have f0 := (RB.2 0 _ rfl).1
  have f1 := (RB.2 1 _ rfl).1
  have f2 := (RB.2 2 _ rfl).1
  refine bodyPost_ret (v := .tuple #[.agg #[.slice A3 ls.length c3, .slice A4 hs'.length c4, .int .i64 q0], .bool i0]) (by simp [results, Try.results20, go_sem, f0, f1, f2]) rfl ?_
  refine ⟨_, _, by rw [HI.out], (by rw [HQ0.out]; exact HS1.out), ?_, ?_⟩
  · refine Rows.base ?_ (show w.heap.size ≤ w.heap.size + 3 by omega)
    iterate 3 refine Rows.low ?_ (by omega)
    exact HR1.out
  · iterate 3 refine Below.setCell ?_ (by simp; try omega) _
    exact HB1.out
end Go.Proofs.Ytcgcbgbmofooiaa
