/-
  WALKS: LoggerAt of the program: the library's IndexFunc with a closure.
-/
import Derived.Test.YteijckcnneoakaaN4
namespace Go.Proofs.Yteijckcnneoakaa
open Go.RowKit Nm
set_option linter.unusedSimpArgs false
set_option linter.unusedVariables false

set_option maxHeartbeats 1000000 in
set_option maxRecDepth 100000 in
theorem loggerAtFn_c (a s : ByteArray) (lv : Int) (v1 v2 : Value) (b1 b2 : Bool) (bx : Nat) (w : World) (hc : w.cell? ⟨bx, 0, none⟩ = some (.string s)) :
    Calls Try.prog 40 #[.agg #[.string a, .int .i64 lv, v1, v2, .bool b1, .bool b2], .pointer (some ⟨bx, 0, none⟩)] w (BoolPost w (decide (a.data.toList = s.data.toList))) := by
  have hlt : bx < w.heap.size := World.block_lt_of_cell? w _ hc
  have e0 := beq_txt a s
  have e1 : (w.alloc (.cells #[.string a, .int .i64 lv, v1, v2, .bool b1, .bool b2] 57)).cell? ⟨bx, 0, none⟩ = some (.string s) := (World.cell?_alloc_past _ _ _ hlt).trans hc
  go_enter Try.func40, Try.ntmps40
  go_wp2_with fail
  go_ret
  exact ⟨ret_bool (decide_eq_decide.2 Array.toList_inj.symm), by go_grown⟩

theorem mem_of_at {l : List LgrV} {k : Nat} {x : LgrV} (hx : l[k]? = some x) : (lnames l)[k]? = some x.l.nm := by simp [lnames, hx]

set_option maxHeartbeats 4000000 in
set_option maxRecDepth 100000 in
theorem indexFunc_c (v : Value) (n B bx : Nat) (l : List LgrV) (s : ByteArray) (w : World) (hv : Ls w B n v l) (hB : B ≤ w.heap.size) (hc : w.cell? ⟨bx, 0, none⟩ = some (.string s)) :
    Calls Try.prog 39 #[v, .func (.func 40) #[] #[.pointer (some ⟨bx, 0, none⟩)]] w
      (fun e w' => e = .returned (.int .i64 (idxL (lnames l) s.data.toList)) ∧ Below w.heap.size w w') := by
  have hlt0 : bx < w.heap.size := World.block_lt_of_cell? w _ hc
  have hln := hv.count
  obtain ⟨A, c, rfl, hnc, hcm⟩ := hv.1.form
  unfold maxLen at hcm
  have HV := hid (And.intro hv hln)
  have HC := hid (And.intro hc hlt0)
  clear hv hln hc hlt0
  go_enter Try.func39, Try.ntmps39
  go_wp2_with fail
  go_loopw [8] (fun iv wr => ∃ (k : Nat), iv = .int .i64 k ∧ k ≤ n ∧ Hid (¬ s.data.toList ∈ (lnames l).take k) ∧ Hid (Below w.heap.size w wr)) (fun iv _ => n - (intOf iv).toNat)
  case atStart => exact ⟨0, rfl, by omega, by simp [Hid], Below.refl _ _⟩
  case round =>
    obtain ⟨k, rfl, hk, HN, HB⟩ := hrel
    by_cases hlt : k < n
    · obtain ⟨b, o, x, a, rfl, hbB, hx, ha, _, _, _, c0, c1, c2, c3, c4, c5⟩ := (HV.out.1.below HB.out hB).at_ hlt
      have E := hid (loggerAtFn_c a s x.l.lv x.hv x.fv x.l.stop x.l.off bx wr ((HB.out.cell (p := ⟨bx, 0, none⟩) HC.out.2).trans HC.out.1))
      have HX := hid (mem_of_at hx)
      have HA := hid ha
      cases hz : decide (a.data.toList = s.data.toList) with
      | true =>
        rw [hz] at E
        have HZ := hid hz
        clear hx ha hz
        go_wp2_with (go_at_call 40; refine (E.out).mono ?_; rintro e w2 ⟨rfl, hb⟩)
        go_ret
        refine ⟨ret_int ?_, HB.out.trans (hb.mono HB.out.size)⟩
        have h := of_decide_eq_true HZ.out
        rw [idx_hit _ _ k (by rw [HX.out, ← HA.out, h]) HN.out]
      | false =>
        rw [hz] at E
        have HZ := hid hz
        clear hx ha hz
        go_wp2_with (go_at_call 40; refine (E.out).mono ?_; rintro e w2 ⟨rfl, hb⟩)
        go_roundw
        case rel => exact ⟨k + 1, by go_num, by omega, not_take_succ _ _ _ _ HN.out HX.out (by rw [← HA.out]; exact of_decide_eq_false HZ.out), HB.out.trans (hb.mono HB.out.size)⟩
        case measure => simp [intOf]; omega
    · have HE := hid (show ¬ s.data.toList ∈ lnames l by
        have h := HN.out
        rwa [List.take_of_length_le (by unfold lnames; rw [List.length_map]; have := HV.out.2; omega)] at h)
      go_wp2_with fail
      go_ret
      exact ⟨ret_int (by rw [idx_miss _ _ HE.out]), HB.out⟩

set_option maxHeartbeats 1000000 in
set_option maxRecDepth 100000 in
theorem implLoggerAtX_c {v : Value} {B : Nat} {L : List Lgr} {H : List Hnd} {q : Int} {w : World} (s : ByteArray) (h : TreeIn w B v L H q) (hB : B ≤ w.heap.size) :
    Calls Try.prog 15 #[v, .string s] w (fun e w' => e = .returned (.int .i64 (if treeOk L H q then idxL (namesOf L) s.data.toList else -1)) ∧ Below w.heap.size w w') := by
  have C := hid (fun (W : World) (hW : Below w.heap.size w W) => implValidTreeX_c (h.below hW hB) (Nat.le_trans hB hW.size))
  obtain ⟨A1, n1, k1, A2, n2, k2, rfl⟩ := h.form
  obtain ⟨ls, hl, hL⟩ := h.loggers
  have C2 := hid (fun (bx : Nat) (W : World) (hW : Below w.heap.size w W) (hc : W.cell? ⟨bx, 0, none⟩ = some (.string s)) => indexFunc_c _ n1 B bx ls s W (hl.below hW hB) (Nat.le_trans hB hW.size) hc)
  have hN : lnames ls = namesOf L := by rw [← hL, namesOf_ls]
  rw [hN] at C2
  have hmf : ∀ (fn : Fn) (first cap : Array Value) (w : World), (Instr.makeFunc fn first cap).run Try.prog w = .ok (.func fn first cap) w := fun _ _ _ _ => rfl
  clear h hl hL hN
  cases hz : treeOk L H q with
  | false =>
    rw [hz] at C
    go_enter Try.func15, Try.ntmps15
    go_wp2_with fail
    refine (C.out _ ?_).mono ?_
    case refine_1 => go_grown
    rintro e w1 ⟨rfl, hb1⟩
    have HB1 := hid (Below.trans (by go_grown) (hb1.mono (by simp; try omega)) : Below w.heap.size w w1)
    clear hb1
    go_wp2_with fail
    go_ret
    exact ⟨rfl, HB1.out⟩
  | true =>
    rw [hz] at C
    go_enter Try.func15, Try.ntmps15
    go_wp2_with fail
    refine (C.out _ ?_).mono ?_
    case refine_1 => go_grown
    rintro e w1 ⟨rfl, hb1⟩
    have K2 := ((Blk.new _ _ _).alloc _).to hb1
    have K1 := (Blk.new _ _ _).to hb1
    simp only [World.size_alloc] at K1 K2
    have x0 := (K2.2 0 _ rfl).1
    have HY := hid ((K1.2 0 _ rfl).1)
    have HB1 := hid (Below.trans (by go_grown) (hb1.mono (by simp; try omega)) : Below w.heap.size w w1)
    clear hb1 K2 K1
    go_wp2_with fail
    refine (C2.out _ _ HB1.out HY.out).mono ?_
    rintro e w2 ⟨rfl, hb2⟩
    have HB2 := hid (HB1.out.trans (hb2.mono HB1.out.size))
    clear x0 hb2
    go_wp2_with fail
    go_ret
    exact ⟨rfl, HB2.out⟩
end Go.Proofs.Yteijckcnneoakaa
