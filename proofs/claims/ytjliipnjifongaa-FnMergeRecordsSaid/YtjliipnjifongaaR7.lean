/-
  RECORDS: SampleRecords of the model.
-/
import Derived.Test.YtjliipnjifongaaR6
namespace Go.Proofs.Ytjliipnjifongaa
open Go.RowKit Nm
set_option linter.unusedSimpArgs false
set_option linter.unusedVariables false

set_option maxHeartbeats 4000000 in
set_option maxRecDepth 100000 in
theorem specSample_c (v : Value) (n B : Nat) (l : List Rec) (x y : Int) (w : World) (hv : Rs w B n v l) (hB : B ≤ w.heap.size) (hn : n ≤ maxTxt) :
    Calls Try.prog 19 #[v, .int .i64 x, .int .i64 y] w (RowPost w 32 4 (sampleL l x y).length ((sampleL l x y).flatMap rcells)) := by
  have hln := hv.count
  obtain ⟨A, c, rfl, hnc, hcm⟩ := hv.1.form
  have C := hid (specValidRecords_c _ n B l w hv hB)
  unfold maxLen at hcm
  unfold maxTxt at hn
  have HV := hid (And.intro hv hln)
  clear hv hln
  cases hs : sampOk l x y with
  | false =>
    have HD := hid (show sampleL l x y = [] by unfold sampleL; rw [hs]; rfl)
    have HS := hid hs
    generalize hr : recsOk l = r at C
    have HR := hid hr
    clear hs hr
    go_enter Try.func19, Try.ntmps19
    go_wp2_with (first | (go_at_call 58; refine C.out.mono ?_; rintro e w1 ⟨rfl, hb⟩; have HB1 := hid hb; clear hb) | (go_at_call 59; refine (inRange_c _ _ _ _).mono ?_; rintro e w2 ⟨rfl, rfl⟩))
    all_goals first
      | (go_ret
         exact ⟨_, rfl, by rw [HD.out]; exact World.ownsRow_nil _ _ _ _, HB1.out⟩)
      | (exfalso; have h1 := HS.out; unfold sampOk at h1; rw [HR.out] at h1; simp_all <;> omega)
  | true =>
  have HD := hid (show sampleL l x y = rounds (pickIf l (keepS l x y)) l.length by unfold sampleL; rw [hs]; rfl)
  unfold sampOk at hs
  simp only [Bool.and_eq_true, decide_eq_true_eq] at hs
  obtain ⟨hr, ⟨x0, x1⟩, y0, y1⟩ := hs
  rw [hr] at C
  have hn12 : n ≤ 12 := by unfold recsOk at hr; simp only [Bool.and_eq_true, decide_eq_true_eq] at hr; have := HV.out.2; omega
  clear hr
  go_enter Try.func19, Try.ntmps19
  go_wp2_with (first | (go_at_call 58; refine C.out.mono ?_; rintro e w1 ⟨rfl, hb⟩; have HB1 := hid hb; clear hb) | (go_at_call 59; refine (inRange_c _ _ _ _).mono ?_; rintro e w2 ⟨rfl, rfl⟩))
  all_goals first
    | (exfalso; simp_all <;> omega; done)
    | skip
  go_loopw [7, 8] (fun v iv wr => ∃ (k : Nat) (z : List Rec), iv = .int .i64 k ∧ k ≤ n ∧ Hid (z = rounds (pickIf l (keepS l x y)) k) ∧ z.length ≤ k ∧ wr.ownsRow w.heap.size 32 4 v z.length (z.flatMap rcells) ∧ Hid (Below w.heap.size w wr)) (fun _ iv _ => n - (intOf iv).toNat)
  case atStart => exact ⟨0, [], rfl, by omega, rfl, by simp, own_base (World.ownsRow_lit w2 #[] 0 (Nat.le_refl _) (by unfold maxLen; omega) rfl) HB1.out.size, HB1.out.alloc HB1.out.size _⟩
  case round =>
    obtain ⟨k, z, rfl, hk, HE, hz, hown, HB⟩ := hrel
    obtain ⟨Ax, cx, rfl, _, _⟩ := (Sl.of_own hown).form
    have HO := hid hown
    clear hown
    obtain ⟨wo, rfl⟩ : ∃ wo : World, wo = wr := ⟨_, rfl⟩
    by_cases hlt : k < n
    · obtain ⟨b, o, nm, lv, tx, sq, rfl, hbB, hx1, c0, c1, c2, c3⟩ := rcells_at (HV.out.1.1.below HB.out hB) hlt
      have HX := hid hx1
      have HK := hid (show keepS l x y k ⟨nm.data.toList, lv, tx.data.toList, sq⟩ = (decide ((1 + cntT l k tx.data.toList : Int) ≤ x) || decide (((1 + cntT l k tx.data.toList : Int) - x) % y = 0)) by
        unfold keepS; rw [cntT_succ l k _ _ hx1, if_pos rfl, show ((cntT l k tx.data.toList + 1 : Nat) : Int) = 1 + (cntT l k tx.data.toList : Int) by omega])
      clear hx1
      go_wp2_with fail
      go_loopw [9, 10] (fun nv iv wx => ∃ (m q : Nat), nv = .int .i64 (1 + q) ∧ iv = .int .i64 m ∧ m ≤ k ∧ q ≤ m ∧ Hid (q = cntT l m tx.data.toList) ∧ Hid (wx.ownsRow w.heap.size 32 4 (.slice Ax z.length cx) z.length (z.flatMap rcells)) ∧ Hid (Below w.heap.size w wx)) (fun _ iv _ => k - (intOf iv).toNat)
      case atStart => exact ⟨0, 0, rfl, rfl, by omega, by omega, (cntT_zero _ _).symm, HO, HB⟩
      case round =>
        obtain ⟨m, q, rfl, rfl, hm, hqm, HQ, HOx, HBx⟩ := hrel
        by_cases hmk : m < k
        · obtain ⟨b', o', pn, pl, pt, ps, he', _, hx2, p0, p1, p2, p3⟩ := rcells_at (HV.out.1.1.below HBx.out hB) (show m < n by omega)
          obtain ⟨rfl, rfl⟩ : b = b' ∧ o = o' := by simpa using he'
          obtain ⟨_, _, nm', lv', tx', sq', he', _, hx3, r0, r1, r2, r3⟩ := rcells_at (HV.out.1.1.below HBx.out hB) hlt
          obtain ⟨rfl, rfl⟩ : b = _ ∧ o = _ := by simpa using he'
          have hxx := HX.out
          rw [hx3] at hxx
          simp only [Option.some.injEq, Rec.mk.injEq, bytes_eq_iff] at hxx
          obtain ⟨rfl, rfl, rfl, rfl⟩ := hxx
          have hmn : (m : Int) < (n : Int) := by omega
          obtain ⟨a1, e1, f1⟩ := eq_bool pt tx'
          have HS := hid (show cntT l (m + 1) tx'.data.toList = q + if a1 then 1 else 0 by
            rw [cntT_succ l m _ _ hx2, ← HQ.out]; congr 1; rw [← f1]; simp [eq_comm])
          clear hx2 hx3 f1 he'
          cases a1
          all_goals
            go_wp2_with fail
            go_quiet (fail)
            go_wp2_with fail
            go_roundw
          all_goals first
            | (case rel => exact ⟨m + 1, q, rfl, by go_num, by omega, by omega, HS.out.symm, own_dr HOx.out _, below_dr HBx.out _⟩)
            | (case rel => exact ⟨m + 1, q + 1, congrArg (Value.int .i64) (by omega), by go_num, by omega, by omega, HS.out.symm, own_dr HOx.out _, below_dr HBx.out _⟩)
            | (case measure => simp [intOf]; omega)
        · obtain rfl : m = k := by omega
          have hq := HQ.out
          rw [← hq] at HK
          obtain ⟨_, _, nm', lv', tx', sq', he', _, hx3, r0, r1, r2, r3⟩ := rcells_at (HV.out.1.1.below HBx.out hB) hlt
          obtain ⟨rfl, rfl⟩ : b = _ ∧ o = _ := by simpa using he'
          have hxx := HX.out
          rw [hx3] at hxx
          simp only [Option.some.injEq, Rec.mk.injEq, bytes_eq_iff] at hxx
          obtain ⟨rfl, rfl, rfl, rfl⟩ := hxx
          generalize hkk : keepS l x y m ⟨nm'.data.toList, lv', tx'.data.toList, sq'⟩ = kk at HK
          have hit := hid (fun (hf : kk = true) => show z ++ [(⟨nm'.data.toList, lv', tx'.data.toList, sq'⟩ : Rec)] = rounds (pickIf l (keepS l x y)) (m + 1) by
            rw [rounds_hit (pickIf_hit HX.out (hkk.trans hf)), HE.out])
          have mis := hid (fun (hf : kk = false) => show z = rounds (pickIf l (keepS l x y)) (m + 1) by
            rw [rounds_miss (pickIf_miss HX.out (hkk.trans hf)), HE.out])
          clear hkk hq hx3 he' c0 c1 c2 c3
          go_wp2_with (at_builtin; refine appRecord _ rfl (.tmp 60) (.tmp 65) rfl w.heap.size _ z (by rfl) HOx.out nm' lv' tx' sq' _ _ _ (by rfl) (by simp) (by omega) HBx.out.size ?_; intro v' w3 ho3 hb3; have HO3 := hid (And.intro ho3 (HBx.out.trans hb3)); clear ho3 hb3)
          all_goals go_roundw
          all_goals first
            | (case rel => exact ⟨m + 1, _, by go_num, by omega, hit.out (by rw [HK.out]; simp_all <;> omega), by rw [List.length_append]; show z.length + 1 ≤ _; omega, HO3.out.1, HO3.out.2⟩)
            | (case rel => exact ⟨m + 1, z, by go_num, by omega, mis.out (by rw [HK.out]; simp_all <;> omega), by omega, HOx.out, HBx⟩)
            | (case measure => simp [intOf]; omega)
    · have HF := hid (show z = sampleL l x y by rw [HE.out, HD.out, show l.length = k by have := HV.out.2; omega])
      go_wp2_with fail
      go_ret
      exact ⟨_, rfl, by rw [← HF.out]; exact HO.out, HB.out⟩
end Go.Proofs.Ytjliipnjifongaa
