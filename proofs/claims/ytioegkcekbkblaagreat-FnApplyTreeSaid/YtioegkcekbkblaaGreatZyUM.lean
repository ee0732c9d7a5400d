/-
  R2, R3, U0, U1, U2 laid together.
-/
import Derived.Test.YtioegkcekbkblaaGreatZyGM
import Derived.Deep.QuietTactic
import Derived.BigQuiet
import Derived.Deep.RegionHeld3
import Derived.Test.YtioegkcekbkblaaGreatZyLookS
/-
  RECORDS: validRecords, ValidRecords, RecordsOf of both.
-/
namespace Go.Proofs.YtioegkcekbkblaaGreat
open Go.RowKit Nm
set_option linter.unusedSimpArgs false
set_option linter.unusedVariables false

end Go.Proofs.YtioegkcekbkblaaGreat

/-
  RECORDS: ValidRecords, RecordsOf, DropRepeats of both.
-/
namespace Go.Proofs.YtioegkcekbkblaaGreat
open Go.RowKit Nm
set_option linter.unusedSimpArgs false
set_option linter.unusedVariables false

end Go.Proofs.YtioegkcekbkblaaGreat

/-
  USERS: the loggers that have a handler, the handlers that have users; plain.
-/
namespace Go.Proofs.YtioegkcekbkblaaGreat
open Go.RowKit Nm
set_option linter.unusedSimpArgs false
set_option linter.unusedVariables false

end Go.Proofs.YtioegkcekbkblaaGreat

/-
  WALKS: UsersOf, UsedHandlers of both; the library's Index and Contains over texts.
-/
namespace Go.Proofs.YtioegkcekbkblaaGreat
open Go.RowKit Nm
set_option linter.unusedSimpArgs false
set_option linter.unusedVariables false

set_option maxHeartbeats 1000000 in
set_option maxRecDepth 100000 in
theorem indexTxt_c (v : Value) (n B : Nat) (l : List (List UInt8)) (s : ByteArray) (w : World) (hv : Txts w B n v l) :
    Calls Tryz.prog 120 #[v, .string s] w fun e w' => e = .returned (.int .i64 (idxL l s.data.toList)) ∧ w = w' := by
  have hln := hv.count
  obtain ⟨A, c, rfl, hnc, hcm⟩ := hv.1.form
  unfold maxLen at hcm
  have HV := hid (And.intro hv hln)
  clear hv hln
  go_enter Tryz.func120, Tryz.ntmps120
  go_wp2_with fail
  go_loop [8] (fun iv => ∃ k : Nat, iv = .int .i64 k ∧ k ≤ n ∧ Hid (s.data.toList ∉ l.take k)) (fun iv => n - (intOf iv).toNat)
  case atStart => exact ⟨0, rfl, by omega, by simp [Hid]⟩
  case round =>
    obtain ⟨k, rfl, hk, HN⟩ := hrel
    by_cases hlt : k < n
    · obtain ⟨b, o, t, rfl, hb, hxn, _, g0⟩ := HV.out.1.text hlt
      have HX := hid hxn
      clear hxn
      have s0 : (0 : Int) ≤ (k : Int) := by omega
      have s1 : (k : Int) < (n : Int) := by omega
      have s2 : ((k : Int)).toNat = k := by simp
      by_cases he : s.data.toList = t.data.toList
      · have e1 := eq_true_of he
        have HE := hid (show idxL l s.data.toList = (k : Int) from idx_hit _ _ _ (by rw [he]; exact HX.out) HN.out)
        clear he
        go_wp2_with fail
        go_ret
        exact ⟨ret_int HE.out.symm, rfl⟩
      · have e1 := eq_false_of he
        have HE := hid (not_take_succ _ _ _ _ HN.out HX.out (fun e => he e.symm))
        clear he
        go_wp2_with fail
        refine ⟨⟨k + 1, by go_num, by omega, HE⟩, by simp [intOf]; omega⟩
    · have HE := hid (show idxL l s.data.toList = -1 from idx_miss _ _ (by have := HN.out; rwa [List.take_of_length_le (by have := HV.out.2; omega)] at this))
      go_wp2_with fail
      go_ret
      exact ⟨ret_int HE.out.symm, rfl⟩
theorem idx_ge (l : List (List UInt8)) (x : List UInt8) : decide (0 ≤ idxL l x) = decide (x ∈ l) := by
  refine decide_eq_decide.2 ⟨fun h => ?_, fun h => ?_⟩
  · apply Classical.byContradiction; intro hn; rw [idx_miss _ _ hn] at h; omega
  · unfold idxL; rw [if_pos h]; omega
set_option maxHeartbeats 400000 in
set_option maxRecDepth 100000 in
theorem containsTxt_c (v : Value) (n B : Nat) (l : List (List UInt8)) (s : ByteArray) (w : World) (hv : Txts w B n v l) :
    Calls Tryz.prog 74 #[v, .string s] w fun e w' => e = .returned (.bool (decide (s.data.toList ∈ l))) ∧ w = w' := by
  have C := hid (indexTxt_c v n B l s w hv)
  obtain ⟨A, c, rfl, hnc, hcm⟩ := hv.1.form
  have HE := hid (idx_ge l s.data.toList)
  generalize decide (s.data.toList ∈ l) = z at HE ⊢
  generalize idxL l s.data.toList = x at C HE
  clear hv
  go_enter Tryz.func74, Tryz.ntmps74
  go_wp2_with fail
  refine C.out.mono ?_
  rintro e w1 ⟨rfl, rfl⟩
  go_wp2_with fail
  go_ret
  exact ⟨ret_bool HE.out, rfl⟩

end Go.Proofs.YtioegkcekbkblaaGreat

/-
  WALKS: UsedHandlers of both.
-/
namespace Go.Proofs.YtioegkcekbkblaaGreat
open Go.RowKit Nm
set_option linter.unusedSimpArgs false
set_option linter.unusedVariables false

theorem TreeIn.hands {w : World} {B n1 k1 n2 k2 : Nat} {A1 A2 : Option Addr} {L : List Lgr} {H : List Hnd} {q : Int} (h : TreeIn w B (.agg #[.slice A1 n1 k1, .slice A2 n2 k2, .int .i64 q]) L H q) :
    ∃ hs, Hs w B n2 (.slice A2 n2 k2) hs ∧ hsOf hs = H := by
  obtain ⟨ls, hs, ⟨A1', n1', k1', A2', n2', k2', e, _, h1, _⟩, h2, h3⟩ := h
  simp at e
  obtain ⟨⟨rfl, rfl, rfl⟩, ⟨rfl, rfl, rfl⟩⟩ := e
  exact ⟨hs, h1, h3⟩
end Go.Proofs.YtioegkcekbkblaaGreat
