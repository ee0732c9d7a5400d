/-
  FILTERS ASKED: the program's words of a text, gates, filters as gates.
-/
import Derived.Test.YteekkccgdkmjoaaGreatShl
import Derived.Test.YteekkccgdkmjoaaGreatSP1
import Derived.Test.YteekkccgdkmjoaaGreatFR0
import Derived.Test.YteekkccgdkmjoaaGreatU1
import Derived.Stop.Asserts
namespace Go.Proofs.YteekkccgdkmjoaaGreat
open Go.RowKit Go.Proofs.YteekkccgdkmjoaaGreat.Nm
set_option linter.unusedSimpArgs false
set_option linter.unusedVariables false

theorem splitB_le (c : UInt8) (l : List UInt8) : ∀ t ∈ splitB c l, t.length ≤ l.length := by
  induction l with
  | nil => intro t ht; simp [splitB] at ht; subst ht; simp
  | cons b r ih =>
    intro t ht
    unfold splitB at ht
    split at ht
    · rcases List.mem_cons.1 ht with rfl | ht
      · simp
      · have := ih t ht; simp; omega
    · split at ht
      · simp at ht; subst ht; simp
      · rename_i w ws hw
        rcases List.mem_cons.1 ht with rfl | ht
        · have := ih w (by rw [hw]; simp); simp; omega
        · have := ih t (by rw [hw]; simp [ht]); simp; omega

theorem splitSpace_c (s : ByteArray) (w : World) (hs : s.size ≤ 1048576) :
    Calls Tryz.prog 141 #[.string s, .string ⟨#[32]⟩] w fun e w' => ∃ b n : Nat, e = .returned (.slice (some ⟨b, 0, none⟩) n n) ∧ n = (splitB 32 s.data.toList).length ∧ w'.ownsRow w.heap.size 9 1 (.slice (some ⟨b, 0, none⟩) n n) n ((splitB 32 s.data.toList).map txt) ∧ Below w.heap.size w w' :=
  splitOne_c Tryz.lays146 (by kernel_rfl) s 32 w hs

set_option maxHeartbeats 400000 in
set_option maxRecDepth 100000 in
theorem implHasWord_c (s x : ByteArray) (w : World) (hs : s.size ≤ 1048576) :
    Calls Tryz.prog 139 #[.string s, .string x] w (BoolPost w (hasW s.data.toList x.data.toList)) := by
  have C := hid (splitSpace_c s w hs)
  have HL := hid (fun t ht => Nat.le_trans (splitB_le 32 s.data.toList t ht) (show s.data.toList.length ≤ maxTxt by rw [← Lib.size_eq]; unfold maxTxt; exact hs))
  have HE := hid (show hasW s.data.toList x.data.toList = decide (x.data.toList ∈ splitB 32 s.data.toList) from rfl)
  generalize splitB 32 s.data.toList = ws at C HL HE
  generalize hasW s.data.toList x.data.toList = z at HE ⊢
  clear hs
  go_enter Tryz.func139, Tryz.ntmps139
  go_wp2_with fail
  refine C.out.mono ?_
  rintro e w1 ⟨b, n, rfl, hn, ho, hb⟩
  have CT := hid (containsTxt_c (.slice (some ⟨b, 0, none⟩) n n) n w1.heap.size ws x w1 ⟨Sl.of_own ho, HL.out⟩)
  have HB := hid hb
  clear hn ho hb
  go_wp2_with fail
  refine CT.out.mono ?_
  rintro e w2 ⟨rfl, rfl⟩
  go_wp2_with fail
  go_ret
  exact ⟨ret_bool HE.out.symm, HB.out⟩

def gateB (s : ByteArray) : Value := .iface 165 (.agg #[.string s])
def gateM (n : Int) : Value := .iface 166 (.agg #[.int .i64 n])
def gateW (s : ByteArray) : Value := .iface 168 (.agg #[.string s])
def gateR (n : Int) : Value := .iface 156 (.agg #[.int .i64 n])

set_option maxHeartbeats 400000 in
set_option maxRecDepth 100000 in
theorem filterOf0_c (s : ByteArray) (n : Int) (w : World) : Calls Tryz.prog 107 #[.agg #[.int .i64 0, .string s, .int .i64 n]] w fun e w' => e = .returned (gateB s) ∧ Below w.heap.size w w' := by
  go_enter Tryz.func107, Tryz.ntmps107
  go_wp2_with fail
  go_ret
  exact ⟨rfl, by go_grown⟩
set_option maxHeartbeats 400000 in
set_option maxRecDepth 100000 in
theorem filterOf1_c (s : ByteArray) (n : Int) (w : World) : Calls Tryz.prog 107 #[.agg #[.int .i64 1, .string s, .int .i64 n]] w fun e w' => e = .returned (gateM n) ∧ Below w.heap.size w w' := by
  go_enter Tryz.func107, Tryz.ntmps107
  go_wp2_with fail
  go_ret
  exact ⟨rfl, by go_grown⟩
set_option maxHeartbeats 400000 in
set_option maxRecDepth 100000 in
theorem filterOf2_c (s : ByteArray) (n : Int) (w : World) : Calls Tryz.prog 107 #[.agg #[.int .i64 2, .string s, .int .i64 n]] w fun e w' => e = .returned (gateW s) ∧ Below w.heap.size w w' := by
  go_enter Tryz.func107, Tryz.ntmps107
  go_wp2_with fail
  go_ret
  exact ⟨rfl, by go_grown⟩
set_option maxHeartbeats 400000 in
set_option maxRecDepth 100000 in
theorem filterOf3_c (s : ByteArray) (n : Int) (w : World) : Calls Tryz.prog 107 #[.agg #[.int .i64 3, .string s, .int .i64 n]] w fun e w' => e = .returned (gateR n) ∧ Below w.heap.size w w' := by
  go_enter Tryz.func107, Tryz.ntmps107
  go_wp2_with fail
  go_ret
  exact ⟨rfl, by go_grown⟩

set_option maxHeartbeats 400000 in
set_option maxRecDepth 100000 in
theorem branchLets_c (g nm tx : ByteArray) (lv sq : Int) (w : World) (h1 : nm.size ≤ 1048576) (h2 : g.size ≤ 1048576) :
    Calls Tryz.prog 133 #[.agg #[.string g], .agg #[.string nm, .int .i64 lv, .string tx, .int .i64 sq]] w (BoolPost w (belowL nm.data.toList g.data.toList)) := by
  have C := hid (fun W => inBranch_c nm g W (by unfold maxLen; omega) (by omega))
  generalize belowL nm.data.toList g.data.toList = z at C ⊢
  go_enter Tryz.func133, Tryz.ntmps133
  go_wp2_with fail
  refine (C.out _).mono ?_
  rintro e w2 ⟨rfl, rfl⟩
  go_wp2_with fail
  go_ret
  exact ⟨rfl, by go_grown⟩
set_option maxHeartbeats 400000 in
set_option maxRecDepth 100000 in
theorem mostLets_c (n : Int) (nm tx : ByteArray) (lv sq : Int) (w : World) :
    Calls Tryz.prog 137 #[.agg #[.int .i64 n], .agg #[.string nm, .int .i64 lv, .string tx, .int .i64 sq]] w (BoolPost w (decide (lv ≤ n))) := by
  go_enter Tryz.func137, Tryz.ntmps137
  go_wp2_with fail
  go_ret
  exact ⟨ret_bool (by simp), by go_grown⟩
set_option maxHeartbeats 400000 in
set_option maxRecDepth 100000 in
theorem wordLets_c (g nm tx : ByteArray) (lv sq : Int) (w : World) (h1 : tx.size ≤ 1048576) :
    Calls Tryz.prog 138 #[.agg #[.string g], .agg #[.string nm, .int .i64 lv, .string tx, .int .i64 sq]] w (BoolPost w (!hasW tx.data.toList g.data.toList)) := by
  have C := hid (fun W => implHasWord_c tx g W h1)
  generalize hasW tx.data.toList g.data.toList = z at C ⊢
  go_enter Tryz.func138, Tryz.ntmps138
  go_wp2_with fail
  refine (C.out _).mono ?_
  rintro e w2 ⟨rfl, hb⟩
  have HB := hid (Below.trans (by go_grown) (hb.mono (by simp; try omega)) : Below w.heap.size w w2)
  clear hb
  go_wp2_with fail
  go_ret
  exact ⟨rfl, HB.out⟩
end Go.Proofs.YteekkccgdkmjoaaGreat
