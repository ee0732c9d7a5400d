/-
  STORES: copies of records; FlushBuffer of both.
-/
import Derived.Test.YtfjpfdmlcgkfeaaS2
import Derived.Test.YtfjpfdmlcgkfeaaApp
namespace Go.Proofs.Ytfjpfdmlcgkfeaa
open Go.RowKit Nm
set_option linter.unusedSimpArgs false
set_option linter.unusedVariables false

set_option maxHeartbeats 1000000 in
set_option maxRecDepth 100000 in
theorem freshRecs_c {v : Value} {B : Nat} {l : List Rec} {w : World} (h : RecsIn w B v l) :
    Calls Try.prog 31 #[v] w (RowPost w 46 4 l.length (l.flatMap rcells)) := by
  obtain ⟨A, n, c, rfl⟩ := h.form
  have hn := h.2
  unfold maxTxt at hn
  have HV := hid h.1.1
  clear h
  go_enter Try.func31, Try.ntmps31
  go_wp2_with (at_builtin; refine appRecordS _ rfl _ _ rfl w.heap.size (.slice none 0 0) [] l (by rfl) (World.ownsRow_nil _ _ _ _) B _ (by rfl) HV.out (by simp; omega) (Nat.le_refl _) ?_)
  intro v' w' ho hb
  have HO := hid (show w'.ownsRow w.heap.size 46 4 v' l.length (l.flatMap rcells) by simpa using ho)
  have HB := hid hb
  clear ho hb
  go_wp2_with fail
  go_ret
  exact ⟨v', rfl, HO.out, HB.out⟩
set_option maxHeartbeats 1000000 in
set_option maxRecDepth 100000 in
theorem copyRecords_c {v : Value} {B : Nat} {l : List Rec} {w : World} (h : RecsIn w B v l) (hB : B ≤ w.heap.size) :
    Calls Try.prog 27 #[v] w (RowPost w 46 4 l.length (l.flatMap rcells)) := by
  obtain ⟨A, n, c, rfl⟩ := h.form
  have hn := h.2
  unfold maxTxt at hn
  have HV := hid (h.1.1.below ((Below.refl w.heap.size w).alloc (Nat.le_refl _) (.cells #[] 46)) hB)
  have HL := hid (World.ownsRow_lit w #[] 0 (Nat.le_refl _) (by unfold maxLen; omega) (by simp) : (w.alloc (.cells #[] 46)).ownsRow w.heap.size 46 4 (.slice (some ⟨w.heap.size, 0, none⟩) 0 0) 0 [])
  clear h
  go_enter Try.func27, Try.ntmps27
  go_wp2_with (at_builtin; refine appRecordS _ rfl _ _ rfl w.heap.size _ [] l (by rfl) HL.out B _ (by rfl) HV.out (by simp; omega) (by simp) ?_)
  intro v' w' ho hb
  have HO := hid (show w'.ownsRow w.heap.size 46 4 v' l.length (l.flatMap rcells) by simpa using ho)
  have HB := hid (Below.trans (by go_grown : Below w.heap.size w (w.alloc (.cells #[] 46))) hb)
  clear ho hb
  go_wp2_with fail
  go_ret
  exact ⟨v', rfl, HO.out, HB.out⟩

def flushB (d : Buf) : Buf := if bufOk d then ⟨d.rm, d.lv, []⟩ else ⟨0, 0, []⟩
def flushR (d : Buf) : List Rec := if bufOk d then d.rc else []
def FlushPost (w : World) (X0 : Buf) (X1 : List Rec) (e : Ending) (w2 : World) : Prop :=
  ∃ (u0 : Value) (rs0 : List Row), ∃ (u1 : Value) (rs1 : List Row), e = .returned (.tuple #[u0, u1]) ∧ BufR rs0 u0 X0 ∧ RecsR rs1 u1 X1 ∧ Rows w2 w.heap.size (rs0 ++ (rs1)) ∧ Below w.heap.size w w2
theorem flush_none {w w2 : World} {e : Ending} (he : e = .returned (.tuple #[.agg #[.int .i64 0, .int .i64 0, .slice none 0 0], .slice none 0 0])) (hb : Below w.heap.size w w2) : FlushPost w ⟨0, 0, []⟩ [] e w2 :=
  ⟨_, _, _, _, he, ⟨_, rfl, rfl⟩, rfl, Rows.cons_nil (Rows.one (World.ownsRow_nil _ _ _ _)), hb⟩
end Go.Proofs.Ytfjpfdmlcgkfeaa
