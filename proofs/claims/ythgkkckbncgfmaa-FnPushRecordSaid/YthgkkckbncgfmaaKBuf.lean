/-
  Buffer: told by its rows. By gen_kind.py.
-/
import Derived.Test.YthgkkckbncgfmaaKRecs
namespace Go.Proofs.Ythgkkckbncgfmaa
open Go.RowKit Nm
set_option linter.unusedSimpArgs false
set_option linter.unusedVariables false

structure Buf where
  rm : Int
  lv : Int
  rc : List Rec
def BufR (rs : List Row) (v : Value) (d : Buf) : Prop := ∃ u, v = .agg #[.int .i64 d.rm, .int .i64 d.lv, u] ∧ RecsR rs u d.rc
def BufIn (w : World) (B : Nat) (v : Value) (d : Buf) : Prop := ∃ u, v = .agg #[.int .i64 d.rm, .int .i64 d.lv, u] ∧ RecsIn w B u d.rc
def BufM (rs : List Row) (v : Value) (k r : Nat) : Prop := ∃ (u : Value) (rm : Int) (lv : Int), v = .agg #[.int .i64 rm, .int .i64 lv, u] ∧ RecsM rs u k r
def BufFit (d : Buf) : Prop := RecsFit d.rc
section
variable {w w' : World} {B B' lo : Nat} {v : Value} {d : Buf} {rs rest : List Row}
theorem BufIn.below (h : BufIn w B v d) (hb : Below B' w w') (hB : B ≤ B') : BufIn w' B v d := by obtain ⟨u, h1, h2⟩ := h; exact ⟨u, h1, h2.below hb hB⟩
theorem BufIn.form (h : BufIn w B v d) : ∃ A n c, v = .agg #[.int .i64 d.rm, .int .i64 d.lv, .slice A n c] := by obtain ⟨u, rfl, h2⟩ := h; obtain ⟨A, n, c, rfl⟩ := h2.form; exact ⟨A, n, c, rfl⟩
theorem BufR.at_ (h : BufR rs v d) (hr : Rows w lo rs) (hf : BufFit d) : BufIn w w.heap.size v d := by obtain ⟨u, h1, h2⟩ := h; exact ⟨u, h1, h2.at_ hr hf⟩
theorem BufR.form (h : BufR rs v d) (hr : Rows w lo rs) : ∃ A n c, v = .agg #[.int .i64 d.rm, .int .i64 d.lv, .slice A n c] := by obtain ⟨u, rfl, h2⟩ := h; obtain ⟨A, n, c, rfl⟩ := h2.form hr; exact ⟨A, n, c, rfl⟩
end

def BufRaw (w : World) (B : Nat) (A : Option Addr) (n c : Nat) (d : Buf) : Prop := RecsRaw w B A n c d.rc
theorem BufRaw.below {w w' : World} {B B' : Nat} {A : Option Addr} {n c : Nat} {d : Buf} (h : BufRaw w B A n c d) (hb : Below B' w w') (hB : B ≤ B') : BufRaw w' B A n c d := RecsRaw.below h hb hB
end Go.Proofs.Ythgkkckbncgfmaa
