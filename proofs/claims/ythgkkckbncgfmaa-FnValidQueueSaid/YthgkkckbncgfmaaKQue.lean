/-
  Queue: told by its rows. By gen_kind.py.
-/
import Derived.Test.YthgkkckbncgfmaaKRecs
namespace Go.Proofs.Ythgkkckbncgfmaa
open Go.RowKit Nm
set_option linter.unusedSimpArgs false
set_option linter.unusedVariables false

structure Que where
  rm : Int
  it : List Rec
  ls : Int
def QueR (rs : List Row) (v : Value) (d : Que) : Prop := ∃ u, v = .agg #[.int .i64 d.rm, u, .int .i64 d.ls] ∧ RecsR rs u d.it
def QueIn (w : World) (B : Nat) (v : Value) (d : Que) : Prop := ∃ u, v = .agg #[.int .i64 d.rm, u, .int .i64 d.ls] ∧ RecsIn w B u d.it
def QueM (rs : List Row) (v : Value) (k r : Nat) : Prop := ∃ (u : Value) (rm : Int) (ls : Int), v = .agg #[.int .i64 rm, u, .int .i64 ls] ∧ RecsM rs u k r
def QueFit (d : Que) : Prop := RecsFit d.it
section
variable {w w' : World} {B B' lo : Nat} {v : Value} {d : Que} {rs rest : List Row}
theorem QueIn.below (h : QueIn w B v d) (hb : Below B' w w') (hB : B ≤ B') : QueIn w' B v d := by obtain ⟨u, h1, h2⟩ := h; exact ⟨u, h1, h2.below hb hB⟩
theorem QueIn.form (h : QueIn w B v d) : ∃ A n c, v = .agg #[.int .i64 d.rm, .slice A n c, .int .i64 d.ls] := by obtain ⟨u, rfl, h2⟩ := h; obtain ⟨A, n, c, rfl⟩ := h2.form; exact ⟨A, n, c, rfl⟩
theorem QueR.at_ (h : QueR rs v d) (hr : Rows w lo rs) (hf : QueFit d) : QueIn w w.heap.size v d := by obtain ⟨u, h1, h2⟩ := h; exact ⟨u, h1, h2.at_ hr hf⟩
theorem QueR.form (h : QueR rs v d) (hr : Rows w lo rs) : ∃ A n c, v = .agg #[.int .i64 d.rm, .slice A n c, .int .i64 d.ls] := by obtain ⟨u, rfl, h2⟩ := h; obtain ⟨A, n, c, rfl⟩ := h2.form hr; exact ⟨A, n, c, rfl⟩
end

def QueRaw (w : World) (B : Nat) (A : Option Addr) (n c : Nat) (d : Que) : Prop := RecsRaw w B A n c d.it
theorem QueRaw.below {w w' : World} {B B' : Nat} {A : Option Addr} {n c : Nat} {d : Que} (h : QueRaw w B A n c d) (hb : Below B' w w') (hB : B ≤ B') : QueRaw w' B A n c d := RecsRaw.below h hb hB
end Go.Proofs.Ythgkkckbncgfmaa
