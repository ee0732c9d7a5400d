/-
  RECORDS SENT: the program's takers: handlers as functions, in a map. By gen_sn.py.
-/
import Derived.Test.YtihigemelekflaaGM
import Derived.Test.YtihigemelekflaaFRM
import Derived.Test.YtihigemelekflaaApp
import Derived.Deep.RegionHeld3
namespace Go.Proofs.Ytihigemelekflaa
open Go.RowKit Go.Proofs.Ytihigemelekflaa.Nm
open Go.WideMaps
set_option linter.unusedSimpArgs false
set_option linter.unusedVariables false

theorem makeFn (fn : Fn) (first cap : Array Value) (w : World) : (Instr.makeFunc fn first cap).run Try.prog w = .ok (.func fn first cap) w := rfl
/-- a run of a store into a map -/
theorem MapP.runs {w : World} {b n : Nat} {g : List UInt8 → Option Value} (h : MapP w b n g) (t e : TypeId) (ht : Try.prog.underlying t = some (.map 9 e)) (hn : n < maxLen) (s : ByteArray) (hs : s.size ≤ maxLen) (u : Value) :
    ∃ w', (Instr.mapUpdate t (.map (some b)) (.string s) u).run Try.prog w = .ok () w' ∧ MapP w' b (n + 1) (fun l => if l = s.data.toList then some u else g l) ∧ w.grownBy w' (some b) := by
  obtain ⟨D, h1, h2, h3, h3'⟩ := h
  obtain ⟨w', hrun, h4, h5⟩ := h2.update (Maps.string_keyed Try.underlying9) ht hn (keyOf_string_mk Try.underlying9 hs) (show asHeld u = some (.held u, []) from rfl)
  refine ⟨w', hrun, ⟨_, ?_, h4, fun z l => ?_, fun l => ?_⟩, h5⟩
  · obtain ⟨es, rfl⟩ := h1; exact ⟨_, rfl⟩
  · by_cases hl : l = s.data.toList
    · subst hl
      rw [Maps.atKey_put_same h1 (by trivial)]; simp
    · rw [Maps.atKey_put_other (by intro e; injection e with e; exact hl e), h3]; simp [hl]
  · by_cases hl : l = s.data.toList
    · subst hl
      rw [Maps.has_put_same h1 (by trivial)]; simp
    · rw [Maps.has_put_other (by intro e; injection e with e; exact hl e), h3']; simp [hl]
theorem wpList_insP (w : World) {ops : Array Oper} {rest : List Oper} {o : Oper} {a : Act} {Q : Exit → Act → World → Prop} {b n : Nat} {g : List UInt8 → Option Value} (h : MapP w b n g)
    (t e : TypeId) (ht : Try.prog.underlying t = some (.map 9 e)) (hg : o.guard = none) (m x v : Operand) (hop : o.op = Op.insert t m x v) (hm : a.eval m = .map (some b)) (hn : n < maxLen)
    (s : ByteArray) (hs : s.size ≤ maxLen) (u : Value) (hx : a.eval x = .string s) (hv : a.eval v = u)
    (hK : ∀ w', MapP w' b (n + 1) (fun l => if l = s.data.toList then some u else g l) → w.grownBy w' (some b) → wpList Try.prog ops Q rest (a.put o.dst undef) w') :
    wpList Try.prog ops Q (o :: rest) a w := by
  obtain ⟨w', hrun, r1, r2⟩ := h.runs t e ht hn s hs u
  refine wpList_plain hg fun K' hK' => ?_
  unfold Oper.wp
  simp [execOp, hop, hm, hx, hv, hrun, Result.andThen]
  exact hK' _ _ (hK w' r1 r2)

def TakePost (w : World) (nm tx : ByteArray) (sq : Int) (r : Int × Int) (e : Ending) (w' : World) : Prop := e = .returned (.tuple #[.agg #[.string nm, .int .i64 r.2, .string tx, .int .i64 sq], .int .i64 r.1]) ∧ Below w.heap.size w w'
def lastB : ByteArray := ⟨#[108, 97, 115, 116]⟩
end Go.Proofs.Ytihigemelekflaa
