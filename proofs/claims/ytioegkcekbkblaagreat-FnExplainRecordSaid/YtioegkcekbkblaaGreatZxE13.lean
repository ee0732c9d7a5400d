/-
  LAWS OF CHANGED TREES: the laws' equalFilters and equalTree of alike ones.
-/
import Derived.Test.YtioegkcekbkblaaGreatZxEM
import Derived.Test.YtioegkcekbkblaaGreatZxLookI
import Derived.Deep.QuietTactic
import Derived.BigQuiet
namespace Go.Proofs.YtioegkcekbkblaaGreat
open Go.RowKit Nm
set_option linter.unusedSimpArgs false
set_option linter.unusedVariables false

theorem TreeIn.handsE {w : World} {B n1 k1 n2 k2 : Nat} {A1 A2 : Option Addr} {L : List Lgr} {H : List Hnd} {q : Int} (h : TreeIn w B (.agg #[.slice A1 n1 k1, .slice A2 n2 k2, .int .i64 q]) L H q) :
    ∃ hs, Hs w B n2 (.slice A2 n2 k2) hs ∧ hsOf hs = H := by
  obtain ⟨ls, hs, ⟨A1', n1', k1', A2', n2', k2', e, _, h1, _⟩, h2, h3⟩ := h
  simp at e
  obtain ⟨⟨rfl, rfl, rfl⟩, ⟨rfl, rfl, rfl⟩⟩ := e
  exact ⟨hs, h1, h3⟩
def hnmAt (H : List Hnd) (k : Nat) : Name := (H.map (·.nm)).getD k []
def hlvAt (H : List Hnd) (k : Nat) : Int := (H.map (·.lv)).getD k 0
def hfsAt (H : List Hnd) (k : Nat) : List Flt := (H.map (·.fs)).getD k []
/-- handler k of a tree: its cells -/
theorem TreeIn.hnd {w : World} {B n1 k1 n2 k2 : Nat} {A1 A2 : Option Addr} {L : List Lgr} {H : List Hnd} {q : Int} (h : TreeIn w B (.agg #[.slice A1 n1 k1, .slice A2 n2 k2, .int .i64 q]) L H q) {k : Nat} (hk : k < n2) :
    ∃ (b o : Nat) (p : ByteArray) (A4 : Option Addr) (fn k4 : Nat), A2 = some ⟨b, o, none⟩ ∧ p.data.toList = hnmAt H k ∧ fn = (hfsAt H k).length ∧ Sl w B 3 fn (.slice A4 fn k4) (fsCells (hfsAt H k)) ∧
      w.cell? ⟨b, o + k * 3, none⟩ = some (.string p) ∧ w.cell? ⟨b, o + k * 3 + 1, none⟩ = some (.int .i64 (hlvAt H k)) ∧ w.cell? ⟨b, o + k * 3 + 2, none⟩ = some (.slice A4 fn k4) := by
  obtain ⟨hs, hh, hH⟩ := h.handsE
  obtain ⟨b, o, x, s, rfl, _, hx, hsx, _, hf, c0, c1, c2⟩ := hh.at_ hk
  have e1 : H[k]? = some x.h := by rw [← hH]; unfold hsOf; rw [List.getElem?_map, hx]; rfl
  have g : ∀ {α : Type} (f : Hnd → α) (d : α), (H.map f).getD k d = f x.h := fun f d => by simp [List.getD, e1]
  obtain ⟨A4, k4, e4, _, _⟩ := hf.1.form
  rw [e4] at hf c2
  refine ⟨b, o, s, A4, x.fn, k4, rfl, by rw [hnmAt, g (·.nm) []]; exact hsx, ?_, ?_, c0, ?_, c2⟩
  · rw [hfsAt, g (·.fs) []]; exact (Sl.flen hf.1).symm
  · rw [hfsAt, g (·.fs) []]; exact hf.1
  · rw [hlvAt, g (·.lv) 0]; exact c1

end Go.Proofs.YtioegkcekbkblaaGreat
