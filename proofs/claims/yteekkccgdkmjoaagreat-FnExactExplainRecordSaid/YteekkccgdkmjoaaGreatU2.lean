/-
  WALKS: UsedHandlers of both.
-/
import Derived.Test.YteekkccgdkmjoaaGreatU1
namespace Go.Proofs.YteekkccgdkmjoaaGreat
open Go.RowKit Nm
set_option linter.unusedSimpArgs false
set_option linter.unusedVariables false

theorem TreeIn.hands {w : World} {B n1 k1 n2 k2 : Nat} {A1 A2 : Option Addr} {L : List Lgr} {H : List Hnd} {q : Int} (h : TreeIn w B (.agg #[.slice A1 n1 k1, .slice A2 n2 k2, .int .i64 q]) L H q) :
    ∃ hs, Hs w B n2 (.slice A2 n2 k2) hs ∧ hsOf hs = H := by
  obtain ⟨ls, hs, ⟨A1', n1', k1', A2', n2', k2', e, _, h1, _⟩, h2, h3⟩ := h
  simp at e
  obtain ⟨⟨rfl, rfl, rfl⟩, ⟨rfl, rfl, rfl⟩⟩ := e
  exact ⟨hs, h1, h3⟩
/-- handler k: its cells -/
theorem handler_at {w : World} {B n k2 : Nat} {A : Option Addr} {hs : List HndV} {H : List Hnd} (hh : Hs w B n (.slice A n k2) hs) (hH : hsOf hs = H) {k : Nat} (hk : k < n) :
    ∃ (b o : Nat) (p : ByteArray) (h : Hnd) (A4 : Option Addr) (fn k4 : Nat), A = some ⟨b, o, none⟩ ∧ b < B ∧ H[k]? = some h ∧ p.data.toList = h.nm ∧ p.size ≤ maxTxt ∧ Fs w B fn (.slice A4 fn k4) h.fs ∧
      w.cell? ⟨b, o + k * 3, none⟩ = some (.string p) ∧ w.cell? ⟨b, o + k * 3 + 1, none⟩ = some (.int .i64 h.lv) ∧ w.cell? ⟨b, o + k * 3 + 2, none⟩ = some (.slice A4 fn k4) := by
  obtain ⟨b, o, x, s, e, hb, hx, hs', hz, hf, c0, c1, c2⟩ := hh.at_ hk
  obtain ⟨A4, k4, e4, _, _⟩ := hf.1.form
  rw [e4] at hf c2
  exact ⟨b, o, s, x.h, A4, x.fn, k4, e, hb, by rw [← hH]; unfold hsOf; rw [List.getElem?_map, hx]; rfl, hs', hz, hf, c0, c1, c2⟩

end Go.Proofs.YteekkccgdkmjoaaGreat
