/-
  An argument that is a tree: what it reads as.
-/
import Derived.Test.YtlhelhfaogcibaaO0
import Derived.Test.YtlhelhfaogcibaaN1
namespace Go.Proofs.Ytlhelhfaogcibaa
open Go.RowKit Nm Go.ChangeShapes Go.WideShapes Go.Deep
set_option linter.unusedSimpArgs false
set_option linter.unusedVariables false

instance : Inhabited Lgr := ⟨⟨[], 0, [], [], false, false⟩⟩
instance : Inhabited LgrV := ⟨⟨default, default, 0, default, 0⟩⟩
instance : Inhabited Hnd := ⟨⟨[], 0, []⟩⟩
instance : Inhabited HndV := ⟨⟨default, default, 0⟩⟩
theorem open_text {H : Type} {enc : TypeId × Value → H} {W : World} {base n : Nat} {sp : Nat → Bool} {hd : Bool} {cs : List Value} {x : DataW H × List MemPlace}
    (h : DataW.trod enc Try.prog W base sp hd n 9 cs = some x) : ∃ y : List UInt8, cs = [txt y] ∧ y.length ≤ maxLen := by
  obtain ⟨s, e, _, hs⟩ := DataW.trod_string Try.underlying9 h
  exact ⟨s.data.toList, by rw [e, txt_data], by rw [← Lib.size_eq]; exact hs⟩
theorem open_flt' {H : Type} {enc : TypeId × Value → H} {W : World} {base n : Nat} {sp : Nat → Bool} {hd : Bool} {cs : List Value} {x : DataW H × List MemPlace}
    (h : DataW.trod enc Try.prog W base sp hd n 118 cs = some x) : ∃ f : Flt, cs = fcells f ∧ f.nm.length ≤ maxLen :=
  open_flt Try.underlying118 (by kernel_rfl) (by kernel_rfl) Try.underlying3 Try.underlying9 Try.underlying3 h
theorem flatMap_txt (l : List (List UInt8)) : l.flatMap (fun t => [txt t]) = l.map txt := by
  induction l with
  | nil => rfl
  | cons a l ih => simp [ih]
/-- one slice among the fields -/
theorem open_txts {H : Type} {enc : TypeId × Value → H} {W : World} {base n : Nat} {sp : Nat → Bool} {hd : Bool} {v : Value} {x : DataW H × List MemPlace}
    (h : DataW.trod enc Try.prog W base sp hd n 35 [v] = some x) : ∃ (l : List (List UInt8)) (k : Nat), Sl W W.heap.size 1 k v (l.map txt) ∧ ∀ t ∈ l, t.length ≤ maxLen := by
  obtain ⟨l, k, h1, h2⟩ := open_rows (fun t : List UInt8 => [txt t]) 1 (fun _ => rfl) (by omega) (fun t => t.length ≤ maxLen) Try.underlying35 (by kernel_rfl) (fun _ _ _ h => open_text h) h
  exact ⟨l, k, by rw [← flatMap_txt]; exact h1, h2⟩
theorem open_fs {H : Type} {enc : TypeId × Value → H} {W : World} {base n : Nat} {sp : Nat → Bool} {hd : Bool} {v : Value} {x : DataW H × List MemPlace}
    (h : DataW.trod enc Try.prog W base sp hd n 80 [v] = some x) : ∃ (l : List Flt) (k : Nat), Sl W W.heap.size 3 k v (fsCells l) ∧ ∀ f ∈ l, f.nm.length ≤ maxLen :=
  open_rows fcells 3 (fun _ => rfl) (by omega) (fun f => f.nm.length ≤ maxLen) Try.underlying80 (by kernel_rfl) (fun _ _ _ h => open_flt' h) h
set_option maxRecDepth 100000 in
theorem openLogger {H : Type} {enc : TypeId × Value → H} {W : World} {base n : Nat} {sp : Nat → Bool} {hd : Bool} {cs : List Value} {x : DataW H × List MemPlace}
    (h : DataW.trod enc Try.prog W base sp hd n 82 cs = some x) : ∃ y : LgrV, cs = lcells y ∧ lraw W W.heap.size y := by
  obtain ⟨ys, m, _, _, hlen, hyl, hf⟩ := DataW.trod_struct Try.underlying82 h
  rw [show Try.prog.cellsOf 82 = 6 by kernel_rfl] at hlen
  have hys : ys.length = 6 := hyl
  match cs, hlen with
  | [c0, c1, c2, c3, c4, c5], _ =>
    have k0 : DataW.trod enc Try.prog W base sp hd m 9 [c0] = some (ys[0]'(by omega)) := by
      rw [← List.getElem?_eq_getElem, ← hf 0 _ rfl]
      first | rfl | (show _ = DataW.trod _ _ _ _ _ _ _ _ (List.take (Try.prog.cellsOf 9) _); rw [show Try.prog.cellsOf 9 = 1 by kernel_rfl]; rfl)
    have k1 : DataW.trod enc Try.prog W base sp hd m 3 [c1] = some (ys[1]'(by omega)) := by
      rw [← List.getElem?_eq_getElem, ← hf 1 _ rfl]
      first | rfl | (show _ = DataW.trod _ _ _ _ _ _ _ _ (List.take (Try.prog.cellsOf 3) _); rw [show Try.prog.cellsOf 3 = 1 by kernel_rfl]; rfl)
    have k2 : DataW.trod enc Try.prog W base sp hd m 35 [c2] = some (ys[2]'(by omega)) := by
      rw [← List.getElem?_eq_getElem, ← hf 2 _ rfl]
      first | rfl | (show _ = DataW.trod _ _ _ _ _ _ _ _ (List.take (Try.prog.cellsOf 35) _); rw [show Try.prog.cellsOf 35 = 1 by kernel_rfl]; rfl)
    have k3 : DataW.trod enc Try.prog W base sp hd m 80 [c3] = some (ys[3]'(by omega)) := by
      rw [← List.getElem?_eq_getElem, ← hf 3 _ rfl]
      first | rfl | (show _ = DataW.trod _ _ _ _ _ _ _ _ (List.take (Try.prog.cellsOf 80) _); rw [show Try.prog.cellsOf 80 = 1 by kernel_rfl]; rfl)
    have k4 : DataW.trod enc Try.prog W base sp hd m 4 [c4] = some (ys[4]'(by omega)) := by
      rw [← List.getElem?_eq_getElem, ← hf 4 _ rfl]
      first | rfl | (show _ = DataW.trod _ _ _ _ _ _ _ _ (List.take (Try.prog.cellsOf 4) _); rw [show Try.prog.cellsOf 4 = 1 by kernel_rfl]; rfl)
    have k5 : DataW.trod enc Try.prog W base sp hd m 4 [c5] = some (ys[5]'(by omega)) := by
      rw [← List.getElem?_eq_getElem, ← hf 5 _ rfl]
      first | rfl | (show _ = DataW.trod _ _ _ _ _ _ _ _ (List.take (Try.prog.cellsOf 4) _); rw [show Try.prog.cellsOf 4 = 1 by kernel_rfl]; rfl)
    obtain ⟨s0, e0, _, hs0⟩ := DataW.trod_string Try.underlying9 k0
    obtain ⟨p1, e1, _, _⟩ := DataW.trod_int Try.underlying3 k1
    obtain ⟨l2, n2, s2, m2⟩ := open_txts k2
    obtain ⟨l3, n3, s3, m3⟩ := open_fs k3
    obtain ⟨b4, e4, _⟩ := DataW.trod_bool Try.underlying4 k4
    obtain ⟨b5, e5, _⟩ := DataW.trod_bool Try.underlying4 k5
    simp at e0 e1 e4 e5
    subst e0; subst e1; subst e4; subst e5
    exact ⟨⟨⟨s0.data.toList, p1, l2, l3, b4, b5⟩, c2, n2, c3, n3⟩, by simp [lcells, txt_data], by show s0.data.toList.length ≤ _; rw [← Lib.size_eq]; exact hs0, ⟨s2, m2⟩, ⟨s3, m3⟩⟩
set_option maxRecDepth 100000 in
theorem openHandler {H : Type} {enc : TypeId × Value → H} {W : World} {base n : Nat} {sp : Nat → Bool} {hd : Bool} {cs : List Value} {x : DataW H × List MemPlace}
    (h : DataW.trod enc Try.prog W base sp hd n 85 cs = some x) : ∃ y : HndV, cs = hcells y ∧ hraw W W.heap.size y := by
  obtain ⟨ys, m, _, _, hlen, hyl, hf⟩ := DataW.trod_struct Try.underlying85 h
  rw [show Try.prog.cellsOf 85 = 3 by kernel_rfl] at hlen
  have hys : ys.length = 3 := hyl
  match cs, hlen with
  | [c0, c1, c2], _ =>
    have k0 : DataW.trod enc Try.prog W base sp hd m 9 [c0] = some (ys[0]'(by omega)) := by
      rw [← List.getElem?_eq_getElem, ← hf 0 _ rfl]
      first | rfl | (show _ = DataW.trod _ _ _ _ _ _ _ _ (List.take (Try.prog.cellsOf 9) _); rw [show Try.prog.cellsOf 9 = 1 by kernel_rfl]; rfl)
    have k1 : DataW.trod enc Try.prog W base sp hd m 3 [c1] = some (ys[1]'(by omega)) := by
      rw [← List.getElem?_eq_getElem, ← hf 1 _ rfl]
      first | rfl | (show _ = DataW.trod _ _ _ _ _ _ _ _ (List.take (Try.prog.cellsOf 3) _); rw [show Try.prog.cellsOf 3 = 1 by kernel_rfl]; rfl)
    have k2 : DataW.trod enc Try.prog W base sp hd m 80 [c2] = some (ys[2]'(by omega)) := by
      rw [← List.getElem?_eq_getElem, ← hf 2 _ rfl]
      first | rfl | (show _ = DataW.trod _ _ _ _ _ _ _ _ (List.take (Try.prog.cellsOf 80) _); rw [show Try.prog.cellsOf 80 = 1 by kernel_rfl]; rfl)
    obtain ⟨s0, e0, _, hs0⟩ := DataW.trod_string Try.underlying9 k0
    obtain ⟨p1, e1, _, _⟩ := DataW.trod_int Try.underlying3 k1
    obtain ⟨l3, n3, s3, m3⟩ := open_fs k2
    simp at e0 e1
    subst e0; subst e1
    exact ⟨⟨⟨s0.data.toList, p1, l3⟩, c2, n3⟩, by simp [hcells, txt_data], by show s0.data.toList.length ≤ _; rw [← Lib.size_eq]; exact hs0, ⟨s3, m3⟩⟩
set_option maxRecDepth 100000 in
theorem openTree {H : Type} {enc : TypeId × Value → H} {W : World} {base n : Nat} {sp : Nat → Bool} {hd : Bool} {cs : List Value} {x : DataW H × List MemPlace}
    (h : DataW.trod enc Try.prog W base sp hd n 25 cs = some x) :
    ∃ Aa na ca Ab nb cb q la lb, cs = [.slice Aa na ca, .slice Ab nb cb, .int .i64 q] ∧ treeRaw W W.heap.size Aa na ca Ab nb cb la lb := by
  obtain ⟨ys, m, _, _, hlen, hyl, hf⟩ := DataW.trod_struct Try.underlying25 h
  rw [show Try.prog.cellsOf 25 = 3 by kernel_rfl] at hlen
  have hys : ys.length = 3 := hyl
  match cs, hlen with
  | [c0, c1, c2], _ =>
    have k0 : DataW.trod enc Try.prog W base sp hd m 22 [c0] = some (ys[0]'(by omega)) := by
      rw [← List.getElem?_eq_getElem, ← hf 0 _ rfl]
      first | rfl | (show _ = DataW.trod _ _ _ _ _ _ _ _ (List.take (Try.prog.cellsOf 22) _); rw [show Try.prog.cellsOf 22 = 1 by kernel_rfl]; rfl)
    have k1 : DataW.trod enc Try.prog W base sp hd m 23 [c1] = some (ys[1]'(by omega)) := by
      rw [← List.getElem?_eq_getElem, ← hf 1 _ rfl]
      first | rfl | (show _ = DataW.trod _ _ _ _ _ _ _ _ (List.take (Try.prog.cellsOf 23) _); rw [show Try.prog.cellsOf 23 = 1 by kernel_rfl]; rfl)
    have k2 : DataW.trod enc Try.prog W base sp hd m 3 [c2] = some (ys[2]'(by omega)) := by
      rw [← List.getElem?_eq_getElem, ← hf 2 _ rfl]
      first | rfl | (show _ = DataW.trod _ _ _ _ _ _ _ _ (List.take (Try.prog.cellsOf 3) _); rw [show Try.prog.cellsOf 3 = 1 by kernel_rfl]; rfl)
    obtain ⟨la, n0, s0, m0⟩ := open_rows lcells 6 lcells_len (by omega) (fun y => lraw W W.heap.size y) Try.underlying22 (by kernel_rfl) (fun _ _ _ h => openLogger h) k0
    obtain ⟨lb, n1, s1, m1⟩ := open_rows hcells 3 hcells_len (by omega) (fun y => hraw W W.heap.size y) Try.underlying23 (by kernel_rfl) (fun _ _ _ h => openHandler h) k1
    obtain ⟨p2, e2, _, _⟩ := DataW.trod_int Try.underlying3 k2
    obtain ⟨Aa, ca, rfl, _, _⟩ := s0.form
    obtain ⟨Ab, cb, rfl, _, _⟩ := s1.form
    simp at e2
    subst e2
    exact ⟨Aa, n0, ca, Ab, n1, cb, p2, la, lb, rfl, ⟨s0, m0⟩, ⟨s1, m1⟩⟩
end Go.Proofs.Ytlhelhfaogcibaa
