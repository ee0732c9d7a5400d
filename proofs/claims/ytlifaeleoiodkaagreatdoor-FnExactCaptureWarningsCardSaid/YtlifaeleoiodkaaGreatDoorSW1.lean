/-
  A map keyed by what an action compares, that the call itself makes: which are in it.
-/
import Derived.Test.YtlifaeleoiodkaaGreatDoorSW0
import Derived.DeepKeys4
namespace Go.Proofs.YtlifaeleoiodkaaGreatDoor
open Go.RowKit Go.Proofs.YtlifaeleoiodkaaGreatDoor.Nm
open Go.WideMaps
set_option linter.unusedSimpArgs false
set_option linter.unusedVariables false

def sgcells (s : Sgt) : List Value := [.int .i64 s.ac, txt s.tx, txt s.md, .int .i64 s.ln]
theorem sgcells_len (s : Sgt) : (sgcells s).length = 4 := rfl
def sgV (s : Sgt) : Value := .agg #[.int .i64 s.ac, txt s.tx, txt s.md, .int .i64 s.ln]
def sgFit (s : Sgt) : Prop := (-9223372036854775808 ≤ s.ac ∧ s.ac ≤ 9223372036854775807) ∧ s.tx.length ≤ maxTxt ∧ s.md.length ≤ maxTxt ∧ (-9223372036854775808 ≤ s.ln ∧ s.ln ≤ 9223372036854775807)
theorem Tryz.sgLaid : laidOutB Tryz.prog = true := by kernel_rfl
theorem Tryz.sgRow : (133 : TypeId) < Tryz.prog.types.size := of_decide_eq_true (by kernel_rfl)
theorem Tryz.sgWide : (match Tryz.prog.underlying 133 with | some (.array _ _) | some (.struct _) => true | _ => false) = true := by kernel_rfl
theorem Tryz.sgCells : Tryz.prog.cellsOf 133 = 4 := by kernel_rfl
theorem Tryz.sgKeyT : Tryz.prog.keyType 133 = true := by kernel_rfl
theorem Tryz.sgDeep : Tryz.prog.keyTypeAt 4 133 = true := by kernel_rfl
theorem Tryz.cInt : Tryz.prog.cellsOf 3 = 1 := by kernel_rfl
theorem Tryz.cStr : Tryz.prog.cellsOf 9 = 1 := by kernel_rfl
theorem Tryz.cWrn : Tryz.prog.cellsOf 59 = 3 := by kernel_rfl
set_option maxRecDepth 100000 in
theorem Tryz.sgLaw : KeyLaw Tryz.prog 133 := deep_law_laid Tryz.sgLaid (m := 4) (by omega) Tryz.sgRow Tryz.sgDeep Tryz.sgWide
theorem Tryz.sgMany : 4 ≤ Tryz.prog.types.size + 1 := of_decide_eq_true (by kernel_rfl)
theorem sgV_inj {s t : Sgt} (h : sgV s = sgV t) : s = t := by
  obtain ⟨a, b, c, d⟩ := s
  obtain ⟨a', b', c', d'⟩ := t
  simp [sgV, txt] at h
  obtain ⟨rfl, rfl, rfl, rfl⟩ := h
  rfl
set_option maxHeartbeats 4000000 in
theorem sg_key {s : Sgt} (h : sgFit s) : ∃ l, keyOf Tryz.prog 133 (sgV s) = some l := by
  obtain ⟨ac, tx, md, ln⟩ := s
  obtain ⟨h1, h2, h3, h4⟩ := h
  dsimp only at h1 h2 h3 h4
  unfold maxTxt at h2 h3
  obtain ⟨m, hm⟩ : ∃ m, Tryz.prog.types.size + 1 = m + 3 := ⟨Tryz.prog.types.size + 1 - 3, by have := Tryz.sgMany; omega⟩
  have hf : (sgV ⟨ac, tx, md, ln⟩).formed Tryz.prog 133 = true := by simp [sgV, Value.formed, Tryz.underlying133, Tryz.sgCells]
  have m1 : IntKind.i64.min = -9223372036854775808 := by decide
  have m2 : IntKind.i64.max = 9223372036854775807 := by decide
  have w1 : (Lit.int .i64 ac).wf = true := by simp [Lit.wf, m1, m2]; exact h1
  have w2 : (Lit.int .i64 ln).wf = true := by simp [Lit.wf, m1, m2]; exact h4
  unfold keyOf
  rw [Tryz.underlying133]
  simp only [Tryz.sgKeyT, hf, Bool.and_self, if_true, hm]
  have hs1 : (⟨tx.toArray⟩ : ByteArray).size ≤ maxLen := by unfold maxLen; simp [ByteArray.size]; omega
  have hs2 : (⟨md.toArray⟩ : ByteArray).size ≤ maxLen := by unfold maxLen; simp [ByteArray.size]; omega
  simp only [sgV, Value.cells, txt]
  simp [Program.keyLits, sgV, Value.cells, txt, Tryz.underlying133, Tryz.underlying59, Tryz.underlying3, Tryz.underlying9, Tryz.sgCells, Tryz.cInt, Tryz.cStr, Tryz.cWrn, w1, w2, hs1, hs2]
  rw [if_pos (by decide)]
  exact ⟨_, rfl⟩
/-- block b is a map that says f of each -/
def SetK (w : World) (b n : Nat) (f : Sgt → Bool) : Prop :=
  ∃ D : DataW Unit, Maps.IsMap D ∧ w.ownsMap Tryz.prog 133 (plainElem Tryz.prog 4) b n D ∧ ∀ s l, keyOf Tryz.prog 133 (sgV s) = some l → D.atKey l (.lit (.bool false)) = .lit (.bool (f s))
theorem SetK.made (w : World) : SetK (w.alloc (.map #[] 0)) w.heap.size 0 (fun _ => false) :=
  ⟨.map [], ⟨[], rfl⟩, World.ownsMap_made w _ _ _, fun _ _ _ => rfl⟩
section
variable {w w' : World} {b n : Nat} {f g : Sgt → Bool}
theorem SetK.kept {row : Option Nat} (h : SetK w b n f) (hg : w.grownBy w' row) (hne : some b ≠ row) : SetK w' b n f := by
  obtain ⟨D, h1, h2, h3⟩ := h
  exact ⟨D, h1, h2.kept hg hne, h3⟩
theorem SetK.lt (h : SetK w b n f) : b < w.heap.size := by
  obtain ⟨D, h1, h2, h3⟩ := h
  exact h2.lt
theorem SetK.below (h : SetK w b n f) (hb : Below w.heap.size w w') : SetK w' b n f := h.kept (grown_of hb none) (by simp)
theorem SetK.alloc' (h : SetK w b n f) (o : Obj) : SetK (w.alloc o) b n f := h.kept (World.grownBy_alloc w o none) (by simp)
theorem SetK.congr (h : SetK w b n f) (e : ∀ s, f s = g s) : SetK w b n g := by
  have : f = g := funext e
  rwa [← this]
end
/-- a look-up: the world stays -/
theorem SetK.look {w : World} {b n : Nat} {f : Sgt → Bool} (h : SetK w b n f) {s : Sgt} (hs : sgFit s) :
    (Instr.lookup 131 (.map (some b)) (sgV s) false).run Tryz.prog w = .ok (.bool (f s)) w := by
  obtain ⟨D, h1, h2, h3⟩ := h
  obtain ⟨l, hl⟩ := sg_key hs
  obtain ⟨v, ps, hrun, hv⟩ := h2.lookup (Maps.Keyed.of_law Tryz.sgLaw) Tryz.underlying131 (zeroBool w) (plainElem_bool Tryz.underlying4 false) hl
  obtain ⟨c, rfl, hc⟩ := plainElem_bool_inv Tryz.underlying4 hv
  have h6 : DataW.lit (H := Unit) (.bool (f s)) = .lit (.bool c) := by
    have h7 := congrArg Prod.fst hc
    rw [← h3 s l hl]; exact h7
  have h5 : f s = c := Lit.bool.inj (DataW.lit.inj h6)
  rw [hrun, h5]
/-- a store, for the walk -/
theorem wpList_setK (w : World) {ops : Array Oper} {rest : List Oper} {o : Oper} {a : Act} {Q : Exit → Act → World → Prop} {b n : Nat} {f : Sgt → Bool} (h : SetK w b n f)
    (hg : o.guard = none) (m x v : Operand) (hop : o.op = Op.mapUpdate 131 m x v) (hm : a.eval m = .map (some b)) (hn : n < maxLen) (s : Sgt) (hs : sgFit s) (c : Bool) (hx : a.eval x = sgV s) (hv : a.eval v = .bool c)
    (hK : ∀ w', SetK w' b (n + 1) (fun t => if t = s then c else f t) → w.grownBy w' (some b) → wpList Tryz.prog ops Q rest (a.put o.dst undef) w') :
    wpList Tryz.prog ops Q (o :: rest) a w := by
  obtain ⟨D, h1, h2, h3⟩ := h
  obtain ⟨l, hl⟩ := sg_key hs
  obtain ⟨q, hq⟩ := Tryz.sgLaw.str hl
  refine wpList_mapUpdate_own w hg m x v 131 hop 133 4 (Maps.Keyed.of_law Tryz.sgLaw) Tryz.underlying131 _ b n D hm h2 hn (sgV s) (.bool c) l hx hv
    hl (.lit (.bool c)) [] (plainElem_bool Tryz.underlying4 c) ?_
  intro w' h4 h5
  refine hK w' ⟨_, ?_, h4, fun t l' hl' => ?_⟩ h5
  · obtain ⟨es, rfl⟩ := h1; exact ⟨_, rfl⟩
  · by_cases ht : t = s
    · subst ht
      obtain rfl : l' = l := by rw [hl] at hl'; exact (Option.some.inj hl').symm
      subst hq
      rw [Maps.atKey_put_same h1 (by trivial)]; simp
    · rw [Maps.atKey_put_other (by intro e; subst e; exact ht (sgV_inj (Tryz.sgLaw.inj hl' hl))), h3 t l' hl']; simp [ht]
theorem Sl.sgt_at {w : World} {B n c k : Nat} {A : Option Addr} {l : List Sgt} (h : Sl w B 4 n (.slice A n c) (l.flatMap sgcells)) (hk : k < n) :
    ∃ (b o : Nat) (s : Sgt), A = some ⟨b, o, none⟩ ∧ b < B ∧ l[k]? = some s ∧ w.cell? ⟨b, o + k * 4, none⟩ = some (.int .i64 s.ac) ∧ w.cell? ⟨b, o + k * 4 + 1, none⟩ = some (.string ⟨s.tx.toArray⟩) ∧ w.cell? ⟨b, o + k * 4 + 2, none⟩ = some (.string ⟨s.md.toArray⟩) ∧ w.cell? ⟨b, o + k * 4 + 3, none⟩ = some (.int .i64 s.ln) := by
  obtain ⟨b, o, x, e, hb, hx, hc⟩ := Sl.elem sgcells_len h (by omega) hk
  exact ⟨b, o, x, e, hb, hx, hc 0 _ rfl, hc 1 _ rfl, hc 2 _ rfl, hc 3 _ rfl⟩
end Go.Proofs.YtlifaeleoiodkaaGreatDoor
