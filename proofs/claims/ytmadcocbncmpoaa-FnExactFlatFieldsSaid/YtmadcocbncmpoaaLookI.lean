/-
  N6, N7, N8, N9, N10, N11 laid together.
-/
import Derived.Test.YtmadcocbncmpoaaLawTrees
import Derived.Test.YtmadcocbncmpoaaTrees
import Derived.Test.YtmadcocbncmpoaaHelps
import Derived.Test.YtmadcocbncmpoaaBase
/-
  WALKS: the model's nearest, above, path, effective, and what hangs on them.
-/
namespace Go.Proofs.Ytmadcocbncmpoaa
open Go.RowKit Nm
set_option linter.unusedSimpArgs false
set_option linter.unusedVariables false

theorem lnames_at {l : List LgrV} {k : Nat} {x : LgrV} (hx : l[k]? = some x) : (lnames l).getD k [] = x.l.nm := by simp [lnames, List.getD, hx]

def IntsPost (w : World) (l : List Nat) (e : Ending) (w' : World) : Prop :=
  ∃ v, e = .returned v ∧ w'.ownsRow w.heap.size 3 1 v l.length (l.map icell) ∧ Below w.heap.size w w'

end Go.Proofs.Ytmadcocbncmpoaa

/-
  WALKS: the program's nodes: nearest, hang.
-/
namespace Go.Proofs.Ytmadcocbncmpoaa
open Go.RowKit Nm
set_option linter.unusedSimpArgs false
set_option linter.unusedVariables false

/-- what the map of nodes holds of the first k names -/
def gF (ns : List Name) (nb : Nat → Nat) : Nat → Name → Option Value
  | 0, _ => none
  | k + 1, l => if l = ns.getD k [] then some (.pointer (some ⟨nb k, 0, none⟩)) else gF ns nb k l
theorem gF_congr {ns : List Name} {nb nb' : Nat → Nat} {k : Nat} (h : ∀ j, j < k → nb j = nb' j) (l : Name) : gF ns nb k l = gF ns nb' k l := by
  induction k with
  | zero => rfl
  | succ k ih => simp only [gF]; rw [ih (fun j hj => h j (by omega)), h k (by omega)]
theorem gF_some {ns : List Name} {nb : Nat → Nat} {k : Nat} {l : Name} {v : Value} (h : gF ns nb k l = some v) : ∃ j, j < k ∧ ns.getD j [] = l ∧ v = .pointer (some ⟨nb j, 0, none⟩) := by
  induction k with
  | zero => cases h
  | succ k ih =>
    simp only [gF] at h
    split at h
    · rename_i e
      exact ⟨k, by omega, e.symm, (Option.some.inj h).symm⟩
    · obtain ⟨j, h1, h2⟩ := ih h
      exact ⟨j, by omega, h2⟩
theorem gF_none {ns : List Name} {nb : Nat → Nat} {k : Nat} {l : Name} (h : gF ns nb k l = none) : ∀ j, j < k → ns.getD j [] ≠ l := by
  induction k with
  | zero => intro j hj; omega
  | succ k ih =>
    simp only [gF] at h
    split at h
    · cases h
    · rename_i e
      intro j hj
      by_cases ej : j = k
      · subst ej; exact fun e2 => e e2.symm
      · exact ih h j (by omega)
theorem at_getD {ns : List Name} {j : Nat} {x : Name} (h : ns[j]? = some x) : ns.getD j [] = x := by simp [List.getD, h]
theorem getD_at {ns : List Name} {j : Nat} (h : j < ns.length) : ns[j]? = some (ns.getD j []) := by simp [List.getD, h]
theorem nodup_at {ns : List Name} (hn : ns.Nodup) {i j : Nat} (hi : i < ns.length) (hj : j < ns.length) (e : ns.getD i [] = ns.getD j []) : i = j := by
  have g1 : ns.getD i [] = ns[i] := by simp [List.getD, hi]
  have g2 : ns.getD j [] = ns[j] := by simp [List.getD, hj]
  rw [g1, g2] at e
  exact (List.getElem_inj hn).1 e
theorem gF_hit {ns : List Name} {nb : Nat → Nat} (hn : ns.Nodup) {k j : Nat} (hk : k ≤ ns.length) (hj : j < k) : gF ns nb k (ns.getD j []) = some (.pointer (some ⟨nb j, 0, none⟩)) := by
  cases h : gF ns nb k (ns.getD j []) with
  | none => exact absurd rfl (gF_none h j hj)
  | some v =>
    obtain ⟨i, h1, h2, rfl⟩ := gF_some h
    rw [nodup_at hn (by omega) (by omega) h2]
/-- the number of words of a text in a slot -/
def deep : Value → Nat
  | .string y => (partsL y.data.toList).length
  | _ => 0

/-- where the node of logger j hangs -/
def upV (ns : List Name) (nb : Nat → Nat) (j : Nat) (bare : Bool) : Value := if bare || decide (ns.getD j [] = []) then .pointer none else .pointer (some ⟨nb (upN ns j), 0, none⟩)
/-- the nodes of loggers that lie at block b -/
def Nodes (w : World) (b o : Nat) (ns : List Name) (nb : Nat → Nat) (left : Name → Bool) : Prop :=
  ∀ j, j < ns.length → Blk w (nb j) [.pointer (some ⟨b, o + j * 6, none⟩), upV ns nb j (left (ns.getD j []))]
theorem Nodes.below {w w' : World} {B b o : Nat} {ns : List Name} {nb : Nat → Nat} {left : Name → Bool} (h : Nodes w b o ns nb left) (hb : Below B w w') (hB : ∀ j, j < ns.length → nb j < B) : Nodes w' b o ns nb left :=
  fun j hj => (h j hj).below hb (hB j hj)
theorem Nodes.to {w w' : World} {b o : Nat} {ns : List Name} {nb : Nat → Nat} {left : Name → Bool} (h : Nodes w b o ns nb left) (hb : Below w.heap.size w w') : Nodes w' b o ns nb left :=
  fun j hj => (h j hj).to hb
def HangPost (w : World) (b o : Nat) (ns : List Name) (e : Ending) (w' : World) : Prop :=
  ∃ M nb m, e = .returned (.map (some M)) ∧ MapP w' M m (gF ns nb ns.length) ∧ Nodes w' b o ns nb (fun _ => false) ∧ Below w.heap.size w w'
theorem nodes_first {w : World} {b o : Nat} {ns : List Name} {nb : Nat → Nat} (h : ∀ j, j < ns.length → Blk w (nb j) [.pointer (some ⟨b, o + j * 6, none⟩), .pointer none]) {left : Name → Bool} (hl : ∀ j, j < ns.length → left (ns.getD j []) = true) : Nodes w b o ns nb left := by
  intro j hj
  have := h j hj
  unfold upV
  rw [hl j hj]
  exact this

end Go.Proofs.Ytmadcocbncmpoaa

/-
  WALKS: the program's looks at a tree: nearestNode and what hangs on it.
-/
namespace Go.Proofs.Ytmadcocbncmpoaa
open Go.RowKit Nm
set_option linter.unusedSimpArgs false
set_option linter.unusedVariables false

theorem TreeIn.opened {w : World} {B : Nat} {v : Value} {L : List Lgr} {H : List Hnd} {q : Int} (h : TreeIn w B v L H q) (hok : treeOk L H q = true) :
    ∃ b o n1 k1 A2 n2 k2 ls, v = .agg #[.slice (some ⟨b, o, none⟩) n1 k1, .slice A2 n2 k2, .int .i64 q] ∧ Ls w B n1 (.slice (some ⟨b, o, none⟩) n1 k1) ls ∧ lsOf ls = L ∧ lnames ls = nsOf L ∧ n1 = L.length ∧ n1 ≤ 8 ∧ 1 ≤ n1 ∧ b < B := by
  obtain ⟨A1, n1, k1, A2, n2, k2, rfl⟩ := h.form
  obtain ⟨ls, hl, hL⟩ := h.loggers
  obtain ⟨_, _, _, h8, h1, _⟩ := tree_names hok
  have hn : n1 = L.length := by rw [← hL, ← hl.count]; simp [lsOf]
  obtain ⟨b, o, x, s, rfl, hb, _⟩ := hl.at_ (k := 0) (by omega)
  exact ⟨b, o, n1, k1, A2, n2, k2, ls, rfl, hl, hL, by rw [← hL, ← namesOf_ls]; rfl, hn, by omega, by omega, hb⟩
def NodePost (w : World) (b o : Nat) (ns : List Name) (k : Nat) (e : Ending) (w' : World) : Prop :=
  ∃ nb, e = .returned (.pointer (some ⟨nb k, 0, none⟩)) ∧ Nodes w' b o ns nb (fun _ => false) ∧ Below w.heap.size w w'

end Go.Proofs.Ytmadcocbncmpoaa

/-
  WALKS: the program's looks at a tree: PathOf, ParentOf, ChildrenOf, BranchOf.
-/
namespace Go.Proofs.Ytmadcocbncmpoaa
open Go.RowKit Nm
set_option linter.unusedSimpArgs false
set_option linter.unusedVariables false

def hsAt (L : List Lgr) (k : Nat) : List Name := (L.map (·.hs)).getD k []
def fsAt (L : List Lgr) (k : Nat) : List Flt := (L.map (·.fs)).getD k []
def stopAt (L : List Lgr) (k : Nat) : Bool := (L.map (·.stop)).getD k false
/-- logger k of a valid tree: its cells -/
theorem logger_at {w : World} {B b o n1 k1 : Nat} {ls : List LgrV} {L : List Lgr} (hl : Ls w B n1 (.slice (some ⟨b, o, none⟩) n1 k1) ls) (hL : lsOf ls = L) {k : Nat} (hk : k < n1) :
    ∃ (p : ByteArray) (A3 : Option Addr) (hn k3 : Nat) (A4 : Option Addr) (fn k4 : Nat), p.data.toList = (nsOf L).getD k [] ∧ p.size ≤ maxTxt ∧ Txts w B hn (.slice A3 hn k3) (hsAt L k) ∧ Fs w B fn (.slice A4 fn k4) (fsAt L k) ∧
      w.cell? ⟨b, o + k * 6, none⟩ = some (.string p) ∧ w.cell? ⟨b, o + k * 6 + 1, none⟩ = some (.int .i64 (lvAt L k)) ∧ w.cell? ⟨b, o + k * 6 + 2, none⟩ = some (.slice A3 hn k3) ∧ w.cell? ⟨b, o + k * 6 + 3, none⟩ = some (.slice A4 fn k4) ∧
      w.cell? ⟨b, o + k * 6 + 4, none⟩ = some (.bool (stopAt L k)) ∧ w.cell? ⟨b, o + k * 6 + 5, none⟩ = some (.bool (offAt L k)) := by
  obtain ⟨b', o', y, p, e', hbB, hy, hp, hps, ht, hf, c0, c1, c2, c3, c4, c5⟩ := hl.at_ hk
  obtain ⟨rfl, rfl⟩ : b = b' ∧ o = o' := by simpa using e'
  subst hL
  have e1 : (lsOf ls)[k]? = some y.l := by simp [lsOf, hy]
  have g : ∀ {α : Type} (f : Lgr → α) (d : α), ((lsOf ls).map f).getD k d = f y.l := fun f d => by simp [List.getD, e1]
  obtain ⟨A3, k3, e3, _, _⟩ := ht.1.form
  obtain ⟨A4, k4, e4, _, _⟩ := hf.1.form
  rw [e3] at ht c2
  rw [e4] at hf c3
  refine ⟨p, A3, y.hn, k3, A4, y.fn, k4, hp.trans (g (·.nm) []).symm, hps, ?_, ?_, c0, ?_, c2, c3, ?_, ?_⟩
  · rw [hsAt, g (·.hs) []]; exact ht
  · rw [fsAt, g (·.fs) []]; exact hf
  · rw [lvAt, g (·.lv) 0]; exact c1
  · rw [stopAt, g (·.stop) false]; exact c4
  · rw [offAt, g (·.off) false]; exact c5
/-- node k: its two cells -/
theorem node_at {w : World} {b o : Nat} {ns : List Name} {nb : Nat → Nat} (h : Nodes w b o ns nb (fun _ => false)) {k : Nat} (hk : k < ns.length) :
    w.cell? ⟨nb k, 0, none⟩ = some (.pointer (some ⟨b, o + k * 6, none⟩)) ∧ (ns.getD k [] = [] → w.cell? ⟨nb k, 1, none⟩ = some (.pointer none)) ∧ (ns.getD k [] ≠ [] → w.cell? ⟨nb k, 1, none⟩ = some (.pointer (some ⟨nb (upN ns k), 0, none⟩))) ∧ nb k < w.heap.size := by
  have h0 := h k hk
  refine ⟨(h0.2 0 _ rfl).1, fun e => ?_, fun e => ?_, h0.1⟩
  · have := (h0.2 1 _ rfl).1
    unfold upV at this
    rw [decide_eq_true e] at this
    exact this
  · have := (h0.2 1 _ rfl).1
    unfold upV at this
    rw [decide_eq_false e] at this
    exact this
/-- what is left of a path -/
def remF (ns : List Name) (f : Nat) : Option Nat → List Name
  | none => []
  | some k => (pathF ns f k).map (fun i => ns.getD i [])
def nodePtr (nb : Nat → Nat) (ov : Option Nat) : Value := .pointer (ov.map fun k => ⟨nb k, 0, none⟩)

end Go.Proofs.Ytmadcocbncmpoaa

/-
  WALKS: the program's ParentOf, ChildrenOf, BranchOf.
-/
namespace Go.Proofs.Ytmadcocbncmpoaa
open Go.RowKit Nm
set_option linter.unusedSimpArgs false
set_option linter.unusedVariables false

theorem ne_true_of {a b : ByteArray} (h : ¬ a.data.toList = b.data.toList) : (a.toList != b.toList) = true := by rw [bne, eq_false_of h]; rfl
theorem ne_false_of {a b : ByteArray} (h : a.data.toList = b.data.toList) : (a.toList != b.toList) = false := by rw [bne, eq_true_of h]; rfl
theorem parentB_no {L : List Lgr} {H : List Hnd} {q : Int} {x : Name} (h : (treeOk L H q && nameOk x) = false) : parentB L H q x = false := by
  cases h1 : treeOk L H q with
  | false => unfold parentB; rw [h1]; rfl
  | true =>
    rw [h1, Bool.true_and] at h
    have : x ∉ nsOf L := fun hm => by have := (tree_ns h1).2.2.1 x hm; rw [h] at this; cases this
    unfold parentB
    rw [decide_eq_false this, Bool.and_false, Bool.and_false]

end Go.Proofs.Ytmadcocbncmpoaa

/-
  WALKS: the program's ChildrenOf, level, EffectiveLevel, IsEnabled.
-/
namespace Go.Proofs.Ytmadcocbncmpoaa
open Go.RowKit Nm
set_option linter.unusedSimpArgs false
set_option linter.unusedVariables false

theorem levelF_stop {ns : List Name} {lv : Nat → Int} {f k : Nat} (h : lv k ≠ 0 ∨ ns.getD k [] = []) : levelF ns lv f k = lv k := by
  cases f with
  | zero => rfl
  | succ f => rw [levelF, if_pos h]
theorem levelF_up {ns : List Name} {lv : Nat → Int} {f k : Nat} (h1 : lv k = 0) (h2 : ns.getD k [] ≠ []) : levelF ns lv (f + 1) k = levelF ns lv f (upN ns k) := by
  rw [levelF, if_neg]
  rintro (h | h)
  · exact h h1
  · exact h2 h

end Go.Proofs.Ytmadcocbncmpoaa
