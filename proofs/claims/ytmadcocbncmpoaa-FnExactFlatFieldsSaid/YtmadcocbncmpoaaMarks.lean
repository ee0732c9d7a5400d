/-
  GFilter, N16, N17, N18, N19 laid together.
-/
import Derived.Test.YtmadcocbncmpoaaHelps
import Derived.Test.YtmadcocbncmpoaaLawTrees
/-
  Filters marked and held, as the laws do. By gen_flat.py.
-/
namespace Go.Proofs.Ytmadcocbncmpoaa
open Go.RowKit Nm
set_option linter.unusedSimpArgs false
set_option linter.unusedVariables false

def fcellsKinds : List Bool := [false, true, false]

end Go.Proofs.Ytmadcocbncmpoaa

/-
  TREES marked: the walks of what the laws write into a tree's memory, and what then stands there.
-/
namespace Go.Proofs.Ytmadcocbncmpoaa
open Go.RowKit Nm
set_option linter.unusedSimpArgs false
set_option linter.unusedVariables false

theorem Rows.put {w w' : World} {lo j : Nat} {rs : List Row} {r : Row} {ys : List Value} (h : Rows w lo rs) (hj : rs[j]? = some r) (hg : w.grownBy w' r.v.ownBlock) (ho : w'.ownsRow lo r.T r.d r.v r.n ys) : Rows w' lo (rs.set j { r with xs := ys }) := by
  have hl := (List.getElem?_eq_some_iff.1 hj).1
  have e : rs = rs.take j ++ r :: rs.drop (j + 1) := by
    have := (List.getElem?_eq_some_iff.1 hj).2
    rw [← this, ← List.drop_eq_getElem_cons hl, List.take_append_drop]
  rw [e] at h
  have := h.write hg ho
  rw [List.set_eq_take_append_cons_drop, if_pos hl]
  exact this
theorem flat_set {α β : Type} (f : α → List β) (d : Nat) (hf : ∀ x, (f x).length = d) (l : List α) (i j : Nat) (x y : α) (u : β) (hx : l[i]? = some x) (hj : j < d) (hy : f y = (f x).set j u) : (l.flatMap f).set (i * d + j) u = (l.set i y).flatMap f := by
  induction l generalizing i with
  | nil => simp at hx
  | cons a l ih =>
    cases i with
    | zero =>
      simp only [List.getElem?_cons_zero, Option.some.injEq] at hx
      subst hx
      rw [List.set_cons_zero, List.flatMap_cons, List.flatMap_cons, hy, Nat.zero_mul, Nat.zero_add, List.set_append_left _ _ (by rw [hf]; exact hj)]
    | succ i =>
      rw [List.set_cons_succ, List.flatMap_cons, List.flatMap_cons, ← ih i (by simpa using hx), List.set_append_right _ _ (by rw [hf, Nat.add_mul]; omega), hf, show (i + 1) * d + j - d = i * d + j by rw [Nat.add_mul]; omega]
theorem flat_same {α β : Type} (f : α → List β) (l : List α) (i : Nat) (x y : α) (hx : l[i]? = some x) (hy : f y = f x) : (l.set i y).flatMap f = l.flatMap f := by
  induction l generalizing i with
  | nil => simp at hx
  | cons a l ih =>
    cases i with
    | zero =>
      simp only [List.getElem?_cons_zero, Option.some.injEq] at hx
      subst hx
      rw [List.set_cons_zero, List.flatMap_cons, List.flatMap_cons, hy]
    | succ i => rw [List.set_cons_succ, List.flatMap_cons, List.flatMap_cons, ih i (by simpa using hx)]
theorem flat_get {α β : Type} (f : α → List β) (d : Nat) (hf : ∀ x, (f x).length = d) (l : List α) (i j : Nat) (x : α) (h : l[i]? = some x) (hj : j < d) : (l.flatMap f)[i * d + j]? = (f x)[j]? := by
  induction l generalizing i with
  | nil => simp at h
  | cons g l ih =>
    cases i with
    | zero =>
      simp only [List.getElem?_cons_zero, Option.some.injEq] at h
      subst h
      rw [List.flatMap_cons, Nat.zero_mul, Nat.zero_add, List.getElem?_append_left (by rw [hf]; exact hj)]
    | succ i =>
      have := ih i (by simpa using h)
      rw [List.flatMap_cons, List.getElem?_append_right (by rw [hf, Nat.add_mul]; omega), hf, show (i + 1) * d + j - d = i * d + j by rw [Nat.add_mul]; omega]
      exact this
theorem flat_len' {β γ : Type} (f : β → List γ) (d : Nat) (hf : ∀ x, (f x).length = d) (l : List β) : (l.flatMap f).length = l.length * d := by
  induction l with
  | nil => simp
  | cons a l ih => rw [List.flatMap_cons, List.length_append, hf, ih, List.length_cons, Nat.add_mul]; omega
/-- a row of elements, and the rows that these lead to -/
def two {α : Type} (T : TypeId) (d n : Nat) (v : Value) (fc : α → List Value) (fr : α → List Row) (l : List α) : List Row := ⟨T, d, n, v, l.flatMap fc⟩ :: l.flatMap fr
section
variable {α : Type} {w w' : World} {lo d e n : Nat} {T : TypeId} {v : Value} {fc : α → List Value} {fr : α → List Row} {l : List α} {pre post : List Row}
theorem Rows.top (h : Rows w lo (pre ++ two T d n v fc fr l ++ post)) : w.ownsRow lo T d v n (l.flatMap fc) := h.1 ⟨T, d, n, v, l.flatMap fc⟩ (by simp [two])
theorem Rows.sub_ (h : Rows w lo (pre ++ two T d n v fc fr l ++ post)) {i : Nat} {x : α} (hx : l[i]? = some x) {r : Row} (hr : r ∈ fr x) : r.own w lo :=
  h.1 r (by simp only [two, List.mem_append, List.mem_cons, List.mem_flatMap]; exact .inl (.inr (.inr ⟨x, List.mem_of_getElem? hx, hr⟩)))
theorem Rows.cell_at {g c i j : Nat} {x : α} {u : Value} (hfc : ∀ x, (fc x).length = d) (h : Rows w lo (pre ++ two T d n (.slice (some ⟨g, 0, none⟩) n c) fc fr l ++ post)) (hx : l[i]? = some x) (hu : (fc x)[j]? = some u) :
    w.cell? ⟨g, i * d + j, none⟩ = some u ∧ w.frozen? ⟨g, i * d + j, none⟩ = false := by
  have hj := (List.getElem?_eq_some_iff.1 hu).1
  rw [hfc] at hj
  have e := flat_get fc d hfc l i j x hx hj
  rw [hu] at e
  have hlt := (List.getElem?_eq_some_iff.1 e).1
  exact ⟨(h.top.cellAt (i * d + j) (by have := h.top.1; omega)).trans e, h.top.frozenAt _⟩
theorem two_top (hl : (l.flatMap fr).length = l.length * e) (xs : List Value) : (pre ++ two T d n v fc fr l ++ post).set pre.length ⟨T, d, n, v, xs⟩ = pre ++ (⟨T, d, n, v, xs⟩ :: l.flatMap fr) ++ post := by
  rw [two, List.append_assoc, List.set_append_right _ _ (Nat.le_refl _), Nat.sub_self]
  simp
theorem Rows.cellset {g c i j : Nat} {x y : α} {u : Value} (hfc : ∀ x, (fc x).length = d) (hfr : ∀ x, (fr x).length = e) (h : Rows w lo (pre ++ two T d n (.slice (some ⟨g, 0, none⟩) n c) fc fr l ++ post)) (hx : l[i]? = some x) (hj : j < d)
    (hc : fc y = (fc x).set j u) (hr : fr y = fr x) : Rows (w.setCell ⟨g, i * d + j, none⟩ u) lo (pre ++ two T d n (.slice (some ⟨g, 0, none⟩) n c) fc fr (l.set i y) ++ post) := by
  have hs := h.top.stored (i * d + j) u
  have := h.put (j := pre.length) (r := ⟨T, d, n, .slice (some ⟨g, 0, none⟩) n c, l.flatMap fc⟩) (by rw [two, List.append_assoc, List.getElem?_append_right (Nat.le_refl _), Nat.sub_self]; simp) hs.2 hs.1
  rw [two_top (flat_len' fr e hfr l)] at this
  rw [flat_set fc d hfc l i j x y u hx hj hc] at this
  rw [two, flat_same fr l i x y hx hr]
  exact this
theorem Rows.rowset {i j : Nat} {x y : α} {r : Row} {ys : List Value} (hfc : ∀ x, (fc x).length = d) (hfr : ∀ x, (fr x).length = e) (h : Rows w lo (pre ++ two T d n v fc fr l ++ post)) (hx : l[i]? = some x) (hj : j < e) (hr : (fr x)[j]? = some r)
    (hg : w.grownBy w' r.v.ownBlock) (ho : w'.ownsRow lo r.T r.d r.v r.n ys) (hc : fc y = fc x) (hry : fr y = (fr x).set j { r with xs := ys }) : Rows w' lo (pre ++ two T d n v fc fr (l.set i y) ++ post) := by
  have hin : i * e + j < (l.flatMap fr).length := by
    have := flat_get fr e hfr l i j x hx hj
    rw [hr] at this
    exact (List.getElem?_eq_some_iff.1 this).1
  have := h.put (j := pre.length + (1 + (i * e + j))) (r := r) (by
    rw [two, List.append_assoc, List.getElem?_append_right (by omega), show pre.length + (1 + (i * e + j)) - pre.length = (i * e + j) + 1 by omega, List.cons_append, List.getElem?_cons_succ, List.getElem?_append_left hin, flat_get fr e hfr l i j x hx hj, hr]) hg ho
  have e2 : (pre ++ two T d n v fc fr l ++ post).set (pre.length + (1 + (i * e + j))) { r with xs := ys } = pre ++ two T d n v fc fr (l.set i y) ++ post := by
    rw [two, two, List.append_assoc, List.append_assoc, List.set_append_right _ _ (by omega), show pre.length + (1 + (i * e + j)) - pre.length = (i * e + j) + 1 by omega, List.cons_append, List.set_cons_succ, List.set_append_left _ _ hin, flat_set fr e hfr l i j x y _ hx hj hry, flat_same fc l i x y hx hc]
    rfl
  rw [e2] at this
  exact this
end

/-- the names, the filters of marks -/
def markNs (k n : Nat) : List (List UInt8) := (List.range n).map fun j => mt (k + j)
def markFs (k n : Nat) : List Flt := (List.range n).map fun j => ⟨((k + j * 3 : Nat) : Int), mt (k + j * 3 + 1), ((k + j * 3 + 2 : Nat) : Int)⟩
def wdV (x : LgrV) : Nat := x.hn + x.fn * 3 + 4
def wdH (x : HndV) : Nat := x.fn * 3 + 2
def third (k : Nat) : Bool := (k : Int) % 3 == 0
def markLgV (k : Nat) (x : LgrV) : LgrV := { x with l := ⟨mt k, ((k + 1 : Nat) : Int), markNs (k + 2) x.hn, markFs (k + 2 + x.hn) x.fn, third (k + 2 + x.hn + x.fn * 3), third (k + 2 + x.hn + x.fn * 3 + 1)⟩ }
def markHnV (k : Nat) (x : HndV) : HndV := { x with h := ⟨mt k, ((k + 1 : Nat) : Int), markFs (k + 2) x.fn⟩ }
def kAt {α : Type} (wd : α → Nat) (k : Nat) (l : List α) (i : Nat) : Nat := k + ((l.take i).map wd).sum
theorem kAt_zero {α : Type} (wd : α → Nat) (k : Nat) (l : List α) : kAt wd k l 0 = k := by simp [kAt]
theorem kAt_succ {α : Type} {wd : α → Nat} {k : Nat} {l : List α} {i : Nat} {x : α} (h : l[i]? = some x) : kAt wd k l (i + 1) = kAt wd k l i + wd x := by
  unfold kAt; rw [List.take_add_one, h]; simp [Nat.add_assoc]
theorem kAt_le {α : Type} (wd : α → Nat) (k : Nat) (l : List α) (i : Nat) : kAt wd k l i ≤ k + (l.map wd).sum := by
  unfold kAt
  have : ((l.take i).map wd).sum ≤ (l.map wd).sum := by
    induction l generalizing i with
    | nil => simp
    | cons a l ih => cases i with
      | zero => simp
      | succ i => simp only [List.take_succ_cons, List.map_cons, List.sum_cons]; have := ih i; omega
  omega
theorem marked_txts {ys : List Value} {k n : Nat} (h : Marked ys k n) (hl : ys.length = n) : ys = (markNs k n).map txt := by
  apply List.ext_getElem?
  intro j
  by_cases hj : j < n
  · rw [h j hj]; simp [markNs, hj]
  · rw [List.getElem?_eq_none (by omega), List.getElem?_eq_none (by simp [markNs]; omega)]
theorem markFs_at {k n i : Nat} (hi : i < n) : (markFs k n)[i]? = some ⟨((k + i * 3 : Nat) : Int), mt (k + i * 3 + 1), ((k + i * 3 + 2 : Nat) : Int)⟩ := by simp [markFs, hi]
theorem marked_flts {ys : List Value} {k n : Nat} (h : MarkedK fcellsKinds 3 ys k (n * 3)) (hl : ys.length = n * 3) : ys = fsCells (markFs k n) := by
  apply List.ext_getElem?
  intro j
  have hlf : (markFs k n).length = n := by simp [markFs]
  by_cases hj : j < n * 3
  · rw [h j hj]
    have e : j = (j / 3) * 3 + j % 3 := by omega
    have hi : j / 3 < n := by omega
    have h3 : j % 3 < 3 := Nat.mod_lt _ (by omega)
    conv => rhs; rw [fsCells, e]
    rw [flat_get fcells 3 (fun _ => rfl) (markFs k n) (j / 3) (j % 3) _ (markFs_at hi) h3]
    generalize hq : j / 3 = q at *
    generalize hr : j % 3 = r at *
    match r, h3 with
    | 0, _ => simp [fcells, fcellsKinds, mkv]; omega
    | 1, _ => simp [fcells, fcellsKinds, mkv]; rw [show k + j = k + q * 3 + 1 by omega]
    | 2, _ => simp [fcells, fcellsKinds, mkv]; omega
  · rw [List.getElem?_eq_none (by omega), List.getElem?_eq_none (by unfold fsCells; rw [flat_len fcells 3 (fun _ => rfl), hlf]; omega)]

def MarkedBy {α : Type} (mk : Nat → α → α) (wd : α → Nat) (k : Nat) (l cur : List α) (i : Nat) : Prop :=
  cur.length = l.length ∧ (∀ j, i ≤ j → cur[j]? = l[j]?) ∧ ∀ j x, j < i → l[j]? = some x → cur[j]? = some (mk (kAt wd k l j) x)
theorem MarkedBy.start {α : Type} (mk : Nat → α → α) (wd : α → Nat) (k : Nat) (l : List α) : MarkedBy mk wd k l l 0 := ⟨rfl, fun _ _ => rfl, fun _ _ h => by omega⟩
theorem MarkedBy.step {α : Type} {mk : Nat → α → α} {wd : α → Nat} {k : Nat} {l cur : List α} {i : Nat} {x : α} (h : MarkedBy mk wd k l cur i) (hx : l[i]? = some x) : MarkedBy mk wd k l (cur.set i (mk (kAt wd k l i) x)) (i + 1) := by
  obtain ⟨h1, h2, h3⟩ := h
  have hi := (List.getElem?_eq_some_iff.1 hx).1
  refine ⟨by simpa using h1, fun j hj => ?_, fun j y hj hy => ?_⟩
  · rw [List.getElem?_set_ne (by omega)]; exact h2 j (by omega)
  · by_cases e : j = i
    · subst e
      rw [hx] at hy; cases hy
      rw [List.getElem?_set_self (by omega)]
    · rw [List.getElem?_set_ne (by omega)]; exact h3 j y (by omega) hy
theorem MarkedBy.cur {α : Type} {mk : Nat → α → α} {wd : α → Nat} {k : Nat} {l cur : List α} {i : Nat} {x : α} (h : MarkedBy mk wd k l cur i) (hx : l[i]? = some x) : cur[i]? = some x := (h.2.1 i (Nat.le_refl _)).trans hx
theorem set_set_same {α : Type} (l : List α) (i : Nat) (a b : α) : (l.set i a).set i b = l.set i b := by rw [List.set_set]
theorem set_at {α : Type} {l : List α} {i : Nat} {x : α} (h : l[i]? = some x) (a : α) : (l.set i a)[i]? = some a := by
  rw [List.getElem?_set_self (List.getElem?_eq_some_iff.1 h).1]

end Go.Proofs.Ytmadcocbncmpoaa

/-
  TREES marked: the walks of markLoggerS, markHandlerS, markTree.
-/
namespace Go.Proofs.Ytmadcocbncmpoaa
open Go.RowKit Nm
set_option linter.unusedSimpArgs false
set_option linter.unusedVariables false

end Go.Proofs.Ytmadcocbncmpoaa

/-
  TREES marked: the walks of markHandlerS, markTree.
-/
namespace Go.Proofs.Ytmadcocbncmpoaa
open Go.RowKit Nm
set_option linter.unusedSimpArgs false
set_option linter.unusedVariables false

/-- the cells of a box, as a row -/
def bxRow (T : TypeId) (d b : Nat) (cs : List Value) : Row := ⟨T, d, 1, .slice (some ⟨b, 0, none⟩) 1 1, cs⟩
theorem Rows.box (w : World) (cs : Array Value) (T : TypeId) (d : Nat) (h : cs.size = d) : Rows (w.alloc (.cells cs T)) w.heap.size [bxRow T d w.heap.size cs.toList] :=
  Rows.one (r := bxRow T d w.heap.size cs.toList) (World.ownsRow_lit w cs 1 (Nat.le_refl _) (by unfold maxLen; omega) (by rw [Nat.one_mul]; exact h))
theorem Rows.bcell {w : World} {lo d b q : Nat} {T : TypeId} {cs : List Value} {rs : List Row} {u : Value} (h : Rows w lo rs) (hm : bxRow T d b cs ∈ rs) (hu : cs[q]? = some u) : w.cell? ⟨b, q, none⟩ = some u ∧ b < w.heap.size := by
  have ho : w.ownsRow lo T d (.slice (some ⟨b, 0, none⟩) 1 1) 1 cs := h.1 _ hm
  have hlt := (List.getElem?_eq_some_iff.1 hu).1
  exact ⟨(ho.cellAt q (by have := ho.1; omega)).trans hu, (ho.lt b rfl).2⟩
/-- later rows ahead of the elder ones -/
theorem Rows.newer {w w' : World} {lo : Nat} {rs rs' : List Row} (h : Rows w lo rs) (hb : Below w.heap.size w w') (h2 : Rows w' w.heap.size rs') (hl : lo ≤ w.heap.size) : Rows w' lo (rs' ++ rs) := (h.more hb h2 hl).perm List.perm_append_comm
theorem Rows.write1 {w w' : World} {lo d n : Nat} {T : TypeId} {v : Value} {xs ys : List Value} {rest : List Row} (h : Rows w lo ([⟨T, d, n, v, xs⟩] ++ rest)) (hg : w.grownBy w' v.ownBlock) (ho : w'.ownsRow lo T d v n ys) : Rows w' lo ([⟨T, d, n, v, ys⟩] ++ rest) := Rows.write (pre := []) (r := ⟨T, d, n, v, xs⟩) h hg ho
end Go.Proofs.Ytmadcocbncmpoaa

/-
  TREES held: the walks of heldLoggerS, heldHandlerS, heldTree; marks in the words of the laws.
-/
namespace Go.Proofs.Ytmadcocbncmpoaa
open Go.RowKit Nm
set_option linter.unusedSimpArgs false
set_option linter.unusedVariables false

theorem txts_marked (k n : Nat) : Marked ((markNs k n).map txt) k n := by
  intro j hj
  simp [markNs, hj]
theorem flts_marked (k n : Nat) : MarkedK fcellsKinds 3 (fsCells (markFs k n)) k (n * 3) := by
  intro j hj
  have hi : j / 3 < n := by omega
  have h3 : j % 3 < 3 := Nat.mod_lt _ (by omega)
  have e : j = (j / 3) * 3 + j % 3 := by omega
  conv => lhs; rw [fsCells, e]
  rw [flat_get fcells 3 (fun _ => rfl) (markFs k n) (j / 3) (j % 3) _ (markFs_at hi) h3]
  generalize hq : j / 3 = q at *
  generalize hr : j % 3 = r at *
  match r, h3 with
  | 0, _ => simp [fcells, fcellsKinds, mkv]; omega
  | 1, _ => simp [fcells, fcellsKinds, mkv]; rw [show k + j = k + q * 3 + 1 by omega]
  | 2, _ => simp [fcells, fcellsKinds, mkv]; omega
/-- loggers, handlers that lie below a block -/
def LsIn (w : World) (B : Nat) (v : Value) (n : Nat) (ls : List LgrV) : Prop := Sl w B 6 n v (ls.flatMap lcells) ∧ ∀ x ∈ ls, Sl w B 1 x.hn x.hv (x.l.hs.map txt) ∧ Sl w B 3 x.fn x.fv (fsCells x.l.fs)
def HsIn (w : World) (B : Nat) (v : Value) (n : Nat) (hs : List HndV) : Prop := Sl w B 3 n v (hs.flatMap hcells) ∧ ∀ x ∈ hs, Sl w B 3 x.fn x.fv (fsCells x.h.fs)
theorem LsIn.below {w w' : World} {B B' n : Nat} {v : Value} {ls : List LgrV} (h : LsIn w B v n ls) (hb : Below B' w w') (hB : B ≤ B') : LsIn w' B v n ls := ⟨h.1.below hb hB, fun x hx => ⟨(h.2 x hx).1.below hb hB, (h.2 x hx).2.below hb hB⟩⟩
theorem HsIn.below {w w' : World} {B B' n : Nat} {v : Value} {hs : List HndV} (h : HsIn w B v n hs) (hb : Below B' w w') (hB : B ≤ B') : HsIn w' B v n hs := ⟨h.1.below hb hB, fun x hx => (h.2 x hx).below hb hB⟩

theorem sum_le {α : Type} (l : List α) (f : α → Nat) {m : Nat} (h : ∀ x ∈ l, f x ≤ m) : (l.map f).sum ≤ l.length * m := by
  induction l with
  | nil => simp
  | cons a l ih =>
    have h1 := h a (by simp)
    have h2 := ih (fun x hx => h x (by simp [hx]))
    rw [List.map_cons, List.sum_cons, List.length_cons, Nat.add_mul]; omega
end Go.Proofs.Ytmadcocbncmpoaa
