/-
  GFilter, N16, N17, N18, N19 laid together.
-/
import Derived.Test.YtlifaeleoiodkaaGreatDoorHelps
import Derived.Test.YtlifaeleoiodkaaGreatDoorLawTrees
/-
  Filters marked and held, as the laws do. By gen_flat.py.
-/
namespace Go.Proofs.YtlifaeleoiodkaaGreatDoor
open Go.RowKit Nm
set_option linter.unusedSimpArgs false
set_option linter.unusedVariables false

def fcellsKinds : List Bool := [false, true, false]

set_option maxHeartbeats 4000000 in
set_option maxRecDepth 100000 in
theorem markFilterS_c (v : Value) (n base k : Nat) (xs : List Value) (w : World) (hv : w.ownsRow base 162 3 v n xs) (hn : n * 3 + k ≤ 17592186044416) :
    Calls Tryz.prog 87 #[v, .int .i64 k] w (MarkPost w v base 162 fcellsKinds 3 n k) := by
  obtain ⟨A, c, rfl, hnc, hcm⟩ := (Sl.of_own hv).form
  unfold maxLen at hcm
  have HV := hid hv
  clear hv
  go_enter Tryz.func87, Tryz.ntmps87
  go_wp2_with fail
  go_loopw [1, 5] (fun kv iv wr => ∃ (i : Nat) (q : Int) (ys : List Value), kv = .int .i64 q ∧ iv = .int .i64 i ∧ i ≤ n ∧ 0 ≤ q ∧ q ≤ 17592186044416 ∧ Hid (q = ((k + i * 3 : Nat) : Int)) ∧ Hid (wr.ownsRow base 162 3 (.slice A n c) n ys) ∧ Hid (MarkedK fcellsKinds 3 ys k (i * 3)) ∧ Hid (w.grownBy wr (Value.slice A n c).ownBlock)) (fun _ iv _ => n - (intOf iv).toNat)
  case atStart => exact ⟨0, _, xs, rfl, rfl, Nat.zero_le _, by omega, by omega, by show (k : Int) = _; simp, HV.out, fun j hj => absurd hj (by omega), World.grownBy.refl _ _⟩
  case round =>
    obtain ⟨i, q, ys, rfl, rfl, hi, hq0, hq1, HQ, HO, HM, HG⟩ := hrel
    by_cases hlt : i < n
    · obtain ⟨g, rfl, hglt⟩ := own_some HO.out (by omega)
      have hid2 : i * 3 + 3 ≤ n * 3 := by have := Nat.mul_le_mul_right 3 hlt; omega
      have hq2 : q ≤ 17592186044416 - 3 := by have := HQ.out; omega
      obtain ⟨x1, hx1, _⟩ := txt_mk (mt (k + i * 3 + 1))
      have HC1 := hid (fun W => mark_at (q := (q + 1)) (m := k + i * 3 + 1) W (by have := HQ.out; omega) (by have := HQ.out; omega) hx1)
      have HX1 := hid hx1
      clear hx1
      have hown := HO.out
      obtain ⟨u0, d0⟩ := own_cell hown (j := i * 3) (by have := Nat.mul_le_mul_right 3 hlt; omega)
      have f0 := hown.frozenAt (i * 3)
      have hs0 := hown.stored (i * 3) (.int .i64 q)
      have HO0 := hid hs0.1
      have HG0 := hid (grown_tr HG.out hs0.2)
      clear hown hs0
      go_wp2_with fail
      refine (HC1.out _).mono ?_
      rintro e w1 ⟨rfl, hb⟩
      have hown := own_below HO0.out hb
      have HG1a := hid (grown_tr HG0.out (grown_of hb _))
      clear hb
      obtain ⟨u1, d1⟩ := own_cell hown (j := i * 3 + 1) (by have := Nat.mul_le_mul_right 3 hlt; omega)
      have f1 := hown.frozenAt (i * 3 + 1)
      obtain ⟨u2, d2⟩ := own_cell hown (j := i * 3 + 2) (by have := Nat.mul_le_mul_right 3 hlt; omega)
      have f2 := hown.frozenAt (i * 3 + 2)
      have hs1 := hown.stored (i * 3 + 1) (.string x1)
      have hs2 := hs1.1.stored (i * 3 + 2) (.int .i64 (q + 1 + 1))
      have HO1 := hid hs2.1
      have HG1 := hid (grown_tr (grown_tr HG1a.out hs1.2) hs2.2)
      clear hown hs1 hs2
      go_wp2_with fail
      go_roundw
      case rel =>
        refine ⟨i + 1, _, _, rfl, by go_num, by omega, by omega, by omega, ?_, HO1.out, ?_, HG1.out⟩
        · have := HQ.out; show _ = _; rw [this]; omega
        · have hm := marked_put (ks := fcellsKinds) (d := 3) HM.out [.int .i64 q, .string x1, .int .i64 (q + 1 + 1)] rfl (by have := HO.out.1; have := Nat.mul_le_mul_right 3 hlt; omega) (by
            intro j hj
            have := HQ.out
            match j, hj with
            | 0, _ => simp [fcellsKinds, mkv]; omega
            | 1, _ => (have := HX1.out; simpa [fcellsKinds, mkv] using this.symm)
            | 2, _ => simp [fcellsKinds, mkv]; omega)
          exact hm
      case measure => simp [intOf]; omega
    · obtain rfl : i = n := by omega
      go_wp2_with fail
      go_ret
      exact ⟨ret_int HQ.out, ⟨ys, HO.out, HM.out⟩, HG.out⟩

end Go.Proofs.YtlifaeleoiodkaaGreatDoor

/-
  TREES marked: the walks of what the laws write into a tree's memory, and what then stands there.
-/
namespace Go.Proofs.YtlifaeleoiodkaaGreatDoor
open Go.RowKit Nm
set_option linter.unusedSimpArgs false
set_option linter.unusedVariables false

theorem Rows.put {w w' : World} {lo j : Nat} {rs : List Row} {r : Row} {ys : List Value} (h : Rows w lo rs) (hj : rs[j]? = some r) (hg : w.grownBy w' r.v.ownBlock) (ho : w'.ownsRow lo r.T r.d r.v r.n ys) : Rows w' lo (rs.set j { r with xs := ys }) := by
  have hl := (List.getElem?_eq_some_iff.1 hj).1
  have e : rs = rs.take j ++ r :: rs.drop (j + 1) := by
    have := (List.getElem?_eq_some_iff.1 hj).2
    rw [← this, ← List.drop_eq_getElem_cons hl, List.take_append_drop]
  rw [e] at h
  have := h.write hg ho
  rw [List.set_eq_take_append_cons_drop, if_pos hl]
  exact this
theorem flat_set {α β : Type} (f : α → List β) (d : Nat) (hf : ∀ x, (f x).length = d) (l : List α) (i j : Nat) (x y : α) (u : β) (hx : l[i]? = some x) (hj : j < d) (hy : f y = (f x).set j u) : (l.flatMap f).set (i * d + j) u = (l.set i y).flatMap f := by
  induction l generalizing i with
  | nil => simp at hx
  | cons a l ih =>
    cases i with
    | zero =>
      simp only [List.getElem?_cons_zero, Option.some.injEq] at hx
      subst hx
      rw [List.set_cons_zero, List.flatMap_cons, List.flatMap_cons, hy, Nat.zero_mul, Nat.zero_add, List.set_append_left _ _ (by rw [hf]; exact hj)]
    | succ i =>
      rw [List.set_cons_succ, List.flatMap_cons, List.flatMap_cons, ← ih i (by simpa using hx), List.set_append_right _ _ (by rw [hf, Nat.add_mul]; omega), hf, show (i + 1) * d + j - d = i * d + j by rw [Nat.add_mul]; omega]
theorem flat_same {α β : Type} (f : α → List β) (l : List α) (i : Nat) (x y : α) (hx : l[i]? = some x) (hy : f y = f x) : (l.set i y).flatMap f = l.flatMap f := by
  induction l generalizing i with
  | nil => simp at hx
  | cons a l ih =>
    cases i with
    | zero =>
      simp only [List.getElem?_cons_zero, Option.some.injEq] at hx
      subst hx
      rw [List.set_cons_zero, List.flatMap_cons, List.flatMap_cons, hy]
    | succ i => rw [List.set_cons_succ, List.flatMap_cons, List.flatMap_cons, ih i (by simpa using hx)]
theorem flat_get {α β : Type} (f : α → List β) (d : Nat) (hf : ∀ x, (f x).length = d) (l : List α) (i j : Nat) (x : α) (h : l[i]? = some x) (hj : j < d) : (l.flatMap f)[i * d + j]? = (f x)[j]? := by
  induction l generalizing i with
  | nil => simp at h
  | cons g l ih =>
    cases i with
    | zero =>
      simp only [List.getElem?_cons_zero, Option.some.injEq] at h
      subst h
      rw [List.flatMap_cons, Nat.zero_mul, Nat.zero_add, List.getElem?_append_left (by rw [hf]; exact hj)]
    | succ i =>
      have := ih i (by simpa using h)
      rw [List.flatMap_cons, List.getElem?_append_right (by rw [hf, Nat.add_mul]; omega), hf, show (i + 1) * d + j - d = i * d + j by rw [Nat.add_mul]; omega]
      exact this
theorem flat_len' {β γ : Type} (f : β → List γ) (d : Nat) (hf : ∀ x, (f x).length = d) (l : List β) : (l.flatMap f).length = l.length * d := by
  induction l with
  | nil => simp
  | cons a l ih => rw [List.flatMap_cons, List.length_append, hf, ih, List.length_cons, Nat.add_mul]; omega
/-- a row of elements, and the rows that these lead to -/
def two {α : Type} (T : TypeId) (d n : Nat) (v : Value) (fc : α → List Value) (fr : α → List Row) (l : List α) : List Row := ⟨T, d, n, v, l.flatMap fc⟩ :: l.flatMap fr
section
variable {α : Type} {w w' : World} {lo d e n : Nat} {T : TypeId} {v : Value} {fc : α → List Value} {fr : α → List Row} {l : List α} {pre post : List Row}
theorem Rows.top (h : Rows w lo (pre ++ two T d n v fc fr l ++ post)) : w.ownsRow lo T d v n (l.flatMap fc) := h.1 ⟨T, d, n, v, l.flatMap fc⟩ (by simp [two])
theorem Rows.sub_ (h : Rows w lo (pre ++ two T d n v fc fr l ++ post)) {i : Nat} {x : α} (hx : l[i]? = some x) {r : Row} (hr : r ∈ fr x) : r.own w lo :=
  h.1 r (by simp only [two, List.mem_append, List.mem_cons, List.mem_flatMap]; exact .inl (.inr (.inr ⟨x, List.mem_of_getElem? hx, hr⟩)))
theorem Rows.cell_at {g c i j : Nat} {x : α} {u : Value} (hfc : ∀ x, (fc x).length = d) (h : Rows w lo (pre ++ two T d n (.slice (some ⟨g, 0, none⟩) n c) fc fr l ++ post)) (hx : l[i]? = some x) (hu : (fc x)[j]? = some u) :
    w.cell? ⟨g, i * d + j, none⟩ = some u ∧ w.frozen? ⟨g, i * d + j, none⟩ = false := by
  have hj := (List.getElem?_eq_some_iff.1 hu).1
  rw [hfc] at hj
  have e := flat_get fc d hfc l i j x hx hj
  rw [hu] at e
  have hlt := (List.getElem?_eq_some_iff.1 e).1
  exact ⟨(h.top.cellAt (i * d + j) (by have := h.top.1; omega)).trans e, h.top.frozenAt _⟩
theorem two_top (hl : (l.flatMap fr).length = l.length * e) (xs : List Value) : (pre ++ two T d n v fc fr l ++ post).set pre.length ⟨T, d, n, v, xs⟩ = pre ++ (⟨T, d, n, v, xs⟩ :: l.flatMap fr) ++ post := by
  rw [two, List.append_assoc, List.set_append_right _ _ (Nat.le_refl _), Nat.sub_self]
  simp
theorem Rows.cellset {g c i j : Nat} {x y : α} {u : Value} (hfc : ∀ x, (fc x).length = d) (hfr : ∀ x, (fr x).length = e) (h : Rows w lo (pre ++ two T d n (.slice (some ⟨g, 0, none⟩) n c) fc fr l ++ post)) (hx : l[i]? = some x) (hj : j < d)
    (hc : fc y = (fc x).set j u) (hr : fr y = fr x) : Rows (w.setCell ⟨g, i * d + j, none⟩ u) lo (pre ++ two T d n (.slice (some ⟨g, 0, none⟩) n c) fc fr (l.set i y) ++ post) := by
  have hs := h.top.stored (i * d + j) u
  have := h.put (j := pre.length) (r := ⟨T, d, n, .slice (some ⟨g, 0, none⟩) n c, l.flatMap fc⟩) (by rw [two, List.append_assoc, List.getElem?_append_right (Nat.le_refl _), Nat.sub_self]; simp) hs.2 hs.1
  rw [two_top (flat_len' fr e hfr l)] at this
  rw [flat_set fc d hfc l i j x y u hx hj hc] at this
  rw [two, flat_same fr l i x y hx hr]
  exact this
theorem Rows.rowset {i j : Nat} {x y : α} {r : Row} {ys : List Value} (hfc : ∀ x, (fc x).length = d) (hfr : ∀ x, (fr x).length = e) (h : Rows w lo (pre ++ two T d n v fc fr l ++ post)) (hx : l[i]? = some x) (hj : j < e) (hr : (fr x)[j]? = some r)
    (hg : w.grownBy w' r.v.ownBlock) (ho : w'.ownsRow lo r.T r.d r.v r.n ys) (hc : fc y = fc x) (hry : fr y = (fr x).set j { r with xs := ys }) : Rows w' lo (pre ++ two T d n v fc fr (l.set i y) ++ post) := by
  have hin : i * e + j < (l.flatMap fr).length := by
    have := flat_get fr e hfr l i j x hx hj
    rw [hr] at this
    exact (List.getElem?_eq_some_iff.1 this).1
  have := h.put (j := pre.length + (1 + (i * e + j))) (r := r) (by
    rw [two, List.append_assoc, List.getElem?_append_right (by omega), show pre.length + (1 + (i * e + j)) - pre.length = (i * e + j) + 1 by omega, List.cons_append, List.getElem?_cons_succ, List.getElem?_append_left hin, flat_get fr e hfr l i j x hx hj, hr]) hg ho
  have e2 : (pre ++ two T d n v fc fr l ++ post).set (pre.length + (1 + (i * e + j))) { r with xs := ys } = pre ++ two T d n v fc fr (l.set i y) ++ post := by
    rw [two, two, List.append_assoc, List.append_assoc, List.set_append_right _ _ (by omega), show pre.length + (1 + (i * e + j)) - pre.length = (i * e + j) + 1 by omega, List.cons_append, List.set_cons_succ, List.set_append_left _ _ hin, flat_set fr e hfr l i j x y _ hx hj hry, flat_same fc l i x y hx hc]
    rfl
  rw [e2] at this
  exact this
end

/-- the names, the filters of marks -/
def markNs (k n : Nat) : List (List UInt8) := (List.range n).map fun j => mt (k + j)
def markFs (k n : Nat) : List Flt := (List.range n).map fun j => ⟨((k + j * 3 : Nat) : Int), mt (k + j * 3 + 1), ((k + j * 3 + 2 : Nat) : Int)⟩
def wdV (x : LgrV) : Nat := x.hn + x.fn * 3 + 4
def wdH (x : HndV) : Nat := x.fn * 3 + 2
def third (k : Nat) : Bool := (k : Int) % 3 == 0
def markLgV (k : Nat) (x : LgrV) : LgrV := { x with l := ⟨mt k, ((k + 1 : Nat) : Int), markNs (k + 2) x.hn, markFs (k + 2 + x.hn) x.fn, third (k + 2 + x.hn + x.fn * 3), third (k + 2 + x.hn + x.fn * 3 + 1)⟩ }
def markHnV (k : Nat) (x : HndV) : HndV := { x with h := ⟨mt k, ((k + 1 : Nat) : Int), markFs (k + 2) x.fn⟩ }
def kAt {α : Type} (wd : α → Nat) (k : Nat) (l : List α) (i : Nat) : Nat := k + ((l.take i).map wd).sum
theorem kAt_zero {α : Type} (wd : α → Nat) (k : Nat) (l : List α) : kAt wd k l 0 = k := by simp [kAt]
theorem kAt_succ {α : Type} {wd : α → Nat} {k : Nat} {l : List α} {i : Nat} {x : α} (h : l[i]? = some x) : kAt wd k l (i + 1) = kAt wd k l i + wd x := by
  unfold kAt; rw [List.take_add_one, h]; simp [Nat.add_assoc]
theorem kAt_le {α : Type} (wd : α → Nat) (k : Nat) (l : List α) (i : Nat) : kAt wd k l i ≤ k + (l.map wd).sum := by
  unfold kAt
  have : ((l.take i).map wd).sum ≤ (l.map wd).sum := by
    induction l generalizing i with
    | nil => simp
    | cons a l ih => cases i with
      | zero => simp
      | succ i => simp only [List.take_succ_cons, List.map_cons, List.sum_cons]; have := ih i; omega
  omega
theorem marked_txts {ys : List Value} {k n : Nat} (h : Marked ys k n) (hl : ys.length = n) : ys = (markNs k n).map txt := by
  apply List.ext_getElem?
  intro j
  by_cases hj : j < n
  · rw [h j hj]; simp [markNs, hj]
  · rw [List.getElem?_eq_none (by omega), List.getElem?_eq_none (by simp [markNs]; omega)]
theorem markFs_at {k n i : Nat} (hi : i < n) : (markFs k n)[i]? = some ⟨((k + i * 3 : Nat) : Int), mt (k + i * 3 + 1), ((k + i * 3 + 2 : Nat) : Int)⟩ := by simp [markFs, hi]
theorem marked_flts {ys : List Value} {k n : Nat} (h : MarkedK fcellsKinds 3 ys k (n * 3)) (hl : ys.length = n * 3) : ys = fsCells (markFs k n) := by
  apply List.ext_getElem?
  intro j
  have hlf : (markFs k n).length = n := by simp [markFs]
  by_cases hj : j < n * 3
  · rw [h j hj]
    have e : j = (j / 3) * 3 + j % 3 := by omega
    have hi : j / 3 < n := by omega
    have h3 : j % 3 < 3 := Nat.mod_lt _ (by omega)
    conv => rhs; rw [fsCells, e]
    rw [flat_get fcells 3 (fun _ => rfl) (markFs k n) (j / 3) (j % 3) _ (markFs_at hi) h3]
    generalize hq : j / 3 = q at *
    generalize hr : j % 3 = r at *
    match r, h3 with
    | 0, _ => simp [fcells, fcellsKinds, mkv]; omega
    | 1, _ => simp [fcells, fcellsKinds, mkv]; rw [show k + j = k + q * 3 + 1 by omega]
    | 2, _ => simp [fcells, fcellsKinds, mkv]; omega
  · rw [List.getElem?_eq_none (by omega), List.getElem?_eq_none (by unfold fsCells; rw [flat_len fcells 3 (fun _ => rfl), hlf]; omega)]

def MarkedBy {α : Type} (mk : Nat → α → α) (wd : α → Nat) (k : Nat) (l cur : List α) (i : Nat) : Prop :=
  cur.length = l.length ∧ (∀ j, i ≤ j → cur[j]? = l[j]?) ∧ ∀ j x, j < i → l[j]? = some x → cur[j]? = some (mk (kAt wd k l j) x)
theorem MarkedBy.start {α : Type} (mk : Nat → α → α) (wd : α → Nat) (k : Nat) (l : List α) : MarkedBy mk wd k l l 0 := ⟨rfl, fun _ _ => rfl, fun _ _ h => by omega⟩
theorem MarkedBy.step {α : Type} {mk : Nat → α → α} {wd : α → Nat} {k : Nat} {l cur : List α} {i : Nat} {x : α} (h : MarkedBy mk wd k l cur i) (hx : l[i]? = some x) : MarkedBy mk wd k l (cur.set i (mk (kAt wd k l i) x)) (i + 1) := by
  obtain ⟨h1, h2, h3⟩ := h
  have hi := (List.getElem?_eq_some_iff.1 hx).1
  refine ⟨by simpa using h1, fun j hj => ?_, fun j y hj hy => ?_⟩
  · rw [List.getElem?_set_ne (by omega)]; exact h2 j (by omega)
  · by_cases e : j = i
    · subst e
      rw [hx] at hy; cases hy
      rw [List.getElem?_set_self (by omega)]
    · rw [List.getElem?_set_ne (by omega)]; exact h3 j y (by omega) hy
theorem MarkedBy.cur {α : Type} {mk : Nat → α → α} {wd : α → Nat} {k : Nat} {l cur : List α} {i : Nat} {x : α} (h : MarkedBy mk wd k l cur i) (hx : l[i]? = some x) : cur[i]? = some x := (h.2.1 i (Nat.le_refl _)).trans hx
theorem set_set_same {α : Type} (l : List α) (i : Nat) (a b : α) : (l.set i a).set i b = l.set i b := by rw [List.set_set]
theorem set_at {α : Type} {l : List α} {i : Nat} {x : α} (h : l[i]? = some x) (a : α) : (l.set i a)[i]? = some a := by
  rw [List.getElem?_set_self (List.getElem?_eq_some_iff.1 h).1]

theorem markStrs_at (v : Value) (n base m : Nat) (q : Int) (xs : List Value) (w : World) (hq : q = (m : Int)) (hv : w.ownsRow base 9 1 v n xs) (hn : n + m ≤ 17592186044416) :
    Calls Tryz.prog 86 #[v, .int .i64 q] w fun e w' => ∃ r : Int, e = .returned (.int .i64 r) ∧ r = ((m + n : Nat) : Int) ∧ w'.ownsRow base 9 1 v n ((markNs m n).map txt) ∧ w.grownBy w' v.ownBlock := by
  subst hq
  refine (markStrs_c v n base m xs w hv hn).mono ?_
  rintro e w' ⟨rfl, ⟨ys, ho, hM⟩, hg⟩
  have e1 := marked_txts hM (by have := ho.1; simpa using this)
  exact ⟨_, rfl, rfl, by rw [← e1]; exact ho, hg⟩
theorem markFlts_at (v : Value) (n base m : Nat) (q : Int) (xs : List Value) (w : World) (hq : q = (m : Int)) (hv : w.ownsRow base 162 3 v n xs) (hn : n * 3 + m ≤ 17592186044416) :
    Calls Tryz.prog 87 #[v, .int .i64 q] w fun e w' => ∃ r : Int, e = .returned (.int .i64 r) ∧ r = ((m + n * 3 : Nat) : Int) ∧ w'.ownsRow base 162 3 v n (fsCells (markFs m n)) ∧ w.grownBy w' v.ownBlock := by
  subst hq
  refine (markFilterS_c v n base m xs w hv hn).mono ?_
  rintro e w' ⟨rfl, ⟨ys, ho, hM⟩, hg⟩
  have e1 := marked_flts hM ho.1
  exact ⟨_, rfl, rfl, by rw [← e1]; exact ho, hg⟩
theorem lrows_len (x : LgrV) : (lrows x).length = 2 := rfl
theorem hrows_len (x : HndV) : (hrows x).length = 1 := rfl
end Go.Proofs.YtlifaeleoiodkaaGreatDoor

/-
  TREES marked: the walks of markLoggerS, markHandlerS, markTree.
-/
namespace Go.Proofs.YtlifaeleoiodkaaGreatDoor
open Go.RowKit Nm
set_option linter.unusedSimpArgs false
set_option linter.unusedVariables false

set_option maxHeartbeats 8000000 in
set_option maxRecDepth 100000 in
theorem markLoggerS_c (v : Value) (lo k : Nat) (ls : List LgrV) (pre post : List Row) (w : World) (hR : Rows w lo (pre ++ two 112 6 ls.length v lcells lrows ls ++ post)) (hlo : lo ≤ w.heap.size) (hn : k + (ls.map wdV).sum ≤ 17592186044416) :
    Calls Tryz.prog 48 #[v, .int .i64 k] w fun e w' => ∃ ls' : List LgrV, e = .returned (.int .i64 ((k + (ls.map wdV).sum : Nat) : Int)) ∧ MarkedBy markLgV wdV k ls ls' ls.length ∧ Rows w' lo (pre ++ two 112 6 ls.length v lcells lrows ls' ++ post) ∧ Below lo w w' := by
  obtain ⟨A, c, rfl, hnc, hcm⟩ := (Sl.of_own hR.top).form
  unfold maxLen at hcm
  generalize hnn : ls.length = n at *
  have HL := hid hnn
  have HR := hid hR
  clear hR hnn
  go_enter Tryz.func48, Tryz.ntmps48
  go_wp2_with fail
  go_loopw [1, 5] (fun kv iv wr => ∃ (i : Nat) (q : Int) (cur : List LgrV), kv = .int .i64 q ∧ iv = .int .i64 i ∧ i ≤ n ∧ 0 ≤ q ∧ q ≤ 17592186044416 ∧ Hid (q = ((kAt wdV k ls i : Nat) : Int)) ∧ Hid (MarkedBy markLgV wdV k ls cur i) ∧ Hid (Rows wr lo (pre ++ two 112 6 n (.slice A n c) lcells lrows cur ++ post)) ∧ Hid (Below lo w wr)) (fun _ iv _ => n - (intOf iv).toNat)
  case atStart => exact ⟨0, _, ls, rfl, rfl, Nat.zero_le _, by omega, by omega, by show _ = _; rw [kAt_zero], MarkedBy.start _ _ _ _, HR.out, Below.refl _ _⟩
  case round =>
    obtain ⟨i, q, cur, rfl, rfl, hi, hq0, hq1, HQ, HM, HRx, HB⟩ := hrel
    by_cases hlt : i < n
    · obtain ⟨x, hx⟩ : ∃ x, ls[i]? = some x := ⟨_, List.getElem?_eq_getElem (by rw [HL.out]; exact hlt)⟩
      have hcx := HM.out.cur hx
      have hks := kAt_le wdV k ls (i + 1)
      rw [kAt_succ hx] at hks
      generalize hkk : kAt wdV k ls i = kk at *
      have hq2 : q = (kk : Int) := by rw [HQ.out]
      subst hq2
      have hwd : kk + (x.hn + x.fn * 3 + 4) ≤ 17592186044416 := Nat.le_trans hks hn
      obtain ⟨g, rfl, hglt⟩ := own_some HRx.out.top (by omega)
      have hgl : lo ≤ g := (HRx.out.top.lt g rfl).1
      obtain ⟨A3, k3, e3, _, _⟩ := (Sl.of_own (HRx.out.sub_ hcx (r := ⟨9, 1, x.hn, x.hv, x.l.hs.map txt⟩) (by simp [lrows]))).form
      obtain ⟨A4, k4, e4, _, _⟩ := (Sl.of_own (HRx.out.sub_ hcx (r := ⟨162, 3, x.fn, x.fv, fsCells x.l.fs⟩) (by simp [lrows]))).form
      obtain ⟨xl, xhv, hn', xfv, fn'⟩ := x
      simp only at e3 e4 hwd
      subst e3 e4
      obtain ⟨x0, hx0, _⟩ := txt_mk (mt kk)
      have HC0 := hid (fun W => mark_at (q := (kk : Int)) (m := kk) W rfl (by omega) hx0)
      have HX0 := hid hx0
      have hlw : lo ≤ wr.heap.size := Nat.le_trans hlo HB.out.size
      have HX := hid hx
      have HCX := hid hcx
      have HK := hid hkk
      clear hx hx0 hcx hks hkk
      go_wp2_with fail
      refine (HC0.out _).mono ?_
      rintro e w1 ⟨rfl, hb⟩
      have HR1 := hid (HRx.out.below hb)
      have HB1 := hid (HB.out.trans (hb.mono hlw))
      clear hb
      have c0 := HR1.out.cell_at (j := 0) lcells_len HCX.out rfl
      have c1 := HR1.out.cell_at (j := 1) lcells_len HCX.out rfl
      have c2 := (HR1.out.cell_at (j := 2) lcells_len HCX.out rfl).1
      have HR2 := hid (HR1.out.cellset (i := i) (j := 0) (x := ⟨xl, .slice A3 hn' k3, hn', .slice A4 fn' k4, fn'⟩) (y := ⟨{ xl with nm := mt kk }, .slice A3 hn' k3, hn', .slice A4 fn' k4, fn'⟩) (u := .string x0) lcells_len lrows_len HCX.out (by omega) (by simp [lcells, HX0.out]) rfl)
      have HR3 := hid (HR2.out.cellset (i := i) (j := 1) (x := ⟨{ xl with nm := mt kk }, .slice A3 hn' k3, hn', .slice A4 fn' k4, fn'⟩) (y := ⟨{ xl with nm := mt kk, lv := ((kk + 1 : Nat) : Int) }, .slice A3 hn' k3, hn', .slice A4 fn' k4, fn'⟩) (u := .int .i64 ((kk : Int) + 1)) lcells_len lrows_len (set_at HCX.out _) (by omega) (by simp [lcells]) rfl)
      simp only [Nat.add_zero] at HR2 HR3 c0
      have CS := hid (markStrs_at (.slice A3 hn' k3) hn' lo (kk + 2) ((kk : Int) + 1 + 1) _ _ (by omega) (HR3.out.sub_ (set_at (set_at HCX.out _) _) (r := ⟨9, 1, hn', .slice A3 hn' k3, xl.hs.map txt⟩) (by simp [lrows])) (by omega))
      have hglt1 : g < w1.heap.size := by have := (own_some HR1.out.top (by omega)); obtain ⟨g', e', h'⟩ := this; cases e'; exact h'
      have c0a := c0.1
      have c0b := c0.2
      have c1a := c1.1
      have c1b := c1.2
      clear c0 c1
      go_wp2_with fail
      refine (CS.out).mono ?_
      rintro e w3 ⟨r1, rfl, hr1, ho3, hg3⟩
      have HR4 := hid (HR3.out.rowset (w' := w3) (i := i) (j := 0) (x := ⟨{ xl with nm := mt kk, lv := ((kk + 1 : Nat) : Int) }, .slice A3 hn' k3, hn', .slice A4 fn' k4, fn'⟩) (y := ⟨{ xl with nm := mt kk, lv := ((kk + 1 : Nat) : Int), hs := markNs (kk + 2) hn' }, .slice A3 hn' k3, hn', .slice A4 fn' k4, fn'⟩)
        (r := ⟨9, 1, hn', .slice A3 hn' k3, xl.hs.map txt⟩) (ys := (markNs (kk + 2) hn').map txt) lcells_len lrows_len (set_at (set_at HCX.out _) _) (by omega) rfl hg3 ho3 rfl rfl)
      have hlo3 : ∀ z, (Value.slice A3 hn' k3).ownBlock = some z → lo ≤ z := own_lt (HR3.out.sub_ (set_at (set_at HCX.out _) _) (r := ⟨9, 1, hn', .slice A3 hn' k3, xl.hs.map txt⟩) (by simp [lrows]))
      have HB3 := hid (((HB1.out.setCell (p := ⟨g, i * 6, none⟩) hgl (.string x0)).setCell (p := ⟨g, i * 6 + 1, none⟩) hgl (.int .i64 ((kk : Int) + 1))).grown hg3 (by simp; exact Nat.le_trans hlo HB1.out.size) hlo3)
      have HR1' := hid hr1
      have c3 := (HR4.out.cell_at (j := 3) lcells_len (set_at (set_at (set_at HCX.out _) _) _) rfl).1
      have CF := hid (markFlts_at (.slice A4 fn' k4) fn' lo (kk + 2 + hn') r1 _ w3 (by omega) (HR4.out.sub_ (set_at (set_at (set_at HCX.out _) _) _) (r := ⟨162, 3, fn', .slice A4 fn' k4, fsCells xl.fs⟩) (by simp [lrows])) (by omega))
      have hb1 : 0 ≤ r1 ∧ r1 ≤ 17592186044416 := by omega
      clear hr1 ho3 hg3 hlo3 c0a c0b c1a c1b c2
      go_wp2_with fail
      refine (CF.out).mono ?_
      rintro e w4 ⟨r2, rfl, hr2, ho4, hg4⟩
      have HR5 := hid (HR4.out.rowset (w' := w4) (i := i) (j := 1) (x := ⟨{ xl with nm := mt kk, lv := ((kk + 1 : Nat) : Int), hs := markNs (kk + 2) hn' }, .slice A3 hn' k3, hn', .slice A4 fn' k4, fn'⟩) (y := ⟨{ xl with nm := mt kk, lv := ((kk + 1 : Nat) : Int), hs := markNs (kk + 2) hn', fs := markFs (kk + 2 + hn') fn' }, .slice A3 hn' k3, hn', .slice A4 fn' k4, fn'⟩)
        (r := ⟨162, 3, fn', .slice A4 fn' k4, fsCells xl.fs⟩) (ys := fsCells (markFs (kk + 2 + hn') fn')) lcells_len lrows_len (set_at (set_at (set_at HCX.out _) _) _) (by omega) rfl hg4 ho4 rfl rfl)
      have hlo4 : ∀ z, (Value.slice A4 fn' k4).ownBlock = some z → lo ≤ z := own_lt (HR4.out.sub_ (set_at (set_at (set_at HCX.out _) _) _) (r := ⟨162, 3, fn', .slice A4 fn' k4, fsCells xl.fs⟩) (by simp [lrows]))
      have HB4 := hid (HB3.out.grown hg4 (Nat.le_trans hlo HB3.out.size) hlo4)
      obtain ⟨z1, e1⟩ : ∃ z, (r2 % 3 == 0) = z := ⟨_, rfl⟩
      obtain ⟨z2, e2⟩ : ∃ z, ((r2 + 1) % 3 == 0) = z := ⟨_, rfl⟩
      have HZ := hid (show third (kk + 2 + hn' + fn' * 3) = z1 ∧ third (kk + 2 + hn' + fn' * 3 + 1) = z2 by
        unfold third
        refine ⟨by rw [← hr2]; exact e1, ?_⟩
        rw [show ((kk + 2 + hn' + fn' * 3 + 1 : Nat) : Int) = r2 + 1 by rw [hr2]; omega]; exact e2)
      have HR6 := hid (HR5.out.cellset (i := i) (j := 4) (x := ⟨{ xl with nm := mt kk, lv := ((kk + 1 : Nat) : Int), hs := markNs (kk + 2) hn', fs := markFs (kk + 2 + hn') fn' }, .slice A3 hn' k3, hn', .slice A4 fn' k4, fn'⟩) (y := ⟨{ xl with nm := mt kk, lv := ((kk + 1 : Nat) : Int), hs := markNs (kk + 2) hn', fs := markFs (kk + 2 + hn') fn', stop := z1 }, .slice A3 hn' k3, hn', .slice A4 fn' k4, fn'⟩) (u := .bool z1) lcells_len lrows_len (set_at (set_at (set_at (set_at HCX.out _) _) _) _) (by omega) (by simp [lcells]) rfl)
      have HR7 := hid (HR6.out.cellset (i := i) (j := 5) (x := ⟨{ xl with nm := mt kk, lv := ((kk + 1 : Nat) : Int), hs := markNs (kk + 2) hn', fs := markFs (kk + 2 + hn') fn', stop := z1 }, .slice A3 hn' k3, hn', .slice A4 fn' k4, fn'⟩) (y := ⟨{ xl with nm := mt kk, lv := ((kk + 1 : Nat) : Int), hs := markNs (kk + 2) hn', fs := markFs (kk + 2 + hn') fn', stop := z1, off := z2 }, .slice A3 hn' k3, hn', .slice A4 fn' k4, fn'⟩) (u := .bool z2) lcells_len lrows_len (set_at (set_at (set_at (set_at (set_at HCX.out _) _) _) _) _) (by omega) (by simp [lcells]) rfl)
      have HB5 := hid ((HB4.out.setCell (p := ⟨g, i * 6 + 4, none⟩) hgl (.bool z1)).setCell (p := ⟨g, i * 6 + 5, none⟩) hgl (.bool z2))
      have c4 := HR5.out.cell_at (j := 4) lcells_len (set_at (set_at (set_at (set_at HCX.out _) _) _) _) rfl
      have c5 := HR5.out.cell_at (j := 5) lcells_len (set_at (set_at (set_at (set_at HCX.out _) _) _) _) rfl
      have c4a := c4.1
      have c4b := c4.2
      have c5a := c5.1
      have c5b := c5.2
      have hb2 : 0 ≤ r2 ∧ r2 + 2 ≤ 17592186044416 := by omega
      have HR2' := hid hr2
      have HE := hid (show ({ ({ xl with nm := mt kk, lv := ((kk + 1 : Nat) : Int), hs := markNs (kk + 2) hn', fs := markFs (kk + 2 + hn') fn', stop := z1, off := z2 } : Lgr) with } : Lgr) = (markLgV kk ⟨xl, .slice A3 hn' k3, hn', .slice A4 fn' k4, fn'⟩).l by unfold markLgV; rw [HZ.out.1, HZ.out.2])
      clear hr2 ho4 hg4 hlo4 c3 c4 c5
      go_wp2_with fail
      go_roundw
      case rel =>
        refine ⟨i + 1, r2 + 1 + 1, _, rfl, by go_num, by omega, by omega, by omega, ?_, HM.out.step HX.out, ?_, HB5.out⟩
        · show _ = _
          rw [kAt_succ HX.out, HK.out, HR2'.out]; unfold wdV; simp only; omega
        · have h7 := HR7.out
          rw [List.set_set, List.set_set, List.set_set, List.set_set, List.set_set] at h7
          rw [HK.out]
          have e : markLgV kk ⟨xl, .slice A3 hn' k3, hn', .slice A4 fn' k4, fn'⟩ = ⟨{ xl with nm := mt kk, lv := ((kk + 1 : Nat) : Int), hs := markNs (kk + 2) hn', fs := markFs (kk + 2 + hn') fn', stop := z1, off := z2 }, .slice A3 hn' k3, hn', .slice A4 fn' k4, fn'⟩ := by
            unfold markLgV; simp only [HZ.out.1, HZ.out.2]
          rw [e]; exact h7
      case measure => simp [intOf]; omega
    · obtain rfl : i = n := by omega
      have HF := hid (show kAt wdV k ls i = k + (ls.map wdV).sum by unfold kAt; rw [List.take_of_length_le (by rw [HL.out]; exact Nat.le_refl _)])
      go_wp2_with fail
      go_ret
      exact ⟨cur, ret_int (by rw [HQ.out, HF.out]), HM.out, HRx.out, HB.out⟩
end Go.Proofs.YtlifaeleoiodkaaGreatDoor

/-
  TREES marked: the walks of markHandlerS, markTree.
-/
namespace Go.Proofs.YtlifaeleoiodkaaGreatDoor
open Go.RowKit Nm
set_option linter.unusedSimpArgs false
set_option linter.unusedVariables false

set_option maxHeartbeats 8000000 in
set_option maxRecDepth 100000 in
theorem markHandlerS_c (v : Value) (lo k : Nat) (ls : List HndV) (pre post : List Row) (w : World) (hR : Rows w lo (pre ++ two 125 3 ls.length v hcells hrows ls ++ post)) (hlo : lo ≤ w.heap.size) (hn : k + (ls.map wdH).sum ≤ 17592186044416) :
    Calls Tryz.prog 49 #[v, .int .i64 k] w fun e w' => ∃ ls' : List HndV, e = .returned (.int .i64 ((k + (ls.map wdH).sum : Nat) : Int)) ∧ MarkedBy markHnV wdH k ls ls' ls.length ∧ Rows w' lo (pre ++ two 125 3 ls.length v hcells hrows ls' ++ post) ∧ Below lo w w' := by
  obtain ⟨A, c, rfl, hnc, hcm⟩ := (Sl.of_own hR.top).form
  unfold maxLen at hcm
  generalize hnn : ls.length = n at *
  have HL := hid hnn
  have HR := hid hR
  clear hR hnn
  go_enter Tryz.func49, Tryz.ntmps49
  go_wp2_with fail
  go_loopw [1, 5] (fun kv iv wr => ∃ (i : Nat) (q : Int) (cur : List HndV), kv = .int .i64 q ∧ iv = .int .i64 i ∧ i ≤ n ∧ 0 ≤ q ∧ q ≤ 17592186044416 ∧ Hid (q = ((kAt wdH k ls i : Nat) : Int)) ∧ Hid (MarkedBy markHnV wdH k ls cur i) ∧ Hid (Rows wr lo (pre ++ two 125 3 n (.slice A n c) hcells hrows cur ++ post)) ∧ Hid (Below lo w wr)) (fun _ iv _ => n - (intOf iv).toNat)
  case atStart => exact ⟨0, _, ls, rfl, rfl, Nat.zero_le _, by omega, by omega, by show _ = _; rw [kAt_zero], MarkedBy.start _ _ _ _, HR.out, Below.refl _ _⟩
  case round =>
    obtain ⟨i, q, cur, rfl, rfl, hi, hq0, hq1, HQ, HM, HRx, HB⟩ := hrel
    by_cases hlt : i < n
    · obtain ⟨x, hx⟩ : ∃ x, ls[i]? = some x := ⟨_, List.getElem?_eq_getElem (by rw [HL.out]; exact hlt)⟩
      have hcx := HM.out.cur hx
      have hks := kAt_le wdH k ls (i + 1)
      rw [kAt_succ hx] at hks
      generalize hkk : kAt wdH k ls i = kk at *
      have hq2 : q = (kk : Int) := by rw [HQ.out]
      subst hq2
      have hwd : kk + (x.fn * 3 + 2) ≤ 17592186044416 := Nat.le_trans hks hn
      obtain ⟨g, rfl, hglt⟩ := own_some HRx.out.top (by omega)
      have hgl : lo ≤ g := (HRx.out.top.lt g rfl).1
      obtain ⟨A4, k4, e4, _, _⟩ := (Sl.of_own (HRx.out.sub_ hcx (r := ⟨162, 3, x.fn, x.fv, fsCells x.h.fs⟩) (by simp [hrows]))).form
      obtain ⟨xl, xfv, fn'⟩ := x
      simp only at e4 hwd
      subst e4
      obtain ⟨x0, hx0, _⟩ := txt_mk (mt kk)
      have HC0 := hid (fun W => mark_at (q := (kk : Int)) (m := kk) W rfl (by omega) hx0)
      have HX0 := hid hx0
      have hlw : lo ≤ wr.heap.size := Nat.le_trans hlo HB.out.size
      have HX := hid hx
      have HCX := hid hcx
      have HK := hid hkk
      clear hx hx0 hcx hks hkk
      go_wp2_with fail
      refine (HC0.out _).mono ?_
      rintro e w1 ⟨rfl, hb⟩
      have HR1 := hid (HRx.out.below hb)
      have HB1 := hid (HB.out.trans (hb.mono hlw))
      clear hb
      have c0 := HR1.out.cell_at (j := 0) hcells_len HCX.out rfl
      have c1 := HR1.out.cell_at (j := 1) hcells_len HCX.out rfl
      have c2 := (HR1.out.cell_at (j := 2) hcells_len HCX.out rfl).1
      have HR2 := hid (HR1.out.cellset (i := i) (j := 0) (x := ⟨xl, .slice A4 fn' k4, fn'⟩) (y := ⟨{ xl with nm := mt kk }, .slice A4 fn' k4, fn'⟩) (u := .string x0) hcells_len hrows_len HCX.out (by omega) (by simp [hcells, HX0.out]) rfl)
      have HR3 := hid (HR2.out.cellset (i := i) (j := 1) (x := ⟨{ xl with nm := mt kk }, .slice A4 fn' k4, fn'⟩) (y := ⟨{ xl with nm := mt kk, lv := ((kk + 1 : Nat) : Int) }, .slice A4 fn' k4, fn'⟩) (u := .int .i64 ((kk : Int) + 1)) hcells_len hrows_len (set_at HCX.out _) (by omega) (by simp [hcells]) rfl)
      simp only [Nat.add_zero] at HR2 HR3 c0
      have CF := hid (markFlts_at (.slice A4 fn' k4) fn' lo (kk + 2) ((kk : Int) + 1 + 1) _ _ (by omega) (HR3.out.sub_ (set_at (set_at HCX.out _) _) (r := ⟨162, 3, fn', .slice A4 fn' k4, fsCells xl.fs⟩) (by simp [hrows])) (by omega))
      have hglt1 : g < w1.heap.size := by have := (own_some HR1.out.top (by omega)); obtain ⟨g', e', h'⟩ := this; cases e'; exact h'
      have c0a := c0.1
      have c0b := c0.2
      have c1a := c1.1
      have c1b := c1.2
      clear c0 c1
      go_wp2_with fail
      refine (CF.out).mono ?_
      rintro e w3 ⟨r1, rfl, hr1, ho3, hg3⟩
      have HR4 := hid (HR3.out.rowset (w' := w3) (i := i) (j := 0) (x := ⟨{ xl with nm := mt kk, lv := ((kk + 1 : Nat) : Int) }, .slice A4 fn' k4, fn'⟩) (y := ⟨{ xl with nm := mt kk, lv := ((kk + 1 : Nat) : Int), fs := markFs (kk + 2) fn' }, .slice A4 fn' k4, fn'⟩)
        (r := ⟨162, 3, fn', .slice A4 fn' k4, fsCells xl.fs⟩) (ys := fsCells (markFs (kk + 2) fn')) hcells_len hrows_len (set_at (set_at HCX.out _) _) (by omega) rfl hg3 ho3 rfl rfl)
      have hlo3 : ∀ z, (Value.slice A4 fn' k4).ownBlock = some z → lo ≤ z := own_lt (HR3.out.sub_ (set_at (set_at HCX.out _) _) (r := ⟨162, 3, fn', .slice A4 fn' k4, fsCells xl.fs⟩) (by simp [hrows]))
      have HB3 := hid (((HB1.out.setCell (p := ⟨g, i * 3, none⟩) hgl (.string x0)).setCell (p := ⟨g, i * 3 + 1, none⟩) hgl (.int .i64 ((kk : Int) + 1))).grown hg3 (by simp; exact Nat.le_trans hlo HB1.out.size) hlo3)
      have HR1' := hid hr1
      have hb1 : 0 ≤ r1 ∧ r1 ≤ 17592186044416 := by omega
      clear hr1 ho3 hg3 hlo3 c0a c0b c1a c1b c2
      go_wp2_with fail
      go_roundw
      case rel =>
        refine ⟨i + 1, r1, _, rfl, by go_num, by omega, by omega, by omega, ?_, HM.out.step HX.out, ?_, HB3.out⟩
        · show _ = _
          rw [kAt_succ HX.out, HK.out, HR1'.out]; unfold wdH; simp only; omega
        · have h7 := HR4.out
          rw [List.set_set, List.set_set] at h7
          rw [HK.out]
          exact h7
      case measure => simp [intOf]; omega
    · obtain rfl : i = n := by omega
      have HF := hid (show kAt wdH k ls i = k + (ls.map wdH).sum by unfold kAt; rw [List.take_of_length_le (by rw [HL.out]; exact Nat.le_refl _)])
      go_wp2_with fail
      go_ret
      exact ⟨cur, ret_int (by rw [HQ.out, HF.out]), HM.out, HRx.out, HB.out⟩

/-- the cells of a box, as a row -/
def bxRow (T : TypeId) (d b : Nat) (cs : List Value) : Row := ⟨T, d, 1, .slice (some ⟨b, 0, none⟩) 1 1, cs⟩
theorem Rows.box (w : World) (cs : Array Value) (T : TypeId) (d : Nat) (h : cs.size = d) : Rows (w.alloc (.cells cs T)) w.heap.size [bxRow T d w.heap.size cs.toList] :=
  Rows.one (r := bxRow T d w.heap.size cs.toList) (World.ownsRow_lit w cs 1 (Nat.le_refl _) (by unfold maxLen; omega) (by rw [Nat.one_mul]; exact h))
theorem Rows.bcell {w : World} {lo d b q : Nat} {T : TypeId} {cs : List Value} {rs : List Row} {u : Value} (h : Rows w lo rs) (hm : bxRow T d b cs ∈ rs) (hu : cs[q]? = some u) : w.cell? ⟨b, q, none⟩ = some u ∧ b < w.heap.size := by
  have ho : w.ownsRow lo T d (.slice (some ⟨b, 0, none⟩) 1 1) 1 cs := h.1 _ hm
  have hlt := (List.getElem?_eq_some_iff.1 hu).1
  exact ⟨(ho.cellAt q (by have := ho.1; omega)).trans hu, (ho.lt b rfl).2⟩
/-- later rows ahead of the elder ones -/
theorem Rows.newer {w w' : World} {lo : Nat} {rs rs' : List Row} (h : Rows w lo rs) (hb : Below w.heap.size w w') (h2 : Rows w' w.heap.size rs') (hl : lo ≤ w.heap.size) : Rows w' lo (rs' ++ rs) := (h.more hb h2 hl).perm List.perm_append_comm
theorem Rows.write1 {w w' : World} {lo d n : Nat} {T : TypeId} {v : Value} {xs ys : List Value} {rest : List Row} (h : Rows w lo ([⟨T, d, n, v, xs⟩] ++ rest)) (hg : w.grownBy w' v.ownBlock) (ho : w'.ownsRow lo T d v n ys) : Rows w' lo ([⟨T, d, n, v, ys⟩] ++ rest) := Rows.write (pre := []) (r := ⟨T, d, n, v, xs⟩) h hg ho
theorem treeRows_eq (n1 : Nat) (v1 : Value) (ls : List LgrV) (n2 : Nat) (v2 : Value) (hs : List HndV) : treeRows n1 v1 ls n2 v2 hs = two 112 6 n1 v1 lcells lrows ls ++ two 125 3 n2 v2 hcells hrows hs := rfl

set_option maxHeartbeats 4000000 in
set_option maxRecDepth 100000 in
theorem markTree_c (v1 v2 : Value) (q : Int) (lo k : Nat) (ls : List LgrV) (hs : List HndV) (rest : List Row) (w : World) (hR : Rows w lo (treeRows ls.length v1 ls hs.length v2 hs ++ rest)) (hlo : lo ≤ w.heap.size) (hn : k + (ls.map wdV).sum + (hs.map wdH).sum ≤ 17592186044416) :
    Calls Tryz.prog 17 #[.agg #[v1, v2, .int .i64 q], .int .i64 k] w fun e w' => ∃ (ls' : List LgrV) (hs' : List HndV), e = .returned (.int .i64 ((k + (ls.map wdV).sum + (hs.map wdH).sum : Nat) : Int)) ∧ MarkedBy markLgV wdV k ls ls' ls.length ∧ MarkedBy markHnV wdH (k + (ls.map wdV).sum) hs hs' hs.length ∧
      Rows w' lo (treeRows ls.length v1 ls' hs.length v2 hs' ++ rest) ∧ Below lo w w' := by
  rw [treeRows_eq] at hR
  have h0 : Rows w lo ([] ++ two 112 6 ls.length v1 lcells lrows ls ++ (two 125 3 hs.length v2 hcells hrows hs ++ rest)) := by rw [List.nil_append, ← List.append_assoc]; exact hR
  have h0' : Rows w lo (two 112 6 ls.length v1 lcells lrows ls ++ two 125 3 hs.length v2 hcells hrows hs ++ rest) := hR
  obtain ⟨A1, c1, rfl, _, _⟩ := (Sl.of_own h0.top).form
  obtain ⟨A2, c2, rfl, _, _⟩ := (Sl.of_own h0'.top).form
  have hW : Below w.heap.size w (w.alloc (.cells #[.slice A1 ls.length c1, .slice A2 hs.length c2, .int .i64 q] 36)) := (Below.refl _ _).alloc (Nat.le_refl _) _
  have hRb : Rows (w.alloc (.cells #[.slice A1 ls.length c1, .slice A2 hs.length c2, .int .i64 q] 36)) lo ([] ++ two 112 6 ls.length (.slice A1 ls.length c1) lcells lrows ls ++ (two 125 3 hs.length (.slice A2 hs.length c2) hcells hrows hs ++ rest ++ [bxRow 36 3 w.heap.size [.slice A1 ls.length c1, .slice A2 hs.length c2, .int .i64 q]])) := by
    have := h0.more hW (Rows.box w #[.slice A1 ls.length c1, .slice A2 hs.length c2, .int .i64 q] 36 3 rfl) hlo
    rwa [List.append_assoc] at this
  have C1 := hid (markLoggerS_c (.slice A1 ls.length c1) lo k ls [] _ _ hRb (by simp; omega) (by omega))
  have HW := hid (hW.mono hlo)
  have C2 := hid (fun (pre post : List Row) (W : World) (hR2 : Rows W lo (pre ++ two 125 3 hs.length (.slice A2 hs.length c2) hcells hrows hs ++ post)) (hlo1 : lo ≤ W.heap.size) => markHandlerS_c (.slice A2 hs.length c2) lo (k + (ls.map wdV).sum) hs pre post W hR2 hlo1 (by omega))
  clear hR h0 h0' hW hRb
  generalize hs1 : (ls.map wdV).sum = s1 at *
  generalize hn1 : ls.length = n1 at *
  generalize hs2 : (hs.map wdH).sum = s2 at *
  generalize hn2 : hs.length = n2 at *
  clear hs1 hn1 hs2 hn2
  go_enter Tryz.func17, Tryz.ntmps17
  go_wp2_with fail
  refine (C1.out).mono ?_
  rintro e w1 ⟨ls', rfl, hM1, hR1, hb1⟩
  have hR2 : Rows w1 lo (two 112 6 n1 (.slice A1 n1 c1) lcells lrows ls' ++ two 125 3 n2 (.slice A2 n2 c2) hcells hrows hs ++ (rest ++ [bxRow 36 3 w.heap.size [.slice A1 n1 c1, .slice A2 n2 c2, .int .i64 q]])) := by
    have := hR1
    simp only [List.nil_append, List.append_assoc] at this ⊢
    exact this
  have d1 := (hR2.bcell (T := 36) (d := 3) (b := w.heap.size) (cs := [.slice A1 n1 c1, .slice A2 n2 c2, .int .i64 q]) (q := 1) (by simp) rfl).1
  have HB1 := hid (HW.out.trans hb1)
  have HM1 := hid hM1
  have hlo1 : lo ≤ w1.heap.size := Nat.le_trans hlo HB1.out.size
  have C3 := hid (C2.out _ _ w1 hR2 hlo1)
  clear hR1 hR2 hb1 hM1
  go_wp2_with fail
  refine (C3.out).mono ?_
  rintro e w2 ⟨hs', rfl, hM2, hR3, hb2⟩
  have HM2 := hid hM2
  have HB2 := hid (HB1.out.trans hb2)
  have HR3 := hid (show Rows w2 lo (treeRows n1 (.slice A1 n1 c1) ls' n2 (.slice A2 n2 c2) hs' ++ rest) by
    rw [treeRows_eq]
    rw [← List.append_assoc] at hR3
    exact hR3.left)
  clear hM2 hR3 hb2 d1
  go_wp2_with fail
  go_ret
  exact ⟨ls', hs', rfl, HM1.out, HM2.out, HR3.out, HB2.out⟩
end Go.Proofs.YtlifaeleoiodkaaGreatDoor

/-
  TREES held: the walks of heldLoggerS, heldHandlerS, heldTree; marks in the words of the laws.
-/
namespace Go.Proofs.YtlifaeleoiodkaaGreatDoor
open Go.RowKit Nm
set_option linter.unusedSimpArgs false
set_option linter.unusedVariables false

theorem txts_marked (k n : Nat) : Marked ((markNs k n).map txt) k n := by
  intro j hj
  simp [markNs, hj]
theorem flts_marked (k n : Nat) : MarkedK fcellsKinds 3 (fsCells (markFs k n)) k (n * 3) := by
  intro j hj
  have hi : j / 3 < n := by omega
  have h3 : j % 3 < 3 := Nat.mod_lt _ (by omega)
  have e : j = (j / 3) * 3 + j % 3 := by omega
  conv => lhs; rw [fsCells, e]
  rw [flat_get fcells 3 (fun _ => rfl) (markFs k n) (j / 3) (j % 3) _ (markFs_at hi) h3]
  generalize hq : j / 3 = q at *
  generalize hr : j % 3 = r at *
  match r, h3 with
  | 0, _ => simp [fcells, fcellsKinds, mkv]; omega
  | 1, _ => simp [fcells, fcellsKinds, mkv]; rw [show k + j = k + q * 3 + 1 by omega]
  | 2, _ => simp [fcells, fcellsKinds, mkv]; omega
/-- loggers, handlers that lie below a block -/
def LsIn (w : World) (B : Nat) (v : Value) (n : Nat) (ls : List LgrV) : Prop := Sl w B 6 n v (ls.flatMap lcells) ∧ ∀ x ∈ ls, Sl w B 1 x.hn x.hv (x.l.hs.map txt) ∧ Sl w B 3 x.fn x.fv (fsCells x.l.fs)
def HsIn (w : World) (B : Nat) (v : Value) (n : Nat) (hs : List HndV) : Prop := Sl w B 3 n v (hs.flatMap hcells) ∧ ∀ x ∈ hs, Sl w B 3 x.fn x.fv (fsCells x.h.fs)
theorem LsIn.below {w w' : World} {B B' n : Nat} {v : Value} {ls : List LgrV} (h : LsIn w B v n ls) (hb : Below B' w w') (hB : B ≤ B') : LsIn w' B v n ls := ⟨h.1.below hb hB, fun x hx => ⟨(h.2 x hx).1.below hb hB, (h.2 x hx).2.below hb hB⟩⟩
theorem HsIn.below {w w' : World} {B B' n : Nat} {v : Value} {hs : List HndV} (h : HsIn w B v n hs) (hb : Below B' w w') (hB : B ≤ B') : HsIn w' B v n hs := ⟨h.1.below hb hB, fun x hx => (h.2 x hx).below hb hB⟩

/-- the rows of a tree value that bears marks from k on, up to r -/
def Stamped (rs : List Row) (v : Value) (k r : Nat) : Prop :=
  ∃ (v1 v2 : Value) (q : Int) (l0 ls : List LgrV) (h0 hs : List HndV), v = .agg #[v1, v2, .int .i64 q] ∧ rs = treeRows l0.length v1 ls h0.length v2 hs ∧ MarkedBy markLgV wdV k l0 ls l0.length ∧ MarkedBy markHnV wdH (k + (l0.map wdV).sum) h0 hs h0.length ∧
    r = k + (l0.map wdV).sum + (h0.map wdH).sum ∧ r ≤ 17592186044416
theorem Rows.lsIn {w : World} {lo n1 n2 : Nat} {v1 v2 : Value} {ls : List LgrV} {hs : List HndV} (h : Rows w lo (treeRows n1 v1 ls n2 v2 hs)) : LsIn w w.heap.size v1 n1 ls ∧ HsIn w w.heap.size v2 n2 hs := by
  rw [treeRows_eq] at h
  have hl := h.left
  have hr := h.right
  refine ⟨⟨Sl.of_own (show w.ownsRow _ _ 6 v1 _ _ from hl.head), fun x hx => ⟨?_, ?_⟩⟩, ⟨Sl.of_own (show w.ownsRow _ _ 3 v2 _ _ from hr.head), fun x hx => ?_⟩⟩
  · exact Sl.of_own (show w.ownsRow _ _ 1 x.hv x.hn _ from hl.tail.mem (mem_lrows hx (List.mem_cons_self ..)))
  · exact Sl.of_own (show w.ownsRow _ _ 3 x.fv x.fn _ from hl.tail.mem (mem_lrows hx (List.mem_cons_of_mem _ (List.mem_cons_self ..))))
  · exact Sl.of_own (show w.ownsRow _ _ 3 x.fv x.fn _ from hr.tail.mem (mem_hrows hx (List.mem_cons_self ..)))

theorem sum_le {α : Type} (l : List α) (f : α → Nat) {m : Nat} (h : ∀ x ∈ l, f x ≤ m) : (l.map f).sum ≤ l.length * m := by
  induction l with
  | nil => simp
  | cons a l ih =>
    have h1 := h a (by simp)
    have h2 := ih (fun x hx => h x (by simp [hx]))
    rw [List.map_cons, List.sum_cons, List.length_cons, Nat.add_mul]; omega
/-- a tree of the call's own is marked -/
theorem markTreeX_c {rs rest : List Row} {v : Value} {L : List Lgr} {H : List Hnd} {q : Int} {w : World} {lo k : Nat} (h : TreeS rs v L H q) (hR : Rows w lo (rs ++ rest)) (hlo : lo ≤ w.heap.size) (hd : dataFit L H) (hk : k ≤ 1048576) :
    Calls Tryz.prog 17 #[v, .int .i64 k] w fun e w' => ∃ (r : Nat) (rs' : List Row), e = .returned (.int .i64 (r : Int)) ∧ Stamped rs' v k r ∧ Rows w' lo (rs' ++ rest) ∧ Below lo w w' := by
  obtain ⟨v1, v2, ls, hs, rfl, hL, hH, rfl⟩ := h
  obtain ⟨hl, hh⟩ := hR.left.lsIn
  have b1 : ∀ x ∈ ls, wdV x ≤ 4194308 := fun x hx => by
    obtain ⟨_, h2, h3⟩ := hd.1.2 x.l (by rw [← hL]; exact List.mem_map.2 ⟨x, hx, rfl⟩)
    have e1 : x.l.hs.length = x.hn := by have := (hl.2 x hx).1.1; simpa using this
    have e2 : x.l.fs.length = x.fn := (hl.2 x hx).2.flen
    have h2' := h2.1
    have h3' := h3.1
    unfold maxTxt at h2' h3'
    unfold wdV; omega
  have b2 : ∀ x ∈ hs, wdH x ≤ 4194308 := fun x hx => by
    obtain ⟨_, h3⟩ := hd.2.2 x.h (by rw [← hH]; exact List.mem_map.2 ⟨x, hx, rfl⟩)
    have e2 : x.h.fs.length = x.fn := (hh.2 x hx).flen
    have h3' := h3.1
    unfold maxTxt at h3'
    unfold wdH; omega
  have s1 := sum_le ls wdV b1
  have s2 := sum_le hs wdH b2
  have n1 : ls.length ≤ 1048576 := by have := hd.1.1; rw [← hL] at this; simpa [lsOf, maxTxt] using this
  have n2 : hs.length ≤ 1048576 := by have := hd.2.1; rw [← hH] at this; simpa [hsOf, maxTxt] using this
  have m1 : ls.length * 4194308 ≤ 1048576 * 4194308 := Nat.mul_le_mul_right _ n1
  have m2 : hs.length * 4194308 ≤ 1048576 * 4194308 := Nat.mul_le_mul_right _ n2
  refine (markTree_c v1 v2 q lo k ls hs rest w hR hlo (by omega)).mono ?_
  rintro e w' ⟨ls', hs', rfl, hM1, hM2, hR', hb⟩
  exact ⟨_, _, rfl, ⟨v1, v2, q, ls, ls', hs, hs', rfl, rfl, hM1, hM2, rfl, by omega⟩, hR', hb⟩
end Go.Proofs.YtlifaeleoiodkaaGreatDoor
