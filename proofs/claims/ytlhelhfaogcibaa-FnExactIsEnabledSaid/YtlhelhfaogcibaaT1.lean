/-
  TREES: the model (handlers, loggers, when they are valid), and how they lie in memory.
-/
import Derived.Test.YtlhelhfaogcibaaW14
namespace Go.Proofs.Ytlhelhfaogcibaa
open Go.RowKit Nm
set_option linter.unusedSimpArgs false
set_option linter.unusedVariables false

/-- the most bytes of a text that comes in -/
def maxTxt : Nat := 1048576
structure Hnd where
  nm : List UInt8
  lv : Int
  fs : List Flt
structure Lgr where
  nm : List UInt8
  lv : Int
  hs : List (List UInt8)
  fs : List Flt
  stop : Bool
  off : Bool
def lvOk (n : Int) : Bool := decide (0 ≤ n) && decide (n ≤ 60)
def lastL : List UInt8 := [108, 97, 115, 116]
def hndOk (h : Hnd) : Bool := wordOk h.nm && (!decide (h.nm = lastL) && (lvOk h.lv && filtersOk h.fs))
def hndsOk (hs : List Hnd) : Bool := hs.all hndOk && (decide (hs.map (·.nm)).Nodup && decide (hs.length ≤ 6))
def hasL (hs : List Hnd) (x : List UInt8) : Bool := hs.any fun h => decide (h.nm = x)
def lgrOk (hs : List Hnd) (l : Lgr) : Bool := nameOk l.nm && (lvOk l.lv && (filtersOk l.fs && (l.hs.all (hasL hs) && decide l.hs.Nodup)))
def lgrsOk (hs : List Hnd) (ls : List Lgr) : Bool := ls.all (lgrOk hs) && (decide (ls.map (·.nm)).Nodup && (decide (1 ≤ ls.length) && (decide (ls.length ≤ 8) && decide ((ls.map (·.nm))[0]? = some []))))
def treeOk (ls : List Lgr) (hs : List Hnd) (q : Int) : Bool := lvOk q && (hndsOk hs && lgrsOk hs ls)

/-- elements of equal width, one behind the other -/
theorem flat_len {α : Type} (f : α → List Value) (d : Nat) (hf : ∀ x, (f x).length = d) (l : List α) : (l.flatMap f).length = l.length * d := by
  induction l with
  | nil => simp
  | cons a l ih => rw [List.flatMap_cons, List.length_append, hf, ih, List.length_cons, Nat.add_mul]; omega
theorem flat_at {α : Type} (f : α → List Value) (d : Nat) (hf : ∀ x, (f x).length = d) (l : List α) (i j : Nat) (x : α) (h : l[i]? = some x) (hj : j < d) : (l.flatMap f)[i * d + j]? = (f x)[j]? := by
  induction l generalizing i with
  | nil => simp at h
  | cons g l ih =>
    cases i with
    | zero =>
      simp only [List.getElem?_cons_zero, Option.some.injEq] at h
      subst h
      rw [List.flatMap_cons, Nat.zero_mul, Nat.zero_add, List.getElem?_append_left (by rw [hf]; exact hj)]
    | succ i =>
      have := ih i (by simpa using h)
      rw [List.flatMap_cons, List.getElem?_append_right (by rw [hf, Nat.add_mul]; omega), hf, show (i + 1) * d + j - d = i * d + j by rw [Nat.add_mul]; omega]
      exact this
/-- the cells of element k of such a slice -/
theorem Sl.elem {α : Type} {w : World} {B d n c : Nat} {A : Option Addr} {f : α → List Value} {l : List α} (hf : ∀ x, (f x).length = d) (h : Sl w B d n (.slice A n c) (l.flatMap f)) (hd : 0 < d) {k : Nat} (hk : k < n) :
    ∃ b o x, A = some ⟨b, o, none⟩ ∧ b < B ∧ l[k]? = some x ∧ ∀ j u, (f x)[j]? = some u → w.cell? ⟨b, o + k * d + j, none⟩ = some u := by
  obtain ⟨hl, A', c', he, h2, h3, h4⟩ := h
  obtain ⟨rfl, rfl⟩ : A = A' ∧ c = c' := by simpa using he
  obtain ⟨b, o, e, hb, hc⟩ := h4 (by omega)
  rw [flat_len f d hf] at hl
  have hln : l.length = n := Nat.eq_of_mul_eq_mul_right hd hl
  have hx : l[k]? = some (l[k]'(by omega)) := List.getElem?_eq_getElem (by omega)
  refine ⟨b, o, _, e, hb, hx, fun j u hu => ?_⟩
  have hj : j < d := by have := (List.getElem?_eq_some_iff.1 hu).1; rwa [hf] at this
  have := hc (k * d + j) u (by rw [flat_at f d hf l k j _ hx hj]; exact hu)
  rw [Nat.add_assoc]; exact this
theorem Sl.count {α : Type} {w : World} {B d n : Nat} {v : Value} {f : α → List Value} {l : List α} (hf : ∀ x, (f x).length = d) (h : Sl w B d n v (l.flatMap f)) (hd : 0 < d) : l.length = n := by
  have hl := h.1
  rw [flat_len f d hf] at hl
  exact Nat.eq_of_mul_eq_mul_right hd hl

/-- a handler, and where its filters lie -/
structure HndV where
  h : Hnd
  fv : Value
  fn : Nat
def hcells (x : HndV) : List Value := [txt x.h.nm, .int .i64 x.h.lv, x.fv]
/-- a logger, and where its handlers and its filters lie -/
structure LgrV where
  l : Lgr
  hv : Value
  hn : Nat
  fv : Value
  fn : Nat
def lcells (x : LgrV) : List Value := [txt x.l.nm, .int .i64 x.l.lv, x.hv, x.fv, .bool x.l.stop, .bool x.l.off]
def Txts (w : World) (B n : Nat) (v : Value) (l : List (List UInt8)) : Prop := Sl w B 1 n v (l.map txt) ∧ ∀ x ∈ l, x.length ≤ maxTxt
def Hs (w : World) (B n : Nat) (v : Value) (l : List HndV) : Prop := Sl w B 3 n v (l.flatMap hcells) ∧ ∀ x ∈ l, x.h.nm.length ≤ maxTxt ∧ Fs w B x.fn x.fv x.h.fs
def Ls (w : World) (B n : Nat) (v : Value) (l : List LgrV) : Prop :=
  Sl w B 6 n v (l.flatMap lcells) ∧ ∀ x ∈ l, x.l.nm.length ≤ maxTxt ∧ Txts w B x.hn x.hv x.l.hs ∧ Fs w B x.fn x.fv x.l.fs

section
variable {w w' : World} {B B' n : Nat} {v : Value}
theorem Fs.below {l : List Flt} (h : Fs w B n v l) (hb : Below B' w w') (hB : B ≤ B') : Fs w' B n v l := ⟨h.1.below hb hB, h.2⟩
theorem Fs.more {l : List Flt} (h : Fs w B n v l) (hB : B ≤ B') : Fs w B' n v l := ⟨h.1.more hB, h.2⟩
theorem Txts.below {l : List (List UInt8)} (h : Txts w B n v l) (hb : Below B' w w') (hB : B ≤ B') : Txts w' B n v l := ⟨h.1.below hb hB, h.2⟩
theorem Txts.more {l : List (List UInt8)} (h : Txts w B n v l) (hB : B ≤ B') : Txts w B' n v l := ⟨h.1.more hB, h.2⟩
theorem Hs.below {l : List HndV} (h : Hs w B n v l) (hb : Below B' w w') (hB : B ≤ B') : Hs w' B n v l := ⟨h.1.below hb hB, fun x hx => ⟨(h.2 x hx).1, (h.2 x hx).2.below hb hB⟩⟩
theorem Hs.more {l : List HndV} (h : Hs w B n v l) (hB : B ≤ B') : Hs w B' n v l := ⟨h.1.more hB, fun x hx => ⟨(h.2 x hx).1, (h.2 x hx).2.more hB⟩⟩
theorem Ls.below {l : List LgrV} (h : Ls w B n v l) (hb : Below B' w w') (hB : B ≤ B') : Ls w' B n v l :=
  ⟨h.1.below hb hB, fun x hx => ⟨(h.2 x hx).1, (h.2 x hx).2.1.below hb hB, (h.2 x hx).2.2.below hb hB⟩⟩
theorem Ls.more {l : List LgrV} (h : Ls w B n v l) (hB : B ≤ B') : Ls w B' n v l :=
  ⟨h.1.more hB, fun x hx => ⟨(h.2 x hx).1, (h.2 x hx).2.1.more hB, (h.2 x hx).2.2.more hB⟩⟩
theorem hcells_len (x : HndV) : (hcells x).length = 3 := rfl
theorem lcells_len (x : LgrV) : (lcells x).length = 6 := rfl
theorem Hs.count {l : List HndV} (h : Hs w B n v l) : l.length = n := Sl.count hcells_len h.1 (by omega)
theorem Ls.count {l : List LgrV} (h : Ls w B n v l) : l.length = n := Sl.count lcells_len h.1 (by omega)
theorem Txts.count {l : List (List UInt8)} (h : Txts w B n v l) : l.length = n := by have := h.1.1; simp at this; omega
end
/-- element k of handlers: its three cells -/
theorem Hs.at_ {w : World} {B n c : Nat} {A : Option Addr} {l : List HndV} (h : Hs w B n (.slice A n c) l) {k : Nat} (hk : k < n) :
    ∃ b o x s, A = some ⟨b, o, none⟩ ∧ b < B ∧ l[k]? = some x ∧ s.data.toList = x.h.nm ∧ s.size ≤ maxTxt ∧ Fs w B x.fn x.fv x.h.fs ∧
      w.cell? ⟨b, o + k * 3, none⟩ = some (.string s) ∧ w.cell? ⟨b, o + k * 3 + 1, none⟩ = some (.int .i64 x.h.lv) ∧ w.cell? ⟨b, o + k * 3 + 2, none⟩ = some x.fv := by
  obtain ⟨b, o, x, e, hb, hx, hc⟩ := Sl.elem hcells_len h.1 (by omega) hk
  have hm := h.2 x (List.mem_of_getElem? hx)
  exact ⟨b, o, x, ⟨x.h.nm.toArray⟩, e, hb, hx, by simp, by rw [Lib.size_eq]; simpa using hm.1, hm.2, hc 0 _ rfl, hc 1 _ rfl, hc 2 _ rfl⟩
theorem Ls.at_ {w : World} {B n c : Nat} {A : Option Addr} {l : List LgrV} (h : Ls w B n (.slice A n c) l) {k : Nat} (hk : k < n) :
    ∃ b o x s, A = some ⟨b, o, none⟩ ∧ b < B ∧ l[k]? = some x ∧ s.data.toList = x.l.nm ∧ s.size ≤ maxTxt ∧ Txts w B x.hn x.hv x.l.hs ∧ Fs w B x.fn x.fv x.l.fs ∧
      w.cell? ⟨b, o + k * 6, none⟩ = some (.string s) ∧ w.cell? ⟨b, o + k * 6 + 1, none⟩ = some (.int .i64 x.l.lv) ∧ w.cell? ⟨b, o + k * 6 + 2, none⟩ = some x.hv ∧ w.cell? ⟨b, o + k * 6 + 3, none⟩ = some x.fv ∧
      w.cell? ⟨b, o + k * 6 + 4, none⟩ = some (.bool x.l.stop) ∧ w.cell? ⟨b, o + k * 6 + 5, none⟩ = some (.bool x.l.off) := by
  obtain ⟨b, o, x, e, hb, hx, hc⟩ := Sl.elem lcells_len h.1 (by omega) hk
  have hm := h.2 x (List.mem_of_getElem? hx)
  exact ⟨b, o, x, ⟨x.l.nm.toArray⟩, e, hb, hx, by simp, by rw [Lib.size_eq]; simpa using hm.1, hm.2.1, hm.2.2, hc 0 _ rfl, hc 1 _ rfl, hc 2 _ rfl, hc 3 _ rfl, hc 4 _ rfl, hc 5 _ rfl⟩
end Go.Proofs.Ytlhelhfaogcibaa
