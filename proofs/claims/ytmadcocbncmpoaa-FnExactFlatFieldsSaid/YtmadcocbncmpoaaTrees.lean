/-
  T1, T2, T3, T4, T5, T6, T7, T8, T9, T10 laid together.
-/
import Derived.Test.YtmadcocbncmpoaaBase
import Derived.Deep.RegionWith
import Derived.Deep.QuietTactic
import Derived.BigQuiet
import Derived.Deep.RegionHeld3
/-
  TREES: the model (handlers, loggers, when they are valid), and how they lie in memory.
-/
namespace Go.Proofs.Ytmadcocbncmpoaa
open Go.RowKit Nm
set_option linter.unusedSimpArgs false
set_option linter.unusedVariables false

/-- the most bytes of a text that comes in -/
def maxTxt : Nat := 1048576
structure Hnd where
  nm : List UInt8
  lv : Int
  fs : List Flt
structure Lgr where
  nm : List UInt8
  lv : Int
  hs : List (List UInt8)
  fs : List Flt
  stop : Bool
  off : Bool
def lvOk (n : Int) : Bool := decide (0 ≤ n) && decide (n ≤ 60)
def lastL : List UInt8 := [108, 97, 115, 116]
def hndOk (h : Hnd) : Bool := wordOk h.nm && (!decide (h.nm = lastL) && (lvOk h.lv && filtersOk h.fs))
def hndsOk (hs : List Hnd) : Bool := hs.all hndOk && (decide (hs.map (·.nm)).Nodup && decide (hs.length ≤ 6))
def hasL (hs : List Hnd) (x : List UInt8) : Bool := hs.any fun h => decide (h.nm = x)
def lgrOk (hs : List Hnd) (l : Lgr) : Bool := nameOk l.nm && (lvOk l.lv && (filtersOk l.fs && (l.hs.all (hasL hs) && decide l.hs.Nodup)))
def lgrsOk (hs : List Hnd) (ls : List Lgr) : Bool := ls.all (lgrOk hs) && (decide (ls.map (·.nm)).Nodup && (decide (1 ≤ ls.length) && (decide (ls.length ≤ 8) && decide ((ls.map (·.nm))[0]? = some []))))
def treeOk (ls : List Lgr) (hs : List Hnd) (q : Int) : Bool := lvOk q && (hndsOk hs && lgrsOk hs ls)

/-- elements of equal width, one behind the other -/
theorem flat_len {α : Type} (f : α → List Value) (d : Nat) (hf : ∀ x, (f x).length = d) (l : List α) : (l.flatMap f).length = l.length * d := by
  induction l with
  | nil => simp
  | cons a l ih => rw [List.flatMap_cons, List.length_append, hf, ih, List.length_cons, Nat.add_mul]; omega
theorem flat_at {α : Type} (f : α → List Value) (d : Nat) (hf : ∀ x, (f x).length = d) (l : List α) (i j : Nat) (x : α) (h : l[i]? = some x) (hj : j < d) : (l.flatMap f)[i * d + j]? = (f x)[j]? := by
  induction l generalizing i with
  | nil => simp at h
  | cons g l ih =>
    cases i with
    | zero =>
      simp only [List.getElem?_cons_zero, Option.some.injEq] at h
      subst h
      rw [List.flatMap_cons, Nat.zero_mul, Nat.zero_add, List.getElem?_append_left (by rw [hf]; exact hj)]
    | succ i =>
      have := ih i (by simpa using h)
      rw [List.flatMap_cons, List.getElem?_append_right (by rw [hf, Nat.add_mul]; omega), hf, show (i + 1) * d + j - d = i * d + j by rw [Nat.add_mul]; omega]
      exact this
/-- the cells of element k of such a slice -/
theorem Sl.elem {α : Type} {w : World} {B d n c : Nat} {A : Option Addr} {f : α → List Value} {l : List α} (hf : ∀ x, (f x).length = d) (h : Sl w B d n (.slice A n c) (l.flatMap f)) (hd : 0 < d) {k : Nat} (hk : k < n) :
    ∃ b o x, A = some ⟨b, o, none⟩ ∧ b < B ∧ l[k]? = some x ∧ ∀ j u, (f x)[j]? = some u → w.cell? ⟨b, o + k * d + j, none⟩ = some u := by
  obtain ⟨hl, A', c', he, h2, h3, h4⟩ := h
  obtain ⟨rfl, rfl⟩ : A = A' ∧ c = c' := by simpa using he
  obtain ⟨b, o, e, hb, hc⟩ := h4 (by omega)
  rw [flat_len f d hf] at hl
  have hln : l.length = n := Nat.eq_of_mul_eq_mul_right hd hl
  have hx : l[k]? = some (l[k]'(by omega)) := List.getElem?_eq_getElem (by omega)
  refine ⟨b, o, _, e, hb, hx, fun j u hu => ?_⟩
  have hj : j < d := by have := (List.getElem?_eq_some_iff.1 hu).1; rwa [hf] at this
  have := hc (k * d + j) u (by rw [flat_at f d hf l k j _ hx hj]; exact hu)
  rw [Nat.add_assoc]; exact this
theorem Sl.count {α : Type} {w : World} {B d n : Nat} {v : Value} {f : α → List Value} {l : List α} (hf : ∀ x, (f x).length = d) (h : Sl w B d n v (l.flatMap f)) (hd : 0 < d) : l.length = n := by
  have hl := h.1
  rw [flat_len f d hf] at hl
  exact Nat.eq_of_mul_eq_mul_right hd hl

/-- a handler, and where its filters lie -/
structure HndV where
  h : Hnd
  fv : Value
  fn : Nat
def hcells (x : HndV) : List Value := [txt x.h.nm, .int .i64 x.h.lv, x.fv]
/-- a logger, and where its handlers and its filters lie -/
structure LgrV where
  l : Lgr
  hv : Value
  hn : Nat
  fv : Value
  fn : Nat
def lcells (x : LgrV) : List Value := [txt x.l.nm, .int .i64 x.l.lv, x.hv, x.fv, .bool x.l.stop, .bool x.l.off]
def Txts (w : World) (B n : Nat) (v : Value) (l : List (List UInt8)) : Prop := Sl w B 1 n v (l.map txt) ∧ ∀ x ∈ l, x.length ≤ maxTxt
def Hs (w : World) (B n : Nat) (v : Value) (l : List HndV) : Prop := Sl w B 3 n v (l.flatMap hcells) ∧ ∀ x ∈ l, x.h.nm.length ≤ maxTxt ∧ Fs w B x.fn x.fv x.h.fs
def Ls (w : World) (B n : Nat) (v : Value) (l : List LgrV) : Prop :=
  Sl w B 6 n v (l.flatMap lcells) ∧ ∀ x ∈ l, x.l.nm.length ≤ maxTxt ∧ Txts w B x.hn x.hv x.l.hs ∧ Fs w B x.fn x.fv x.l.fs

section
variable {w w' : World} {B B' n : Nat} {v : Value}
theorem Fs.below {l : List Flt} (h : Fs w B n v l) (hb : Below B' w w') (hB : B ≤ B') : Fs w' B n v l := ⟨h.1.below hb hB, h.2⟩
theorem Fs.more {l : List Flt} (h : Fs w B n v l) (hB : B ≤ B') : Fs w B' n v l := ⟨h.1.more hB, h.2⟩
theorem Txts.below {l : List (List UInt8)} (h : Txts w B n v l) (hb : Below B' w w') (hB : B ≤ B') : Txts w' B n v l := ⟨h.1.below hb hB, h.2⟩
theorem Txts.more {l : List (List UInt8)} (h : Txts w B n v l) (hB : B ≤ B') : Txts w B' n v l := ⟨h.1.more hB, h.2⟩
theorem Hs.below {l : List HndV} (h : Hs w B n v l) (hb : Below B' w w') (hB : B ≤ B') : Hs w' B n v l := ⟨h.1.below hb hB, fun x hx => ⟨(h.2 x hx).1, (h.2 x hx).2.below hb hB⟩⟩
theorem Hs.more {l : List HndV} (h : Hs w B n v l) (hB : B ≤ B') : Hs w B' n v l := ⟨h.1.more hB, fun x hx => ⟨(h.2 x hx).1, (h.2 x hx).2.more hB⟩⟩
theorem Ls.below {l : List LgrV} (h : Ls w B n v l) (hb : Below B' w w') (hB : B ≤ B') : Ls w' B n v l :=
  ⟨h.1.below hb hB, fun x hx => ⟨(h.2 x hx).1, (h.2 x hx).2.1.below hb hB, (h.2 x hx).2.2.below hb hB⟩⟩
theorem Ls.more {l : List LgrV} (h : Ls w B n v l) (hB : B ≤ B') : Ls w B' n v l :=
  ⟨h.1.more hB, fun x hx => ⟨(h.2 x hx).1, (h.2 x hx).2.1.more hB, (h.2 x hx).2.2.more hB⟩⟩
theorem hcells_len (x : HndV) : (hcells x).length = 3 := rfl
theorem lcells_len (x : LgrV) : (lcells x).length = 6 := rfl
theorem Hs.count {l : List HndV} (h : Hs w B n v l) : l.length = n := Sl.count hcells_len h.1 (by omega)
theorem Ls.count {l : List LgrV} (h : Ls w B n v l) : l.length = n := Sl.count lcells_len h.1 (by omega)
theorem Txts.count {l : List (List UInt8)} (h : Txts w B n v l) : l.length = n := by have := h.1.1; simp at this; omega
end
/-- element k of handlers: its three cells -/
theorem Hs.at_ {w : World} {B n c : Nat} {A : Option Addr} {l : List HndV} (h : Hs w B n (.slice A n c) l) {k : Nat} (hk : k < n) :
    ∃ b o x s, A = some ⟨b, o, none⟩ ∧ b < B ∧ l[k]? = some x ∧ s.data.toList = x.h.nm ∧ s.size ≤ maxTxt ∧ Fs w B x.fn x.fv x.h.fs ∧
      w.cell? ⟨b, o + k * 3, none⟩ = some (.string s) ∧ w.cell? ⟨b, o + k * 3 + 1, none⟩ = some (.int .i64 x.h.lv) ∧ w.cell? ⟨b, o + k * 3 + 2, none⟩ = some x.fv := by
  obtain ⟨b, o, x, e, hb, hx, hc⟩ := Sl.elem hcells_len h.1 (by omega) hk
  have hm := h.2 x (List.mem_of_getElem? hx)
  exact ⟨b, o, x, ⟨x.h.nm.toArray⟩, e, hb, hx, by simp, by rw [Lib.size_eq]; simpa using hm.1, hm.2, hc 0 _ rfl, hc 1 _ rfl, hc 2 _ rfl⟩
theorem Ls.at_ {w : World} {B n c : Nat} {A : Option Addr} {l : List LgrV} (h : Ls w B n (.slice A n c) l) {k : Nat} (hk : k < n) :
    ∃ b o x s, A = some ⟨b, o, none⟩ ∧ b < B ∧ l[k]? = some x ∧ s.data.toList = x.l.nm ∧ s.size ≤ maxTxt ∧ Txts w B x.hn x.hv x.l.hs ∧ Fs w B x.fn x.fv x.l.fs ∧
      w.cell? ⟨b, o + k * 6, none⟩ = some (.string s) ∧ w.cell? ⟨b, o + k * 6 + 1, none⟩ = some (.int .i64 x.l.lv) ∧ w.cell? ⟨b, o + k * 6 + 2, none⟩ = some x.hv ∧ w.cell? ⟨b, o + k * 6 + 3, none⟩ = some x.fv ∧
      w.cell? ⟨b, o + k * 6 + 4, none⟩ = some (.bool x.l.stop) ∧ w.cell? ⟨b, o + k * 6 + 5, none⟩ = some (.bool x.l.off) := by
  obtain ⟨b, o, x, e, hb, hx, hc⟩ := Sl.elem lcells_len h.1 (by omega) hk
  have hm := h.2 x (List.mem_of_getElem? hx)
  exact ⟨b, o, x, ⟨x.l.nm.toArray⟩, e, hb, hx, by simp, by rw [Lib.size_eq]; simpa using hm.1, hm.2.1, hm.2.2, hc 0 _ rfl, hc 1 _ rfl, hc 2 _ rfl, hc 3 _ rfl, hc 4 _ rfl, hc 5 _ rfl⟩
end Go.Proofs.Ytmadcocbncmpoaa

/-
  WALKS: isLevel, handlerAt, loggerAt, hasText, differentHandlers, validHandlers (of the program).
-/
namespace Go.Proofs.Ytmadcocbncmpoaa
open Go.RowKit Nm
set_option linter.unusedSimpArgs false
set_option linter.unusedVariables false

/-- the place of a text, -1 if it is not there -/
def idxL (ns : List (List UInt8)) (x : List UInt8) : Int := if x ∈ ns then (ns.idxOf x : Int) else -1
theorem idx_hit (ns : List (List UInt8)) (x : List UInt8) (k : Nat) (h : ns[k]? = some x) (hn : x ∉ ns.take k) : idxL ns x = k := by
  obtain ⟨hk, he⟩ := List.getElem?_eq_some_iff.1 h
  unfold idxL
  rw [if_pos (List.mem_of_getElem? h)]
  have : ns.idxOf x = k := by
    conv => lhs; rw [← List.take_append_drop k ns]
    rw [List.idxOf_append, if_neg hn, List.drop_eq_getElem_cons hk, he]
    simp; omega
  rw [this]
theorem idx_miss (ns : List (List UInt8)) (x : List UInt8) (hn : x ∉ ns) : idxL ns x = -1 := by unfold idxL; rw [if_neg hn]
theorem idx_neg (ns : List (List UInt8)) (x : List UInt8) : (idxL ns x < 0) ↔ x ∉ ns := by
  unfold idxL; split <;> simp_all
theorem not_take_succ (ns : List (List UInt8)) (x y : List UInt8) (k : Nat) (h : x ∉ ns.take k) (hy : ns[k]? = some y) (hne : y ≠ x) : x ∉ ns.take (k + 1) := by
  rw [List.take_add_one, hy]
  simp only [List.mem_append, not_or]
  exact ⟨h, by simpa using fun e => hne e.symm⟩

def hnames (l : List HndV) : List (List UInt8) := l.map (·.h.nm)
def lnames (l : List LgrV) : List (List UInt8) := l.map (·.l.nm)

theorem Txts.text {w : World} {B n c : Nat} {A : Option Addr} {ws : List (List UInt8)} (h : Txts w B n (.slice A n c) ws) {k : Nat} (hk : k < n) :
    ∃ b o p, A = some ⟨b, o, none⟩ ∧ b < B ∧ ws[k]? = some p.data.toList ∧ p.size ≤ maxTxt ∧ w.cell? ⟨b, o + k, none⟩ = some (.string p) := by
  have hl := h.count
  obtain ⟨hl1, A', c', he, h2, h3, h4⟩ := h.1
  obtain ⟨rfl, rfl⟩ : A = A' ∧ c = c' := by simpa using he
  obtain ⟨b, o, e, hb, hc⟩ := h4 (by omega)
  obtain ⟨p, hp1, hp2⟩ := txt_at ws k (by omega)
  exact ⟨b, o, p, e, hb, hp1, by rw [Lib.size_eq]; exact h.2 _ (List.mem_of_getElem? hp1), hc k _ hp2⟩

end Go.Proofs.Ytmadcocbncmpoaa

/-
  WALKS: differentHandlers, validHandlers, validLoggers, ValidTree of the program.
-/
namespace Go.Proofs.Ytmadcocbncmpoaa
open Go.RowKit Nm
set_option linter.unusedSimpArgs false
set_option linter.unusedVariables false

theorem set_congr {w : World} {b n : Nat} {f g : List UInt8 → Bool} (h : SetM w b n f) (e : ∀ l, f l = g l) : SetM w b n g := by
  have : f = g := funext e
  rwa [← this]
theorem take_mem (ns : List (List UInt8)) (k : Nat) (x y : List UInt8) (h : ns[k]? = some x) : (y ∈ ns.take (k + 1)) ↔ (y = x ∨ y ∈ ns.take k) := by
  rw [List.take_add_one, h]
  simp only [List.mem_append]
  constructor
  · rintro (h | h)
    · exact .inr h
    · exact .inl (by simpa using h)
  · rintro (h | h)
    · exact .inr (by simpa using h)
    · exact .inl h
theorem nodup_step (ns : List (List UInt8)) (k : Nat) (x : List UInt8) (hx : ns[k]? = some x) (h : (ns.take k).Nodup) (hn : x ∉ ns.take k) : (ns.take (k + 1)).Nodup := by
  rw [List.take_add_one, hx]
  exact List.nodup_append.2 ⟨h, by simp, by intro a ha b hb e; simp at hb; subst hb; subst e; exact hn ha⟩
theorem drop_cons' (l : List (List UInt8)) (p : Nat) (c : List UInt8) (h : l[p]? = some c) : l.drop p = c :: l.drop (p + 1) := by
  obtain ⟨hl, rfl⟩ := List.getElem?_eq_some_iff.1 h
  exact List.drop_eq_getElem_cons hl
theorem not_nodup (ns : List (List UInt8)) (k : Nat) (x : List UInt8) (hx : ns[k]? = some x) (h : x ∈ ns.take k) : ¬ ns.Nodup := by
  intro hn
  have e : ns = ns.take k ++ ns.drop k := (List.take_append_drop k ns).symm
  rw [e, List.nodup_append] at hn
  exact hn.2.2 x h x (by rw [drop_cons' ns k x hx]; simp) rfl

end Go.Proofs.Ytmadcocbncmpoaa

/-
  WALKS: validHandlers, validLoggers, ValidTree of the program.
-/
namespace Go.Proofs.Ytmadcocbncmpoaa
open Go.RowKit Nm
set_option linter.unusedSimpArgs false
set_option linter.unusedVariables false

def hsOf (l : List HndV) : List Hnd := l.map (·.h)
theorem hnames_eq (l : List HndV) : (hsOf l).map (·.nm) = hnames l := by unfold hsOf hnames; rw [List.map_map]; rfl
theorem hnds_bad (l : List HndV) (k : Nat) (x : HndV) (hx : l[k]? = some x) (h : hndOk x.h = false) : hndsOk (hsOf l) = false := by
  cases hn : hndsOk (hsOf l) with
  | false => rfl
  | true =>
    simp only [hndsOk, Bool.and_eq_true, List.all_eq_true] at hn
    have := hn.1 x.h (List.mem_map.2 ⟨x, List.mem_of_getElem? hx, rfl⟩)
    rw [h] at this; cases this
theorem hnds_dup (l : List HndV) (k : Nat) (x : List UInt8) (hx : (hnames l)[k]? = some x) (h : x ∈ (hnames l).take k) : hndsOk (hsOf l) = false := by
  unfold hndsOk
  rw [hnames_eq, decide_eq_false (not_nodup _ k x hx h)]
  simp
theorem hnds_many (l : List HndV) (h : 6 < l.length) : hndsOk (hsOf l) = false := by
  unfold hndsOk
  rw [decide_eq_false (show ¬ (hsOf l).length ≤ 6 by unfold hsOf; simp; omega)]
  simp
theorem hnds_good (l : List HndV) (h : l.length ≤ 6) (h1 : ∀ x ∈ l, hndOk x.h = true) (h2 : (hnames l).Nodup) : hndsOk (hsOf l) = true := by
  unfold hndsOk
  rw [hnames_eq, decide_eq_true h2, decide_eq_true (show (hsOf l).length ≤ 6 by unfold hsOf; simpa using h)]
  simp only [Bool.and_true, List.all_eq_true]
  intro y hy
  obtain ⟨x, hx, rfl⟩ := List.mem_map.1 hy
  exact h1 x hx
theorem last_eq (t : ByteArray) : (t.toList == [108, 97, 115, 116]) = decide (t.data.toList = lastL) := by
  rw [ByteArray.toList_eq]
  show (t.data.toList == lastL) = _
  rw [Bool.eq_iff_iff, beq_iff_eq, decide_eq_true_eq]
theorem mem_take_succ {α : Type} (l : List α) (k : Nat) (x y : α) (h : l[k]? = some x) (hy : y ∈ l.take (k + 1)) : y = x ∨ y ∈ l.take k := by
  rw [List.take_add_one, h] at hy
  rcases List.mem_append.1 hy with hy | hy
  · exact .inr hy
  · exact .inl (by simpa using hy)

def lsOf (l : List LgrV) : List Lgr := l.map (·.l)
theorem lnames_eq (l : List LgrV) : (lsOf l).map (·.nm) = lnames l := by unfold lsOf lnames; rw [List.map_map]; rfl
theorem hasL_eq (hs : List HndV) (x : List UInt8) : hasL (hsOf hs) x = decide (x ∈ hnames hs) := by
  rw [Bool.eq_iff_iff]
  simp only [hasL, hsOf, hnames, List.any_map, List.any_eq_true, decide_eq_true_eq, Function.comp, List.mem_map]
theorem lgr_eq (hs : List HndV) (l : Lgr) : lgrOk (hsOf hs) l = (nameOk l.nm && (lvOk l.lv && (filtersOk l.fs && (l.hs.all (fun x => decide (x ∈ hnames hs)) && decide l.hs.Nodup)))) := by
  unfold lgrOk
  rw [show hasL (hsOf hs) = fun x => decide (x ∈ hnames hs) from funext (hasL_eq hs)]
theorem lgrs_bad (hs : List HndV) (l : List LgrV) (k : Nat) (x : LgrV) (hx : l[k]? = some x) (h : lgrOk (hsOf hs) x.l = false) : lgrsOk (hsOf hs) (lsOf l) = false := by
  cases hn : lgrsOk (hsOf hs) (lsOf l) with
  | false => rfl
  | true =>
    simp only [lgrsOk, Bool.and_eq_true, List.all_eq_true] at hn
    have := hn.1 x.l (List.mem_map.2 ⟨x, List.mem_of_getElem? hx, rfl⟩)
    rw [h] at this; cases this
theorem lgrs_dup (hs : List HndV) (l : List LgrV) (k : Nat) (x : List UInt8) (hx : (lnames l)[k]? = some x) (h : x ∈ (lnames l).take k) : lgrsOk (hsOf hs) (lsOf l) = false := by
  unfold lgrsOk
  rw [lnames_eq, decide_eq_false (not_nodup _ k x hx h)]
  simp
theorem lgrs_len (hs : List HndV) (l : List LgrV) (h : l.length = 0 ∨ 8 < l.length) : lgrsOk (hsOf hs) (lsOf l) = false := by
  unfold lgrsOk
  rcases h with h | h
  · rw [decide_eq_false (show ¬ 1 ≤ (lsOf l).length by unfold lsOf; rw [List.length_map]; omega)]; simp
  · rw [decide_eq_false (show ¬ (lsOf l).length ≤ 8 by unfold lsOf; rw [List.length_map]; omega)]; simp
theorem lgrs_root (hs : List HndV) (l : List LgrV) (x : List UInt8) (h : (lnames l)[0]? = some x) (hx : ¬ x = []) : lgrsOk (hsOf hs) (lsOf l) = false := by
  unfold lgrsOk
  rw [lnames_eq, h, decide_eq_false (show ¬ (some x = some []) by simpa using hx)]; simp
theorem lgrs_good (hs : List HndV) (l : List LgrV) (h0 : 1 ≤ l.length) (h8 : l.length ≤ 8) (hr : (lnames l)[0]? = some []) (h1 : ∀ x ∈ l, lgrOk (hsOf hs) x.l = true) (h2 : (lnames l).Nodup) : lgrsOk (hsOf hs) (lsOf l) = true := by
  unfold lgrsOk
  rw [lnames_eq, hr, decide_eq_true h2, decide_eq_true (show 1 ≤ (lsOf l).length by unfold lsOf; simpa using h0), decide_eq_true (show (lsOf l).length ≤ 8 by unfold lsOf; simpa using h8)]
  simp only [decide_true, Bool.and_true, List.all_eq_true]
  intro y hy
  obtain ⟨x, hx, rfl⟩ := List.mem_map.1 hy
  exact h1 x hx

end Go.Proofs.Ytmadcocbncmpoaa

/-
  WALKS: ValidTree of the program.
-/
namespace Go.Proofs.Ytmadcocbncmpoaa
open Go.RowKit Nm
set_option linter.unusedSimpArgs false
set_option linter.unusedVariables false

/-- a tree in memory -/
def TreeAt (w : World) (B : Nat) (v : Value) (ls : List LgrV) (hs : List HndV) (q : Int) : Prop :=
  ∃ A1 n1 k1 A2 n2 k2, v = .agg #[.slice A1 n1 k1, .slice A2 n2 k2, .int .i64 q] ∧ Ls w B n1 (.slice A1 n1 k1) ls ∧ Hs w B n2 (.slice A2 n2 k2) hs ∧ n1 ≤ 1048576 ∧ n2 ≤ 1048576 ∧ ∀ x ∈ ls, x.hn ≤ 1048576
theorem TreeAt.below {w w' : World} {B B' : Nat} {v : Value} {ls : List LgrV} {hs : List HndV} {q : Int} (h : TreeAt w B v ls hs q) (hb : Below B' w w') (hB : B ≤ B') : TreeAt w' B v ls hs q := by
  obtain ⟨A1, n1, k1, A2, n2, k2, e, h1, h2, r⟩ := h
  exact ⟨A1, n1, k1, A2, n2, k2, e, h1.below hb hB, h2.below hb hB, r⟩
theorem TreeAt.more {w : World} {B B' : Nat} {v : Value} {ls : List LgrV} {hs : List HndV} {q : Int} (h : TreeAt w B v ls hs q) (hB : B ≤ B') : TreeAt w B' v ls hs q := by
  obtain ⟨A1, n1, k1, A2, n2, k2, e, h1, h2, r⟩ := h
  exact ⟨A1, n1, k1, A2, n2, k2, e, h1.more hB, h2.more hB, r⟩

end Go.Proofs.Ytmadcocbncmpoaa

/-
  WALKS: validHandlers of the model.
-/
namespace Go.Proofs.Ytmadcocbncmpoaa
open Go.RowKit Nm
set_option linter.unusedSimpArgs false
set_option linter.unusedVariables false

theorem Hs.cut {w : World} {B n c : Nat} {A : Option Addr} {l : List HndV} (h : Hs w B n (.slice A n c) l) {k : Nat} (hk : k ≤ n) : Hs w B k (.slice A k c) (l.take k) := by
  have hl := h.count
  obtain ⟨⟨hl3, A', c', he, h2, h3, h4⟩, h5⟩ := h
  obtain ⟨rfl, rfl⟩ : A = A' ∧ c = c' := by simpa using he
  refine ⟨⟨by rw [flat_len _ 3 hcells_len, List.length_take]; omega, A, c, rfl, by omega, h3, fun h0 => ?_⟩, fun x hx => h5 x (List.mem_of_mem_take hx)⟩
  obtain ⟨b, o, e, hb, hc⟩ := h4 (by omega)
  refine ⟨b, o, e, hb, fun j u hu => hc j u ?_⟩
  have hj : j < k * 3 := by have := (List.getElem?_eq_some_iff.1 hu).1; rw [flat_len _ 3 hcells_len, List.length_take] at this; omega
  have hq : j / 3 < l.length := by omega
  have hx : l[j / 3]? = some (l[j / 3]'hq) := List.getElem?_eq_getElem hq
  have hxt : (l.take k)[j / 3]? = some (l[j / 3]'hq) := by rw [List.getElem?_take, if_pos (by omega)]; exact hx
  have e1 := flat_at hcells 3 hcells_len _ (j / 3) (j % 3) _ hxt (Nat.mod_lt _ (by omega))
  have e2 := flat_at hcells 3 hcells_len _ (j / 3) (j % 3) _ hx (Nat.mod_lt _ (by omega))
  rw [show j / 3 * 3 + j % 3 = j by omega] at e1 e2
  rw [e2, ← e1, hu]
theorem hnames_take (l : List HndV) (k : Nat) : hnames (l.take k) = (hnames l).take k := by unfold hnames; rw [List.map_take]
theorem lv_range (n : Int) : (decide (0 ≤ n) && decide (n ≤ 60)) = lvOk n := rfl

end Go.Proofs.Ytmadcocbncmpoaa

/-
  WALKS: validLogger of the model.
-/
namespace Go.Proofs.Ytmadcocbncmpoaa
open Go.RowKit Nm
set_option linter.unusedSimpArgs false
set_option linter.unusedVariables false

theorem Txts.cut {w : World} {B n c : Nat} {A : Option Addr} {l : List (List UInt8)} (h : Txts w B n (.slice A n c) l) {k : Nat} (hk : k ≤ n) : Txts w B k (.slice A k c) (l.take k) := by
  have hl := h.count
  obtain ⟨⟨hl3, A', c', he, h2, h3, h4⟩, h5⟩ := h
  obtain ⟨rfl, rfl⟩ : A = A' ∧ c = c' := by simpa using he
  refine ⟨⟨by rw [List.length_map, List.length_take]; omega, A, c, rfl, by omega, h3, fun h0 => ?_⟩, fun x hx => h5 x (List.mem_of_mem_take hx)⟩
  obtain ⟨b, o, e, hb, hc⟩ := h4 (by omega)
  refine ⟨b, o, e, hb, fun j u hu => hc j u ?_⟩
  rw [List.map_take, List.getElem?_take] at hu
  by_cases hj : j < k
  · rwa [if_pos hj] at hu
  · rw [if_neg hj] at hu; cases hu
theorem mem_le {w : World} {B n : Nat} {v : Value} {l : List (List UInt8)} (h : Txts w B n v l) {k : Nat} {t : ByteArray} (hx : l[k]? = some t.data.toList) : t.size ≤ maxTxt := by
  rw [Lib.size_eq]; exact h.2 _ (List.mem_of_getElem? hx)
theorem lgr_ref (hs : List HndV) (l : Lgr) (k : Nat) (x : List UInt8) (hx : l.hs[k]? = some x) (h : x ∉ hnames hs) : lgrOk (hsOf hs) l = false := by
  rw [lgr_eq]
  have : l.hs.all (fun x => decide (x ∈ hnames hs)) = false := by
    rw [Bool.eq_false_iff]; intro hn
    rw [List.all_eq_true] at hn
    exact h (by simpa using hn x (List.mem_of_getElem? hx))
  rw [this]; simp
theorem lgr_dup (hs : List HndV) (l : Lgr) (k : Nat) (x : List UInt8) (hx : l.hs[k]? = some x) (h : x ∈ l.hs.take k) : lgrOk (hsOf hs) l = false := by
  rw [lgr_eq, decide_eq_false (not_nodup _ k x hx h)]; simp
theorem lgr_rest (hs : List HndV) (l : Lgr) (h1 : ∀ x ∈ l.hs, x ∈ hnames hs) (h2 : l.hs.Nodup) : lgrOk (hsOf hs) l = (nameOk l.nm && (lvOk l.lv && filtersOk l.fs)) := by
  have : l.hs.all (fun x => decide (x ∈ hnames hs)) = true := by rw [List.all_eq_true]; intro x hx; simpa using h1 x hx
  rw [lgr_eq, this, decide_eq_true h2]; simp

end Go.Proofs.Ytmadcocbncmpoaa

/-
  WALKS: ValidTree of the model.
-/
namespace Go.Proofs.Ytmadcocbncmpoaa
open Go.RowKit Nm
set_option linter.unusedSimpArgs false
set_option linter.unusedVariables false

theorem Ls.cut {w : World} {B n c : Nat} {A : Option Addr} {l : List LgrV} (h : Ls w B n (.slice A n c) l) {k : Nat} (hk : k ≤ n) : Ls w B k (.slice A k c) (l.take k) := by
  have hl := h.count
  obtain ⟨⟨hl3, A', c', he, h2, h3, h4⟩, h5⟩ := h
  obtain ⟨rfl, rfl⟩ : A = A' ∧ c = c' := by simpa using he
  refine ⟨⟨by rw [flat_len _ 6 lcells_len, List.length_take]; omega, A, c, rfl, by omega, h3, fun h0 => ?_⟩, fun x hx => h5 x (List.mem_of_mem_take hx)⟩
  obtain ⟨b, o, e, hb, hc⟩ := h4 (by omega)
  refine ⟨b, o, e, hb, fun j u hu => hc j u ?_⟩
  have hj : j < k * 6 := by have := (List.getElem?_eq_some_iff.1 hu).1; rw [flat_len _ 6 lcells_len, List.length_take] at this; omega
  have hq : j / 6 < l.length := by omega
  have hx : l[j / 6]? = some (l[j / 6]'hq) := List.getElem?_eq_getElem hq
  have hxt : (l.take k)[j / 6]? = some (l[j / 6]'hq) := by rw [List.getElem?_take, if_pos (by omega)]; exact hx
  have e1 := flat_at lcells 6 lcells_len _ (j / 6) (j % 6) _ hxt (Nat.mod_lt _ (by omega))
  have e2 := flat_at lcells 6 lcells_len _ (j / 6) (j % 6) _ hx (Nat.mod_lt _ (by omega))
  rw [show j / 6 * 6 + j % 6 = j by omega] at e1 e2
  rw [e2, ← e1, hu]
theorem lnames_take (l : List LgrV) (k : Nat) : lnames (l.take k) = (lnames l).take k := by unfold lnames; rw [List.map_take]

end Go.Proofs.Ytmadcocbncmpoaa

/-
  PLAIN: the logger nearest to a name, the path to the root, the level that counts.
-/
namespace Go.Proofs.Ytmadcocbncmpoaa
open Nm
set_option linter.unusedSimpArgs false
set_option linter.unusedVariables false

abbrev Name := List UInt8
/-- the best of the first k names that x is below -/
def bestN (ns : List Name) (x : Name) : Nat → Nat
  | 0 => 0
  | k + 1 => if belowL x (ns.getD k []) && decide ((ns.getD (bestN ns x k) []).length < (ns.getD k []).length) then k else bestN ns x k
def nearN (ns : List Name) (x : Name) : Nat := bestN ns x ns.length
theorem belowL_root (x : Name) : belowL x [] = true := by simp [belowL]
theorem belowL_self (x : Name) : belowL x x = true := by simp [belowL]
theorem belowL_pre {x y : Name} (h : belowL x y = true) : y <+: x := by
  simp only [belowL, Bool.or_eq_true, decide_eq_true_eq] at h
  rcases h with rfl | rfl | h
  · exact List.nil_prefix
  · exact List.prefix_refl _
  · exact (List.prefix_append y [46]).trans h
theorem best_lt (ns : List Name) (x : Name) (k : Nat) : bestN ns x k < max 1 k := by
  induction k with
  | zero => simp [bestN]
  | succ k ih => simp only [bestN]; split <;> omega
theorem best_spec {ns : List Name} (h0 : ns[0]? = some []) (x : Name) (k : Nat) (hk : k ≤ ns.length) :
    belowL x (ns.getD (bestN ns x k) []) = true ∧ ∀ j, j < k → belowL x (ns.getD j []) = true → (ns.getD j []).length ≤ (ns.getD (bestN ns x k) []).length := by
  induction k with
  | zero =>
    refine ⟨?_, fun j hj => by omega⟩
    have e : ns.getD (bestN ns x 0) [] = [] := by simp [bestN, List.getD, h0]
    rw [e]; exact belowL_root x
  | succ k ih =>
    obtain ⟨i1, i2⟩ := ih (by omega)
    simp only [bestN]
    split
    · rename_i h
      simp only [Bool.and_eq_true, decide_eq_true_eq] at h
      refine ⟨h.1, fun j hj hb => ?_⟩
      by_cases e : j = k
      · rw [e]; exact Nat.le_refl _
      · have := i2 j (by omega) hb; omega
    · rename_i h
      simp only [Bool.and_eq_true, decide_eq_true_eq, not_and, Nat.not_lt] at h
      refine ⟨i1, fun j hj hb => ?_⟩
      by_cases e : j = k
      · subst e; exact h hb
      · exact i2 j (by omega) hb
theorem near_lt {ns : List Name} (h0 : ns[0]? = some []) (x : Name) : nearN ns x < ns.length := by
  have := best_lt ns x ns.length
  have h1 : 0 < ns.length := (List.getElem?_eq_some_iff.1 h0).1
  unfold nearN; omega
theorem near_unique {ns : List Name} (h0 : ns[0]? = some []) (hn : ns.Nodup) (x : Name) (i : Nat) (hi : i < ns.length) (hb : belowL x (ns.getD i []) = true)
    (hm : ∀ j, j < ns.length → belowL x (ns.getD j []) = true → (ns.getD j []).length ≤ (ns.getD i []).length) : nearN ns x = i := by
  obtain ⟨h1, h2⟩ := best_spec h0 x ns.length (Nat.le_refl _)
  have hl := near_lt h0 x
  have e1 := hm _ hl h1
  have e2 := h2 i hi hb
  have p1 := belowL_pre h1
  have p2 := belowL_pre hb
  have e3 : ns.getD (nearN ns x) [] = ns.getD i [] := by
    have := List.prefix_of_prefix_length_le p1 p2 e1
    exact this.eq_of_length (Nat.le_antisymm e1 e2)
  have g1 : ns.getD (nearN ns x) [] = ns[nearN ns x] := by simp [List.getD, hl]
  have g2 : ns.getD i [] = ns[i] := by simp [List.getD, hi]
  rw [g1, g2] at e3
  exact (List.getElem_inj hn).1 e3
theorem near_hit {ns : List Name} (h0 : ns[0]? = some []) (hn : ns.Nodup) (x : Name) (i : Nat) (h : ns[i]? = some x) : nearN ns x = i := by
  have hi := (List.getElem?_eq_some_iff.1 h).1
  have e : ns.getD i [] = x := by simp [List.getD, h]
  refine near_unique h0 hn x i hi (by rw [e]; exact belowL_self x) (fun j hj hb => ?_)
  rw [e]; exact (belowL_pre hb).length_le
theorem above_name {x : Name} (h : nameOk x = true) : nameOk (aboveL x) = true ∧ partsL (aboveL x) = (partsL x).dropLast := by
  obtain ⟨h1, h2⟩ := words_prefix h (List.dropLast_prefix (partsL x))
  exact nameOk_join _ h1 h2
theorem above_shorter {x : Name} (h : nameOk x = true) (hx : x ≠ []) : (partsL (aboveL x)).length < (partsL x).length := by
  rw [(above_name h).2, List.length_dropLast]
  have : partsL x ≠ [] := fun e => hx ((partsL_nil_iff x).1 e)
  have := List.length_pos_iff.2 this
  omega
theorem below_above {x y : Name} (h : nameOk x = true) (hne : x ≠ y) : belowL (aboveL x) y = belowL x y := by
  rw [Bool.eq_iff_iff, belowL_iff, belowL_iff, (above_name h).2]
  constructor
  · exact fun h => h.trans (List.dropLast_prefix _)
  · intro hp
    have hlt : (partsL y).length < (partsL x).length := by
      rcases Nat.lt_or_ge (partsL y).length (partsL x).length with h1 | h1
      · exact h1
      · exact absurd (partsL_inj (hp.eq_of_length_le h1)).symm hne
    refine List.prefix_of_prefix_length_le hp (List.dropLast_prefix _) ?_
    rw [List.length_dropLast]; omega
theorem best_congr {ns : List Name} {x y : Name} (h : ∀ z ∈ ns, belowL x z = belowL y z) (k : Nat) (hk : k ≤ ns.length) : bestN ns x k = bestN ns y k := by
  induction k with
  | zero => rfl
  | succ k ih =>
    have e : ns.getD k [] ∈ ns := by
      have hk' : k < ns.length := hk
      have g : ns.getD k [] = ns[k] := by simp [List.getD, hk']
      rw [g]; exact List.getElem_mem _
    simp only [bestN]
    rw [ih (by omega), h _ e]
theorem near_miss {ns : List Name} {x : Name} (h : nameOk x = true) (hx : x ∉ ns) : nearN ns (aboveL x) = nearN ns x :=
  best_congr (fun z hz => below_above h (fun e => hx (e ▸ hz))) _ (Nat.le_refl _)

/-- the logger above logger k -/
def upN (ns : List Name) (k : Nat) : Nat := nearN ns (aboveL (ns.getD k []))
def pathF (ns : List Name) : Nat → Nat → List Nat
  | 0, k => [k]
  | f + 1, k => if ns.getD k [] = [] then [k] else k :: pathF ns f (upN ns k)
def pathN (ns : List Name) (x : Name) : List Nat := pathF ns 4 (nearN ns x)
def depthN (ns : List Name) (k : Nat) : Nat := (partsL (ns.getD k [])).length
theorem pathF_root {ns : List Name} {f k : Nat} (h : ns.getD k [] = []) : pathF ns f k = [k] := by
  cases f with
  | zero => rfl
  | succ f => rw [pathF, if_pos h]
theorem pathF_up {ns : List Name} {f k : Nat} (h : ns.getD k [] ≠ []) (hf : depthN ns k ≤ f) : ∃ g, f = g + 1 ∧ pathF ns f k = k :: pathF ns g (upN ns k) := by
  have : 0 < depthN ns k := List.length_pos_iff.2 (fun e => h ((partsL_nil_iff _).1 e))
  obtain ⟨g, rfl⟩ : ∃ g, f = g + 1 := ⟨f - 1, by omega⟩
  exact ⟨g, rfl, by rw [pathF, if_neg h]⟩
theorem depth_up {ns : List Name} (h0 : ns[0]? = some []) (hok : ∀ z ∈ ns, nameOk z = true) {k : Nat} (hk : k < ns.length) (h : ns.getD k [] ≠ []) : depthN ns (upN ns k) < depthN ns k := by
  have g : ns.getD k [] = ns[k] := by simp [List.getD, hk]
  have hn : nameOk (ns.getD k []) = true := by rw [g]; exact hok _ (List.getElem_mem _)
  have h1 := above_shorter hn h
  have h2 := (best_spec h0 (aboveL (ns.getD k [])) ns.length (Nat.le_refl _)).1
  rw [belowL_iff] at h2
  exact Nat.lt_of_le_of_lt h2.length_le h1
theorem depth_le {ns : List Name} (hok : ∀ z ∈ ns, nameOk z = true) (k : Nat) : depthN ns k ≤ 4 := by
  unfold depthN
  by_cases hk : k < ns.length
  · have g : ns.getD k [] = ns[k] := by simp [List.getD, hk]
    rw [g]
    exact ((nameOk_iff _).1 (hok _ (List.getElem_mem _))).2
  · rw [show ns.getD k [] = [] by simp [List.getD, List.getElem?_eq_none (Nat.le_of_not_lt hk)]]
    simp [partsL]
theorem pathF_len (ns : List Name) (f k : Nat) : (pathF ns f k).length ≤ f + 1 := by
  induction f generalizing k with
  | zero => simp [pathF]
  | succ f ih => simp only [pathF]; split
                 · simp
                 · simp; exact ih _
theorem pathF_lt {ns : List Name} (h0 : ns[0]? = some []) (f k : Nat) (hk : k < ns.length) : ∀ i ∈ pathF ns f k, i < ns.length := by
  induction f generalizing k with
  | zero => intro i hi; simp [pathF] at hi; omega
  | succ f ih =>
    intro i hi
    simp only [pathF] at hi
    split at hi
    · simp at hi; omega
    · rcases List.mem_cons.1 hi with rfl | hi
      · exact hk
      · exact ih _ (near_lt h0 _) i hi
/-- the level that counts, along a path -/
def levelF (ns : List Name) (lv : Nat → Int) : Nat → Nat → Int
  | 0, k => lv k
  | f + 1, k => if lv k ≠ 0 ∨ ns.getD k [] = [] then lv k else levelF ns lv f (upN ns k)
def levelN (ns : List Name) (lv : Nat → Int) (x : Name) : Int := levelF ns lv 4 (nearN ns x)
def firstLv : List Int → Int
  | [] => 0
  | a :: l => if 0 < a then a else firstLv l
theorem level_first {ns : List Name} (lv : Nat → Int) (h0 : ∀ k, 0 ≤ lv k) (f k : Nat) : firstLv ((pathF ns f k).map lv) = levelF ns lv f k := by
  have := h0 k
  induction f generalizing k with
  | zero => simp [pathF, levelF, firstLv]; omega
  | succ f ih =>
    rw [pathF, levelF]
    by_cases hr : ns.getD k [] = []
    · rw [if_pos hr, if_pos (Or.inr hr)]; simp [firstLv]; omega
    · rw [if_neg hr, List.map_cons, firstLv, ih _ (h0 _)]
      by_cases e : lv k = 0
      · rw [if_neg (by omega), if_neg (fun h => h.elim (fun h => h e) hr)]
      · rw [if_pos (by omega), if_pos (Or.inl e)]
theorem firstLv_skip {l : List Int} {k : Nat} (h : ∀ x ∈ l.take k, ¬ 0 < x) : firstLv l = firstLv (l.drop k) := by
  induction l generalizing k with
  | nil => simp
  | cons a l ih =>
    cases k with
    | zero => rfl
    | succ k =>
      have h1 : ¬ 0 < a := h a (by simp)
      simp only [firstLv, if_neg h1, List.drop_succ_cons]
      exact ih (fun x hx => h x (by simp [hx]))
/-- what a valid tree says of its loggers -/
theorem tree_names {L : List Lgr} {H : List Hnd} {q : Int} (h : treeOk L H q = true) :
    (L.map (·.nm))[0]? = some [] ∧ (L.map (·.nm)).Nodup ∧ (∀ z ∈ L.map (·.nm), nameOk z = true) ∧ L.length ≤ 8 ∧ 1 ≤ L.length ∧ (∀ l ∈ L, 0 ≤ l.lv ∧ l.lv ≤ 60) := by
  unfold treeOk lgrsOk at h
  simp only [Bool.and_eq_true, decide_eq_true_eq, List.all_eq_true] at h
  obtain ⟨_, _, h1, h2, h3, h4, h5⟩ := h
  refine ⟨h5, h2, fun z hz => ?_, h4, h3, fun l hl => ?_⟩
  · obtain ⟨l, hl, rfl⟩ := List.mem_map.1 hz
    have := h1 l hl
    unfold lgrOk at this
    simp only [Bool.and_eq_true] at this
    exact this.1
  · have := h1 l hl
    unfold lgrOk lvOk at this
    simp only [Bool.and_eq_true, decide_eq_true_eq] at this
    exact this.2.1
end Go.Proofs.Ytmadcocbncmpoaa

/-
  PLAIN: what the looks at a tree answer.
-/
namespace Go.Proofs.Ytmadcocbncmpoaa
open Nm
set_option linter.unusedSimpArgs false
set_option linter.unusedVariables false

def nsOf (L : List Lgr) : List Name := L.map (·.nm)
def nearestT (L : List Lgr) (H : List Hnd) (q : Int) (x : Name) : Name := if treeOk L H q && nameOk x then (nsOf L).getD (nearN (nsOf L) x) [] else []
def pathT (L : List Lgr) (H : List Hnd) (q : Int) (x : Name) : List Name := if treeOk L H q && nameOk x then (pathN (nsOf L) x).map (fun i => (nsOf L).getD i []) else []
def parentB (L : List Lgr) (H : List Hnd) (q : Int) (x : Name) : Bool := treeOk L H q && (!decide (x = []) && decide (x ∈ nsOf L))
def parentT (L : List Lgr) (H : List Hnd) (q : Int) (x : Name) : Name := if parentB L H q x then (nsOf L).getD (upN (nsOf L) (nearN (nsOf L) x)) [] else []
def childOk (ns : List Name) (x y : Name) : Bool := !decide (y = []) && decide (ns.getD (nearN ns (aboveL y)) [] = x)
def childrenT (L : List Lgr) (H : List Hnd) (q : Int) (x : Name) : List Name := if treeOk L H q then (nsOf L).filter (childOk (nsOf L) x) else []
def branchT (L : List Lgr) (H : List Hnd) (q : Int) (x : Name) : List Name := if treeOk L H q && nameOk x then (nsOf L).filter (fun y => belowL y x) else []
def lvAt (L : List Lgr) (k : Nat) : Int := (L.map (·.lv)).getD k 0
def offAt (L : List Lgr) (k : Nat) : Bool := (L.map (·.off)).getD k false
def levelT (L : List Lgr) (H : List Hnd) (q : Int) (x : Name) : Int := if treeOk L H q && nameOk x then levelN (nsOf L) (lvAt L) x else -1
def offT (L : List Lgr) (x : Name) : Bool := decide (x ∈ nsOf L) && offAt L (nearN (nsOf L) x)
def enabledT (L : List Lgr) (q : Int) (x : Name) (lv : Int) : Bool := !offT L x && (decide (q < lv) && decide (levelN (nsOf L) (lvAt L) x ≤ lv))
def isEnabledT (L : List Lgr) (H : List Hnd) (q : Int) (x : Name) (lv : Int) : Bool := (treeOk L H q && nameOk x) && ((decide (1 ≤ lv) && decide (lv ≤ 60)) && enabledT L q x lv)

theorem tree_ns {L : List Lgr} {H : List Hnd} {q : Int} (h : treeOk L H q = true) : (nsOf L)[0]? = some [] ∧ (nsOf L).Nodup ∧ (∀ z ∈ nsOf L, nameOk z = true) ∧ (nsOf L).length = L.length ∧ L.length ≤ 8 ∧ 1 ≤ L.length := by
  obtain ⟨a, b, c, d, e, _⟩ := tree_names h
  exact ⟨a, b, c, by simp [nsOf], d, e⟩
/-- those of the first k names that p takes -/
def takeF (p : Name → Bool) (ns : List Name) (k : Nat) : List Name := (ns.take k).filter p
theorem takeF_len (p : Name → Bool) (ns : List Name) (k : Nat) : (takeF p ns k).length ≤ k := by
  unfold takeF
  have h1 := List.length_filter_le p (ns.take k)
  have h2 := List.length_take_le k ns
  exact Nat.le_trans h1 h2
theorem takeF_hit {p : Name → Bool} {ns : List Name} {k : Nat} {y : Name} (h : ns[k]? = some y) (hp : p y = true) : takeF p ns (k + 1) = takeF p ns k ++ [y] := by
  unfold takeF
  rw [List.take_add_one, h, List.filter_append]
  simp [hp]
theorem takeF_miss {p : Name → Bool} {ns : List Name} {k : Nat} {y : Name} (h : ns[k]? = some y) (hp : p y = false) : takeF p ns (k + 1) = takeF p ns k := by
  unfold takeF
  rw [List.take_add_one, h, List.filter_append]
  simp [hp]
theorem takeF_all {p : Name → Bool} {ns : List Name} {k : Nat} (h : ns.length ≤ k) : takeF p ns k = ns.filter p := by
  unfold takeF; rw [List.take_of_length_le h]
theorem takeF_zero (p : Name → Bool) (ns : List Name) : takeF p ns 0 = [] := rfl
theorem pathT_len (L : List Lgr) (H : List Hnd) (q : Int) (x : Name) : (pathT L H q x).length ≤ 5 := by
  unfold pathT
  split
  · rw [List.length_map]; exact pathF_len _ _ _
  · simp
theorem childrenT_len (L : List Lgr) (H : List Hnd) (q : Int) (x : Name) : (childrenT L H q x).length ≤ 8 := by
  unfold childrenT
  split
  · rename_i h
    have h1 := List.length_filter_le (childOk (nsOf L) x) (nsOf L)
    have h2 := (tree_names h).2.2.2.1
    have h3 : (nsOf L).length = L.length := by simp [nsOf]
    rw [h3] at h1
    exact Nat.le_trans h1 h2
  · simp
theorem branchT_len (L : List Lgr) (H : List Hnd) (q : Int) (x : Name) : (branchT L H q x).length ≤ 8 := by
  unfold branchT
  split
  · rename_i h
    simp only [Bool.and_eq_true] at h
    have h1 := List.length_filter_le (fun y => belowL y x) (nsOf L)
    have h2 := (tree_names h.1).2.2.2.1
    have h3 : (nsOf L).length = L.length := by simp [nsOf]
    rw [h3] at h1
    exact Nat.le_trans h1 h2
  · simp
end Go.Proofs.Ytmadcocbncmpoaa
