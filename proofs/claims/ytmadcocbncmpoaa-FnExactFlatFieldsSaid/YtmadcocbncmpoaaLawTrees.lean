/-
  N1, N2, N3, OTree, N4, N5 laid together.
-/
import Derived.Test.YtmadcocbncmpoaaHelps
import Derived.Test.YtmadcocbncmpoaaTrees
/-
  TREES as the laws take them: their sizes.
-/
namespace Go.Proofs.Ytmadcocbncmpoaa
open Go.RowKit Nm
set_option linter.unusedSimpArgs false
set_option linter.unusedVariables false

/-- a logger, a handler of an argument, ahead of any look at sizes -/
def lraw (w : World) (B : Nat) (x : LgrV) : Prop := x.l.nm.length ≤ maxLen ∧ (Sl w B 1 x.hn x.hv (x.l.hs.map txt) ∧ ∀ t ∈ x.l.hs, t.length ≤ maxLen) ∧ (Sl w B 3 x.fn x.fv (fsCells x.l.fs) ∧ ∀ f ∈ x.l.fs, f.nm.length ≤ maxLen)
def hraw (w : World) (B : Nat) (x : HndV) : Prop := x.h.nm.length ≤ maxLen ∧ (Sl w B 3 x.fn x.fv (fsCells x.h.fs) ∧ ∀ f ∈ x.h.fs, f.nm.length ≤ maxLen)
/-- .. that fit -/
def lfit (x : LgrV) : Prop := x.l.nm.length ≤ maxTxt ∧ (x.hn ≤ maxTxt ∧ ∀ t ∈ x.l.hs, t.length ≤ maxTxt) ∧ (x.fn ≤ maxTxt ∧ ∀ f ∈ x.l.fs, f.nm.length ≤ maxTxt)
def hfit (x : HndV) : Prop := x.h.nm.length ≤ maxTxt ∧ (x.fn ≤ maxTxt ∧ ∀ f ∈ x.h.fs, f.nm.length ≤ maxTxt)
theorem lraw.below {w w' : World} {B B' : Nat} {x : LgrV} (h : lraw w B x) (hb : Below B' w w') (hB : B ≤ B') : lraw w' B x := ⟨h.1, ⟨h.2.1.1.below hb hB, h.2.1.2⟩, ⟨h.2.2.1.below hb hB, h.2.2.2⟩⟩
theorem hraw.below {w w' : World} {B B' : Nat} {x : HndV} (h : hraw w B x) (hb : Below B' w w') (hB : B ≤ B') : hraw w' B x := ⟨h.1, ⟨h.2.1.below hb hB, h.2.2⟩⟩
theorem lcells_at {w : World} {B n c : Nat} {A : Option Addr} {l : List LgrV} (h : Sl w B 6 n (.slice A n c) (l.flatMap lcells)) {k : Nat} (hk : k < n) :
    ∃ (b o : Nat) (x : LgrV) (s : ByteArray), A = some ⟨b, o, none⟩ ∧ b < B ∧ l[k]? = some x ∧ s.data.toList = x.l.nm ∧
      w.cell? ⟨b, o + k * 6, none⟩ = some (.string s) ∧ w.cell? ⟨b, o + k * 6 + 1, none⟩ = some (.int .i64 x.l.lv) ∧ w.cell? ⟨b, o + k * 6 + 2, none⟩ = some x.hv ∧ w.cell? ⟨b, o + k * 6 + 3, none⟩ = some x.fv ∧
      w.cell? ⟨b, o + k * 6 + 4, none⟩ = some (.bool x.l.stop) ∧ w.cell? ⟨b, o + k * 6 + 5, none⟩ = some (.bool x.l.off) := by
  obtain ⟨b, o, x, e, hb, hx, hc⟩ := Sl.elem lcells_len h (by omega) hk
  exact ⟨b, o, x, ⟨x.l.nm.toArray⟩, e, hb, hx, by simp, hc 0 _ rfl, hc 1 _ rfl, hc 2 _ rfl, hc 3 _ rfl, hc 4 _ rfl, hc 5 _ rfl⟩
theorem hcells_at {w : World} {B n c : Nat} {A : Option Addr} {l : List HndV} (h : Sl w B 3 n (.slice A n c) (l.flatMap hcells)) {k : Nat} (hk : k < n) :
    ∃ (b o : Nat) (x : HndV) (s : ByteArray), A = some ⟨b, o, none⟩ ∧ b < B ∧ l[k]? = some x ∧ s.data.toList = x.h.nm ∧
      w.cell? ⟨b, o + k * 3, none⟩ = some (.string s) ∧ w.cell? ⟨b, o + k * 3 + 1, none⟩ = some (.int .i64 x.h.lv) ∧ w.cell? ⟨b, o + k * 3 + 2, none⟩ = some x.fv := by
  obtain ⟨b, o, x, e, hb, hx, hc⟩ := Sl.elem hcells_len h (by omega) hk
  exact ⟨b, o, x, ⟨x.h.nm.toArray⟩, e, hb, hx, by simp, hc 0 _ rfl, hc 1 _ rfl, hc 2 _ rfl⟩

/-- the two slices of a tree that comes in -/
def treeRaw (w : World) (B : Nat) (Aa : Option Addr) (na ca : Nat) (Ab : Option Addr) (nb cb : Nat) (la : List LgrV) (lb : List HndV) : Prop :=
  (Sl w B 6 na (.slice Aa na ca) (la.flatMap lcells) ∧ ∀ x ∈ la, lraw w B x) ∧ (Sl w B 3 nb (.slice Ab nb cb) (lb.flatMap hcells) ∧ ∀ x ∈ lb, hraw w B x)
def treeFit (na nb : Nat) (la : List LgrV) (lb : List HndV) : Prop := (na ≤ maxTxt ∧ ∀ x ∈ la, lfit x) ∧ (nb ≤ maxTxt ∧ ∀ x ∈ lb, hfit x)
theorem treeRaw.below {w w' : World} {B B' : Nat} {Aa : Option Addr} {na ca : Nat} {Ab : Option Addr} {nb cb : Nat} {la : List LgrV} {lb : List HndV} (h : treeRaw w B Aa na ca Ab nb cb la lb) (hb : Below B' w w') (hB : B ≤ B') : treeRaw w' B Aa na ca Ab nb cb la lb :=
  ⟨⟨h.1.1.below hb hB, fun x hx => (h.1.2 x hx).below hb hB⟩, ⟨h.2.1.below hb hB, fun x hx => (h.2.2 x hx).below hb hB⟩⟩

end Go.Proofs.Ytmadcocbncmpoaa

/-
  TREES: what owns its memory (rows that lie apart), and the laws' copies of trees.
-/
namespace Go.Proofs.Ytmadcocbncmpoaa
open Go.RowKit Nm
set_option linter.unusedSimpArgs false
set_option linter.unusedVariables false

/-- a row of cells that a slice owns -/
structure Row where
  T : TypeId
  d : Nat
  n : Nat
  v : Value
  xs : List Value
def Row.own (w : World) (lo : Nat) (r : Row) : Prop := w.ownsRow lo r.T r.d r.v r.n r.xs
/-- they lie apart -/
def Row.apart (a b : Row) : Prop := (a.v.ownBlock = none ∨ a.v.ownBlock ≠ b.v.ownBlock) ∧ (b.v.ownBlock = none ∨ b.v.ownBlock ≠ a.v.ownBlock)
theorem Row.apart.symm {a b : Row} (h : a.apart b) : b.apart a := And.intro h.2 h.1
def Rows (w : World) (lo : Nat) (rs : List Row) : Prop := (∀ r ∈ rs, r.own w lo) ∧ rs.Pairwise Row.apart
section
variable {w w' : World} {lo lo' : Nat} {rs rs' : List Row} {r : Row}
theorem Rows.nil (w : World) (lo : Nat) : Rows w lo [] := ⟨fun _ h => (by cases h), List.Pairwise.nil⟩
theorem Rows.below (h : Rows w lo rs) (hb : Below w.heap.size w w') : Rows w' lo rs := ⟨fun r hr => own_below (h.1 r hr) hb, h.2⟩
theorem Rows.base (h : Rows w lo rs) (hl : lo' ≤ lo) : Rows w lo' rs := ⟨fun r hr => own_base (h.1 r hr) hl, h.2⟩
theorem Rows.mem (h : Rows w lo rs) (hr : r ∈ rs) : r.own w lo := h.1 r hr
theorem Rows.sub (h : Rows w lo rs) (hs : rs'.Sublist rs) : Rows w lo rs' := ⟨fun r hr => h.1 r (hs.subset hr), h.2.sublist hs⟩
theorem Rows.perm (h : Rows w lo rs) (hp : rs.Perm rs') : Rows w lo rs' := ⟨fun r hr => h.1 r (hp.mem_iff.2 hr), (hp.pairwise_iff (fun h => Row.apart.symm h)).1 h.2⟩
theorem row_apart {w w' : World} {lo : Nat} {a b : Row} (h1 : a.own w lo) (h2 : b.own w' w.heap.size) : a.apart b := by
  constructor
  · cases hq : a.v.ownBlock with
    | none => exact .inl rfl
    | some g => right; intro e; have := (h1.lt g hq).2; have := own_lt h2 g e.symm; omega
  · cases hq : b.v.ownBlock with
    | none => exact .inl rfl
    | some g => right; intro e; have := (h1.lt g e.symm).2; have := own_lt h2 g hq; omega
/-- later rows behind the elder ones -/
theorem Rows.more (h : Rows w lo rs) (hb : Below w.heap.size w w') (h2 : Rows w' w.heap.size rs') (hl : lo ≤ w.heap.size) : Rows w' lo (rs ++ rs') := by
  refine ⟨fun r hr => ?_, List.pairwise_append.2 ⟨h.2, h2.2, fun a ha b hb => row_apart (h.1 a ha) (h2.1 b hb)⟩⟩
  rcases List.mem_append.1 hr with hr | hr
  · exact own_below (h.1 r hr) hb
  · exact own_base (h2.1 r hr) hl
theorem Rows.one (h : r.own w lo) : Rows w lo [r] := ⟨fun x hx => by rw [List.mem_singleton] at hx; rw [hx]; exact h, List.pairwise_singleton _ _⟩
/-- one row is written, the others stand -/
theorem Rows.write {pre post : List Row} {ys : List Value} (h : Rows w lo (pre ++ r :: post)) (hg : w.grownBy w' r.v.ownBlock) (ho : w'.ownsRow lo r.T r.d r.v r.n ys) :
    Rows w' lo (pre ++ { r with xs := ys } :: post) := by
  have hp := List.pairwise_append.1 h.2
  have hp2 := List.pairwise_cons.1 hp.2.1
  refine ⟨fun x hx => ?_, ?_⟩
  · rcases List.mem_append.1 hx with hx | hx
    · exact (h.1 x (List.mem_append.2 (.inl hx))).kept hg (hp.2.2 x hx r (by simp)).1
    · rcases List.mem_cons.1 hx with rfl | hx
      · exact ho
      · exact (h.1 x (List.mem_append.2 (.inr (by simp [hx])))).kept hg (hp2.1 x hx).2
  · refine List.pairwise_append.2 ⟨hp.1, List.pairwise_cons.2 ⟨fun b hb => hp2.1 b hb, hp2.2⟩, fun a ha b hb => ?_⟩
    rcases List.mem_cons.1 hb with rfl | hb
    · exact hp.2.2 a ha r (by simp)
    · exact hp.2.2 a ha b (by simp [hb])
theorem Rows.low {b j : Nat} {u : Value} (h : Rows w lo rs) (hb : b < lo) : Rows (w.setCell ⟨b, j, none⟩ u) lo rs := ⟨fun r hr => own_set_low (h.1 r hr) hb, h.2⟩
theorem Rows.head (h : Rows w lo (r :: rs)) : r.own w lo := h.1 r (by simp)
theorem Rows.tail (h : Rows w lo (r :: rs)) : Rows w lo rs := ⟨fun x hx => h.1 x (by simp [hx]), (List.pairwise_cons.1 h.2).2⟩
end

end Go.Proofs.Ytmadcocbncmpoaa

/-
  TREES compared by the laws, and what an owned tree is to the functions.
-/
namespace Go.Proofs.Ytmadcocbncmpoaa
open Go.RowKit Nm
set_option linter.unusedSimpArgs false
set_option linter.unusedVariables false

end Go.Proofs.Ytmadcocbncmpoaa

/-
  An argument that is a tree: what it reads as.
-/
namespace Go.Proofs.Ytmadcocbncmpoaa
open Go.RowKit Nm Go.ChangeShapes Go.WideShapes Go.Deep
set_option linter.unusedSimpArgs false
set_option linter.unusedVariables false

instance : Inhabited Lgr := ⟨⟨[], 0, [], [], false, false⟩⟩
instance : Inhabited LgrV := ⟨⟨default, default, 0, default, 0⟩⟩
instance : Inhabited Hnd := ⟨⟨[], 0, []⟩⟩
instance : Inhabited HndV := ⟨⟨default, default, 0⟩⟩
theorem open_text {H : Type} {enc : TypeId × Value → H} {W : World} {base n : Nat} {sp : Nat → Bool} {hd : Bool} {cs : List Value} {x : DataW H × List MemPlace}
    (h : DataW.trod enc Try.prog W base sp hd n 9 cs = some x) : ∃ y : List UInt8, cs = [txt y] ∧ y.length ≤ maxLen := by
  obtain ⟨s, e, _, hs⟩ := DataW.trod_string Try.underlying9 h
  exact ⟨s.data.toList, by rw [e, txt_data], by rw [← Lib.size_eq]; exact hs⟩
theorem flatMap_txt (l : List (List UInt8)) : l.flatMap (fun t => [txt t]) = l.map txt := by
  induction l with
  | nil => rfl
  | cons a l ih => simp [ih]
end Go.Proofs.Ytmadcocbncmpoaa

/-
  TREES: data that fit; a tree of the call's own as the functions take it; ValidTree, LoggerAt of both programs.
-/
namespace Go.Proofs.Ytmadcocbncmpoaa
open Go.RowKit Nm
set_option linter.unusedSimpArgs false
set_option linter.unusedVariables false

def lgrFit (l : Lgr) : Prop := l.nm.length ≤ maxTxt ∧ (l.hs.length ≤ maxTxt ∧ ∀ t ∈ l.hs, t.length ≤ maxTxt) ∧ (l.fs.length ≤ maxTxt ∧ ∀ f ∈ l.fs, f.nm.length ≤ maxTxt)
def hndFit (h : Hnd) : Prop := h.nm.length ≤ maxTxt ∧ (h.fs.length ≤ maxTxt ∧ ∀ f ∈ h.fs, f.nm.length ≤ maxTxt)
def dataFit (L : List Lgr) (H : List Hnd) : Prop := (L.length ≤ maxTxt ∧ ∀ l ∈ L, lgrFit l) ∧ (H.length ≤ maxTxt ∧ ∀ h ∈ H, hndFit h)
theorem fit_data {w : World} {B : Nat} {Aa : Option Addr} {na ca : Nat} {Ab : Option Addr} {nb cb : Nat} {la : List LgrV} {lb : List HndV} (h : treeRaw w B Aa na ca Ab nb cb la lb) (hf : treeFit na nb la lb) : dataFit (lsOf la) (hsOf lb) := by
  have h1 := Sl.count lcells_len h.1.1 (by omega)
  have h2 := Sl.count hcells_len h.2.1 (by omega)
  refine ⟨⟨by simp [lsOf]; have := hf.1.1; omega, fun l hl => ?_⟩, ⟨by simp [hsOf]; have := hf.2.1; omega, fun l hl => ?_⟩⟩
  · obtain ⟨x, hx, rfl⟩ := List.mem_map.1 hl
    obtain ⟨a, b, c⟩ := hf.1.2 x hx
    obtain ⟨a', b', c'⟩ := h.1.2 x hx
    have e1 : x.l.hs.length = x.hn := by have := b'.1.1; simpa using this
    have e2 : x.l.fs.length = x.fn := by have := c'.1.flen; exact this
    exact ⟨a, ⟨by omega, b.2⟩, ⟨by omega, c.2⟩⟩
  · obtain ⟨x, hx, rfl⟩ := List.mem_map.1 hl
    obtain ⟨a, c⟩ := hf.2.2 x hx
    obtain ⟨a', c'⟩ := h.2.2 x hx
    have e2 : x.h.fs.length = x.fn := by have := c'.1.flen; exact this
    exact ⟨a, ⟨by omega, c.2⟩⟩
/-- a tree as the functions take it -/
def TreeIn (w : World) (B : Nat) (v : Value) (L : List Lgr) (H : List Hnd) (q : Int) : Prop := ∃ ls hs, TreeAt w B v ls hs q ∧ lsOf ls = L ∧ hsOf hs = H
theorem TreeIn.below {w w' : World} {B B' : Nat} {v : Value} {L : List Lgr} {H : List Hnd} {q : Int} (h : TreeIn w B v L H q) (hb : Below B' w w') (hB : B ≤ B') : TreeIn w' B v L H q := by
  obtain ⟨ls, hs, h1, h2, h3⟩ := h
  exact ⟨ls, hs, h1.below hb hB, h2, h3⟩
theorem Rows.left {w : World} {lo : Nat} {a b : List Row} (h : Rows w lo (a ++ b)) : Rows w lo a := h.sub (List.sublist_append_left _ _)
theorem Rows.right {w : World} {lo : Nat} {a b : List Row} (h : Rows w lo (a ++ b)) : Rows w lo b := h.sub (List.sublist_append_right _ _)
theorem fs_le (x : List UInt8) (h : x.length ≤ maxTxt) : x.length ≤ maxLen := by unfold maxTxt at h; unfold maxLen; omega
theorem TreeIn.form {w : World} {B : Nat} {v : Value} {L : List Lgr} {H : List Hnd} {q : Int} (h : TreeIn w B v L H q) :
    ∃ A1 n1 k1 A2 n2 k2, v = .agg #[.slice A1 n1 k1, .slice A2 n2 k2, .int .i64 q] := by
  obtain ⟨ls, hs, ⟨A1, n1, k1, A2, n2, k2, e, _⟩, _⟩ := h
  exact ⟨A1, n1, k1, A2, n2, k2, e⟩

theorem TreeIn.loggers {w : World} {B n1 k1 n2 k2 : Nat} {A1 A2 : Option Addr} {L : List Lgr} {H : List Hnd} {q : Int} (h : TreeIn w B (.agg #[.slice A1 n1 k1, .slice A2 n2 k2, .int .i64 q]) L H q) :
    ∃ ls, Ls w B n1 (.slice A1 n1 k1) ls ∧ lsOf ls = L := by
  obtain ⟨ls, hs, ⟨A1', n1', k1', A2', n2', k2', e, h1, _⟩, h2, h3⟩ := h
  simp at e
  obtain ⟨⟨rfl, rfl, rfl⟩, ⟨rfl, rfl, rfl⟩⟩ := e
  exact ⟨ls, h1, h2⟩
def namesOf (L : List Lgr) : List (List UInt8) := L.map (·.nm)
theorem namesOf_ls (l : List LgrV) : namesOf (lsOf l) = lnames l := lnames_eq l

end Go.Proofs.Ytmadcocbncmpoaa

/-
  WALKS: LoggerAt of the program: the library's IndexFunc with a closure.
-/
namespace Go.Proofs.Ytmadcocbncmpoaa
open Go.RowKit Nm
set_option linter.unusedSimpArgs false
set_option linter.unusedVariables false

theorem mem_of_at {l : List LgrV} {k : Nat} {x : LgrV} (hx : l[k]? = some x) : (lnames l)[k]? = some x.l.nm := by simp [lnames, hx]

end Go.Proofs.Ytmadcocbncmpoaa
