/-
  N1, N2, N3, OTree, N4, N5 laid together.
-/
import Derived.Test.YtioegkcekbkblaaGreatZyHelps
import Derived.Test.YtioegkcekbkblaaGreatZyTrees
/-
  TREES as the laws take them: their sizes.
-/
namespace Go.Proofs.YtioegkcekbkblaaGreat
open Go.RowKit Nm
set_option linter.unusedSimpArgs false
set_option linter.unusedVariables false

/-- a logger, a handler of an argument, ahead of any look at sizes -/
def lraw (w : World) (B : Nat) (x : LgrV) : Prop := x.l.nm.length ≤ maxLen ∧ (Sl w B 1 x.hn x.hv (x.l.hs.map txt) ∧ ∀ t ∈ x.l.hs, t.length ≤ maxLen) ∧ (Sl w B 3 x.fn x.fv (fsCells x.l.fs) ∧ ∀ f ∈ x.l.fs, f.nm.length ≤ maxLen)
def hraw (w : World) (B : Nat) (x : HndV) : Prop := x.h.nm.length ≤ maxLen ∧ (Sl w B 3 x.fn x.fv (fsCells x.h.fs) ∧ ∀ f ∈ x.h.fs, f.nm.length ≤ maxLen)
def hfit (x : HndV) : Prop := x.h.nm.length ≤ maxTxt ∧ (x.fn ≤ maxTxt ∧ ∀ f ∈ x.h.fs, f.nm.length ≤ maxTxt)
theorem lraw.below {w w' : World} {B B' : Nat} {x : LgrV} (h : lraw w B x) (hb : Below B' w w') (hB : B ≤ B') : lraw w' B x := ⟨h.1, ⟨h.2.1.1.below hb hB, h.2.1.2⟩, ⟨h.2.2.1.below hb hB, h.2.2.2⟩⟩
theorem hraw.below {w w' : World} {B B' : Nat} {x : HndV} (h : hraw w B x) (hb : Below B' w w') (hB : B ≤ B') : hraw w' B x := ⟨h.1, ⟨h.2.1.below hb hB, h.2.2⟩⟩
/-- the two slices of a tree that comes in -/
def treeRaw (w : World) (B : Nat) (Aa : Option Addr) (na ca : Nat) (Ab : Option Addr) (nb cb : Nat) (la : List LgrV) (lb : List HndV) : Prop :=
  (Sl w B 6 na (.slice Aa na ca) (la.flatMap lcells) ∧ ∀ x ∈ la, lraw w B x) ∧ (Sl w B 3 nb (.slice Ab nb cb) (lb.flatMap hcells) ∧ ∀ x ∈ lb, hraw w B x)
theorem treeRaw.below {w w' : World} {B B' : Nat} {Aa : Option Addr} {na ca : Nat} {Ab : Option Addr} {nb cb : Nat} {la : List LgrV} {lb : List HndV} (h : treeRaw w B Aa na ca Ab nb cb la lb) (hb : Below B' w w') (hB : B ≤ B') : treeRaw w' B Aa na ca Ab nb cb la lb :=
  ⟨⟨h.1.1.below hb hB, fun x hx => (h.1.2 x hx).below hb hB⟩, ⟨h.2.1.below hb hB, fun x hx => (h.2.2 x hx).below hb hB⟩⟩

end Go.Proofs.YtioegkcekbkblaaGreat

/-
  TREES: what owns its memory (rows that lie apart), and the laws' copies of trees.
-/
namespace Go.Proofs.YtioegkcekbkblaaGreat
open Go.RowKit Nm
set_option linter.unusedSimpArgs false
set_option linter.unusedVariables false

/-- a row of cells that a slice owns -/
structure Row where
  T : TypeId
  d : Nat
  n : Nat
  v : Value
  xs : List Value
def Row.own (w : World) (lo : Nat) (r : Row) : Prop := w.ownsRow lo r.T r.d r.v r.n r.xs
/-- they lie apart -/
def Row.apart (a b : Row) : Prop := (a.v.ownBlock = none ∨ a.v.ownBlock ≠ b.v.ownBlock) ∧ (b.v.ownBlock = none ∨ b.v.ownBlock ≠ a.v.ownBlock)
theorem Row.apart.symm {a b : Row} (h : a.apart b) : b.apart a := And.intro h.2 h.1
def Rows (w : World) (lo : Nat) (rs : List Row) : Prop := (∀ r ∈ rs, r.own w lo) ∧ rs.Pairwise Row.apart
section
variable {w w' : World} {lo lo' : Nat} {rs rs' : List Row} {r : Row}
theorem Rows.nil (w : World) (lo : Nat) : Rows w lo [] := ⟨fun _ h => (by cases h), List.Pairwise.nil⟩
theorem Rows.below (h : Rows w lo rs) (hb : Below w.heap.size w w') : Rows w' lo rs := ⟨fun r hr => own_below (h.1 r hr) hb, h.2⟩
theorem Rows.base (h : Rows w lo rs) (hl : lo' ≤ lo) : Rows w lo' rs := ⟨fun r hr => own_base (h.1 r hr) hl, h.2⟩
theorem Rows.mem (h : Rows w lo rs) (hr : r ∈ rs) : r.own w lo := h.1 r hr
theorem Rows.sub (h : Rows w lo rs) (hs : rs'.Sublist rs) : Rows w lo rs' := ⟨fun r hr => h.1 r (hs.subset hr), h.2.sublist hs⟩
theorem Rows.perm (h : Rows w lo rs) (hp : rs.Perm rs') : Rows w lo rs' := ⟨fun r hr => h.1 r (hp.mem_iff.2 hr), (hp.pairwise_iff (fun h => Row.apart.symm h)).1 h.2⟩
theorem row_apart {w w' : World} {lo : Nat} {a b : Row} (h1 : a.own w lo) (h2 : b.own w' w.heap.size) : a.apart b := by
  constructor
  · cases hq : a.v.ownBlock with
    | none => exact .inl rfl
    | some g => right; intro e; have := (h1.lt g hq).2; have := own_lt h2 g e.symm; omega
  · cases hq : b.v.ownBlock with
    | none => exact .inl rfl
    | some g => right; intro e; have := (h1.lt g e.symm).2; have := own_lt h2 g hq; omega
/-- later rows behind the elder ones -/
theorem Rows.more (h : Rows w lo rs) (hb : Below w.heap.size w w') (h2 : Rows w' w.heap.size rs') (hl : lo ≤ w.heap.size) : Rows w' lo (rs ++ rs') := by
  refine ⟨fun r hr => ?_, List.pairwise_append.2 ⟨h.2, h2.2, fun a ha b hb => row_apart (h.1 a ha) (h2.1 b hb)⟩⟩
  rcases List.mem_append.1 hr with hr | hr
  · exact own_below (h.1 r hr) hb
  · exact own_base (h2.1 r hr) hl
theorem Rows.one (h : r.own w lo) : Rows w lo [r] := ⟨fun x hx => by rw [List.mem_singleton] at hx; rw [hx]; exact h, List.pairwise_singleton _ _⟩
/-- one row is written, the others stand -/
theorem Rows.write {pre post : List Row} {ys : List Value} (h : Rows w lo (pre ++ r :: post)) (hg : w.grownBy w' r.v.ownBlock) (ho : w'.ownsRow lo r.T r.d r.v r.n ys) :
    Rows w' lo (pre ++ { r with xs := ys } :: post) := by
  have hp := List.pairwise_append.1 h.2
  have hp2 := List.pairwise_cons.1 hp.2.1
  refine ⟨fun x hx => ?_, ?_⟩
  · rcases List.mem_append.1 hx with hx | hx
    · exact (h.1 x (List.mem_append.2 (.inl hx))).kept hg (hp.2.2 x hx r (by simp)).1
    · rcases List.mem_cons.1 hx with rfl | hx
      · exact ho
      · exact (h.1 x (List.mem_append.2 (.inr (by simp [hx])))).kept hg (hp2.1 x hx).2
  · refine List.pairwise_append.2 ⟨hp.1, List.pairwise_cons.2 ⟨fun b hb => hp2.1 b hb, hp2.2⟩, fun a ha b hb => ?_⟩
    rcases List.mem_cons.1 hb with rfl | hb
    · exact hp.2.2 a ha r (by simp)
    · exact hp.2.2 a ha b (by simp [hb])
theorem Rows.low {b j : Nat} {u : Value} (h : Rows w lo rs) (hb : b < lo) : Rows (w.setCell ⟨b, j, none⟩ u) lo rs := ⟨fun r hr => own_set_low (h.1 r hr) hb, h.2⟩
theorem Rows.head (h : Rows w lo (r :: rs)) : r.own w lo := h.1 r (by simp)
theorem Rows.tail (h : Rows w lo (r :: rs)) : Rows w lo rs := ⟨fun x hx => h.1 x (by simp [hx]), (List.pairwise_cons.1 h.2).2⟩
end

def lrows (x : LgrV) : List Row := [⟨9, 1, x.hn, x.hv, x.l.hs.map txt⟩, ⟨99, 3, x.fn, x.fv, fsCells x.l.fs⟩]
def hrows (x : HndV) : List Row := [⟨99, 3, x.fn, x.fv, fsCells x.h.fs⟩]
def lsRow (n : Nat) (v : Value) (l : List LgrV) : Row := ⟨72, 6, n, v, l.flatMap lcells⟩
def hsRow (n : Nat) (v : Value) (l : List HndV) : Row := ⟨47, 3, n, v, l.flatMap hcells⟩
def treeRows (n1 : Nat) (v1 : Value) (ls : List LgrV) (n2 : Nat) (v2 : Value) (hs : List HndV) : List Row :=
  (lsRow n1 v1 ls :: ls.flatMap lrows) ++ (hsRow n2 v2 hs :: hs.flatMap hrows)
theorem Tryz.infoLogger : (Tryz.prog.info? 72).map (fun i => (i.zero, i.size, i.bytes)) = some (some (.agg #[.string ByteArray.empty, .int .i64 0, .slice none 0 0, .slice none 0 0, .bool false, .bool false]), 6, 80) := by kernel_rfl
theorem Tryz.infoHandler : (Tryz.prog.info? 47).map (fun i => (i.zero, i.size, i.bytes)) = some (some (.agg #[.string ByteArray.empty, .int .i64 0, .slice none 0 0]), 3, 48) := by kernel_rfl

end Go.Proofs.YtioegkcekbkblaaGreat

/-
  TREES compared by the laws, and what an owned tree is to the functions.
-/
namespace Go.Proofs.YtioegkcekbkblaaGreat
open Go.RowKit Nm
set_option linter.unusedSimpArgs false
set_option linter.unusedVariables false

end Go.Proofs.YtioegkcekbkblaaGreat

/-
  An argument that is a tree: what it reads as.
-/
namespace Go.Proofs.YtioegkcekbkblaaGreat
open Go.RowKit Nm Go.ChangeShapes Go.WideShapes Go.Deep
set_option linter.unusedSimpArgs false
set_option linter.unusedVariables false

instance : Inhabited Lgr := ⟨⟨[], 0, [], [], false, false⟩⟩
instance : Inhabited LgrV := ⟨⟨default, default, 0, default, 0⟩⟩
instance : Inhabited Hnd := ⟨⟨[], 0, []⟩⟩
instance : Inhabited HndV := ⟨⟨default, default, 0⟩⟩
end Go.Proofs.YtioegkcekbkblaaGreat

/-
  TREES: data that fit; a tree of the call's own as the functions take it; ValidTree, LoggerAt of both programs.
-/
namespace Go.Proofs.YtioegkcekbkblaaGreat
open Go.RowKit Nm
set_option linter.unusedSimpArgs false
set_option linter.unusedVariables false

def lgrFit (l : Lgr) : Prop := l.nm.length ≤ maxTxt ∧ (l.hs.length ≤ maxTxt ∧ ∀ t ∈ l.hs, t.length ≤ maxTxt) ∧ (l.fs.length ≤ maxTxt ∧ ∀ f ∈ l.fs, f.nm.length ≤ maxTxt)
def hndFit (h : Hnd) : Prop := h.nm.length ≤ maxTxt ∧ (h.fs.length ≤ maxTxt ∧ ∀ f ∈ h.fs, f.nm.length ≤ maxTxt)
def dataFit (L : List Lgr) (H : List Hnd) : Prop := (L.length ≤ maxTxt ∧ ∀ l ∈ L, lgrFit l) ∧ (H.length ≤ maxTxt ∧ ∀ h ∈ H, hndFit h)
/-- the rows of a tree value of these data -/
def TreeS (rs : List Row) (v : Value) (L : List Lgr) (H : List Hnd) (q : Int) : Prop :=
  ∃ v1 v2 ls hs, v = .agg #[v1, v2, .int .i64 q] ∧ lsOf ls = L ∧ hsOf hs = H ∧ rs = treeRows ls.length v1 ls hs.length v2 hs
/-- a tree as the functions take it -/
def TreeIn (w : World) (B : Nat) (v : Value) (L : List Lgr) (H : List Hnd) (q : Int) : Prop := ∃ ls hs, TreeAt w B v ls hs q ∧ lsOf ls = L ∧ hsOf hs = H
theorem TreeIn.below {w w' : World} {B B' : Nat} {v : Value} {L : List Lgr} {H : List Hnd} {q : Int} (h : TreeIn w B v L H q) (hb : Below B' w w') (hB : B ≤ B') : TreeIn w' B v L H q := by
  obtain ⟨ls, hs, h1, h2, h3⟩ := h
  exact ⟨ls, hs, h1.below hb hB, h2, h3⟩
theorem Rows.left {w : World} {lo : Nat} {a b : List Row} (h : Rows w lo (a ++ b)) : Rows w lo a := h.sub (List.sublist_append_left _ _)
theorem Rows.right {w : World} {lo : Nat} {a b : List Row} (h : Rows w lo (a ++ b)) : Rows w lo b := h.sub (List.sublist_append_right _ _)
theorem mem_lrows {ls : List LgrV} {x : LgrV} (h : x ∈ ls) {r : Row} (hr : r ∈ lrows x) : r ∈ ls.flatMap lrows := List.mem_flatMap.2 ⟨x, h, hr⟩
theorem mem_hrows {ls : List HndV} {x : HndV} (h : x ∈ ls) {r : Row} (hr : r ∈ hrows x) : r ∈ ls.flatMap hrows := List.mem_flatMap.2 ⟨x, h, hr⟩
/-- what the rows of a tree say of its parts -/
theorem rows_parts {w : World} {lo : Nat} {v1 v2 : Value} {ls : List LgrV} {hs : List HndV} (h : Rows w lo (treeRows ls.length v1 ls hs.length v2 hs)) :
    Sl w w.heap.size 6 ls.length v1 (ls.flatMap lcells) ∧ (∀ x ∈ ls, Sl w w.heap.size 1 x.hn x.hv (x.l.hs.map txt) ∧ Sl w w.heap.size 3 x.fn x.fv (fsCells x.l.fs)) ∧
    Sl w w.heap.size 3 hs.length v2 (hs.flatMap hcells) ∧ ∀ x ∈ hs, Sl w w.heap.size 3 x.fn x.fv (fsCells x.h.fs) := by
  have hl := h.left
  have hr := h.right
  refine ⟨Sl.of_own (show w.ownsRow _ _ 6 v1 _ _ from hl.head), fun x hx => ⟨?_, ?_⟩, Sl.of_own (show w.ownsRow _ _ 3 v2 _ _ from hr.head), fun x hx => ?_⟩
  · exact Sl.of_own (show w.ownsRow _ _ 1 x.hv x.hn _ from hl.tail.mem (mem_lrows hx (List.mem_cons_self ..)))
  · exact Sl.of_own (show w.ownsRow _ _ 3 x.fv x.fn _ from hl.tail.mem (mem_lrows hx (List.mem_cons_of_mem _ (List.mem_cons_self ..))))
  · exact Sl.of_own (show w.ownsRow _ _ 3 x.fv x.fn _ from hr.tail.mem (mem_hrows hx (List.mem_cons_self ..)))
theorem fs_le (x : List UInt8) (h : x.length ≤ maxTxt) : x.length ≤ maxLen := by unfold maxTxt at h; unfold maxLen; omega
theorem TreeS.raw {rs : List Row} {v : Value} {L : List Lgr} {H : List Hnd} {q : Int} {w : World} {lo : Nat} (h : TreeS rs v L H q) (hr : Rows w lo rs) (hd : dataFit L H) :
    ∃ A1 n1 k1 A2 n2 k2 ls hs, v = .agg #[.slice A1 n1 k1, .slice A2 n2 k2, .int .i64 q] ∧ treeRaw w w.heap.size A1 n1 k1 A2 n2 k2 ls hs ∧ n1 = L.length ∧ n2 = H.length ∧ lsOf ls = L ∧ hsOf hs = H := by
  obtain ⟨v1, v2, ls, hs, rfl, hL, hH, rfl⟩ := h
  obtain ⟨h1, h2, h3, h4⟩ := rows_parts hr
  obtain ⟨A1, k1, rfl, _, _⟩ := h1.form
  obtain ⟨A2, k2, rfl, _, _⟩ := h3.form
  refine ⟨A1, _, k1, A2, _, k2, ls, hs, rfl, ⟨⟨h1, fun x hx => ?_⟩, ⟨h3, fun x hx => ?_⟩⟩, by rw [← hL]; simp [lsOf], by rw [← hH]; simp [hsOf], hL, hH⟩
  · obtain ⟨a, b, c⟩ := hd.1.2 x.l (by rw [← hL]; exact List.mem_map.2 ⟨x, hx, rfl⟩)
    exact ⟨fs_le _ a, ⟨(h2 x hx).1, fun t ht => fs_le _ (b.2 t ht)⟩, ⟨(h2 x hx).2, fun t ht => fs_le _ (c.2 t ht)⟩⟩
  · obtain ⟨a, c⟩ := hd.2.2 x.h (by rw [← hH]; exact List.mem_map.2 ⟨x, hx, rfl⟩)
    exact ⟨fs_le _ a, ⟨h4 x hx, fun t ht => fs_le _ (c.2 t ht)⟩⟩
theorem TreeS.at_ {rs : List Row} {v : Value} {L : List Lgr} {H : List Hnd} {q : Int} {w : World} {lo : Nat} (h : TreeS rs v L H q) (hr : Rows w lo rs) (hd : dataFit L H) : TreeIn w w.heap.size v L H q := by
  obtain ⟨A1, n1, k1, A2, n2, k2, ls, hs, rfl, hraw, rfl, rfl, hL, hH⟩ := h.raw hr hd
  have hb1 := hd.1.1
  have hb2 := hd.2.1
  unfold maxTxt at hb1 hb2
  refine ⟨ls, hs, ⟨A1, _, k1, A2, _, k2, rfl, ⟨hraw.1.1, fun x hx => ?_⟩, ⟨hraw.2.1, fun x hx => ?_⟩, hb1, hb2, fun x hx => ?_⟩, hL, hH⟩
  · obtain ⟨a, b, c⟩ := hd.1.2 x.l (by rw [← hL]; exact List.mem_map.2 ⟨x, hx, rfl⟩)
    exact ⟨a, ⟨(hraw.1.2 x hx).2.1.1, b.2⟩, ⟨(hraw.1.2 x hx).2.2.1, c.2⟩⟩
  · obtain ⟨a, c⟩ := hd.2.2 x.h (by rw [← hH]; exact List.mem_map.2 ⟨x, hx, rfl⟩)
    exact ⟨a, ⟨(hraw.2.2 x hx).2.1, c.2⟩⟩
  · obtain ⟨a, b, c⟩ := hd.1.2 x.l (by rw [← hL]; exact List.mem_map.2 ⟨x, hx, rfl⟩)
    have e1 : x.l.hs.length = x.hn := by have := (hraw.1.2 x hx).2.1.1.1; simpa using this
    have := b.1
    unfold maxTxt at this; omega

/-- a tree comes back: its rows are of the call's own -/
def TreePost (w : World) (L : List Lgr) (H : List Hnd) (q : Int) (e : Ending) (w' : World) : Prop :=
  ∃ v rs, e = .returned v ∧ TreeS rs v L H q ∧ Rows w' w.heap.size rs ∧ Below w.heap.size w w'
theorem implValidTreeX_c {v : Value} {B : Nat} {L : List Lgr} {H : List Hnd} {q : Int} {w : World} (h : TreeIn w B v L H q) (hB : B ≤ w.heap.size) :
    Calls Tryz.prog 15 #[v] w (BoolPost w (treeOk L H q)) := by
  obtain ⟨ls, hs, h1, rfl, rfl⟩ := h
  exact implValidTree_c v B ls hs q w h1 hB
theorem specTreeX_c {v : Value} {B : Nat} {L : List Lgr} {H : List Hnd} {q : Int} {w : World} (h : TreeIn w B v L H q) (hB : B ≤ w.heap.size) :
    Calls Tryz.prog 44 #[v] w (BoolPost w (treeOk L H q)) := by
  obtain ⟨ls, hs, h1, rfl, rfl⟩ := h
  exact specTree_c v B ls hs q w h1 hB
theorem TreeIn.form {w : World} {B : Nat} {v : Value} {L : List Lgr} {H : List Hnd} {q : Int} (h : TreeIn w B v L H q) :
    ∃ A1 n1 k1 A2 n2 k2, v = .agg #[.slice A1 n1 k1, .slice A2 n2 k2, .int .i64 q] := by
  obtain ⟨ls, hs, ⟨A1, n1, k1, A2, n2, k2, e, _⟩, _⟩ := h
  exact ⟨A1, n1, k1, A2, n2, k2, e⟩

theorem TreeIn.loggers {w : World} {B n1 k1 n2 k2 : Nat} {A1 A2 : Option Addr} {L : List Lgr} {H : List Hnd} {q : Int} (h : TreeIn w B (.agg #[.slice A1 n1 k1, .slice A2 n2 k2, .int .i64 q]) L H q) :
    ∃ ls, Ls w B n1 (.slice A1 n1 k1) ls ∧ lsOf ls = L := by
  obtain ⟨ls, hs, ⟨A1', n1', k1', A2', n2', k2', e, h1, _⟩, h2, h3⟩ := h
  simp at e
  obtain ⟨⟨rfl, rfl, rfl⟩, ⟨rfl, rfl, rfl⟩⟩ := e
  exact ⟨ls, h1, h2⟩
def namesOf (L : List Lgr) : List (List UInt8) := L.map (·.nm)
theorem namesOf_ls (l : List LgrV) : namesOf (lsOf l) = lnames l := lnames_eq l

end Go.Proofs.YtioegkcekbkblaaGreat

/-
  WALKS: LoggerAt of the program: the library's IndexFunc with a closure.
-/
namespace Go.Proofs.YtioegkcekbkblaaGreat
open Go.RowKit Nm
set_option linter.unusedSimpArgs false
set_option linter.unusedVariables false

set_option maxHeartbeats 1000000 in
set_option maxRecDepth 100000 in
theorem loggerAtFn_c (a s : ByteArray) (lv : Int) (v1 v2 : Value) (b1 b2 : Bool) (bx : Nat) (w : World) (hc : w.cell? ⟨bx, 0, none⟩ = some (.string s)) :
    Calls Tryz.prog 108 #[.agg #[.string a, .int .i64 lv, v1, v2, .bool b1, .bool b2], .pointer (some ⟨bx, 0, none⟩)] w (BoolPost w (decide (a.data.toList = s.data.toList))) := by
  have hlt : bx < w.heap.size := World.block_lt_of_cell? w _ hc
  have e0 := beq_txt a s
  have e1 : (w.alloc (.cells #[.string a, .int .i64 lv, v1, v2, .bool b1, .bool b2] 72)).cell? ⟨bx, 0, none⟩ = some (.string s) := (World.cell?_alloc_past _ _ _ hlt).trans hc
  go_enter Tryz.func108, Tryz.ntmps108
  go_wp2_with fail
  go_ret
  exact ⟨ret_bool (decide_eq_decide.2 Array.toList_inj.symm), by go_grown⟩

theorem mem_of_at {l : List LgrV} {k : Nat} {x : LgrV} (hx : l[k]? = some x) : (lnames l)[k]? = some x.l.nm := by simp [lnames, hx]

set_option maxHeartbeats 4000000 in
set_option maxRecDepth 100000 in
theorem indexFunc_c (v : Value) (n B bx : Nat) (l : List LgrV) (s : ByteArray) (w : World) (hv : Ls w B n v l) (hB : B ≤ w.heap.size) (hc : w.cell? ⟨bx, 0, none⟩ = some (.string s)) :
    Calls Tryz.prog 107 #[v, .func (.func 108) #[] #[.pointer (some ⟨bx, 0, none⟩)]] w
      (fun e w' => e = .returned (.int .i64 (idxL (lnames l) s.data.toList)) ∧ Below w.heap.size w w') := by
  have hlt0 : bx < w.heap.size := World.block_lt_of_cell? w _ hc
  have hln := hv.count
  obtain ⟨A, c, rfl, hnc, hcm⟩ := hv.1.form
  unfold maxLen at hcm
  have HV := hid (And.intro hv hln)
  have HC := hid (And.intro hc hlt0)
  clear hv hln hc hlt0
  go_enter Tryz.func107, Tryz.ntmps107
  go_wp2_with fail
  go_loopw [8] (fun iv wr => ∃ (k : Nat), iv = .int .i64 k ∧ k ≤ n ∧ Hid (¬ s.data.toList ∈ (lnames l).take k) ∧ Hid (Below w.heap.size w wr)) (fun iv _ => n - (intOf iv).toNat)
  case atStart => exact ⟨0, rfl, by omega, by simp [Hid], Below.refl _ _⟩
  case round =>
    obtain ⟨k, rfl, hk, HN, HB⟩ := hrel
    by_cases hlt : k < n
    · obtain ⟨b, o, x, a, rfl, hbB, hx, ha, _, _, _, c0, c1, c2, c3, c4, c5⟩ := (HV.out.1.below HB.out hB).at_ hlt
      have E := hid (loggerAtFn_c a s x.l.lv x.hv x.fv x.l.stop x.l.off bx wr ((HB.out.cell (p := ⟨bx, 0, none⟩) HC.out.2).trans HC.out.1))
      have HX := hid (mem_of_at hx)
      have HA := hid ha
      cases hz : decide (a.data.toList = s.data.toList) with
      | true =>
        rw [hz] at E
        have HZ := hid hz
        clear hx ha hz
        go_wp2_with (go_at_call 108; refine (E.out).mono ?_; rintro e w2 ⟨rfl, hb⟩)
        go_ret
        refine ⟨ret_int ?_, HB.out.trans (hb.mono HB.out.size)⟩
        have h := of_decide_eq_true HZ.out
        rw [idx_hit _ _ k (by rw [HX.out, ← HA.out, h]) HN.out]
      | false =>
        rw [hz] at E
        have HZ := hid hz
        clear hx ha hz
        go_wp2_with (go_at_call 108; refine (E.out).mono ?_; rintro e w2 ⟨rfl, hb⟩)
        go_roundw
        case rel => exact ⟨k + 1, by go_num, by omega, not_take_succ _ _ _ _ HN.out HX.out (by rw [← HA.out]; exact of_decide_eq_false HZ.out), HB.out.trans (hb.mono HB.out.size)⟩
        case measure => simp [intOf]; omega
    · have HE := hid (show ¬ s.data.toList ∈ lnames l by
        have h := HN.out
        rwa [List.take_of_length_le (by unfold lnames; rw [List.length_map]; have := HV.out.2; omega)] at h)
      go_wp2_with fail
      go_ret
      exact ⟨ret_int (by rw [idx_miss _ _ HE.out]), HB.out⟩

set_option maxHeartbeats 1000000 in
set_option maxRecDepth 100000 in
theorem implLoggerAtX_c {v : Value} {B : Nat} {L : List Lgr} {H : List Hnd} {q : Int} {w : World} (s : ByteArray) (h : TreeIn w B v L H q) (hB : B ≤ w.heap.size) :
    Calls Tryz.prog 55 #[v, .string s] w (fun e w' => e = .returned (.int .i64 (if treeOk L H q then idxL (namesOf L) s.data.toList else -1)) ∧ Below w.heap.size w w') := by
  have C := hid (fun (W : World) (hW : Below w.heap.size w W) => implValidTreeX_c (h.below hW hB) (Nat.le_trans hB hW.size))
  obtain ⟨A1, n1, k1, A2, n2, k2, rfl⟩ := h.form
  obtain ⟨ls, hl, hL⟩ := h.loggers
  have C2 := hid (fun (bx : Nat) (W : World) (hW : Below w.heap.size w W) (hc : W.cell? ⟨bx, 0, none⟩ = some (.string s)) => indexFunc_c _ n1 B bx ls s W (hl.below hW hB) (Nat.le_trans hB hW.size) hc)
  have hN : lnames ls = namesOf L := by rw [← hL, namesOf_ls]
  rw [hN] at C2
  have hmf : ∀ (fn : Fn) (first cap : Array Value) (w : World), (Instr.makeFunc fn first cap).run Tryz.prog w = .ok (.func fn first cap) w := fun _ _ _ _ => rfl
  clear h hl hL hN
  cases hz : treeOk L H q with
  | false =>
    rw [hz] at C
    go_enter Tryz.func55, Tryz.ntmps55
    go_wp2_with fail
    refine (C.out _ ?_).mono ?_
    case refine_1 => go_grown
    rintro e w1 ⟨rfl, hb1⟩
    have HB1 := hid (Below.trans (by go_grown) (hb1.mono (by simp; try omega)) : Below w.heap.size w w1)
    clear hb1
    go_wp2_with fail
    go_ret
    exact ⟨rfl, HB1.out⟩
  | true =>
    rw [hz] at C
    go_enter Tryz.func55, Tryz.ntmps55
    go_wp2_with fail
    refine (C.out _ ?_).mono ?_
    case refine_1 => go_grown
    rintro e w1 ⟨rfl, hb1⟩
    have K2 := ((Blk.new _ _ _).alloc _).to hb1
    have K1 := (Blk.new _ _ _).to hb1
    simp only [World.size_alloc] at K1 K2
    have x0 := (K2.2 0 _ rfl).1
    have HY := hid ((K1.2 0 _ rfl).1)
    have HB1 := hid (Below.trans (by go_grown) (hb1.mono (by simp; try omega)) : Below w.heap.size w w1)
    clear hb1 K2 K1
    go_wp2_with fail
    refine (C2.out _ _ HB1.out HY.out).mono ?_
    rintro e w2 ⟨rfl, hb2⟩
    have HB2 := hid (HB1.out.trans (hb2.mono HB1.out.size))
    clear x0 hb2
    go_wp2_with fail
    go_ret
    exact ⟨rfl, HB2.out⟩
end Go.Proofs.YtioegkcekbkblaaGreat
