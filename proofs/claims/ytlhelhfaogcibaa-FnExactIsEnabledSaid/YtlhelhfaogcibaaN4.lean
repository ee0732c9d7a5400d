/-
  TREES: data that fit; a tree of the call's own as the functions take it; ValidTree, LoggerAt of both programs.
-/
import Derived.Test.YtlhelhfaogcibaaN3
import Derived.Test.YtlhelhfaogcibaaT8
import Derived.Test.YtlhelhfaogcibaaL0
namespace Go.Proofs.Ytlhelhfaogcibaa
open Go.RowKit Nm
set_option linter.unusedSimpArgs false
set_option linter.unusedVariables false

def lgrFit (l : Lgr) : Prop := l.nm.length ≤ maxTxt ∧ (l.hs.length ≤ maxTxt ∧ ∀ t ∈ l.hs, t.length ≤ maxTxt) ∧ (l.fs.length ≤ maxTxt ∧ ∀ f ∈ l.fs, f.nm.length ≤ maxTxt)
def hndFit (h : Hnd) : Prop := h.nm.length ≤ maxTxt ∧ (h.fs.length ≤ maxTxt ∧ ∀ f ∈ h.fs, f.nm.length ≤ maxTxt)
def dataFit (L : List Lgr) (H : List Hnd) : Prop := (L.length ≤ maxTxt ∧ ∀ l ∈ L, lgrFit l) ∧ (H.length ≤ maxTxt ∧ ∀ h ∈ H, hndFit h)
theorem fit_data {w : World} {B : Nat} {Aa : Option Addr} {na ca : Nat} {Ab : Option Addr} {nb cb : Nat} {la : List LgrV} {lb : List HndV} (h : treeRaw w B Aa na ca Ab nb cb la lb) (hf : treeFit na nb la lb) : dataFit (lsOf la) (hsOf lb) := by
  have h1 := Sl.count lcells_len h.1.1 (by omega)
  have h2 := Sl.count hcells_len h.2.1 (by omega)
  refine ⟨⟨by simp [lsOf]; have := hf.1.1; omega, fun l hl => ?_⟩, ⟨by simp [hsOf]; have := hf.2.1; omega, fun l hl => ?_⟩⟩
  · obtain ⟨x, hx, rfl⟩ := List.mem_map.1 hl
    obtain ⟨a, b, c⟩ := hf.1.2 x hx
    obtain ⟨a', b', c'⟩ := h.1.2 x hx
    have e1 : x.l.hs.length = x.hn := by have := b'.1.1; simpa using this
    have e2 : x.l.fs.length = x.fn := by have := c'.1.flen; exact this
    exact ⟨a, ⟨by omega, b.2⟩, ⟨by omega, c.2⟩⟩
  · obtain ⟨x, hx, rfl⟩ := List.mem_map.1 hl
    obtain ⟨a, c⟩ := hf.2.2 x hx
    obtain ⟨a', c'⟩ := h.2.2 x hx
    have e2 : x.h.fs.length = x.fn := by have := c'.1.flen; exact this
    exact ⟨a, ⟨by omega, c.2⟩⟩
/-- the rows of a tree value of these data -/
def TreeS (rs : List Row) (v : Value) (L : List Lgr) (H : List Hnd) (q : Int) : Prop :=
  ∃ v1 v2 ls hs, v = .agg #[v1, v2, .int .i64 q] ∧ lsOf ls = L ∧ hsOf hs = H ∧ rs = treeRows ls.length v1 ls hs.length v2 hs
/-- a tree as the functions take it -/
def TreeIn (w : World) (B : Nat) (v : Value) (L : List Lgr) (H : List Hnd) (q : Int) : Prop := ∃ ls hs, TreeAt w B v ls hs q ∧ lsOf ls = L ∧ hsOf hs = H
theorem TreeIn.below {w w' : World} {B B' : Nat} {v : Value} {L : List Lgr} {H : List Hnd} {q : Int} (h : TreeIn w B v L H q) (hb : Below B' w w') (hB : B ≤ B') : TreeIn w' B v L H q := by
  obtain ⟨ls, hs, h1, h2, h3⟩ := h
  exact ⟨ls, hs, h1.below hb hB, h2, h3⟩
theorem Rows.left {w : World} {lo : Nat} {a b : List Row} (h : Rows w lo (a ++ b)) : Rows w lo a := h.sub (List.sublist_append_left _ _)
theorem Rows.right {w : World} {lo : Nat} {a b : List Row} (h : Rows w lo (a ++ b)) : Rows w lo b := h.sub (List.sublist_append_right _ _)
theorem mem_lrows {ls : List LgrV} {x : LgrV} (h : x ∈ ls) {r : Row} (hr : r ∈ lrows x) : r ∈ ls.flatMap lrows := List.mem_flatMap.2 ⟨x, h, hr⟩
theorem mem_hrows {ls : List HndV} {x : HndV} (h : x ∈ ls) {r : Row} (hr : r ∈ hrows x) : r ∈ ls.flatMap hrows := List.mem_flatMap.2 ⟨x, h, hr⟩
/-- what the rows of a tree say of its parts -/
theorem rows_parts {w : World} {lo : Nat} {v1 v2 : Value} {ls : List LgrV} {hs : List HndV} (h : Rows w lo (treeRows ls.length v1 ls hs.length v2 hs)) :
    Sl w w.heap.size 6 ls.length v1 (ls.flatMap lcells) ∧ (∀ x ∈ ls, Sl w w.heap.size 1 x.hn x.hv (x.l.hs.map txt) ∧ Sl w w.heap.size 3 x.fn x.fv (fsCells x.l.fs)) ∧
    Sl w w.heap.size 3 hs.length v2 (hs.flatMap hcells) ∧ ∀ x ∈ hs, Sl w w.heap.size 3 x.fn x.fv (fsCells x.h.fs) := by
  have hl := h.left
  have hr := h.right
  refine ⟨Sl.of_own (show w.ownsRow _ _ 6 v1 _ _ from hl.head), fun x hx => ⟨?_, ?_⟩, Sl.of_own (show w.ownsRow _ _ 3 v2 _ _ from hr.head), fun x hx => ?_⟩
  · exact Sl.of_own (show w.ownsRow _ _ 1 x.hv x.hn _ from hl.tail.mem (mem_lrows hx (List.mem_cons_self ..)))
  · exact Sl.of_own (show w.ownsRow _ _ 3 x.fv x.fn _ from hl.tail.mem (mem_lrows hx (List.mem_cons_of_mem _ (List.mem_cons_self ..))))
  · exact Sl.of_own (show w.ownsRow _ _ 3 x.fv x.fn _ from hr.tail.mem (mem_hrows hx (List.mem_cons_self ..)))
theorem fs_le (x : List UInt8) (h : x.length ≤ maxTxt) : x.length ≤ maxLen := by unfold maxTxt at h; unfold maxLen; omega
theorem TreeS.raw {rs : List Row} {v : Value} {L : List Lgr} {H : List Hnd} {q : Int} {w : World} {lo : Nat} (h : TreeS rs v L H q) (hr : Rows w lo rs) (hd : dataFit L H) :
    ∃ A1 n1 k1 A2 n2 k2 ls hs, v = .agg #[.slice A1 n1 k1, .slice A2 n2 k2, .int .i64 q] ∧ treeRaw w w.heap.size A1 n1 k1 A2 n2 k2 ls hs ∧ n1 = L.length ∧ n2 = H.length ∧ lsOf ls = L ∧ hsOf hs = H := by
  obtain ⟨v1, v2, ls, hs, rfl, hL, hH, rfl⟩ := h
  obtain ⟨h1, h2, h3, h4⟩ := rows_parts hr
  obtain ⟨A1, k1, rfl, _, _⟩ := h1.form
  obtain ⟨A2, k2, rfl, _, _⟩ := h3.form
  refine ⟨A1, _, k1, A2, _, k2, ls, hs, rfl, ⟨⟨h1, fun x hx => ?_⟩, ⟨h3, fun x hx => ?_⟩⟩, by rw [← hL]; simp [lsOf], by rw [← hH]; simp [hsOf], hL, hH⟩
  · obtain ⟨a, b, c⟩ := hd.1.2 x.l (by rw [← hL]; exact List.mem_map.2 ⟨x, hx, rfl⟩)
    exact ⟨fs_le _ a, ⟨(h2 x hx).1, fun t ht => fs_le _ (b.2 t ht)⟩, ⟨(h2 x hx).2, fun t ht => fs_le _ (c.2 t ht)⟩⟩
  · obtain ⟨a, c⟩ := hd.2.2 x.h (by rw [← hH]; exact List.mem_map.2 ⟨x, hx, rfl⟩)
    exact ⟨fs_le _ a, ⟨h4 x hx, fun t ht => fs_le _ (c.2 t ht)⟩⟩
theorem TreeS.at_ {rs : List Row} {v : Value} {L : List Lgr} {H : List Hnd} {q : Int} {w : World} {lo : Nat} (h : TreeS rs v L H q) (hr : Rows w lo rs) (hd : dataFit L H) : TreeIn w w.heap.size v L H q := by
  obtain ⟨A1, n1, k1, A2, n2, k2, ls, hs, rfl, hraw, rfl, rfl, hL, hH⟩ := h.raw hr hd
  have hb1 := hd.1.1
  have hb2 := hd.2.1
  unfold maxTxt at hb1 hb2
  refine ⟨ls, hs, ⟨A1, _, k1, A2, _, k2, rfl, ⟨hraw.1.1, fun x hx => ?_⟩, ⟨hraw.2.1, fun x hx => ?_⟩, hb1, hb2, fun x hx => ?_⟩, hL, hH⟩
  · obtain ⟨a, b, c⟩ := hd.1.2 x.l (by rw [← hL]; exact List.mem_map.2 ⟨x, hx, rfl⟩)
    exact ⟨a, ⟨(hraw.1.2 x hx).2.1.1, b.2⟩, ⟨(hraw.1.2 x hx).2.2.1, c.2⟩⟩
  · obtain ⟨a, c⟩ := hd.2.2 x.h (by rw [← hH]; exact List.mem_map.2 ⟨x, hx, rfl⟩)
    exact ⟨a, ⟨(hraw.2.2 x hx).2.1, c.2⟩⟩
  · obtain ⟨a, b, c⟩ := hd.1.2 x.l (by rw [← hL]; exact List.mem_map.2 ⟨x, hx, rfl⟩)
    have e1 : x.l.hs.length = x.hn := by have := (hraw.1.2 x hx).2.1.1.1; simpa using this
    have := b.1
    unfold maxTxt at this; omega

/-- a tree comes back: its rows are of the call's own -/
def TreePost (w : World) (L : List Lgr) (H : List Hnd) (q : Int) (e : Ending) (w' : World) : Prop :=
  ∃ v rs, e = .returned v ∧ TreeS rs v L H q ∧ Rows w' w.heap.size rs ∧ Below w.heap.size w w'
theorem toTreeX_c (Aa : Option Addr) (na ca : Nat) (Ab : Option Addr) (nb cb B : Nat) (q : Int) (la : List LgrV) (lb : List HndV) (w : World) (h : treeRaw w B Aa na ca Ab nb cb la lb) (hf : treeFit na nb la lb) (hB : B ≤ w.heap.size) :
    Calls Try.prog 13 #[.agg #[.slice Aa na ca, .slice Ab nb cb, .int .i64 q]] w (TreePost w (lsOf la) (hsOf lb) q) := by
  refine (toTree_c Aa na ca Ab nb cb B q la lb w h hf hB).mono ?_
  rintro e w' ⟨v1, v2, ls, hs, rfl, hl, hh, hr, hb⟩
  have h1 : na = ls.length := by have := Sl.count lcells_len h.1.1 (by omega); have := congrArg List.length hl; simp [lsOf] at this; omega
  have h2 : nb = hs.length := by have := Sl.count hcells_len h.2.1 (by omega); have := congrArg List.length hh; simp [hsOf] at this; omega
  exact ⟨_, _, rfl, ⟨v1, v2, ls, hs, rfl, hl, hh, by rw [h1, h2]⟩, hr, hb⟩
theorem eqTreeX_c {rs rs' : List Row} {v v' : Value} {L : List Lgr} {H : List Hnd} {q : Int} {w : World} {lo lo' : Nat} (h : TreeS rs v L H q) (hr : Rows w lo rs) (h' : TreeS rs' v' L H q) (hr' : Rows w lo' rs') (hd : dataFit L H) :
    Calls Try.prog 15 #[v, v'] w (BoolPost w true) := by
  obtain ⟨A1, n1, k1, A2, n2, k2, ls, hs, rfl, hraw, rfl, rfl, hL, hH⟩ := h.raw hr hd
  obtain ⟨A1', n1', k1', A2', n2', k2', ls', hs', rfl, hraw', rfl, rfl, hL', hH'⟩ := h'.raw hr' hd
  exact eqTree_c A1 A1' _ k1 k1' A2 A2' _ k2 k2' w.heap.size q ls ls' hs hs' w hraw hraw' (hL.trans hL'.symm) (hH.trans hH'.symm) (Nat.le_refl _)

theorem implValidTreeX_c {v : Value} {B : Nat} {L : List Lgr} {H : List Hnd} {q : Int} {w : World} (h : TreeIn w B v L H q) (hB : B ≤ w.heap.size) :
    Calls Try.prog 52 #[v] w (BoolPost w (treeOk L H q)) := by
  obtain ⟨ls, hs, h1, rfl, rfl⟩ := h
  exact implValidTree_c v B ls hs q w h1 hB
theorem specTreeX_c {v : Value} {B : Nat} {L : List Lgr} {H : List Hnd} {q : Int} {w : World} (h : TreeIn w B v L H q) (hB : B ≤ w.heap.size) :
    Calls Try.prog 39 #[v] w (BoolPost w (treeOk L H q)) := by
  obtain ⟨ls, hs, h1, rfl, rfl⟩ := h
  exact specTree_c v B ls hs q w h1 hB
theorem TreeIn.form {w : World} {B : Nat} {v : Value} {L : List Lgr} {H : List Hnd} {q : Int} (h : TreeIn w B v L H q) :
    ∃ A1 n1 k1 A2 n2 k2, v = .agg #[.slice A1 n1 k1, .slice A2 n2 k2, .int .i64 q] := by
  obtain ⟨ls, hs, ⟨A1, n1, k1, A2, n2, k2, e, _⟩, _⟩ := h
  exact ⟨A1, n1, k1, A2, n2, k2, e⟩

theorem TreeIn.loggers {w : World} {B n1 k1 n2 k2 : Nat} {A1 A2 : Option Addr} {L : List Lgr} {H : List Hnd} {q : Int} (h : TreeIn w B (.agg #[.slice A1 n1 k1, .slice A2 n2 k2, .int .i64 q]) L H q) :
    ∃ ls, Ls w B n1 (.slice A1 n1 k1) ls ∧ lsOf ls = L := by
  obtain ⟨ls, hs, ⟨A1', n1', k1', A2', n2', k2', e, h1, _⟩, h2, h3⟩ := h
  simp at e
  obtain ⟨⟨rfl, rfl, rfl⟩, ⟨rfl, rfl, rfl⟩⟩ := e
  exact ⟨ls, h1, h2⟩
def namesOf (L : List Lgr) : List (List UInt8) := L.map (·.nm)
theorem namesOf_ls (l : List LgrV) : namesOf (lsOf l) = lnames l := lnames_eq l

end Go.Proofs.Ytlhelhfaogcibaa
