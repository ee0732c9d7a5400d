/-
  DRAWS: the reader and what it leaves as it is; numbers, texts out of lists.
-/
import Derived.Test.YtjejildgbmkbbaaW10
import Derived.Test.YtjejildgbmkbbaaApp
namespace Go.Proofs.Ytjejildgbmkbbaa
open Go.RowKit Nm
set_option linter.unusedSimpArgs false
set_option linter.unusedVariables false

theorem Rdr.off {w w' : World} {R p : Nat} {row : Option Nat} (h : Rdr w R p) (hg : w.grownBy w' row) (hb : ∀ g, row = some g → R < g) : Rdr w' R p := by
  obtain ⟨A, m, c, h1, h2, h3, h4, h5⟩ := h
  refine ⟨A, m, c, (hg.block R (Array.getElem?_eq_some_iff.1 h1).1 (fun e => by have := hb R e.symm; omega)).trans h1, h2, h3, h4, fun hn => ?_⟩
  obtain ⟨b, o, e, i1, i2, i3⟩ := h5 hn
  refine ⟨b, o, e, i1, Nat.lt_of_lt_of_le i2 hg.size, fun j hj => ?_⟩
  obtain ⟨x, hx, hc⟩ := i3 j hj
  exact ⟨x, hx, (World.cell?_of_block (hg.block b i2 (fun e => by have := hb b e.symm; omega))).trans hc⟩
theorem grow_cell (w : World) (b j : Nat) (u : Value) : w.grownBy (w.setCell ⟨b, j, none⟩ u) (some b) :=
  ⟨rfl, rfl, rfl, by simp, fun k _ hk => heap_setCell_other w ⟨b, j, none⟩ k _ (fun e => hk (by simp [e]))⟩
theorem Rdr.set {w : World} {R p b j : Nat} {u : Value} (h : Rdr w R p) (hb : R < b) : Rdr (w.setCell ⟨b, j, none⟩ u) R p := h.off (grow_cell w b j u) (fun g e => by cases e; exact hb)
theorem grown_off {w w' w2 : World} {r row : Option Nat} (h : w.grownBy w' r) (hg : w'.grownBy w2 row) (hb : ∀ g, row = some g → w.heap.size ≤ g) : w.grownBy w2 r :=
  ⟨hg.os.trans h.os, hg.tape.trans h.tape, hg.output.trans h.output, Nat.le_trans h.size hg.size, fun k hk hr => (hg.block k (Nat.lt_of_lt_of_le hk h.size) (fun e => by have := hb k e.symm; omega)).trans (h.block k hk hr)⟩
theorem grown_at {w w' : World} {r : Option Nat} (h : w.grownBy w' r) {b j : Nat} {u : Value} (hb : w.heap.size ≤ b) : w.grownBy (w'.setCell ⟨b, j, none⟩ u) r := grown_off h (grow_cell w' b j u) (fun g e => by cases e; exact hb)
theorem grown_new {w w' w2 : World} {r : Option Nat} (h : w.grownBy w' r) (hb : Below w'.heap.size w' w2) : w.grownBy w2 r := grown_tr h (grown_of hb r)
theorem own_off {w w' : World} {R base d n : Nat} {e : TypeId} {v : Value} {xs : List Value} (h : w.ownsRow base e d v n xs) (hg : w.grownBy w' (some R)) (hR : R < base) : w'.ownsRow base e d v n xs :=
  h.kept hg (.inr (fun e2 => by have := (h.lt R e2).1; omega))

def intv (z : Int) : Value := .int .i64 z
def OnePost (R p : Nat) (zs : List Int) (w : World) (e : Ending) (w' : World) : Prop :=
  ∃ z : Int, z ∈ zs ∧ e = .returned (.int .i64 z) ∧ Rdr w' R (p + 1) ∧ w.grownBy w' (some R)
theorem int_at (zs : List Int) (k : Nat) (hk : k < zs.length) : ∃ z, zs[k]? = some z ∧ (zs.map intv)[k]? = some (.int .i64 z) :=
  ⟨zs[k], List.getElem?_eq_getElem hk, by rw [List.getElem?_map, List.getElem?_eq_getElem hk]; rfl⟩

set_option maxHeartbeats 1000000 in
set_option maxRecDepth 100000 in
theorem one_c (R p g n c : Nat) (zs : List Int) (w : World) (hr : Rdr w R p) (hp : p ≤ 1000000) (hn : n = zs.length) (hn1 : 1 ≤ n) (hn2 : n ≤ 1000) (hgR : g ≠ R) (hg : w.heap[g]? = some (.cells (zs.map intv).toArray 3 (0, 0))) :
    Calls Try.prog 50 #[.pointer (some ⟨R, 0, none⟩), .slice (some ⟨g, 0, none⟩) n c] w (OnePost R p zs w) := by
  have hcall := hid (pick_c R p n w hr hp (by omega))
  have hglt : g < w.heap.size := (Array.getElem?_eq_some_iff.1 hg).1
  have HN := hid (And.intro hn hg)
  clear hn hg
  go_enter Try.func50, Try.ntmps50
  go_wp2_with fail
  refine hcall.out.mono ?_
  rintro e w1 ⟨k, rfl, hk1, hk2, hr1, hg1⟩
  have hkn : k < n := by have := hk1 (by omega); omega
  obtain ⟨hn, hg⟩ := HN.out
  obtain ⟨x, hx1, hx2⟩ := int_at zs k (by omega)
  have hb1 : w1.heap[g]? = some (.cells (zs.map intv).toArray 3 (0, 0)) := (hg1.block g hglt (by simpa using hgR)).trans hg
  have hc1 : w1.cell? ⟨g, k, none⟩ = some (.int .i64 x) := by
    rw [cell_of_row w1 g k _ _ _ hb1]; simpa using hx2
  have HX := hid (List.mem_of_getElem? hx1)
  have HR := hid (And.intro hr1 hg1)
  clear hk1 hk2 hr1 hg1 hn hg hx1 hx2 hb1
  go_wp2_with fail
  go_ret
  exact ⟨x, HX.out, rfl, HR.out.1, HR.out.2⟩
/-- a number out of a list that was just laid down -/
theorem one_lit (R p n : Nat) (zs : List Int) (w : World) (hr : Rdr w R p) (hp : p ≤ 1000000) (hn : n = zs.length) (hn1 : 1 ≤ n) (hn2 : n ≤ 1000) (lo hi : Int) (hz : ∀ z ∈ zs, lo ≤ z ∧ z ≤ hi) :
    Calls Try.prog 50 #[.pointer (some ⟨R, 0, none⟩), .slice (some ⟨w.heap.size, 0, none⟩) n n] (w.alloc (.cells (zs.map intv).toArray 3)) fun e w' =>
      ∃ z : Int, (lo ≤ z ∧ z ≤ hi) ∧ e = .returned (.int .i64 z) ∧ Rdr w' R (p + 1) ∧ w.grownBy w' (some R) := by
  have hlt := hr.lt
  refine (one_c R p w.heap.size n n zs _ (hr.below ((Below.refl _ _).alloc (Nat.le_refl _) _)) hp hn hn1 hn2 (by omega) (heap_alloc_new w _)).mono ?_
  rintro e w' ⟨z, h1, h2, h3, h4⟩
  exact ⟨z, hz z h1, h2, h3, grown_tr (World.grownBy_alloc w _ _) h4⟩
/-- a text out of a list that was just laid down -/
theorem of_lit (R p n most : Nat) (ws : List (List UInt8)) (w : World) (hr : Rdr w R p) (hp : p ≤ 1000000) (hn : n = ws.length) (hn1 : 1 ≤ n) (hn2 : n ≤ 1000) (hm : ∀ l ∈ ws, l.length ≤ most) :
    Calls Try.prog 31 #[.pointer (some ⟨R, 0, none⟩), .slice (some ⟨w.heap.size, 0, none⟩) n n] (w.alloc (.cells (ws.map txt).toArray 9)) (TxtPost R p 1 most w) := by
  have hlt := hr.lt
  refine (of_c R p w.heap.size n n ws _ (hr.below ((Below.refl _ _).alloc (Nat.le_refl _) _)) hp hn hn1 hn2 (by omega) (heap_alloc_new w _)).mono ?_
  intro e w' h
  exact of_small h (World.grownBy_alloc w _ _) hm

theorem Rdr.low {w w' : World} {R p B : Nat} (h : Rdr w R p) (hb : Below B w w') (hR : R < B) : Rdr w' R p := by
  obtain ⟨A, m, c, h1, h2, h3, h4, h5⟩ := h
  refine ⟨A, m, c, (hb.block R hR).trans h1, h2, h3, h4, fun hn => ?_⟩
  obtain ⟨b, o, e, i1, i2, i3⟩ := h5 hn
  refine ⟨b, o, e, i1, Nat.lt_of_lt_of_le i2 hb.size, fun j hj => ?_⟩
  obtain ⟨x, hx, hc⟩ := i3 j hj
  exact ⟨x, hx, (hb.cell (p := ⟨b, o + j, none⟩) (by show b < B; omega)).trans hc⟩
theorem grown_low {w w1 w2 : World} {r : Option Nat} (h : w.grownBy w1 r) (hb : Below w.heap.size w1 w2) : w.grownBy w2 r :=
  ⟨hb.os.trans h.os, hb.tape.trans h.tape, hb.output.trans h.output, Nat.le_trans h.size hb.size, fun k hk hr => (hb.block k hk).trans (h.block k hk hr)⟩
theorem own_cellset {w : World} {base d n c g b j : Nat} {e : TypeId} {xs : List Value} {u : Value} (h : w.ownsRow base e d (.slice (some ⟨g, 0, none⟩) n c) n xs) (hne : g ≠ b) : (w.setCell ⟨b, j, none⟩ u).ownsRow base e d (.slice (some ⟨g, 0, none⟩) n c) n xs :=
  h.kept (grow_cell w b j u) (.inr (fun e2 => hne (Option.some.inj e2)))
end Go.Proofs.Ytjejildgbmkbbaa
