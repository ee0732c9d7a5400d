/-
  DRAWS: numbers out of lists, texts, records.
-/
import Derived.Test.YthgkkckbncgfmaaW10
import Derived.Test.YthgkkckbncgfmaaKRecs
namespace Go.Proofs.Ythgkkckbncgfmaa
open Go.RowKit Nm
set_option linter.unusedSimpArgs false
set_option linter.unusedVariables false

theorem Rdr.off {w w' : World} {R p : Nat} {row : Option Nat} (h : Rdr w R p) (hg : w.grownBy w' row) (hb : ∀ g, row = some g → R < g) : Rdr w' R p := by
  obtain ⟨A, m, c, h1, h2, h3, h4, h5⟩ := h
  refine ⟨A, m, c, (hg.block R (Array.getElem?_eq_some_iff.1 h1).1 (fun e => by have := hb R e.symm; omega)).trans h1, h2, h3, h4, fun hn => ?_⟩
  obtain ⟨b, o, e, i1, i2, i3⟩ := h5 hn
  refine ⟨b, o, e, i1, Nat.lt_of_lt_of_le i2 hg.size, fun j hj => ?_⟩
  obtain ⟨x, hx, hc⟩ := i3 j hj
  exact ⟨x, hx, (World.cell?_of_block (hg.block b i2 (fun e => by have := hb b e.symm; omega))).trans hc⟩
theorem grow_cell (w : World) (b j : Nat) (u : Value) : w.grownBy (w.setCell ⟨b, j, none⟩ u) (some b) :=
  ⟨rfl, rfl, rfl, by simp, fun k _ hk => heap_setCell_other w ⟨b, j, none⟩ k _ (fun e => hk (by simp [e]))⟩
theorem Rdr.set {w : World} {R p b j : Nat} {u : Value} (h : Rdr w R p) (hb : R < b) : Rdr (w.setCell ⟨b, j, none⟩ u) R p := h.off (grow_cell w b j u) (fun g e => by cases e; exact hb)
theorem grown_off {w w' w2 : World} {r row : Option Nat} (h : w.grownBy w' r) (hg : w'.grownBy w2 row) (hb : ∀ g, row = some g → w.heap.size ≤ g) : w.grownBy w2 r :=
  ⟨hg.os.trans h.os, hg.tape.trans h.tape, hg.output.trans h.output, Nat.le_trans h.size hg.size, fun k hk hr => (hg.block k (Nat.lt_of_lt_of_le hk h.size) (fun e => by have := hb k e.symm; omega)).trans (h.block k hk hr)⟩
theorem grown_at {w w' : World} {r : Option Nat} (h : w.grownBy w' r) {b j : Nat} {u : Value} (hb : w.heap.size ≤ b) : w.grownBy (w'.setCell ⟨b, j, none⟩ u) r := grown_off h (grow_cell w' b j u) (fun g e => by cases e; exact hb)
theorem grown_new {w w' w2 : World} {r : Option Nat} (h : w.grownBy w' r) (hb : Below w'.heap.size w' w2) : w.grownBy w2 r := grown_tr h (grown_of hb r)
theorem own_off {w w' : World} {R base d n : Nat} {e : TypeId} {v : Value} {xs : List Value} (h : w.ownsRow base e d v n xs) (hg : w.grownBy w' (some R)) (hR : R < base) : w'.ownsRow base e d v n xs :=
  h.kept hg (.inr (fun e2 => by have := (h.lt R e2).1; omega))

def intv (z : Int) : Value := .int .i64 z
def OnePost (R p : Nat) (zs : List Int) (w : World) (e : Ending) (w' : World) : Prop :=
  ∃ z : Int, z ∈ zs ∧ e = .returned (.int .i64 z) ∧ Rdr w' R (p + 1) ∧ w.grownBy w' (some R)
theorem int_at (zs : List Int) (k : Nat) (hk : k < zs.length) : ∃ z, zs[k]? = some z ∧ (zs.map intv)[k]? = some (.int .i64 z) :=
  ⟨zs[k], List.getElem?_eq_getElem hk, by rw [List.getElem?_map, List.getElem?_eq_getElem hk]; rfl⟩

set_option maxHeartbeats 1000000 in
set_option maxRecDepth 100000 in
theorem one_c (R p g n c : Nat) (zs : List Int) (w : World) (hr : Rdr w R p) (hp : p ≤ 1000000) (hn : n = zs.length) (hn1 : 1 ≤ n) (hn2 : n ≤ 1000) (hgR : g ≠ R) (hg : w.heap[g]? = some (.cells (zs.map intv).toArray 3 (0, 0))) :
    Calls Try.prog 39 #[.pointer (some ⟨R, 0, none⟩), .slice (some ⟨g, 0, none⟩) n c] w (OnePost R p zs w) := by
  have hcall := hid (pick_c R p n w hr hp (by omega))
  have hglt : g < w.heap.size := (Array.getElem?_eq_some_iff.1 hg).1
  have HN := hid (And.intro hn hg)
  clear hn hg
  go_enter Try.func39, Try.ntmps39
  go_wp2_with fail
  refine hcall.out.mono ?_
  rintro e w1 ⟨k, rfl, hk1, hk2, hr1, hg1⟩
  have hkn : k < n := by have := hk1 (by omega); omega
  obtain ⟨hn, hg⟩ := HN.out
  obtain ⟨x, hx1, hx2⟩ := int_at zs k (by omega)
  have hb1 : w1.heap[g]? = some (.cells (zs.map intv).toArray 3 (0, 0)) := (hg1.block g hglt (by simpa using hgR)).trans hg
  have hc1 : w1.cell? ⟨g, k, none⟩ = some (.int .i64 x) := by
    rw [cell_of_row w1 g k _ _ _ hb1]; simpa using hx2
  have HX := hid (List.mem_of_getElem? hx1)
  have HR := hid (And.intro hr1 hg1)
  clear hk1 hk2 hr1 hg1 hn hg hx1 hx2 hb1
  go_wp2_with fail
  go_ret
  exact ⟨x, HX.out, rfl, HR.out.1, HR.out.2⟩
/-- a number out of a list that was just laid down -/
theorem one_lit (R p n : Nat) (zs : List Int) (w : World) (hr : Rdr w R p) (hp : p ≤ 1000000) (hn : n = zs.length) (hn1 : 1 ≤ n) (hn2 : n ≤ 1000) (lo hi : Int) (hz : ∀ z ∈ zs, lo ≤ z ∧ z ≤ hi) :
    Calls Try.prog 39 #[.pointer (some ⟨R, 0, none⟩), .slice (some ⟨w.heap.size, 0, none⟩) n n] (w.alloc (.cells (zs.map intv).toArray 3)) fun e w' =>
      ∃ z : Int, (lo ≤ z ∧ z ≤ hi) ∧ e = .returned (.int .i64 z) ∧ Rdr w' R (p + 1) ∧ w.grownBy w' (some R) := by
  have hlt := hr.lt
  refine (one_c R p w.heap.size n n zs _ (hr.below ((Below.refl _ _).alloc (Nat.le_refl _) _)) hp hn hn1 hn2 (by omega) (heap_alloc_new w _)).mono ?_
  rintro e w' ⟨z, h1, h2, h3, h4⟩
  exact ⟨z, hz z h1, h2, h3, grown_tr (World.grownBy_alloc w _ _) h4⟩
/-- a text out of a list that was just laid down -/
theorem of_lit (R p n most : Nat) (ws : List (List UInt8)) (w : World) (hr : Rdr w R p) (hp : p ≤ 1000000) (hn : n = ws.length) (hn1 : 1 ≤ n) (hn2 : n ≤ 1000) (hm : ∀ l ∈ ws, l.length ≤ most) :
    Calls Try.prog 62 #[.pointer (some ⟨R, 0, none⟩), .slice (some ⟨w.heap.size, 0, none⟩) n n] (w.alloc (.cells (ws.map txt).toArray 9)) (TxtPost R p 1 most w) := by
  have hlt := hr.lt
  refine (of_c R p w.heap.size n n ws _ (hr.below ((Below.refl _ _).alloc (Nat.le_refl _) _)) hp hn hn1 hn2 (by omega) (heap_alloc_new w _)).mono ?_
  intro e w' h
  exact of_small h (World.grownBy_alloc w _ _) hm

def texts7 : List (List UInt8) := [[120], [110, 111], [120, 32, 121], [], [97, 108, 108, 32, 105, 115, 32, 119, 101, 108, 108], [110, 111, 32, 120], [103, 111, 32, 111, 110]]
set_option maxHeartbeats 1000000 in
set_option maxRecDepth 100000 in
theorem aText_c (R p : Nat) (w : World) (hr : Rdr w R p) (hp : p ≤ 1000000) :
    Calls Try.prog 67 #[.pointer (some ⟨R, 0, none⟩)] w (TxtPost R p 1 20 w) := by
  have C := hid (of_lit R p 7 20 texts7 w hr hp rfl (by omega) (by omega) (by decide))
  clear hr
  go_enter Try.func67, Try.ntmps67
  go_wp2_with fail
  refine C.out.mono ?_
  rintro e w1 ⟨x, p1, h1, rfl, h2, h3, h4⟩
  have H := hid (And.intro h3 h4)
  clear h3 h4
  go_wp2_with fail
  go_ret
  exact ⟨x, p1, h1, rfl, h2, H.out.1, H.out.2⟩

/-- a drawn record -/
def RecPost (R p dp : Nat) (w : World) (e : Ending) (w' : World) : Prop :=
  ∃ (nm tx : ByteArray) (lv sq : Int) (p' : Nat), (nm.size ≤ 20 ∧ tx.size ≤ 20) ∧ (-1000 ≤ lv ∧ lv ≤ 1000) ∧ (-1000 ≤ sq ∧ sq ≤ 1000) ∧ e = .returned (.agg #[.string nm, .int .i64 lv, .string tx, .int .i64 sq]) ∧ p' ≤ p + dp ∧ Rdr w' R p' ∧ w.grownBy w' (some R)

set_option maxHeartbeats 2000000 in
set_option maxRecDepth 100000 in
theorem aRecord_c (R p : Nat) (w : World) (hr : Rdr w R p) (hp : p ≤ 900000) :
    Calls Try.prog 57 #[.pointer (some ⟨R, 0, none⟩)] w (RecPost R p 4 w) := by
  have hlt := hr.lt
  have K0 := hid (Blk.new w #[.string ByteArray.empty, .int .i64 0, .string ByteArray.empty, .int .i64 0] 33)
  have C := hid (aName_c R p _ (hr.below ((Below.refl _ _).alloc (Nat.le_refl _) (.cells #[.string ByteArray.empty, .int .i64 0, .string ByteArray.empty, .int .i64 0] 33))) (by omega))
  clear hr
  go_enter Try.func57, Try.ntmps57
  go_wp2_with fail
  refine C.out.mono ?_
  rintro e w1 ⟨nm, p1, hnm, rfl, hp1, hr1, hg1⟩
  have G1 := hid (grown_tr (World.grownBy_alloc w _ _) hg1)
  have K1 := hid (K0.out.kept hg1 (by simp; omega))
  have C2 := hid (one_lit R p1 8 [20, 30, 10, 40, 50, 15, 1, 60] w1 hr1 (by omega) rfl (by omega) (by omega) 0 60 (by decide))
  clear hr1 hg1 C
  go_wp2_with fail
  refine C2.out.mono ?_
  rintro e w2 ⟨lv, hlv, rfl, hr2, hg2⟩
  have G2 := hid (grown_tr G1.out hg2)
  have K2 := hid (K1.out.kept hg2 (by simp; omega))
  have C3 := hid (aText_c R (p1 + 1) w2 hr2 (by omega))
  clear hr2 hg2 C2 K0 K1 G1
  go_wp2_with fail
  refine C3.out.mono ?_
  rintro e w3 ⟨tx, p3, htx, rfl, hp3, hr3, hg3⟩
  have G3 := hid (grown_tr G2.out hg3)
  have K3 := hid (K2.out.kept hg3 (by simp; omega))
  have C4 := hid (pick_c R p3 10 w3 hr3 (by omega) (by omega))
  clear hr3 hg3 C3 K2 G2
  go_wp2_with fail
  refine C4.out.mono ?_
  rintro e w4 ⟨k, rfl, hk1, hk2, hr4, hg4⟩
  have hk : (k : Int) < 10 := hk1 (by omega)
  have G4 := hid (grown_tr G3.out hg4)
  have K4 := K3.out.kept hg4 (by simp; omega)
  have R4 := hid hr4
  obtain ⟨k0, g0⟩ := K4.2 0 _ rfl
  obtain ⟨k1, g1⟩ := K4.2 1 _ rfl
  obtain ⟨k2, g2⟩ := K4.2 2 _ rfl
  obtain ⟨k3, g3⟩ := K4.2 3 _ rfl
  clear hr4 hg4 C4 K3 G3 hk1 hk2
  go_wp2_with fail
  have RB := (((K4.set 0 (.string nm)).set 1 (.int .i64 lv)).set 2 (.string tx)).set 3 (.int .i64 (k : Int))
  have f0 := (RB.2 0 _ rfl).1
  have f1 := (RB.2 1 _ rfl).1
  have f2 := (RB.2 2 _ rfl).1
  have f3 := (RB.2 3 _ rfl).1
  refine bodyPost_ret (v := .agg #[.string nm, .int .i64 lv, .string tx, .int .i64 (k : Int)]) (by simp [results, Try.results57, go_sem, f0, f1, f2, f3]) rfl ?_
  refine ⟨nm, tx, lv, k, p3 + 1, ⟨by omega, htx⟩, by omega, by omega, rfl, by omega, ?_, ?_⟩
  · exact (((R4.out.set hlt).set hlt).set hlt).set hlt
  · exact grown_at (grown_at (grown_at (grown_at G4.out (Nat.le_refl _)) (Nat.le_refl _)) (Nat.le_refl _)) (Nat.le_refl _)
end Go.Proofs.Ythgkkckbncgfmaa
