/-
  WALKS: names and pairs of names that are drawn.
-/
import Derived.Test.YtjejildgbmkbbaaW9
namespace Go.Proofs.Ytjejildgbmkbbaa
open Go.RowKit Nm
set_option linter.unusedSimpArgs false
set_option linter.unusedVariables false

/-- a drawn text: of at most 'most' bytes; the reader has gone on by at most dp -/
def TxtPost (R p dp most : Nat) (w : World) (e : Ending) (w' : World) : Prop :=
  ∃ (x : ByteArray) (p' : Nat), x.size ≤ most ∧ e = .returned (.string x) ∧ p' ≤ p + dp ∧ Rdr w' R p' ∧ w.grownBy w' (some R)

def OfPost (R p : Nat) (ws : List (List UInt8)) (w : World) (e : Ending) (w' : World) : Prop :=
  ∃ x : ByteArray, x.data.toList ∈ ws ∧ e = .returned (.string x) ∧ Rdr w' R (p + 1) ∧ w.grownBy w' (some R)

set_option maxHeartbeats 1000000 in
set_option maxRecDepth 100000 in
theorem of_c (R p g n c : Nat) (ws : List (List UInt8)) (w : World) (hr : Rdr w R p) (hp : p ≤ 1000000) (hn : n = ws.length) (hn1 : 1 ≤ n) (hn2 : n ≤ 1000) (hgR : g ≠ R) (hg : w.heap[g]? = some (.cells (ws.map txt).toArray 9 (0, 0))) :
    Calls Try.prog 31 #[.pointer (some ⟨R, 0, none⟩), .slice (some ⟨g, 0, none⟩) n c] w (OfPost R p ws w) := by
  have hcall := hid (pick_c R p n w hr hp (by omega))
  have hglt : g < w.heap.size := (Array.getElem?_eq_some_iff.1 hg).1
  have HN := hid (And.intro hn hg)
  clear hn hg
  go_enter Try.func31, Try.ntmps31
  go_wp2_with fail
  refine hcall.out.mono ?_
  rintro e w1 ⟨k, rfl, hk1, hk2, hr1, hg1⟩
  have hkn : k < n := by have := hk1 (by omega); omega
  obtain ⟨hn, hg⟩ := HN.out
  obtain ⟨x, hx1, hx2⟩ := txt_at ws k (by omega)
  have hb1 : w1.heap[g]? = some (.cells (ws.map txt).toArray 9 (0, 0)) := (hg1.block g hglt (by simpa using hgR)).trans hg
  have hc1 : w1.cell? ⟨g, k, none⟩ = some (.string x) := by
    rw [cell_of_row w1 g k _ _ _ hb1]; simpa using hx2
  have HX := hid (List.mem_of_getElem? hx1)
  have HR := hid (And.intro hr1 hg1)
  clear hk1 hk2 hr1 hg1 hn hg hx1 hx2 hb1
  go_wp2_with fail
  go_ret
  exact ⟨x, HX.out, rfl, HR.out.1, HR.out.2⟩

theorem of_small {R p : Nat} {ws : List (List UInt8)} {w w0 w' : World} {e : Ending} {most : Nat} (h : OfPost R p ws w e w') (hw : w0.grownBy w (some R)) (hm : ∀ l ∈ ws, l.length ≤ most) : TxtPost R p 1 most w0 e w' := by
  obtain ⟨x, hx, he, hr, hg⟩ := h
  exact ⟨x, p + 1, by rw [Lib.size_eq]; exact hm _ hx, he, Nat.le_refl _, hr, grown_tr hw hg⟩

def aNames : List (List UInt8) := [[97], [97, 46, 98], [97, 46, 98, 46, 99], [98], [97, 46, 99], [98, 46, 97], [], [97, 46, 98, 46, 99, 46, 100], [99]]
def badNames : List (List UInt8) := [[65], [97, 46], [46, 97], [97, 46, 46, 98], [97, 98, 99, 100, 101], [97, 46, 98, 46, 99, 46, 100, 46, 101], [97, 32, 98], [97, 98, 46, 97]]

set_option maxHeartbeats 1000000 in
set_option maxRecDepth 100000 in
theorem aName_c (R p : Nat) (w : World) (hr : Rdr w R p) (hp : p ≤ 1000000) :
    Calls Try.prog 32 #[.pointer (some ⟨R, 0, none⟩)] w (TxtPost R p 1 12 w) := by
  have hlt := hr.lt
  have HR := hid hr
  clear hr
  go_enter Try.func32, Try.ntmps32
  go_wp2_with fail
  refine (of_c R p w.heap.size 9 9 aNames _ ?_ hp rfl (by omega) (by omega) (by omega) (heap_alloc_new w _)).mono ?_
  · exact HR.out.below ((Below.refl _ _).alloc (Nat.le_refl _) _)
  intro e w1 h1
  have H1 := hid (of_small (most := 12) h1 (World.grownBy_alloc w _ _) (by decide))
  obtain ⟨x, hx, rfl, _, _⟩ := h1
  clear hx
  go_wp2_with fail
  go_ret
  exact H1.out

set_option maxHeartbeats 1000000 in
set_option maxRecDepth 100000 in
theorem anyName_c (R p : Nat) (w : World) (hr : Rdr w R p) (hp : p ≤ 900000) :
    Calls Try.prog 15 #[.pointer (some ⟨R, 0, none⟩)] w (TxtPost R p 2 12 w) := by
  have hcall := hid (pick_c R p 12 w hr (by omega) (by omega))
  clear hr
  go_enter Try.func15, Try.ntmps15
  go_wp2_with fail
  refine hcall.out.mono ?_
  rintro e w1 ⟨k, rfl, _, _, hr1, hg1⟩
  have HR := hid (And.intro hr1 hg1)
  have hlt := hr1.lt
  clear hr1 hg1
  by_cases hk : k = 0
  · subst hk
    go_wp2_with fail
    refine (of_c R (p + 1) w1.heap.size 8 8 badNames _ ?_ (by omega) rfl (by omega) (by omega) (by omega) (heap_alloc_new w1 _)).mono ?_
    · exact HR.out.1.below ((Below.refl _ _).alloc (Nat.le_refl _) _)
    intro e w2 h2
    have H2 := hid (of_small (most := 12) h2 (grown_tr HR.out.2 (World.grownBy_alloc w1 _ _)) (by decide))
    obtain ⟨x, hx, rfl, _, _⟩ := h2
    clear hx
    go_wp2_with fail
    go_ret
    obtain ⟨x', p', h1, h2, h3, h4, h5⟩ := H2.out
    exact ⟨x', p', h1, h2, by omega, h4, h5⟩
  · have b0 : ((k : Int) == 0) = false := by simpa using hk
    have HK := hid hk
    clear hk
    go_wp2_with fail
    refine (aName_c R (p + 1) w1 HR.out.1 (by omega)).mono ?_
    rintro e w2 ⟨x, p', hx, rfl, hp', hr2, hg2⟩
    have H2 := hid (And.intro hr2 hg2)
    clear hr2 hg2
    go_wp2_with fail
    go_ret
    exact ⟨x, p', hx, rfl, by omega, H2.out.1, grown_tr HR.out.2 H2.out.2⟩

/-- a drawn name; nothing that was there has turned -/
def DrawnPost (most : Nat) (w : World) (e : Ending) (w' : World) : Prop := ∃ x : ByteArray, x.size ≤ most ∧ e = .returned (.string x) ∧ Below w.heap.size w w'
def Drawn2Post (most : Nat) (w : World) (e : Ending) (w' : World) : Prop := ∃ x y : ByteArray, x.size ≤ most ∧ y.size ≤ most ∧ e = .returned (.tuple #[.string x, .string y]) ∧ Below w.heap.size w w'
theorem below_own {w w' : World} {R B : Nat} (hg : w.grownBy w' (some R)) (hB : B ≤ w.heap.size) (hR : B ≤ R) : Below B w w' := below_of_grown hg hB (fun k hk => by cases hk; exact hR)

end Go.Proofs.Ytjejildgbmkbbaa
