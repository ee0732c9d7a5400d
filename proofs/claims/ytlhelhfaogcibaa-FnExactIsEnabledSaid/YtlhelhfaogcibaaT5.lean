/-
  WALKS: ValidTree of the program.
-/
import Derived.Test.YtlhelhfaogcibaaT4
import Derived.Deep.RegionWith
namespace Go.Proofs.Ytlhelhfaogcibaa
open Go.RowKit Nm
set_option linter.unusedSimpArgs false
set_option linter.unusedVariables false

/-- a tree in memory -/
def TreeAt (w : World) (B : Nat) (v : Value) (ls : List LgrV) (hs : List HndV) (q : Int) : Prop :=
  ∃ A1 n1 k1 A2 n2 k2, v = .agg #[.slice A1 n1 k1, .slice A2 n2 k2, .int .i64 q] ∧ Ls w B n1 (.slice A1 n1 k1) ls ∧ Hs w B n2 (.slice A2 n2 k2) hs ∧ n1 ≤ 1048576 ∧ n2 ≤ 1048576 ∧ ∀ x ∈ ls, x.hn ≤ 1048576
theorem TreeAt.below {w w' : World} {B B' : Nat} {v : Value} {ls : List LgrV} {hs : List HndV} {q : Int} (h : TreeAt w B v ls hs q) (hb : Below B' w w') (hB : B ≤ B') : TreeAt w' B v ls hs q := by
  obtain ⟨A1, n1, k1, A2, n2, k2, e, h1, h2, r⟩ := h
  exact ⟨A1, n1, k1, A2, n2, k2, e, h1.below hb hB, h2.below hb hB, r⟩
theorem TreeAt.more {w : World} {B B' : Nat} {v : Value} {ls : List LgrV} {hs : List HndV} {q : Int} (h : TreeAt w B v ls hs q) (hB : B ≤ B') : TreeAt w B' v ls hs q := by
  obtain ⟨A1, n1, k1, A2, n2, k2, e, h1, h2, r⟩ := h
  exact ⟨A1, n1, k1, A2, n2, k2, e, h1.more hB, h2.more hB, r⟩

set_option maxHeartbeats 4000000 in
set_option maxRecDepth 100000 in
theorem implValidTree_c (v : Value) (B : Nat) (ls : List LgrV) (hs : List HndV) (q : Int) (w : World) (h : TreeAt w B v ls hs q) (hB : B ≤ w.heap.size) :
    Calls Try.prog 52 #[v] w (BoolPost w (treeOk (lsOf ls) (hsOf hs) q)) := by
  obtain ⟨A1, n1, k1, A2, n2, k2, rfl, h1, h2, hn1, hn2, hh⟩ := h
  have hb0 : Below w.heap.size w (w.alloc (.cells #[.slice A1 n1 k1, .slice A2 n2 k2, .int .i64 q] 31)) := (Below.refl _ _).alloc (Nat.le_refl _) _
  have LV := hid (fun W => isLevel_c q W)
  have VH := hid (fun (W : World) (hW : Below w.heap.size w W) => implHandlers_c (.slice A2 n2 k2) n2 B hs W (h2.below hW hB) (by have := hW.size; omega))
  have VL := hid (fun (W : World) (hW : Below w.heap.size w W) => implLoggers_c A1 A2 n1 k1 n2 k2 B q ls hs W (h1.below hW hB) (h2.below hW hB) (by have := hW.size; omega) hn1 hn2 hh)
  have CX := hid (fun (W : World) (hb : Below (w.alloc (.cells #[.slice A1 n1 k1, .slice A2 n2 k2, .int .i64 q] 31)).heap.size (w.alloc (.cells #[.slice A1 n1 k1, .slice A2 n2 k2, .int .i64 q] 31)) W) (j : Nat) =>
    (hb.cell (p := ⟨w.heap.size, j, none⟩) (by simp)).trans (cell_of_row _ w.heap.size j _ _ _ (heap_alloc_new w _)))
  have HE := hid (show treeOk (lsOf ls) (hsOf hs) q = (lvOk q && (hndsOk (hsOf hs) && lgrsOk (hsOf hs) (lsOf ls))) from rfl)
  have HB0 := hid hb0
  generalize treeOk (lsOf ls) (hsOf hs) q = z at HE ⊢
  generalize lvOk q = a at LV HE
  generalize hndsOk (hsOf hs) = b at VH HE
  generalize lgrsOk (hsOf hs) (lsOf ls) = c at VL HE
  clear h1 h2 hn1 hn2 hh hb0
  go_enter Try.func52, Try.ntmps52
  go_wp2_with fail
  refine (LV.out _).mono ?_
  rintro e w1 ⟨rfl, rfl⟩
  cases a with
  | false =>
    go_wp2_with fail
    go_ret
    exact ⟨ret_bool (by rw [HE.out]; rfl), HB0.out⟩
  | true =>
    go_wp2_with fail
    refine (VH.out _ HB0.out).mono ?_
    rintro e w2 ⟨rfl, hb2⟩
    have d0 : w2.cell? ⟨w.heap.size, 0, none⟩ = some (.slice A1 n1 k1) := CX.out w2 hb2 0
    have d1 : w2.cell? ⟨w.heap.size, 1, none⟩ = some (.slice A2 n2 k2) := CX.out w2 hb2 1
    have d2 : w2.cell? ⟨w.heap.size, 2, none⟩ = some (.int .i64 q) := CX.out w2 hb2 2
    have HB2 := hid (HB0.out.trans (hb2.mono HB0.out.size))
    clear hb2
    cases b with
    | false =>
      go_wp2_with fail
      go_ret
      exact ⟨ret_bool (by rw [HE.out]; rfl), HB2.out⟩
    | true =>
      go_wp2_with fail
      refine (VL.out _ HB2.out).mono ?_
      rintro e w3 ⟨rfl, hb3⟩
      have HB3 := hid (HB2.out.trans (hb3.mono HB2.out.size))
      clear hb3 d0 d1 d2
      go_wp2_with fail
      go_ret
      exact ⟨ret_bool (by rw [HE.out]; rfl), HB3.out⟩
end Go.Proofs.Ytlhelhfaogcibaa
