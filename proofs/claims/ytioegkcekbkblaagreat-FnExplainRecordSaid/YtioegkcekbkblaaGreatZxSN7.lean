/-
  RECORDS SENT: the model's send. By gen_sn7.py.
-/
import Derived.Test.YtioegkcekbkblaaGreatZxSNM
import Derived.Deep.RegionHeld3
import Derived.BigQuiet
import Derived.Deep.MidRow
import Derived.Deep.DeepCutAuto
namespace Go.Proofs.YtioegkcekbkblaaGreat
open Go.RowKit Go.Proofs.YtioegkcekbkblaaGreat.Nm
set_option linter.unusedSimpArgs false
set_option linter.unusedVariables false

theorem below_setCellsX {B : Nat} {w : World} (b : Nat) (hb : B ≤ b) : ∀ (vs : List Value) (o : Nat) (w' : World), Below B w w' → Below B w (w'.setCells b o vs)
  | [], _, _, h => h
  | v :: r, o, w', h => below_setCellsX b hb r (o + 1) _ (h.setCell (p := ⟨b, o, none⟩) hb v)
theorem Blk.thereX {w : World} {b : Nat} {cs : List Value} (h : Blk w b cs) : w.there b 0 cs.length := fun j hj => by
  have := h.2 j cs[j] (List.getElem?_eq_getElem hj)
  rw [Nat.zero_add]
  exact ⟨by rw [this.1]; rfl, this.2⟩
theorem size_setCellsX (b : Nat) : ∀ (vs : List Value) (o : Nat) (w : World), (w.setCells b o vs).heap.size = w.heap.size
  | [], _, _ => rfl
  | v :: r, o, w => by rw [World.setCells, size_setCellsX b r]; simp
theorem Blk.storeX {w : World} {b : Nat} {cs vs : List Value} (h : Blk w b cs) (hl : cs.length = vs.length) : Blk (w.setCells b 0 vs) b vs := by
  have ht := h.thereX
  rw [hl] at ht
  refine ⟨by rw [size_setCellsX]; exact h.1, fun j u hu => ⟨?_, ?_⟩⟩
  · have := World.rangeAt_setCells_same w b 0 vs ht j u hu
    rwa [Nat.zero_add] at this
  · rw [World.frozen?_setCells]
    have hj := (List.getElem?_eq_some_iff.1 hu).1
    have := (ht j hj).2
    rwa [Nat.zero_add] at this
theorem own_keptX {w w' : World} {base n sz b : Nat} {e : TypeId} {v : Value} {xs : List Value} (h : w.ownsRow base e sz v n xs) (hg : w.grownBy w' (some b)) (hne : ∀ z, v.ownBlock = some z → z ≠ b) : w'.ownsRow base e sz v n xs :=
  h.kept hg (by
    cases hq : v.ownBlock with
    | none => exact .inl rfl
    | some g => right; intro e; cases e; exact hne _ hq rfl)
theorem bytes_ext' {a b : ByteArray} (h : a.data.toList = b.data.toList) : a = b := by
  cases a; cases b; simp only at h; congr 1; exact Array.toList_inj.1 h
theorem Tryz.sizeHandlerX : (Tryz.prog.info? 47).map (·.size) = some 3 := by kernel_rfl
theorem filtersOk_all {l : List Flt} (h : filtersOk l = true) : l.all fltOk = true := by
  unfold filtersOk at h; simp only [Bool.and_eq_true] at h; exact h.1
theorem Tryz.sizeRecordX : (Tryz.prog.info? 28).map (·.size) = some 4 := by kernel_rfl
theorem tree_lv {L : List Lgr} {H : List Hnd} {q : Int} (h : treeOk L H q = true) : ∀ l ∈ L, 0 ≤ l.lv := fun l hl => ((tree_names h).2.2.2.2.2 l hl).1

end Go.Proofs.YtioegkcekbkblaaGreat
