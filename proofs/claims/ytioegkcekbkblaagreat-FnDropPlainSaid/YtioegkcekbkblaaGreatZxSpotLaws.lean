/-
  E20, E21, E22, E23, E24 laid together.
-/
import Derived.Test.YtioegkcekbkblaaGreatZxGM
import Derived.Test.YtioegkcekbkblaaGreatZxEM
import Derived.Test.YtioegkcekbkblaaGreatZxUM
import Derived.Deep.MidRow
import Derived.Test.YtioegkcekbkblaaGreatZxCM
/-
  LAWS OF SPOTS: lists of spots compared; spots and users, plain.
-/
namespace Go.Proofs.YtioegkcekbkblaaGreat
open Go.RowKit Nm
set_option linter.unusedSimpArgs false
set_option linter.unusedVariables false

variable {L : List Lgr} {H : List Hnd} {q : Int} {x : Name}
end Go.Proofs.YtioegkcekbkblaaGreat

/-
  A WHOLE STRUCT STORED INTO A BOX OF OURS, in a region that draws its order.
-/
namespace Go.Proofs.YtioegkcekbkblaaGreat
open Go.RowKit Nm
set_option linter.unusedSimpArgs false
set_option linter.unusedVariables false

theorem Blk.there {w : World} {b : Nat} {cs : List Value} (h : Blk w b cs) : w.there b 0 cs.length := fun j hj => by
  have := h.2 j cs[j] (List.getElem?_eq_getElem hj)
  rw [Nat.zero_add]
  exact ⟨by rw [this.1]; rfl, this.2⟩
theorem size_setCells (b : Nat) : ∀ (vs : List Value) (o : Nat) (w : World), (w.setCells b o vs).heap.size = w.heap.size
  | [], _, _ => rfl
  | v :: r, o, w => by rw [World.setCells, size_setCells b r]; simp
theorem Blk.store {w : World} {b : Nat} {cs vs : List Value} (h : Blk w b cs) (hl : cs.length = vs.length) : Blk (w.setCells b 0 vs) b vs := by
  have ht := h.there
  rw [hl] at ht
  refine ⟨by rw [size_setCells]; exact h.1, fun j u hu => ⟨?_, ?_⟩⟩
  · have := World.rangeAt_setCells_same w b 0 vs ht j u hu
    rwa [Nat.zero_add] at this
  · rw [World.frozen?_setCells]
    have hj := (List.getElem?_eq_some_iff.1 hu).1
    have := (ht j hj).2
    rwa [Nat.zero_add] at this
end Go.Proofs.YtioegkcekbkblaaGreat

/-
  STOP, plain: a logger's spots are its own, and those of its parent if it does not stop.
-/
namespace Go.Proofs.YtioegkcekbkblaaGreat
open Go.RowKit Nm
set_option linter.unusedSimpArgs false
set_option linter.unusedVariables false

variable {L : List Lgr} {H : List Hnd} {q : Int}
end Go.Proofs.YtioegkcekbkblaaGreat

/-
  A LOGGER ADDED, plain: no level and no spot changes.
-/
namespace Go.Proofs.YtioegkcekbkblaaGreat
open Go.RowKit Nm
set_option linter.unusedSimpArgs false
set_option linter.unusedVariables false

variable {L : List Lgr} {H : List Hnd} {q : Int}
end Go.Proofs.YtioegkcekbkblaaGreat

/-
  LAWS: the names of a tree's loggers.
-/
namespace Go.Proofs.YtioegkcekbkblaaGreat
open Go.RowKit Nm
set_option linter.unusedSimpArgs false
set_option linter.unusedVariables false

set_option maxHeartbeats 2000000 in
set_option maxRecDepth 100000 in
theorem lawNames_c {w : World} {B : Nat} {v : Value} {L : List Lgr} {H : List Hnd} {q : Int} (h : TreeIn w B v L H q) (hB : B ≤ w.heap.size) (h8 : L.length ≤ 8) :
    Calls Tryz.prog 36 #[v] w (StrsPost w (nsOf L)) := by
  obtain ⟨A1, n1, k1, A2, n2, k2, rfl⟩ := h.form
  obtain ⟨ls, hl, hL⟩ := h.loggers
  have hn : n1 = L.length := by rw [← hL, ← hl.count]; simp [lsOf]
  have hlen : (nsOf L).length = n1 := by unfold nsOf; rw [List.length_map, hn]
  have hcap := hl.1.cap
  unfold maxLen at hcap
  have HV := hid (And.intro hl (And.intro hL hlen))
  have hn8 : n1 ≤ 8 := by omega
  clear h hl hL hlen hn
  obtain ⟨w2, hw2⟩ : ∃ w2, w2 = w.alloc (.cells #[.slice A1 n1 k1, .slice A2 n2 k2, .int .i64 q] 26) := ⟨_, rfl⟩
  have hs2 : w2.heap.size = w.heap.size + 1 := by rw [hw2]; simp
  have HB2 := hid (show Below w.heap.size w w2 by rw [hw2]; exact (Below.refl _ _).alloc (Nat.le_refl _) _)
  have HK2 := hid (show Blk w2 w.heap.size [.slice A1 n1 k1, .slice A2 n2 k2, .int .i64 q] by rw [hw2]; exact Blk.new w _ _)
  have H0 := hid (show (w2.alloc (.cells #[] 9)).ownsRow w2.heap.size 9 1 (.slice (some ⟨w2.heap.size, 0, none⟩) 0 0) 0 [] from World.ownsRow_lit w2 #[] 0 (Nat.le_refl _) (by unfold maxLen; omega) rfl)
  have HB3 := hid (show Below w2.heap.size w2 (w2.alloc (.cells #[] 9)) from (Below.refl _ _).alloc (Nat.le_refl _) _)
  rw [hs2] at H0
  have HS2 := hid hs2
  have hlt2 : w.heap.size < w2.heap.size := by omega
  clear hs2
  go_enter Tryz.func36, Tryz.ntmps36
  go_wp2_with fail
  rw [← hw2]
  clear hw2


  go_loopw [3, 4] (fun sv iv wr => ∃ (k : Nat) (pre : List Name), iv = .int .i64 k ∧ k ≤ n1 ∧ Hid (pre = (nsOf L).take k) ∧ pre.length = k ∧ wr.ownsRow (w.heap.size + 1) 9 1 sv pre.length (pre.map txt) ∧ Hid (Below w2.heap.size w2 wr)) (fun _ iv _ => n1 - (intOf iv).toNat)
  case atStart => exact ⟨0, [], rfl, by omega, rfl, rfl, H0.out, HB3.out⟩
  case round =>
    obtain ⟨k, pre, rfl, hk, HE, rfl, hown, HBx⟩ := hrel
    obtain ⟨Ax, cx, rfl, _, _⟩ := (Sl.of_own hown).form
    have HO := hid hown
    have HW := hid (HB2.out.trans (HBx.out.mono HB2.out.size))
    have d0 := ((HK2.out.below HBx.out hlt2).2 0 _ rfl).1
    have hbs : w.heap.size + 1 ≤ wr.heap.size := by have := HBx.out.size; have := HS2.out; omega
    clear hown
    by_cases hlt : pre.length < n1
    · obtain ⟨b, o, y, p, rfl, hbB, hy, hp, hps, _, _, g0, _⟩ := HV.out.1.at_ hlt
      have hbw : b < w.heap.size := by omega
      have c0 := (HW.out.cell (p := ⟨b, o + pre.length * 6, none⟩) hbw).trans g0
      have HP := hid (show (nsOf L)[pre.length]? = some p.data.toList by rw [← HV.out.2.1]; unfold nsOf lsOf; rw [List.map_map, List.getElem?_map, hy, hp]; rfl)
      clear hy hp hps g0
      go_wp2_with (at_builtin; refine appText _ rfl (.tmp 13) (.tmp 20) rfl (w.heap.size + 1) _ pre (by rfl) HO.out p _ _ _ (by rfl) (by simp) (by omega) hbs ?_)
      intro v' w4 ho4 hb4
      have HO4 := hid ho4
      have HB4 := hid (HBx.out.trans (hb4.mono (by have := HS2.out; omega)))
      clear ho4 hb4
      go_wp2_with fail
      go_roundw
      case rel =>
        refine ⟨pre.length + 1, pre ++ [p.data.toList], by go_num, by omega, ?_, by simp, by simpa using HO4.out, HB4.out⟩
        show _ = _
        rw [List.take_add_one, HP.out, ← HE.out]; rfl
      case measure => simp [intOf]; omega
    · have HF := hid (show nsOf L = pre by rw [HE.out, List.take_of_length_le (by have := HV.out.2.2; omega)])
      go_wp2_with fail
      go_ret
      exact ⟨_, rfl, by rw [HF.out]; exact own_base HO.out (by omega), HW.out⟩
end Go.Proofs.YtioegkcekbkblaaGreat
