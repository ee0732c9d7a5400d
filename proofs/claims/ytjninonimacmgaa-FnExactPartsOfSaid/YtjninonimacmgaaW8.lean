/-
  WALK: the law FnExactPartsOf: the words of a name answer as the model, and own their memory.
-/
import Derived.Test.YtjninonimacmgaaW7
namespace Go.Proofs.Ytjninonimacmgaa
open Go.RowKit Nm
set_option linter.unusedSimpArgs false
set_option linter.unusedVariables false

theorem own_grown {w w' : World} {base n sz : Nat} {e : TypeId} {v : Value} {xs : List Value} (h : w.ownsRow base e sz v n xs) {v2 : Value} (hg : w.grownBy w' v2.ownBlock) (hb : Below base w w') : Below base w w' := hb
theorem mark_below {w w' : World} {base n sz : Nat} {e : TypeId} {v : Value} {xs : List Value} (h : w.ownsRow base e sz v n xs) (hg : w.grownBy w' v.ownBlock) (hb : base ≤ w.heap.size) : Below base w w' := below_of_grown hg hb (own_lt h)

set_option maxHeartbeats 4000000 in
set_option maxRecDepth 100000 in
theorem walk_FnExactPartsOf (s : ByteArray) (w : World) (hs : s.size ≤ maxLen) :
    Calls Try.prog 8 #[.string s] w (BoolPost w true) := by
  have hs' := hs
  unfold maxLen at hs'
  by_cases h1 : (1048576 : Int) < (s.size : Int)
  · go_enter Try.func8, Try.ntmps8
    go_wp2_with fail
    go_ret
    exact ⟨rfl, Below.refl _ _⟩
  have c1 := hid (fun W => specPartsOf_c s W (by omega))
  have c2 := hid (fun W => implPartsOf_c s W hs)
  have hlen : (pw s.data.toList).length ≤ 4 := by
    unfold pw
    split
    · rename_i h; exact ((nameOk_iff _).1 h).2
    · simp
  generalize pw s.data.toList = x at c1 c2 hlen
  go_enter Try.func8, Try.ntmps8
  go_wp2_with fail
  refine (c1.out _).mono ?_
  rintro e w1 ⟨vw, rfl, hw1, hb1⟩
  obtain ⟨Aw, kw, rfl, _, _⟩ := (Sl.of_own hw1).form
  have HW := hid (And.intro hw1 hb1)
  clear hw1 hb1
  go_wp2_with fail
  refine (c2.out _).mono ?_
  rintro e w2 ⟨vg, rfl, hg2, hb2⟩
  obtain ⟨Ag, kg, rfl, _, _⟩ := (Sl.of_own hg2).form
  have SW2 := (Sl.of_own HW.out.1).below hb2 (Nat.le_refl _)
  have SG2 := (Sl.of_own hg2)
  have e3 := hid (eqStrs_c _ _ _ _ _ _ _ w2 SG2 (SW2.more hb2.size) (Nat.le_refl _))
  have HG := hid (And.intro hg2 (And.intro hb2 SW2))
  clear hg2 hb2 SW2 SG2
  rw [decide_eq_true (rfl : x = x)] at e3
  go_wp2_with fail
  refine e3.out.mono ?_
  rintro e w3 ⟨rfl, hb3⟩
  have e4 := hid (markStrs_c _ _ _ 1 _ w3 (own_below HG.out.1 hb3) (by omega))
  have H3 := hid hb3
  clear hb3 e3
  go_wp2_with fail
  refine e4.out.mono ?_
  rintro e w4 ⟨rfl, ⟨ys, hown4, hM4⟩, hg4⟩
  have hw14 : w1.heap.size ≤ w4.heap.size := by have := HG.out.2.1.size; have := H3.out.size; have := hg4.size; omega
  have hB4 : Below w1.heap.size w3 w4 := mark_below (own_below HG.out.1 H3.out) hg4 (by have := HG.out.2.1.size; have := H3.out.size; omega)
  have SW4 := ((HG.out.2.2.below H3.out HG.out.2.1.size).below hB4 (Nat.le_refl _))
  have e5 := hid (fun W (hW : Below w4.heap.size w4 W) => heldStrs_c _ _ _ 1 ys W ((Sl.of_own hown4).below hW (Nat.le_refl _)) hW.size hM4 (by omega))
  have H4 := hid (And.intro hB4 (And.intro SW4 hw14))
  clear hB4 SW4 hg4 hM4 hown4 e4 hw14
  go_wp2_with fail
  refine (e5.out _ (Below.refl _ _)).mono ?_
  rintro e w5 ⟨rfl, hb5⟩
  have H5 := hid hb5
  clear hb5
  go_wp2_with fail
  refine (c2.out _).mono ?_
  rintro e w6 ⟨vh, rfl, hh6, hb6⟩
  obtain ⟨Ah, kh, rfl, _, _⟩ := (Sl.of_own hh6).form
  have SW6 := ((H4.out.2.1.below H5.out H4.out.2.2).below hb6 (by have := H4.out.2.2; have := H5.out.size; omega)).more (B' := w6.heap.size) (by have := H4.out.2.2; have := H5.out.size; have := hb6.size; omega)
  have e6 := hid (eqStrs_c _ _ _ _ _ _ _ w6 (Sl.of_own hh6) SW6 (Nat.le_refl _))
  rw [decide_eq_true (rfl : x = x)] at e6
  have H6 := hid hb6
  clear SW6 hh6 hb6
  go_wp2_with fail
  refine e6.out.mono ?_
  rintro e w7 ⟨rfl, hb7⟩
  have H7 := hid hb7
  clear hb7 e6
  go_wp2_with fail
  refine (e5.out _ ((H5.out.trans (H6.out.mono H5.out.size)).trans (H7.out.mono (by have := H5.out.size; have := H6.out.size; omega)))).mono ?_
  rintro e w8 ⟨rfl, hb8⟩
  have H8 := hid hb8
  clear hb8
  go_wp2_with fail
  go_ret
  have s1 := HW.out.2.size
  have s2 := HG.out.2.1.size
  have s3 := H3.out.size
  have s4 := H4.out.2.2
  have s5 := H5.out.size
  have s6 := H6.out.size
  have s7 := H7.out.size
  exact ⟨rfl, HW.out.2.trans ((HG.out.2.1.mono s1).trans ((H3.out.mono (by omega)).trans ((H4.out.1.mono s1).trans ((H5.out.mono (by omega)).trans ((H6.out.mono (by omega)).trans ((H7.out.mono (by omega)).trans (H8.out.mono (by omega))))))))⟩
end Go.Proofs.Ytjninonimacmgaa
