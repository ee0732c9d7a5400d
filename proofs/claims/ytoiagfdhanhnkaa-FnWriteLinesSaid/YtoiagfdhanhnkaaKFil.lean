/-
  Files: told by its rows. By gen_kind.py.
-/
import Derived.Test.YtoiagfdhanhnkaaKStrss
namespace Go.Proofs.Ytoiagfdhanhnkaa
open Go.RowKit Nm
set_option linter.unusedSimpArgs false
set_option linter.unusedVariables false

structure Fil where
  mo : Int
  ke : Int
  li : StrssD
def FilR (rs : List Row) (v : Value) (d : Fil) : Prop := ∃ u, v = .agg #[.int .i64 d.mo, .int .i64 d.ke, u] ∧ StrssR rs u d.li
def FilIn (w : World) (B : Nat) (v : Value) (d : Fil) : Prop := ∃ u, v = .agg #[.int .i64 d.mo, .int .i64 d.ke, u] ∧ StrssIn w B u d.li
def FilM (rs : List Row) (v : Value) (k r : Nat) : Prop := ∃ (u : Value) (mo : Int) (ke : Int), v = .agg #[.int .i64 mo, .int .i64 ke, u] ∧ StrssM rs u k r
def FilFit (d : Fil) : Prop := StrssFit d.li
section
variable {w w' : World} {B B' lo : Nat} {v : Value} {d : Fil} {rs rest : List Row}
theorem FilIn.below (h : FilIn w B v d) (hb : Below B' w w') (hB : B ≤ B') : FilIn w' B v d := by obtain ⟨u, h1, h2⟩ := h; exact ⟨u, h1, h2.below hb hB⟩
theorem FilIn.form (h : FilIn w B v d) : ∃ A n c, v = .agg #[.int .i64 d.mo, .int .i64 d.ke, .slice A n c] := by obtain ⟨u, rfl, h2⟩ := h; obtain ⟨A, n, c, rfl⟩ := h2.form; exact ⟨A, n, c, rfl⟩
theorem FilR.at_ (h : FilR rs v d) (hr : Rows w lo rs) (hf : FilFit d) : FilIn w w.heap.size v d := by obtain ⟨u, h1, h2⟩ := h; exact ⟨u, h1, h2.at_ hr hf⟩
theorem FilR.form (h : FilR rs v d) (hr : Rows w lo rs) : ∃ A n c, v = .agg #[.int .i64 d.mo, .int .i64 d.ke, .slice A n c] := by obtain ⟨u, rfl, h2⟩ := h; obtain ⟨A, n, c, rfl⟩ := h2.form hr; exact ⟨A, n, c, rfl⟩
end

set_option maxHeartbeats 1000000 in
set_option maxRecDepth 100000 in
theorem szFiles_c (mo : Int) (ke : Int) (A : Option Addr) (n c B : Nat) (l : StrssD) (left : Int) (w : World) (hv : StrssRaw w B A n c l) (hB : B ≤ w.heap.size) (h0 : 0 ≤ left) (h1 : left ≤ 1048576) :
    Calls Try.prog 12 #[.agg #[.int .i64 mo, .int .i64 ke, .slice A n c], .int .i64 left] w (SzPost left (StrssFit l) w) := by
  have C := hid (fun (w1 : World) (hb : Below w.heap.size w w1) => szStrssY_c A n c l B left w1 (hv.below hb hB) (Nat.le_trans hB hb.size) h0 h1)
  clear hv
  go_enter Try.func12, Try.ntmps12
  go_wp2_with fail
  refine (C.out _ (by go_grown)).mono ?_
  rintro e w1 ⟨r, rfl, hb, hr⟩
  have HB := hid (show Below w.heap.size w w1 from (by go_grown : Below w.heap.size w (w.alloc (.cells #[.int .i64 mo, .int .i64 ke, .slice A n c] 24))).trans (hb.mono (by simp)))
  clear hb
  rcases hr with hr | ⟨hr0, hr1, hf⟩
  · have HF := hid hr
    go_wp2_with fail
    go_ret
    exact ⟨_, rfl, HB.out, .inl (by omega)⟩
  · have HF := hid hf
    clear hf
    go_wp2_with fail
    go_ret
    exact ⟨_, rfl, HB.out, .inr ⟨hr0, hr1, HF.out⟩⟩

set_option maxHeartbeats 1000000 in
set_option maxRecDepth 100000 in
theorem toFilesX_c (mo : Int) (ke : Int) (A : Option Addr) (n c B : Nat) (l : StrssD) (w : World) (hv : StrssRaw w B A n c l) (hB : B ≤ w.heap.size) (hf : StrssFit l) :
    Calls Try.prog 14 #[.agg #[.int .i64 mo, .int .i64 ke, .slice A n c]] w fun e w' => ∃ v' rs, e = .returned v' ∧ FilR rs v' ⟨mo, ke, l⟩ ∧ Rows w' w.heap.size rs ∧ Below w.heap.size w w' := by
  have C := hid (fun (w1 : World) (hb : Below w.heap.size w w1) => toStrssY_c A n c l B w1 (hv.below hb hB) (Nat.le_trans hB hb.size) hf)
  clear hv hf
  go_enter Try.func14, Try.ntmps14
  go_wp2_with fail
  refine (C.out _ (by go_grown)).mono ?_
  rintro e w1 ⟨v', rs, rfl, hs, hr, hb⟩
  obtain ⟨A', n', c', rfl⟩ := hs.form hr
  have K1 := (Blk.new _ _ _).to hb
  have R1 := ((Blk.new _ _ _).alloc _).to hb
  have I1 := (((Blk.new _ _ _).alloc _).alloc _).to hb
  simp only [World.size_alloc] at K1 R1 I1
  have HB1 := hid (Below.trans (by go_grown) (hb.mono (by simp; omega)) : Below w.heap.size w w1)
  have HO1 := hid (hr.base (by simp) : Rows w1 (w.heap.size + 3) _)
  have HS1 := hid (show w.heap.size + 3 ≤ w1.heap.size by have := hb.size; simp at this; omega)
  have HS := hid hs
  have HR := hid R1
  obtain ⟨k0c, k0f⟩ := K1.2 0 _ rfl
  obtain ⟨r0c, r0f⟩ := R1.2 0 _ rfl
  have i0c := (I1.2 0 _ rfl).1
  obtain ⟨k1c, k1f⟩ := K1.2 1 _ rfl
  obtain ⟨r1c, r1f⟩ := R1.2 1 _ rfl
  have i1c := (I1.2 1 _ rfl).1
  obtain ⟨k2c, k2f⟩ := K1.2 2 _ rfl
  obtain ⟨r2c, r2f⟩ := R1.2 2 _ rfl
  have i2c := (I1.2 2 _ rfl).1
  have hs1 := HS1.out
  clear K1 R1 I1 hb hr hs
  go_wp2_with fail
  have RB := ((((HR.out.apart ⟨w.heap.size + 1 + 1, 2, none⟩ (.slice A' n' c') (by simp)).set 0 (.int .i64 mo)).set 1 (.int .i64 ke)).set 2 (.slice A' n' c'))
  have f0 := (RB.2 0 _ rfl).1
  have f1 := (RB.2 1 _ rfl).1
  have f2 := (RB.2 2 _ rfl).1
  refine bodyPost_ret (v := .agg #[.int .i64 mo, .int .i64 ke, .slice A' n' c']) (by simp [results, Try.results14, go_sem, f0, f1, f2]) rfl ?_
  refine ⟨_, _, rfl, ⟨_, rfl, HS.out⟩, ?_, ?_⟩
  · exact (((((HO1.out.low (b := w.heap.size + 1 + 1) (j := 2) (u := .slice A' n' c') (by omega)).low (b := w.heap.size + 1) (j := 0) (u := .int .i64 mo) (by omega)).low (b := w.heap.size + 1) (j := 1) (u := .int .i64 ke) (by omega)).low (b := w.heap.size + 1) (j := 2) (u := .slice A' n' c') (by omega))).base (by omega)
  · exact ((((HB1.out.setCell (p := ⟨w.heap.size + 1 + 1, 2, none⟩) (by simp; omega) (.slice A' n' c')).setCell (p := ⟨w.heap.size + 1, 0, none⟩) (by simp) (.int .i64 mo)).setCell (p := ⟨w.heap.size + 1, 1, none⟩) (by simp) (.int .i64 ke)).setCell (p := ⟨w.heap.size + 1, 2, none⟩) (by simp) (.slice A' n' c'))

set_option maxHeartbeats 1000000 in
set_option maxRecDepth 100000 in
theorem eqFilesX_c {rs rs' : List Row} {v v' : Value} {d : Fil} {w : World} {lo lo' : Nat} (h : FilR rs v d) (hr : Rows w lo rs) (h' : FilR rs' v' d) (hr' : Rows w lo' rs') :
    Calls Try.prog 16 #[v, v'] w (BoolPost w true) := by
  obtain ⟨u, rfl, h1⟩ := h
  obtain ⟨u', rfl, h1'⟩ := h'
  obtain ⟨mo, ke, li⟩ := d
  obtain ⟨A, n, c, rfl⟩ := h1.form hr
  obtain ⟨A', n', c', rfl⟩ := h1'.form hr'
  have b0 : (mo == mo) = true := by simp
  have b1 : (ke == ke) = true := by simp
  have C := hid (fun (w1 : World) (hb : Below w.heap.size w w1) => eqStrssX_c h1 (hr.below hb) h1' (hr'.below hb))
  clear h1 h1' hr hr'
  go_enter Try.func16, Try.ntmps16
  go_wp2_with fail
  refine (C.out _ (by go_grown)).mono ?_
  rintro e w1 ⟨rfl, hb⟩

  have HB := hid (Below.mono hb (by simp; try omega) : Below w.heap.size _ w1)
  clear hb
  go_wp2_with fail
  all_goals go_ret
  all_goals exact ⟨rfl, Below.trans (by go_grown) HB.out⟩

set_option maxHeartbeats 1000000 in
set_option maxRecDepth 100000 in
theorem markFilesX_c {rs rest : List Row} {v : Value} {d : Fil} {w : World} {lo k : Nat} (h : FilR rs v d) (hR : Rows w lo (rs ++ rest)) (hlo : lo ≤ w.heap.size) (hd : FilFit d) (hk : k ≤ 17179869184) :
    Calls Try.prog 17 #[v, .int .i64 k] w fun e w' => ∃ (r : Nat) (rs' : List Row), e = .returned (.int .i64 (r : Int)) ∧ FilM rs' v k r ∧ Rows w' lo (rs' ++ rest) ∧ Below lo w w' ∧ r ≤ k + 8796093022208 := by
  obtain ⟨u, rfl, h1⟩ := h
  obtain ⟨mo, ke, li⟩ := d
  obtain ⟨A, n, c, rfl⟩ := h1.form hR.left
  have C := hid (fun (w1 : World) (hb : Below w.heap.size w w1) => markStrssX_c h1 (hR.below hb) (Nat.le_trans hlo hb.size) hd hk)
  clear h1 hR hd
  go_enter Try.func17, Try.ntmps17
  go_wp2_with fail
  refine (C.out _ (by go_grown)).mono ?_
  rintro e w1 ⟨r, rs', rfl, hM, hR, hb, hr⟩
  have HB := hid (Below.trans (show Below lo w _ from Below.mono (by go_grown) hlo) hb)
  have HX := hid (And.intro hM hR)
  clear hb hM hR
  go_wp2_with fail
  go_ret
  exact ⟨r, rs', rfl, ⟨_, mo, ke, rfl, HX.out.1⟩, HX.out.2, HB.out, hr⟩

set_option maxHeartbeats 1000000 in
set_option maxRecDepth 100000 in
theorem heldFilesX_c {rs : List Row} {v : Value} {k r lo : Nat} {w : World} (h : FilM rs v k r) (hR : Rows w lo rs) :
    Calls Try.prog 18 #[v, .int .i64 k] w fun e w' => e = .returned (.int .i64 (r : Int)) ∧ Below w.heap.size w w' := by
  obtain ⟨u, mo, ke, rfl, hM⟩ := h
  obtain ⟨A, n, c, rfl⟩ := hM.form hR
  have C := hid (fun (w1 : World) (hb : Below w.heap.size w w1) => heldStrssX_c hM (hR.below hb))
  clear hM hR
  go_enter Try.func18, Try.ntmps18
  go_wp2_with fail
  refine (C.out _ (by go_grown)).mono ?_
  rintro e w1 ⟨rfl, hb⟩
  have HB := hid (Below.mono hb (by simp; try omega) : Below w.heap.size _ w1)
  clear hb
  go_wp2_with fail
  all_goals go_ret
  all_goals exact ⟨rfl, Below.trans (by go_grown) HB.out⟩
def FilRaw (w : World) (B : Nat) (A : Option Addr) (n c : Nat) (d : Fil) : Prop := StrssRaw w B A n c d.li
theorem FilRaw.below {w w' : World} {B B' : Nat} {A : Option Addr} {n c : Nat} {d : Fil} (h : FilRaw w B A n c d) (hb : Below B' w w') (hB : B ≤ B') : FilRaw w' B A n c d := StrssRaw.below h hb hB
theorem szFilesY_c (A : Option Addr) (n c : Nat) (d : Fil) (B : Nat) (left : Int) (w : World) (h : FilRaw w B A n c d) (hB : B ≤ w.heap.size) (h0 : 0 ≤ left) (h1 : left ≤ 1048576) :
    Calls Try.prog 12 #[.agg #[.int .i64 d.mo, .int .i64 d.ke, .slice A n c], .int .i64 left] w (SzPost left (FilFit d) w) := szFiles_c d.mo d.ke A n c B d.li left w h hB h0 h1
theorem toFilesY_c (A : Option Addr) (n c : Nat) (d : Fil) (B : Nat) (w : World) (h : FilRaw w B A n c d) (hB : B ≤ w.heap.size) (hf : FilFit d) :
    Calls Try.prog 14 #[.agg #[.int .i64 d.mo, .int .i64 d.ke, .slice A n c]] w fun e w' => ∃ v' rs, e = .returned v' ∧ FilR rs v' d ∧ Rows w' w.heap.size rs ∧ Below w.heap.size w w' := toFilesX_c d.mo d.ke A n c B d.li w h hB hf
end Go.Proofs.Ytoiagfdhanhnkaa
