/-
  Buffer: told by its rows. By gen_kind.py.
-/
import Derived.Test.YtfjpfdmlcgkfeaaKRecs
namespace Go.Proofs.Ytfjpfdmlcgkfeaa
open Go.RowKit Nm
set_option linter.unusedSimpArgs false
set_option linter.unusedVariables false

structure Buf where
  rm : Int
  lv : Int
  rc : List Rec
def BufR (rs : List Row) (v : Value) (d : Buf) : Prop := ∃ u, v = .agg #[.int .i64 d.rm, .int .i64 d.lv, u] ∧ RecsR rs u d.rc
def BufIn (w : World) (B : Nat) (v : Value) (d : Buf) : Prop := ∃ u, v = .agg #[.int .i64 d.rm, .int .i64 d.lv, u] ∧ RecsIn w B u d.rc
def BufM (rs : List Row) (v : Value) (k r : Nat) : Prop := ∃ (u : Value) (rm : Int) (lv : Int), v = .agg #[.int .i64 rm, .int .i64 lv, u] ∧ RecsM rs u k r
def BufFit (d : Buf) : Prop := RecsFit d.rc
section
variable {w w' : World} {B B' lo : Nat} {v : Value} {d : Buf} {rs rest : List Row}
theorem BufIn.below (h : BufIn w B v d) (hb : Below B' w w') (hB : B ≤ B') : BufIn w' B v d := by obtain ⟨u, h1, h2⟩ := h; exact ⟨u, h1, h2.below hb hB⟩
theorem BufIn.form (h : BufIn w B v d) : ∃ A n c, v = .agg #[.int .i64 d.rm, .int .i64 d.lv, .slice A n c] := by obtain ⟨u, rfl, h2⟩ := h; obtain ⟨A, n, c, rfl⟩ := h2.form; exact ⟨A, n, c, rfl⟩
theorem BufR.at_ (h : BufR rs v d) (hr : Rows w lo rs) (hf : BufFit d) : BufIn w w.heap.size v d := by obtain ⟨u, h1, h2⟩ := h; exact ⟨u, h1, h2.at_ hr hf⟩
theorem BufR.form (h : BufR rs v d) (hr : Rows w lo rs) : ∃ A n c, v = .agg #[.int .i64 d.rm, .int .i64 d.lv, .slice A n c] := by obtain ⟨u, rfl, h2⟩ := h; obtain ⟨A, n, c, rfl⟩ := h2.form hr; exact ⟨A, n, c, rfl⟩
end

set_option maxHeartbeats 1000000 in
set_option maxRecDepth 100000 in
theorem szBuffer_c (rm : Int) (lv : Int) (A : Option Addr) (n c B : Nat) (l : List Rec) (left : Int) (w : World) (hv : RecsRaw w B A n c l) (hB : B ≤ w.heap.size) (h0 : 0 ≤ left) (h1 : left ≤ 1048576) :
    Calls Try.prog 5 #[.agg #[.int .i64 rm, .int .i64 lv, .slice A n c], .int .i64 left] w (SzPost left (RecsFit l) w) := by
  have C := hid (fun (w1 : World) (hb : Below w.heap.size w w1) => szRecsY_c A n c l B left w1 (hv.below hb hB) (Nat.le_trans hB hb.size) h0 h1)
  clear hv
  go_enter Try.func5, Try.ntmps5
  go_wp2_with fail
  refine (C.out _ (by go_grown)).mono ?_
  rintro e w1 ⟨r, rfl, hb, hr⟩
  have HB := hid (show Below w.heap.size w w1 from (by go_grown : Below w.heap.size w (w.alloc (.cells #[.int .i64 rm, .int .i64 lv, .slice A n c] 24))).trans (hb.mono (by simp)))
  clear hb
  rcases hr with hr | ⟨hr0, hr1, hf⟩
  · have HF := hid hr
    go_wp2_with fail
    go_ret
    exact ⟨_, rfl, HB.out, .inl (by omega)⟩
  · have HF := hid hf
    clear hf
    go_wp2_with fail
    go_ret
    exact ⟨_, rfl, HB.out, .inr ⟨hr0, hr1, HF.out⟩⟩

set_option maxHeartbeats 1000000 in
set_option maxRecDepth 100000 in
theorem toBufferX_c (rm : Int) (lv : Int) (A : Option Addr) (n c B : Nat) (l : List Rec) (w : World) (hv : RecsRaw w B A n c l) (hB : B ≤ w.heap.size) (hf : RecsFit l) :
    Calls Try.prog 8 #[.agg #[.int .i64 rm, .int .i64 lv, .slice A n c]] w fun e w' => ∃ v' rs, e = .returned v' ∧ BufR rs v' ⟨rm, lv, l⟩ ∧ Rows w' w.heap.size rs ∧ Below w.heap.size w w' := by
  have C := hid (fun (w1 : World) (hb : Below w.heap.size w w1) => toRecsY_c A n c l B w1 (hv.below hb hB) (Nat.le_trans hB hb.size) hf)
  clear hv hf
  go_enter Try.func8, Try.ntmps8
  go_wp2_with fail
  refine (C.out _ (by go_grown)).mono ?_
  rintro e w1 ⟨v', rs, rfl, hs, hr, hb⟩
  obtain ⟨A', n', c', rfl⟩ := hs.form hr
  have K1 := (Blk.new _ _ _).to hb
  have R1 := ((Blk.new _ _ _).alloc _).to hb
  have I1 := (((Blk.new _ _ _).alloc _).alloc _).to hb
  simp only [World.size_alloc] at K1 R1 I1
  have HB1 := hid (Below.trans (by go_grown) (hb.mono (by simp; omega)) : Below w.heap.size w w1)
  have HO1 := hid (hr.base (by simp) : Rows w1 (w.heap.size + 3) _)
  have HS1 := hid (show w.heap.size + 3 ≤ w1.heap.size by have := hb.size; simp at this; omega)
  have HS := hid hs
  have HR := hid R1
  obtain ⟨k0c, k0f⟩ := K1.2 0 _ rfl
  obtain ⟨r0c, r0f⟩ := R1.2 0 _ rfl
  have i0c := (I1.2 0 _ rfl).1
  obtain ⟨k1c, k1f⟩ := K1.2 1 _ rfl
  obtain ⟨r1c, r1f⟩ := R1.2 1 _ rfl
  have i1c := (I1.2 1 _ rfl).1
  obtain ⟨k2c, k2f⟩ := K1.2 2 _ rfl
  obtain ⟨r2c, r2f⟩ := R1.2 2 _ rfl
  have i2c := (I1.2 2 _ rfl).1
  have hs1 := HS1.out
  clear K1 R1 I1 hb hr hs
  go_wp2_with fail
  have RB := ((((HR.out.apart ⟨w.heap.size + 1 + 1, 2, none⟩ (.slice A' n' c') (by simp)).set 0 (.int .i64 rm)).set 1 (.int .i64 lv)).set 2 (.slice A' n' c'))
  have f0 := (RB.2 0 _ rfl).1
  have f1 := (RB.2 1 _ rfl).1
  have f2 := (RB.2 2 _ rfl).1
  refine bodyPost_ret (v := .agg #[.int .i64 rm, .int .i64 lv, .slice A' n' c']) (by simp [results, Try.results8, go_sem, f0, f1, f2]) rfl ?_
  refine ⟨_, _, rfl, ⟨_, rfl, HS.out⟩, ?_, ?_⟩
  · exact (((((HO1.out.low (b := w.heap.size + 1 + 1) (j := 2) (u := .slice A' n' c') (by omega)).low (b := w.heap.size + 1) (j := 0) (u := .int .i64 rm) (by omega)).low (b := w.heap.size + 1) (j := 1) (u := .int .i64 lv) (by omega)).low (b := w.heap.size + 1) (j := 2) (u := .slice A' n' c') (by omega))).base (by omega)
  · exact ((((HB1.out.setCell (p := ⟨w.heap.size + 1 + 1, 2, none⟩) (by simp; omega) (.slice A' n' c')).setCell (p := ⟨w.heap.size + 1, 0, none⟩) (by simp) (.int .i64 rm)).setCell (p := ⟨w.heap.size + 1, 1, none⟩) (by simp) (.int .i64 lv)).setCell (p := ⟨w.heap.size + 1, 2, none⟩) (by simp) (.slice A' n' c'))

set_option maxHeartbeats 1000000 in
set_option maxRecDepth 100000 in
theorem eqBufferX_c {rs rs' : List Row} {v v' : Value} {d : Buf} {w : World} {lo lo' : Nat} (h : BufR rs v d) (hr : Rows w lo rs) (h' : BufR rs' v' d) (hr' : Rows w lo' rs') :
    Calls Try.prog 11 #[v, v'] w (BoolPost w true) := by
  obtain ⟨u, rfl, h1⟩ := h
  obtain ⟨u', rfl, h1'⟩ := h'
  obtain ⟨rm, lv, rc⟩ := d
  obtain ⟨A, n, c, rfl⟩ := h1.form hr
  obtain ⟨A', n', c', rfl⟩ := h1'.form hr'
  have b0 : (rm == rm) = true := by simp
  have b1 : (lv == lv) = true := by simp
  have C := hid (fun (w1 : World) (hb : Below w.heap.size w w1) => eqRecsX_c h1 (hr.below hb) h1' (hr'.below hb))
  clear h1 h1' hr hr'
  go_enter Try.func11, Try.ntmps11
  go_wp2_with fail
  refine (C.out _ (by go_grown)).mono ?_
  rintro e w1 ⟨rfl, hb⟩

  have HB := hid (Below.mono hb (by simp; try omega) : Below w.heap.size _ w1)
  clear hb
  go_wp2_with fail
  all_goals go_ret
  all_goals exact ⟨rfl, Below.trans (by go_grown) HB.out⟩

set_option maxHeartbeats 1000000 in
set_option maxRecDepth 100000 in
theorem markBufferX_c {rs rest : List Row} {v : Value} {d : Buf} {w : World} {lo k : Nat} (h : BufR rs v d) (hR : Rows w lo (rs ++ rest)) (hlo : lo ≤ w.heap.size) (hd : BufFit d) (hk : k ≤ 17000000000000) :
    Calls Try.prog 14 #[v, .int .i64 k] w fun e w' => ∃ (r : Nat) (rs' : List Row), e = .returned (.int .i64 (r : Int)) ∧ BufM rs' v k r ∧ Rows w' lo (rs' ++ rest) ∧ Below lo w w' ∧ r ≤ k + 8388608 := by
  obtain ⟨u, rfl, h1⟩ := h
  obtain ⟨rm, lv, rc⟩ := d
  obtain ⟨A, n, c, rfl⟩ := h1.form hR.left
  have C := hid (fun (w1 : World) (hb : Below w.heap.size w w1) => markRecsX_c h1 (hR.below hb) (Nat.le_trans hlo hb.size) hd hk)
  clear h1 hR hd
  go_enter Try.func14, Try.ntmps14
  go_wp2_with fail
  refine (C.out _ (by go_grown)).mono ?_
  rintro e w1 ⟨r, rs', rfl, hM, hR, hb, hr⟩
  have HB := hid (Below.trans (show Below lo w _ from Below.mono (by go_grown) hlo) hb)
  have HX := hid (And.intro hM hR)
  clear hb hM hR
  go_wp2_with fail
  go_ret
  exact ⟨r, rs', rfl, ⟨_, rm, lv, rfl, HX.out.1⟩, HX.out.2, HB.out, hr⟩

set_option maxHeartbeats 1000000 in
set_option maxRecDepth 100000 in
theorem heldBufferX_c {rs : List Row} {v : Value} {k r lo : Nat} {w : World} (h : BufM rs v k r) (hR : Rows w lo rs) :
    Calls Try.prog 17 #[v, .int .i64 k] w fun e w' => e = .returned (.int .i64 (r : Int)) ∧ Below w.heap.size w w' := by
  obtain ⟨u, rm, lv, rfl, hM⟩ := h
  obtain ⟨A, n, c, rfl⟩ := hM.form hR
  have C := hid (fun (w1 : World) (hb : Below w.heap.size w w1) => heldRecsX_c hM (hR.below hb))
  clear hM hR
  go_enter Try.func17, Try.ntmps17
  go_wp2_with fail
  refine (C.out _ (by go_grown)).mono ?_
  rintro e w1 ⟨rfl, hb⟩
  have HB := hid (Below.mono hb (by simp; try omega) : Below w.heap.size _ w1)
  clear hb
  go_wp2_with fail
  all_goals go_ret
  all_goals exact ⟨rfl, Below.trans (by go_grown) HB.out⟩
def BufRaw (w : World) (B : Nat) (A : Option Addr) (n c : Nat) (d : Buf) : Prop := RecsRaw w B A n c d.rc
theorem BufRaw.below {w w' : World} {B B' : Nat} {A : Option Addr} {n c : Nat} {d : Buf} (h : BufRaw w B A n c d) (hb : Below B' w w') (hB : B ≤ B') : BufRaw w' B A n c d := RecsRaw.below h hb hB
theorem szBufferY_c (A : Option Addr) (n c : Nat) (d : Buf) (B : Nat) (left : Int) (w : World) (h : BufRaw w B A n c d) (hB : B ≤ w.heap.size) (h0 : 0 ≤ left) (h1 : left ≤ 1048576) :
    Calls Try.prog 5 #[.agg #[.int .i64 d.rm, .int .i64 d.lv, .slice A n c], .int .i64 left] w (SzPost left (BufFit d) w) := szBuffer_c d.rm d.lv A n c B d.rc left w h hB h0 h1
theorem toBufferY_c (A : Option Addr) (n c : Nat) (d : Buf) (B : Nat) (w : World) (h : BufRaw w B A n c d) (hB : B ≤ w.heap.size) (hf : BufFit d) :
    Calls Try.prog 8 #[.agg #[.int .i64 d.rm, .int .i64 d.lv, .slice A n c]] w fun e w' => ∃ v' rs, e = .returned v' ∧ BufR rs v' d ∧ Rows w' w.heap.size rs ∧ Below w.heap.size w w' := toBufferX_c d.rm d.lv A n c B d.rc w h hB hf
end Go.Proofs.Ytfjpfdmlcgkfeaa
