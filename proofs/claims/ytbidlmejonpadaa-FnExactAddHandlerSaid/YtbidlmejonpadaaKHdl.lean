/-
  Handler: told by its rows, as gen_any.py's walks want a kind.
-/
import Derived.Test.YtbidlmejonpadaaMarks
import Derived.Test.YtbidlmejonpadaaAH5
namespace Go.Proofs.Ytbidlmejonpadaa
open Go.RowKit Nm
set_option linter.unusedSimpArgs false
set_option linter.unusedVariables false

def HdlR (rs : List Row) (v : Value) (d : Hnd) : Prop := ∃ fv, v = .agg #[.string ⟨d.nm.toArray⟩, .int .i64 d.lv, fv] ∧ rs = [⟨83, 3, d.fs.length, fv, fsCells d.fs⟩]
def HdlFit (d : Hnd) : Prop := hndFit d
def HdlIn (w : World) (B : Nat) (v : Value) (d : Hnd) : Prop := ∃ A n c, v = .agg #[.string ⟨d.nm.toArray⟩, .int .i64 d.lv, .slice A n c] ∧ Sl w B 3 n (.slice A n c) (fsCells d.fs) ∧ hndFit d ∧ n ≤ 1048576
def HdlM (rs : List Row) (v : Value) (k r : Nat) : Prop := ∃ nm lv fv n xs, v = .agg #[txt nm, .int .i64 lv, fv] ∧ rs = [⟨83, 3, n, fv, xs⟩] ∧ MarkedK fcellsKinds 3 xs k (n * 3) ∧ r = k + n * 3 ∧ n * 3 + k ≤ 17592186044416
def HdlRaw (w : World) (B : Nat) (A : Option Addr) (n c : Nat) (d : Hnd) : Prop := d.nm.length ≤ maxLen ∧ Sl w B 3 n (.slice A n c) (fsCells d.fs) ∧ ∀ f ∈ d.fs, f.nm.length ≤ maxLen
section
variable {w w' : World} {B B' lo : Nat} {v : Value} {d : Hnd} {rs rest : List Row}
theorem HdlIn.below (h : HdlIn w B v d) (hb : Below B' w w') (hB : B ≤ B') : HdlIn w' B v d := by
  obtain ⟨A, n, c, h1, h2, h3⟩ := h; exact ⟨A, n, c, h1, h2.below hb hB, h3⟩
theorem HdlIn.form (h : HdlIn w B v d) : ∃ A n c, v = .agg #[.string ⟨d.nm.toArray⟩, .int .i64 d.lv, .slice A n c] := by
  obtain ⟨A, n, c, h1, _⟩ := h; exact ⟨A, n, c, h1⟩
theorem HdlR.form (h : HdlR rs v d) (hr : Rows w lo rs) : ∃ A n c, v = .agg #[.string ⟨d.nm.toArray⟩, .int .i64 d.lv, .slice A n c] := by
  obtain ⟨fv, rfl, rfl⟩ := h
  obtain ⟨A, c, h1, _, _⟩ := (Sl.of_own (show w.ownsRow _ _ 3 fv _ _ from hr.head)).form
  exact ⟨A, _, c, by rw [h1]⟩
theorem HdlR.at_ (h : HdlR rs v d) (hr : Rows w lo rs) (hf : HdlFit d) : HdlIn w w.heap.size v d := by
  obtain ⟨fv, rfl, rfl⟩ := h
  have hs := Sl.of_own (show w.ownsRow _ _ 3 fv _ _ from hr.head)
  obtain ⟨A, c, h1, _, _⟩ := hs.form
  rw [h1] at hs
  exact ⟨A, _, c, by rw [h1], hs, hf, by have := hf.2.1; unfold maxTxt at this; exact this⟩
theorem HdlM.form {k r : Nat} (h : HdlM rs v k r) (hr : Rows w lo rs) : ∃ nm lv A n c, v = .agg #[txt nm, .int .i64 lv, .slice A n c] := by
  obtain ⟨nm, lv, fv, n, xs, rfl, rfl, _⟩ := h
  obtain ⟨A, c, h1, _, _⟩ := (Sl.of_own (show w.ownsRow _ _ 3 fv _ _ from hr.head)).form
  exact ⟨nm, lv, A, _, c, by rw [h1]⟩
theorem HdlRaw.below {A : Option Addr} {n c : Nat} (h : HdlRaw w B A n c d) (hb : Below B' w w') (hB : B ≤ B') : HdlRaw w' B A n c d := ⟨h.1, h.2.1.below hb hB, h.2.2⟩
end
theorem flt_count {w : World} {B n : Nat} {v : Value} {l : List Flt} (h : Sl w B 3 n v (fsCells l)) : l.length = n := Sl.count (f := fcells) (fun _ => rfl) h (by omega)
theorem szHandlerY_c (A : Option Addr) (n c : Nat) (d : Hnd) (B : Nat) (left : Int) (w : World) (h : HdlRaw w B A n c d) (hB : B ≤ w.heap.size) (h0 : 0 ≤ left) (h1 : left ≤ 1048576) :
    Calls Try.prog 22 #[.agg #[.string ⟨d.nm.toArray⟩, .int .i64 d.lv, .slice A n c], .int .i64 left] w (SzPost left (HdlFit d) w) := by
  have hn := flt_count h.2.1
  have := szHandler_c ⟨d.nm.toArray⟩ d.lv A n c B d.fs left w (by rw [Lib.size_eq]; exact h.1) h.2.1 h.2.2 hB h0 h1
  unfold HdlFit hndFit
  rw [hn]
  refine this.mono ?_
  rintro e w' ⟨r, rfl, hb, hx⟩
  refine ⟨r, rfl, hb, ?_⟩
  rcases hx with hx | ⟨x0, x1, x2, x3⟩
  · exact .inl hx
  · exact .inr ⟨x0, x1, by rw [Lib.size_eq] at x2; exact x2, x3⟩
theorem toHandlerY_c (A : Option Addr) (n c : Nat) (d : Hnd) (B : Nat) (w : World) (h : HdlRaw w B A n c d) (hB : B ≤ w.heap.size) (hf : HdlFit d) :
    Calls Try.prog 24 #[.agg #[.string ⟨d.nm.toArray⟩, .int .i64 d.lv, .slice A n c]] w fun e w' => ∃ v' rs, e = .returned v' ∧ HdlR rs v' d ∧ Rows w' w.heap.size rs ∧ Below w.heap.size w w' := by
  have hn := flt_count h.2.1
  have hl := hf.2.1
  unfold maxTxt at hl
  refine (toHandler_c ⟨d.nm.toArray⟩ d.lv A n c B d.fs w h.2.1 hB (by omega)).mono ?_
  rintro e w' ⟨fv, rfl, hr, hb⟩
  exact ⟨_, _, rfl, ⟨fv, rfl, rfl⟩, by rw [hn]; exact hr, hb⟩
theorem eqHandlerX_c {rs rs' : List Row} {v v' : Value} {d : Hnd} {w : World} {lo lo' : Nat} (h : HdlR rs v d) (hr : Rows w lo rs) (h' : HdlR rs' v' d) (hr' : Rows w lo' rs') :
    Calls Try.prog 26 #[v, v'] w (BoolPost w true) := by
  obtain ⟨fv, rfl, rfl⟩ := h
  obtain ⟨fv', rfl, rfl⟩ := h'
  have hs : Sl w w.heap.size 3 d.fs.length fv (fsCells d.fs) := Sl.of_own (show w.ownsRow _ _ 3 fv _ _ from hr.head)
  have hs' : Sl w w.heap.size 3 d.fs.length fv' (fsCells d.fs) := Sl.of_own (show w.ownsRow _ _ 3 fv' _ _ from hr'.head)
  obtain ⟨A, c, rfl, _, _⟩ := hs.form
  obtain ⟨A', c', rfl, _, _⟩ := hs'.form
  exact eqHandler_c ⟨d.nm.toArray⟩ d.lv A A' _ c c' w.heap.size d.fs w hs hs' (Nat.le_refl _)
set_option maxHeartbeats 1000000 in
set_option maxRecDepth 100000 in
theorem markHandlerX_c {rs rest : List Row} {v : Value} {d : Hnd} {w : World} {lo k : Nat} (h : HdlR rs v d) (hR : Rows w lo (rs ++ rest)) (hlo : lo ≤ w.heap.size) (hd : HdlFit d) (hk : k ≤ 17000000000000) :
    Calls Try.prog 27 #[v, .int .i64 k] w fun e w' => ∃ (r : Nat) (rs' : List Row), e = .returned (.int .i64 (r : Int)) ∧ HdlM rs' v k r ∧ Rows w' lo (rs' ++ rest) ∧ Below lo w w' ∧ r ≤ k + 8388608 := by
  obtain ⟨fv, rfl, rfl⟩ := h
  have h1 := hd.2.1
  unfold maxTxt at h1
  generalize hnn : d.fs.length = n at *
  have ho : w.ownsRow lo 83 3 fv n (fsCells d.fs) := hR.left.head
  obtain ⟨A, c, rfl, _, _⟩ := (Sl.of_own ho).form
  have C := hid (fun (w1 : World) (hb : Below w.heap.size w w1) => markFilterS_c (.slice A n c) n lo k _ w1 (own_below ho hb) (by omega))
  have HO := hid ho
  have HR := hid hR
  clear ho hR hd hnn
  obtain ⟨x0, hx0⟩ : ∃ x0 : ByteArray, (⟨d.nm.toArray⟩ : ByteArray) = x0 := ⟨_, rfl⟩
  rw [hx0]
  have HX := hid (show txt d.nm = Value.string x0 by rw [← hx0]; rfl)
  clear hx0
  go_enter Try.func27, Try.ntmps27
  go_wp2_with fail
  refine (C.out _ (by go_grown)).mono ?_
  rintro e w1 ⟨rfl, ⟨ys, ho', hM⟩, hg⟩
  have HM := hid hM
  have HR1 := hid (Rows.write1 (HR.out.below (show Below w.heap.size w _ by go_grown)) hg ho')
  have HB := hid (Below.trans (show Below lo w _ from Below.mono (by go_grown) hlo) (below_of_grown hg (by simp; omega) (own_lt HO.out)))
  clear hg ho' hM
  go_wp2_with fail
  go_ret
  exact ⟨_, _, rfl, ⟨d.nm, d.lv, _, _, _, by rw [HX.out], rfl, HM.out, rfl, by omega⟩, HR1.out, HB.out, show k + n * 3 ≤ k + 8388608 by omega⟩
end Go.Proofs.Ytbidlmejonpadaa
