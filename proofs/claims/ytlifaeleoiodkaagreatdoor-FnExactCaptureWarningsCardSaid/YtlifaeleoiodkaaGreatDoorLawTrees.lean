/-
  N1, N2, N3, OTree, N4, N5 laid together.
-/
import Derived.Test.YtlifaeleoiodkaaGreatDoorHelps
import Derived.Test.YtlifaeleoiodkaaGreatDoorTrees
/-
  TREES as the laws take them: their sizes.
-/
namespace Go.Proofs.YtlifaeleoiodkaaGreatDoor
open Go.RowKit Nm
set_option linter.unusedSimpArgs false
set_option linter.unusedVariables false

set_option maxHeartbeats 2000000 in
set_option maxRecDepth 100000 in
theorem szStringS_c (v : Value) (n B : Nat) (l : List (List UInt8)) (left : Int) (w : World) (hv : Sl w B 1 n v (l.map txt)) (hB : B ≤ w.heap.size) (hm : ∀ t ∈ l, t.length ≤ maxLen) (h0 : 0 ≤ left) (h1 : left ≤ 1048576) :
    Calls Tryz.prog 104 #[v, .int .i64 left] w (SzPost left (n ≤ maxTxt ∧ ∀ t ∈ l, t.length ≤ maxTxt) w) := by
  have hln : l.length = n := by have := hv.1; simpa using this
  obtain ⟨A, c, rfl, hnc, hcm⟩ := hv.form
  unfold maxLen at hcm
  have HV := hid (And.intro hv (And.intro hm hln))
  clear hv hm hln
  by_cases hl : left - (n : Int) < 0
  · go_enter Tryz.func104, Tryz.ntmps104
    go_wp2_with fail
    go_ret
    exact ⟨_, rfl, Below.refl _ _, .inl (by omega)⟩
  go_enter Tryz.func104, Tryz.ntmps104
  go_wp2_with fail
  go_loopw [1, 5] (fun lv iv wr => ∃ (k : Nat) (q : Int), iv = .int .i64 k ∧ lv = .int .i64 q ∧ k ≤ n ∧ 0 ≤ q ∧ q ≤ left ∧ Hid (∀ t ∈ l.take k, t.length ≤ maxTxt) ∧ Hid (Below w.heap.size w wr)) (fun _ iv _ => n - (intOf iv).toNat)
  case atStart => exact ⟨0, _, rfl, rfl, by omega, by omega, by omega, by intro f hf; simp at hf, Below.refl _ _⟩
  case round =>
    obtain ⟨k, q, rfl, rfl, hk, hq0, hq1, HL, HB⟩ := hrel
    by_cases hlt : k < n
    · obtain ⟨b, o, p, rfl, hbB, hx, c0⟩ := (HV.out.1.below HB.out hB).text hlt
      have hps : p.size ≤ 9223372036854775807 := by have := HV.out.2.1 _ (List.mem_of_getElem? hx); rw [← Lib.size_eq] at this; unfold maxLen at this; omega
      have HX := hid hx
      clear hx
      by_cases hq : q - (p.size : Int) < 0
      · go_wp2_with fail
        go_ret
        exact ⟨_, rfl, HB.out, .inl (by omega)⟩
      · go_wp2_with fail
        go_roundw
        case rel =>
          refine ⟨k + 1, _, by go_num, rfl, by omega, by omega, by omega, ?_, HB⟩
          intro g hg
          rcases mem_take_succ' l k _ g HX.out hg with rfl | hg
          · rw [← Lib.size_eq]; unfold maxTxt; omega
          · exact HL.out g hg
        case measure => simp [intOf]; omega
    · go_wp2_with fail
      go_ret
      refine ⟨_, rfl, HB.out, .inr ⟨hq0, hq1, by unfold maxTxt; omega, ?_⟩⟩
      have := HL.out
      rwa [List.take_of_length_le (by have := HV.out.2.2; omega)] at this

/-- what the laws' helper says of filters, in the words of the others -/
theorem szFs_c (v : Value) (n B : Nat) (l : List Flt) (left : Int) (w : World) (hv : Sl w B 3 n v (fsCells l)) (hB : B ≤ w.heap.size) (hm : ∀ f ∈ l, f.nm.length ≤ maxLen) (h0 : 0 ≤ left) (h1 : left ≤ 1048576) :
    Calls Tryz.prog 105 #[v, .int .i64 left] w (SzPost left (n ≤ maxTxt ∧ ∀ f ∈ l, f.nm.length ≤ maxTxt) w) := by
  have hl := hv.flen
  refine (szFilterS_c v n B l left w hv hB hm h0 h1).mono ?_
  rintro e w1 ⟨r, rfl, hb, hr⟩
  refine ⟨r, rfl, hb, ?_⟩
  rcases hr with hr | ⟨a, b, c, d⟩
  · exact .inl hr
  · exact .inr ⟨a, b, by unfold maxTxt; omega, fun f hf => by have := d f hf; unfold maxTxt; omega⟩

/-- a logger, a handler of an argument, ahead of any look at sizes -/
def lraw (w : World) (B : Nat) (x : LgrV) : Prop := x.l.nm.length ≤ maxLen ∧ (Sl w B 1 x.hn x.hv (x.l.hs.map txt) ∧ ∀ t ∈ x.l.hs, t.length ≤ maxLen) ∧ (Sl w B 3 x.fn x.fv (fsCells x.l.fs) ∧ ∀ f ∈ x.l.fs, f.nm.length ≤ maxLen)
def hraw (w : World) (B : Nat) (x : HndV) : Prop := x.h.nm.length ≤ maxLen ∧ (Sl w B 3 x.fn x.fv (fsCells x.h.fs) ∧ ∀ f ∈ x.h.fs, f.nm.length ≤ maxLen)
/-- .. that fit -/
def lfit (x : LgrV) : Prop := x.l.nm.length ≤ maxTxt ∧ (x.hn ≤ maxTxt ∧ ∀ t ∈ x.l.hs, t.length ≤ maxTxt) ∧ (x.fn ≤ maxTxt ∧ ∀ f ∈ x.l.fs, f.nm.length ≤ maxTxt)
def hfit (x : HndV) : Prop := x.h.nm.length ≤ maxTxt ∧ (x.fn ≤ maxTxt ∧ ∀ f ∈ x.h.fs, f.nm.length ≤ maxTxt)
theorem lraw.below {w w' : World} {B B' : Nat} {x : LgrV} (h : lraw w B x) (hb : Below B' w w') (hB : B ≤ B') : lraw w' B x := ⟨h.1, ⟨h.2.1.1.below hb hB, h.2.1.2⟩, ⟨h.2.2.1.below hb hB, h.2.2.2⟩⟩
theorem hraw.below {w w' : World} {B B' : Nat} {x : HndV} (h : hraw w B x) (hb : Below B' w w') (hB : B ≤ B') : hraw w' B x := ⟨h.1, ⟨h.2.1.below hb hB, h.2.2⟩⟩
theorem lcells_at {w : World} {B n c : Nat} {A : Option Addr} {l : List LgrV} (h : Sl w B 6 n (.slice A n c) (l.flatMap lcells)) {k : Nat} (hk : k < n) :
    ∃ (b o : Nat) (x : LgrV) (s : ByteArray), A = some ⟨b, o, none⟩ ∧ b < B ∧ l[k]? = some x ∧ s.data.toList = x.l.nm ∧
      w.cell? ⟨b, o + k * 6, none⟩ = some (.string s) ∧ w.cell? ⟨b, o + k * 6 + 1, none⟩ = some (.int .i64 x.l.lv) ∧ w.cell? ⟨b, o + k * 6 + 2, none⟩ = some x.hv ∧ w.cell? ⟨b, o + k * 6 + 3, none⟩ = some x.fv ∧
      w.cell? ⟨b, o + k * 6 + 4, none⟩ = some (.bool x.l.stop) ∧ w.cell? ⟨b, o + k * 6 + 5, none⟩ = some (.bool x.l.off) := by
  obtain ⟨b, o, x, e, hb, hx, hc⟩ := Sl.elem lcells_len h (by omega) hk
  exact ⟨b, o, x, ⟨x.l.nm.toArray⟩, e, hb, hx, by simp, hc 0 _ rfl, hc 1 _ rfl, hc 2 _ rfl, hc 3 _ rfl, hc 4 _ rfl, hc 5 _ rfl⟩
theorem hcells_at {w : World} {B n c : Nat} {A : Option Addr} {l : List HndV} (h : Sl w B 3 n (.slice A n c) (l.flatMap hcells)) {k : Nat} (hk : k < n) :
    ∃ (b o : Nat) (x : HndV) (s : ByteArray), A = some ⟨b, o, none⟩ ∧ b < B ∧ l[k]? = some x ∧ s.data.toList = x.h.nm ∧
      w.cell? ⟨b, o + k * 3, none⟩ = some (.string s) ∧ w.cell? ⟨b, o + k * 3 + 1, none⟩ = some (.int .i64 x.h.lv) ∧ w.cell? ⟨b, o + k * 3 + 2, none⟩ = some x.fv := by
  obtain ⟨b, o, x, e, hb, hx, hc⟩ := Sl.elem hcells_len h (by omega) hk
  exact ⟨b, o, x, ⟨x.h.nm.toArray⟩, e, hb, hx, by simp, hc 0 _ rfl, hc 1 _ rfl, hc 2 _ rfl⟩

set_option maxHeartbeats 2000000 in
set_option maxRecDepth 100000 in
theorem szLogger_c (s : ByteArray) (lv : Int) (A1 A2 : Option Addr) (n1 c1 n2 c2 B : Nat) (hs : List (List UInt8)) (fs : List Flt) (b1 b2 : Bool) (left : Int) (w : World) (hs0 : s.size ≤ maxLen)
    (h1 : Sl w B 1 n1 (.slice A1 n1 c1) (hs.map txt)) (m1 : ∀ t ∈ hs, t.length ≤ maxLen) (h2 : Sl w B 3 n2 (.slice A2 n2 c2) (fsCells fs)) (m2 : ∀ f ∈ fs, f.nm.length ≤ maxLen) (hB : B ≤ w.heap.size) (h0 : 0 ≤ left) (hl : left ≤ 1048576) :
    Calls Tryz.prog 62 #[.agg #[.string s, .int .i64 lv, .slice A1 n1 c1, .slice A2 n2 c2, .bool b1, .bool b2], .int .i64 left] w
      (SzPost left (s.size ≤ maxTxt ∧ (n1 ≤ maxTxt ∧ ∀ t ∈ hs, t.length ≤ maxTxt) ∧ (n2 ≤ maxTxt ∧ ∀ f ∈ fs, f.nm.length ≤ maxTxt)) w) := by
  unfold maxLen at hs0
  have HB0 := hid (show Below w.heap.size w (w.alloc (.cells #[.string s, .int .i64 lv, .slice A1 n1 c1, .slice A2 n2 c2, .bool b1, .bool b2] 105)) from (Below.refl _ _).alloc (Nat.le_refl _) _)
  have HC := hid (Below.refl (w.alloc (.cells #[.string s, .int .i64 lv, .slice A1 n1 c1, .slice A2 n2 c2, .bool b1, .bool b2] 105)).heap.size (w.alloc (.cells #[.string s, .int .i64 lv, .slice A1 n1 c1, .slice A2 n2 c2, .bool b1, .bool b2] 105)))
  have C1 := hid (fun (W : World) (hW : Below w.heap.size w W) (q : Int) (q0 : 0 ≤ q) (q1 : q ≤ 1048576) => szStringS_c _ n1 B hs q W (h1.below hW hB) (Nat.le_trans hB hW.size) m1 q0 q1)
  have C2 := hid (fun (W : World) (hW : Below w.heap.size w W) (q : Int) (q0 : 0 ≤ q) (q1 : q ≤ 1048576) => szFs_c _ n2 B fs q W (h2.below hW hB) (Nat.le_trans hB hW.size) m2 q0 q1)
  clear h1 h2 m1 m2
  by_cases hq : left - (s.size : Int) < 0
  · go_enter Tryz.func62, Tryz.ntmps62
    go_wp2_with fail
    go_ret
    exact ⟨_, rfl, HB0.out, .inl (by omega)⟩
  go_enter Tryz.func62, Tryz.ntmps62
  go_wp2_with fail
  refine (C1.out _ HB0.out _ (by omega) (by omega)).mono ?_
  rintro e w1 ⟨r1, rfl, hb1, hr1⟩
  replace HC := hid (HC.out.trans (hb1.mono HC.out.size))
  clear hb1
  have d3 := box_cell HC.out 3
  rcases hr1 with hr1 | ⟨hr1, hr1', f1⟩
  · go_wp2_with fail
    go_ret
    exact ⟨_, rfl, HB0.out.trans (HC.out.mono (by simp)), .inl (by omega)⟩
  have F1 := hid f1
  clear f1
  go_wp2_with fail
  refine (C2.out _ (HB0.out.trans (HC.out.mono (by simp))) _ (by omega) (by omega)).mono ?_
  rintro e w2 ⟨r2, rfl, hb2, hr2⟩
  replace HC := hid (HC.out.trans (hb2.mono HC.out.size))
  clear hb2 d3
  rcases hr2 with hr2 | ⟨hr2, hr2', f2⟩
  · go_wp2_with fail
    go_ret
    exact ⟨_, rfl, HB0.out.trans (HC.out.mono (by simp)), .inl (by omega)⟩
  have F2 := hid f2
  clear f2
  go_wp2_with fail
  go_ret
  exact ⟨_, rfl, HB0.out.trans (HC.out.mono (by simp)), .inr ⟨by omega, by omega, by unfold maxTxt; omega, F1.out, F2.out⟩⟩

set_option maxHeartbeats 2000000 in
set_option maxRecDepth 100000 in
theorem szHandler_c (s : ByteArray) (lv : Int) (A2 : Option Addr) (n2 c2 B : Nat) (fs : List Flt) (left : Int) (w : World) (hs0 : s.size ≤ maxLen)
    (h2 : Sl w B 3 n2 (.slice A2 n2 c2) (fsCells fs)) (m2 : ∀ f ∈ fs, f.nm.length ≤ maxLen) (hB : B ≤ w.heap.size) (h0 : 0 ≤ left) (hl : left ≤ 1048576) :
    Calls Tryz.prog 63 #[.agg #[.string s, .int .i64 lv, .slice A2 n2 c2], .int .i64 left] w
      (SzPost left (s.size ≤ maxTxt ∧ (n2 ≤ maxTxt ∧ ∀ f ∈ fs, f.nm.length ≤ maxTxt)) w) := by
  unfold maxLen at hs0
  have HB0 := hid (show Below w.heap.size w (w.alloc (.cells #[.string s, .int .i64 lv, .slice A2 n2 c2] 108)) from (Below.refl _ _).alloc (Nat.le_refl _) _)
  have C2 := hid (fun (W : World) (hW : Below w.heap.size w W) (q : Int) (q0 : 0 ≤ q) (q1 : q ≤ 1048576) => szFs_c _ n2 B fs q W (h2.below hW hB) (Nat.le_trans hB hW.size) m2 q0 q1)
  clear h2 m2
  by_cases hq : left - (s.size : Int) < 0
  · go_enter Tryz.func63, Tryz.ntmps63
    go_wp2_with fail
    go_ret
    exact ⟨_, rfl, HB0.out, .inl (by omega)⟩
  go_enter Tryz.func63, Tryz.ntmps63
  go_wp2_with fail
  refine (C2.out _ HB0.out _ (by omega) (by omega)).mono ?_
  rintro e w2 ⟨r2, rfl, hb2, hr2⟩
  replace HB0 := hid (HB0.out.trans (hb2.mono HB0.out.size))
  clear hb2
  rcases hr2 with hr2 | ⟨hr2, hr2', f2⟩
  · go_wp2_with fail
    go_ret
    exact ⟨_, rfl, HB0.out, .inl (by omega)⟩
  have F2 := hid f2
  clear f2
  go_wp2_with fail
  go_ret
  exact ⟨_, rfl, HB0.out, .inr ⟨by omega, by omega, by unfold maxTxt; omega, F2.out⟩⟩

set_option maxHeartbeats 4000000 in
set_option maxRecDepth 100000 in
theorem szLoggerS_c (v : Value) (n B : Nat) (l : List LgrV) (left : Int) (w : World) (hv : Sl w B 6 n v (l.flatMap lcells)) (hB : B ≤ w.heap.size) (hm : ∀ x ∈ l, lraw w B x) (h0 : 0 ≤ left) (h1 : left ≤ 1048576) :
    Calls Tryz.prog 28 #[v, .int .i64 left] w (SzPost left (n ≤ maxTxt ∧ ∀ x ∈ l, lfit x) w) := by
  have hln := Sl.count lcells_len hv (by omega)
  obtain ⟨A, c, rfl, hnc, hcm⟩ := hv.form
  unfold maxLen at hcm
  have HV := hid (And.intro hv (And.intro hm hln))
  clear hv hm hln
  by_cases hl : left - (n : Int) < 0
  · go_enter Tryz.func28, Tryz.ntmps28
    go_wp2_with fail
    go_ret
    exact ⟨_, rfl, Below.refl _ _, .inl (by omega)⟩
  go_enter Tryz.func28, Tryz.ntmps28
  go_wp2_with fail
  go_loopw [1, 5] (fun lv iv wr => ∃ (k : Nat) (q : Int), iv = .int .i64 k ∧ lv = .int .i64 q ∧ k ≤ n ∧ 0 ≤ q ∧ q ≤ left ∧ Hid (∀ x ∈ l.take k, lfit x) ∧ Hid (Below w.heap.size w wr)) (fun _ iv _ => n - (intOf iv).toNat)
  case atStart => exact ⟨0, _, rfl, rfl, by omega, by omega, by omega, by intro f hf; simp at hf, Below.refl _ _⟩
  case round =>
    obtain ⟨k, q, rfl, rfl, hk, hq0, hq1, HL, HB⟩ := hrel
    by_cases hlt : k < n
    · obtain ⟨b, o, x, s, rfl, hbB, hx, hs, c0, c1, c2, c3, c4, c5⟩ := lcells_at (HV.out.1.below HB.out hB) hlt
      obtain ⟨r1, ⟨r2, r3⟩, ⟨r4, r5⟩⟩ := (HV.out.2.1 _ (List.mem_of_getElem? hx)).below HB.out hB
      obtain ⟨A3, k3, hhv, _, _⟩ := r2.form
      obtain ⟨A4, k4, hfv, _, _⟩ := r4.form
      rw [hhv] at c2 r2
      rw [hfv] at c3 r4
      have hcall := hid (szLogger_c s x.l.lv A3 A4 x.hn k3 x.fn k4 B x.l.hs x.l.fs x.l.stop x.l.off q wr (by rw [Lib.size_eq, hs]; exact r1) r2 r3 r4 r5 (Nat.le_trans hB HB.out.size) hq0 (by omega))
      have HX := hid (And.intro hx hs)
      clear hx hs r1 r2 r3 r4 r5 hhv hfv
      go_wp2_with fail
      refine hcall.out.mono ?_
      rintro e w1 ⟨r, rfl, hb, hr⟩
      have HB1 := hid (HB.out.trans (hb.mono HB.out.size))
      clear hb
      rcases hr with hr | ⟨hr0, hr1, hr2⟩
      · go_wp2_with fail
        go_ret
        exact ⟨_, rfl, HB1.out, .inl (by omega)⟩
      · have HR := hid hr2
        clear hr2
        go_wp2_with fail
        go_roundw
        case rel =>
          refine ⟨k + 1, r, by go_num, rfl, by omega, hr0, by omega, ?_, HB1.out⟩
          intro g hg
          rcases mem_take_succ' l k _ g HX.out.1 hg with rfl | hg
          · exact ⟨by rw [← HX.out.2, ← Lib.size_eq]; exact HR.out.1, HR.out.2⟩
          · exact HL.out g hg
        case measure => simp [intOf]; omega
    · go_wp2_with fail
      go_ret
      refine ⟨_, rfl, HB.out, .inr ⟨hq0, hq1, by unfold maxTxt; omega, ?_⟩⟩
      have := HL.out
      rwa [List.take_of_length_le (by have := HV.out.2.2; omega)] at this

set_option maxHeartbeats 4000000 in
set_option maxRecDepth 100000 in
theorem szHandlerS_c (v : Value) (n B : Nat) (l : List HndV) (left : Int) (w : World) (hv : Sl w B 3 n v (l.flatMap hcells)) (hB : B ≤ w.heap.size) (hm : ∀ x ∈ l, hraw w B x) (h0 : 0 ≤ left) (h1 : left ≤ 1048576) :
    Calls Tryz.prog 29 #[v, .int .i64 left] w (SzPost left (n ≤ maxTxt ∧ ∀ x ∈ l, hfit x) w) := by
  have hln := Sl.count hcells_len hv (by omega)
  obtain ⟨A, c, rfl, hnc, hcm⟩ := hv.form
  unfold maxLen at hcm
  have HV := hid (And.intro hv (And.intro hm hln))
  clear hv hm hln
  by_cases hl : left - (n : Int) < 0
  · go_enter Tryz.func29, Tryz.ntmps29
    go_wp2_with fail
    go_ret
    exact ⟨_, rfl, Below.refl _ _, .inl (by omega)⟩
  go_enter Tryz.func29, Tryz.ntmps29
  go_wp2_with fail
  go_loopw [1, 5] (fun lv iv wr => ∃ (k : Nat) (q : Int), iv = .int .i64 k ∧ lv = .int .i64 q ∧ k ≤ n ∧ 0 ≤ q ∧ q ≤ left ∧ Hid (∀ x ∈ l.take k, hfit x) ∧ Hid (Below w.heap.size w wr)) (fun _ iv _ => n - (intOf iv).toNat)
  case atStart => exact ⟨0, _, rfl, rfl, by omega, by omega, by omega, by intro f hf; simp at hf, Below.refl _ _⟩
  case round =>
    obtain ⟨k, q, rfl, rfl, hk, hq0, hq1, HL, HB⟩ := hrel
    by_cases hlt : k < n
    · obtain ⟨b, o, x, s, rfl, hbB, hx, hs, c0, c1, c2⟩ := hcells_at (HV.out.1.below HB.out hB) hlt
      obtain ⟨r1, ⟨r4, r5⟩⟩ := (HV.out.2.1 _ (List.mem_of_getElem? hx)).below HB.out hB
      obtain ⟨A4, k4, hfv, _, _⟩ := r4.form
      rw [hfv] at c2 r4
      have hcall := hid (szHandler_c s x.h.lv A4 x.fn k4 B x.h.fs q wr (by rw [Lib.size_eq, hs]; exact r1) r4 r5 (Nat.le_trans hB HB.out.size) hq0 (by omega))
      have HX := hid (And.intro hx hs)
      clear hx hs r1 r4 r5 hfv
      go_wp2_with fail
      refine hcall.out.mono ?_
      rintro e w1 ⟨r, rfl, hb, hr⟩
      have HB1 := hid (HB.out.trans (hb.mono HB.out.size))
      clear hb
      rcases hr with hr | ⟨hr0, hr1, hr2⟩
      · go_wp2_with fail
        go_ret
        exact ⟨_, rfl, HB1.out, .inl (by omega)⟩
      · have HR := hid hr2
        clear hr2
        go_wp2_with fail
        go_roundw
        case rel =>
          refine ⟨k + 1, r, by go_num, rfl, by omega, hr0, by omega, ?_, HB1.out⟩
          intro g hg
          rcases mem_take_succ' l k _ g HX.out.1 hg with rfl | hg
          · exact ⟨by rw [← HX.out.2, ← Lib.size_eq]; exact HR.out.1, HR.out.2⟩
          · exact HL.out g hg
        case measure => simp [intOf]; omega
    · go_wp2_with fail
      go_ret
      refine ⟨_, rfl, HB.out, .inr ⟨hq0, hq1, by unfold maxTxt; omega, ?_⟩⟩
      have := HL.out
      rwa [List.take_of_length_le (by have := HV.out.2.2; omega)] at this

/-- the two slices of a tree that comes in -/
def treeRaw (w : World) (B : Nat) (Aa : Option Addr) (na ca : Nat) (Ab : Option Addr) (nb cb : Nat) (la : List LgrV) (lb : List HndV) : Prop :=
  (Sl w B 6 na (.slice Aa na ca) (la.flatMap lcells) ∧ ∀ x ∈ la, lraw w B x) ∧ (Sl w B 3 nb (.slice Ab nb cb) (lb.flatMap hcells) ∧ ∀ x ∈ lb, hraw w B x)
def treeFit (na nb : Nat) (la : List LgrV) (lb : List HndV) : Prop := (na ≤ maxTxt ∧ ∀ x ∈ la, lfit x) ∧ (nb ≤ maxTxt ∧ ∀ x ∈ lb, hfit x)
theorem treeRaw.below {w w' : World} {B B' : Nat} {Aa : Option Addr} {na ca : Nat} {Ab : Option Addr} {nb cb : Nat} {la : List LgrV} {lb : List HndV} (h : treeRaw w B Aa na ca Ab nb cb la lb) (hb : Below B' w w') (hB : B ≤ B') : treeRaw w' B Aa na ca Ab nb cb la lb :=
  ⟨⟨h.1.1.below hb hB, fun x hx => (h.1.2 x hx).below hb hB⟩, ⟨h.2.1.below hb hB, fun x hx => (h.2.2 x hx).below hb hB⟩⟩

set_option maxHeartbeats 2000000 in
set_option maxRecDepth 100000 in
theorem szTree_c (Aa : Option Addr) (na ca : Nat) (Ab : Option Addr) (nb cb B : Nat) (q0 : Int) (la : List LgrV) (lb : List HndV) (left : Int) (w : World) (h : treeRaw w B Aa na ca Ab nb cb la lb) (hB : B ≤ w.heap.size) (h0 : 0 ≤ left) (h1 : left ≤ 1048576) :
    Calls Tryz.prog 5 #[.agg #[.slice Aa na ca, .slice Ab nb cb, .int .i64 q0], .int .i64 left] w (SzPost left (treeFit na nb la lb) w) := by
  have HB0 := hid (show Below w.heap.size w (w.alloc (.cells #[.slice Aa na ca, .slice Ab nb cb, .int .i64 q0] 25)) from (Below.refl _ _).alloc (Nat.le_refl _) _)
  have HC := hid (Below.refl (w.alloc (.cells #[.slice Aa na ca, .slice Ab nb cb, .int .i64 q0] 25)).heap.size (w.alloc (.cells #[.slice Aa na ca, .slice Ab nb cb, .int .i64 q0] 25)))
  have C1 := hid (fun (W : World) (hW : Below w.heap.size w W) (q : Int) (q0 : 0 ≤ q) (q1 : q ≤ 1048576) => szLoggerS_c _ na B la q W (h.1.1.below hW hB) (Nat.le_trans hB hW.size) (fun x hx => (h.1.2 x hx).below hW hB) q0 q1)
  have C2 := hid (fun (W : World) (hW : Below w.heap.size w W) (q : Int) (q0 : 0 ≤ q) (q1 : q ≤ 1048576) => szHandlerS_c _ nb B lb q W (h.2.1.below hW hB) (Nat.le_trans hB hW.size) (fun x hx => (h.2.2 x hx).below hW hB) q0 q1)
  clear h
  go_enter Tryz.func5, Tryz.ntmps5
  go_wp2_with fail
  refine (C1.out _ HB0.out _ (by omega) (by omega)).mono ?_
  rintro e w1 ⟨r1, rfl, hb1, hr1⟩
  replace HC := hid (HC.out.trans (hb1.mono HC.out.size))
  clear hb1
  have d1 := box_cell HC.out 1
  rcases hr1 with hr1 | ⟨hr1, hr1', f1⟩
  · go_wp2_with fail
    go_ret
    exact ⟨_, rfl, HB0.out.trans (HC.out.mono (by simp)), .inl (by omega)⟩
  have F1 := hid f1
  clear f1
  go_wp2_with fail
  refine (C2.out _ (HB0.out.trans (HC.out.mono (by simp))) _ (by omega) (by omega)).mono ?_
  rintro e w2 ⟨r2, rfl, hb2, hr2⟩
  replace HC := hid (HC.out.trans (hb2.mono HC.out.size))
  clear hb2 d1
  rcases hr2 with hr2 | ⟨hr2, hr2', f2⟩
  · go_wp2_with fail
    go_ret
    exact ⟨_, rfl, HB0.out.trans (HC.out.mono (by simp)), .inl (by omega)⟩
  have F2 := hid f2
  clear f2
  go_wp2_with fail
  go_ret
  exact ⟨_, rfl, HB0.out.trans (HC.out.mono (by simp)), .inr ⟨by omega, by omega, F1.out, F2.out⟩⟩
end Go.Proofs.YtlifaeleoiodkaaGreatDoor

/-
  TREES: what owns its memory (rows that lie apart), and the laws' copies of trees.
-/
namespace Go.Proofs.YtlifaeleoiodkaaGreatDoor
open Go.RowKit Nm
set_option linter.unusedSimpArgs false
set_option linter.unusedVariables false

/-- a row of cells that a slice owns -/
structure Row where
  T : TypeId
  d : Nat
  n : Nat
  v : Value
  xs : List Value
def Row.own (w : World) (lo : Nat) (r : Row) : Prop := w.ownsRow lo r.T r.d r.v r.n r.xs
/-- they lie apart -/
def Row.apart (a b : Row) : Prop := (a.v.ownBlock = none ∨ a.v.ownBlock ≠ b.v.ownBlock) ∧ (b.v.ownBlock = none ∨ b.v.ownBlock ≠ a.v.ownBlock)
theorem Row.apart.symm {a b : Row} (h : a.apart b) : b.apart a := And.intro h.2 h.1
def Rows (w : World) (lo : Nat) (rs : List Row) : Prop := (∀ r ∈ rs, r.own w lo) ∧ rs.Pairwise Row.apart
section
variable {w w' : World} {lo lo' : Nat} {rs rs' : List Row} {r : Row}
theorem Rows.nil (w : World) (lo : Nat) : Rows w lo [] := ⟨fun _ h => (by cases h), List.Pairwise.nil⟩
theorem Rows.below (h : Rows w lo rs) (hb : Below w.heap.size w w') : Rows w' lo rs := ⟨fun r hr => own_below (h.1 r hr) hb, h.2⟩
theorem Rows.base (h : Rows w lo rs) (hl : lo' ≤ lo) : Rows w lo' rs := ⟨fun r hr => own_base (h.1 r hr) hl, h.2⟩
theorem Rows.mem (h : Rows w lo rs) (hr : r ∈ rs) : r.own w lo := h.1 r hr
theorem Rows.sub (h : Rows w lo rs) (hs : rs'.Sublist rs) : Rows w lo rs' := ⟨fun r hr => h.1 r (hs.subset hr), h.2.sublist hs⟩
theorem Rows.perm (h : Rows w lo rs) (hp : rs.Perm rs') : Rows w lo rs' := ⟨fun r hr => h.1 r (hp.mem_iff.2 hr), (hp.pairwise_iff (fun h => Row.apart.symm h)).1 h.2⟩
theorem row_apart {w w' : World} {lo : Nat} {a b : Row} (h1 : a.own w lo) (h2 : b.own w' w.heap.size) : a.apart b := by
  constructor
  · cases hq : a.v.ownBlock with
    | none => exact .inl rfl
    | some g => right; intro e; have := (h1.lt g hq).2; have := own_lt h2 g e.symm; omega
  · cases hq : b.v.ownBlock with
    | none => exact .inl rfl
    | some g => right; intro e; have := (h1.lt g e.symm).2; have := own_lt h2 g hq; omega
/-- later rows behind the elder ones -/
theorem Rows.more (h : Rows w lo rs) (hb : Below w.heap.size w w') (h2 : Rows w' w.heap.size rs') (hl : lo ≤ w.heap.size) : Rows w' lo (rs ++ rs') := by
  refine ⟨fun r hr => ?_, List.pairwise_append.2 ⟨h.2, h2.2, fun a ha b hb => row_apart (h.1 a ha) (h2.1 b hb)⟩⟩
  rcases List.mem_append.1 hr with hr | hr
  · exact own_below (h.1 r hr) hb
  · exact own_base (h2.1 r hr) hl
theorem Rows.one (h : r.own w lo) : Rows w lo [r] := ⟨fun x hx => by rw [List.mem_singleton] at hx; rw [hx]; exact h, List.pairwise_singleton _ _⟩
/-- one row is written, the others stand -/
theorem Rows.write {pre post : List Row} {ys : List Value} (h : Rows w lo (pre ++ r :: post)) (hg : w.grownBy w' r.v.ownBlock) (ho : w'.ownsRow lo r.T r.d r.v r.n ys) :
    Rows w' lo (pre ++ { r with xs := ys } :: post) := by
  have hp := List.pairwise_append.1 h.2
  have hp2 := List.pairwise_cons.1 hp.2.1
  refine ⟨fun x hx => ?_, ?_⟩
  · rcases List.mem_append.1 hx with hx | hx
    · exact (h.1 x (List.mem_append.2 (.inl hx))).kept hg (hp.2.2 x hx r (by simp)).1
    · rcases List.mem_cons.1 hx with rfl | hx
      · exact ho
      · exact (h.1 x (List.mem_append.2 (.inr (by simp [hx])))).kept hg (hp2.1 x hx).2
  · refine List.pairwise_append.2 ⟨hp.1, List.pairwise_cons.2 ⟨fun b hb => hp2.1 b hb, hp2.2⟩, fun a ha b hb => ?_⟩
    rcases List.mem_cons.1 hb with rfl | hb
    · exact hp.2.2 a ha r (by simp)
    · exact hp.2.2 a ha b (by simp [hb])
theorem Rows.low {b j : Nat} {u : Value} (h : Rows w lo rs) (hb : b < lo) : Rows (w.setCell ⟨b, j, none⟩ u) lo rs := ⟨fun r hr => own_set_low (h.1 r hr) hb, h.2⟩
theorem Rows.head (h : Rows w lo (r :: rs)) : r.own w lo := h.1 r (by simp)
theorem Rows.tail (h : Rows w lo (r :: rs)) : Rows w lo rs := ⟨fun x hx => h.1 x (by simp [hx]), (List.pairwise_cons.1 h.2).2⟩
end

def lrows (x : LgrV) : List Row := [⟨9, 1, x.hn, x.hv, x.l.hs.map txt⟩, ⟨162, 3, x.fn, x.fv, fsCells x.l.fs⟩]
def hrows (x : HndV) : List Row := [⟨162, 3, x.fn, x.fv, fsCells x.h.fs⟩]
def lsRow (n : Nat) (v : Value) (l : List LgrV) : Row := ⟨112, 6, n, v, l.flatMap lcells⟩
def hsRow (n : Nat) (v : Value) (l : List HndV) : Row := ⟨125, 3, n, v, l.flatMap hcells⟩
def treeRows (n1 : Nat) (v1 : Value) (ls : List LgrV) (n2 : Nat) (v2 : Value) (hs : List HndV) : List Row :=
  (lsRow n1 v1 ls :: ls.flatMap lrows) ++ (hsRow n2 v2 hs :: hs.flatMap hrows)
/-- a tree that owns its memory, from block lo on -/
def TreeOwn (w : World) (lo : Nat) (v : Value) (ls : List LgrV) (hs : List HndV) (q : Int) : Prop :=
  ∃ v1 v2, v = .agg #[v1, v2, .int .i64 q] ∧ Rows w lo (treeRows ls.length v1 ls hs.length v2 hs)

set_option maxHeartbeats 4000000 in
set_option maxRecDepth 100000 in
theorem toStringS_c (v : Value) (n B : Nat) (l : List (List UInt8)) (w : World) (hv : Sl w B 1 n v (l.map txt)) (hB : B ≤ w.heap.size) (hn : n ≤ 1048576) :
    Calls Tryz.prog 114 #[v] w (RowPost w 9 1 n (l.map txt)) := by
  have hln : l.length = n := by have := hv.1; simpa using this
  obtain ⟨A, c, rfl, hnc, hcm⟩ := hv.form
  obtain ⟨i0, hi, hz0, hz1, hz2⟩ := info_parts Tryz.infoStr
  unfold maxLen at hcm
  have HV := hid (And.intro hv hln)
  clear hv hln
  go_enter Tryz.func114, Tryz.ntmps114
  go_wp2_with (at_make; refine wpList_make_full _ rfl _ _ 102 rfl w.heap.size 9 i0 _ 1 Tryz.underlying102 hi hz0 hz1 .i64 .i64 _ _ n rfl rfl rfl rfl (by rw [hz2]; omega) (by unfold maxLen; omega) (Nat.le_refl _) ?_)
  intro w1 hown hg1
  have H1 := hid (And.intro hown (below_of_grown hg1 (Nat.le_refl _) (by simp)))
  clear hown hg1
  go_wp2_with fail
  go_loopw [4] (fun iv wr => ∃ (k : Nat) (xs : List Value), iv = .int .i64 k ∧ k ≤ n ∧ wr.ownsRow w.heap.size 9 1 (.slice (some ⟨w.heap.size, 0, none⟩) n n) n xs ∧ Hid (∀ j, j < k → xs[j]? = (l.map txt)[j]?) ∧ Hid (Below w.heap.size w wr)) (fun iv _ => n - (intOf iv).toNat)
  case atStart => exact ⟨0, _, rfl, by omega, H1.out.1, fun j hj => by omega, H1.out.2⟩
  case round =>
    obtain ⟨k, xs, rfl, hk, hown, HX, HB⟩ := hrel
    by_cases hlt : k < n
    · obtain ⟨b, o, p, rfl, hbB, hx, c0⟩ := (HV.out.1.below HB.out hB).text hlt
      have hxl := hown.1
      obtain ⟨u0, d0⟩ := own_cell hown (j := k) (by omega)
      have f0 := hown.frozenAt k
      have R := hid (hown.stored k (.string p)).1
      have HX2 := hid hx
      clear hx hown
      go_wp2_with fail
      try go_region
      all_goals try go_wp2_with fail
      all_goals
        go_roundw
        case rel =>
          refine ⟨k + 1, xs.set k (.string p), by go_num, by omega, by first | exact R.out | exact R.out.drew, ?_, by first | exact HB.out.setCell (Nat.le_refl _) _ | exact (HB.out.drew).setCell (Nat.le_refl _) _⟩
          intro j hj
          rw [List.getElem?_set]
          by_cases e : k = j
          · subst e
            rw [if_pos rfl, if_pos (by omega), List.getElem?_map, HX2.out, ← txt_data]; rfl
          · rw [if_neg e]; exact HX.out j (by omega)
        case measure => simp [intOf]; omega
    · have HO := hid hown
      clear hown
      go_wp2_with fail
      go_ret
      refine ⟨_, rfl, ?_, HB.out⟩
      have e : xs = l.map txt := by
        have h1 := HO.out.1
        have h3 := HV.out.2
        apply List.ext_getElem?
        intro j
        by_cases hj : j < k
        · exact HX.out j hj
        · rw [List.getElem?_eq_none (by omega), List.getElem?_eq_none (by simp; omega)]
      rw [← e]
      exact HO.out

def LgrPost (w : World) (s : ByteArray) (lv : Int) (hs : List (List UInt8)) (fs : List Flt) (b1 b2 : Bool) (n1 n2 : Nat) (e : Ending) (w' : World) : Prop :=
  ∃ hv fv, e = .returned (.agg #[.string s, .int .i64 lv, hv, fv, .bool b1, .bool b2]) ∧ Rows w' w.heap.size (lrows ⟨⟨s.data.toList, lv, hs, fs, b1, b2⟩, hv, n1, fv, n2⟩) ∧ Below w.heap.size w w'

set_option maxHeartbeats 4000000 in
set_option maxRecDepth 100000 in
theorem toLogger_c (s : ByteArray) (lv : Int) (A1 A2 : Option Addr) (n1 c1 n2 c2 B : Nat) (hs : List (List UInt8)) (fs : List Flt) (b1 b2 : Bool) (w : World)
    (h1 : Sl w B 1 n1 (.slice A1 n1 c1) (hs.map txt)) (h2 : Sl w B 3 n2 (.slice A2 n2 c2) (fsCells fs)) (hB : B ≤ w.heap.size) (hn1 : n1 ≤ 1048576) (hn2 : n2 ≤ 1048576) :
    Calls Tryz.prog 78 #[.agg #[.string s, .int .i64 lv, .slice A1 n1 c1, .slice A2 n2 c2, .bool b1, .bool b2]] w (LgrPost w s lv hs fs b1 b2 n1 n2) := by
  have C1 := hid (fun (W : World) (hW : Below w.heap.size w W) => toStringS_c _ n1 B hs W (h1.below hW hB) (Nat.le_trans hB hW.size) hn1)
  have C2 := hid (fun (W : World) (hW : Below w.heap.size w W) => toFilterS_c _ n2 B fs W (h2.below hW hB) (Nat.le_trans hB hW.size) hn2)
  clear h1 h2
  go_enter Tryz.func78, Tryz.ntmps78
  go_wp2_with fail
  refine (C1.out _ ?_).mono ?_
  case refine_1 => go_grown
  rintro e w1 ⟨hv, rfl, ho1, hb1⟩
  obtain ⟨A3, c3, rfl, _, _⟩ := (Sl.of_own ho1).form
  have K1 := (Blk.new _ _ _).to hb1
  have R1 := ((Blk.new _ _ _).alloc _).to hb1
  have I1 := (((Blk.new _ _ _).alloc _).alloc _).to hb1
  simp only [World.size_alloc] at K1 R1 I1
  have HB1 := hid (Below.trans (by go_grown) (hb1.mono (by simp; omega)) : Below w.heap.size w w1)
  have HO1 := hid (own_base ho1 (by simp) : w1.ownsRow (w.heap.size + 3) _ _ _ _ _)
  have HS1 := hid (show w.heap.size + 3 ≤ w1.heap.size by have := hb1.size; simp at this; omega)
  have d3 := (I1.2 3 _ rfl).1
  have e2 := K1.2 2 _ rfl
  obtain ⟨e2c, e2f⟩ := e2
  have HK := hid (And.intro K1 (And.intro R1 I1))
  clear K1 R1 I1 hb1 ho1
  go_wp2_with fail
  refine (C2.out _ (HB1.out.setCell (by simp; omega) _)).mono ?_
  rintro e w2 ⟨fv, rfl, ho2, hb2⟩
  obtain ⟨A4, c4, rfl, _, _⟩ := (Sl.of_own ho2).form
  obtain ⟨K1, R1, I1⟩ := HK.out
  have hs1 := HS1.out
  have K2 := (K1.set 2 (.slice A3 n1 c3)).to hb2
  have R2 := (R1.apart ⟨w.heap.size + 1 + 1, 2, none⟩ (.slice A3 n1 c3) (by simp)).to hb2
  have HB2 := hid ((HB1.out.setCell (p := ⟨w.heap.size + 1 + 1, 2, none⟩) (by simp; omega) (.slice A3 n1 c3)).trans (hb2.mono (by simp; omega)))
  have hr1 : Row.own (w1.setCell ⟨w.heap.size + 1 + 1, 2, none⟩ (.slice A3 n1 c3)) (w.heap.size + 3) ⟨9, 1, n1, .slice A3 n1 c3, hs.map txt⟩ := own_set_low HO1.out (by omega)
  have HR2 := hid ((Rows.one hr1).more hb2 (Rows.one (r := ⟨162, 3, n2, .slice A4 n2 c4, fsCells fs⟩) ho2) (by simp; omega))
  obtain ⟨e0c, e0f⟩ := K2.2 0 _ rfl
  obtain ⟨e1c, e1f⟩ := K2.2 1 _ rfl
  obtain ⟨e2c', e2f'⟩ := K2.2 2 _ rfl
  obtain ⟨e3c, e3f⟩ := K2.2 3 _ rfl
  obtain ⟨e4c, e4f⟩ := K2.2 4 _ rfl
  obtain ⟨e5c, e5f⟩ := K2.2 5 _ rfl
  obtain ⟨q0c, q0f⟩ := R2.2 0 _ rfl
  obtain ⟨q1c, q1f⟩ := R2.2 1 _ rfl
  obtain ⟨q2c, q2f⟩ := R2.2 2 _ rfl
  obtain ⟨q3c, q3f⟩ := R2.2 3 _ rfl
  obtain ⟨q4c, q4f⟩ := R2.2 4 _ rfl
  obtain ⟨q5c, q5f⟩ := R2.2 5 _ rfl
  have I2 := ((I1.apart ⟨w.heap.size + 1 + 1, 2, none⟩ (.slice A3 n1 c3) (by simp; omega)).to hb2)
  have i4 := (I2.2 4 _ rfl).1
  have i5 := (I2.2 5 _ rfl).1
  have hs2 : w.heap.size + 3 ≤ w2.heap.size := by have := hb2.size; simp at this; omega
  have HRB := hid R2
  clear K1 R1 I1 K2 R2 I2 hb2 ho2 hr1 e2c e2f d3
  go_wp2_with fail
  have RB := ((((((((HRB.out.apart ⟨w.heap.size + 1 + 1, 3, none⟩ (.slice A4 n2 c4) (by simp)).apart ⟨w.heap.size + 1 + 1, 4, none⟩ (.bool b1) (by simp)).apart ⟨w.heap.size + 1 + 1, 5, none⟩ (.bool b2) (by simp)).set 0 (.string s)).set 1 (.int .i64 lv)).set 2 (.slice A3 n1 c3)).set 3 (.slice A4 n2 c4)).set 4 (.bool b1)).set 5 (.bool b2)
  have f0 := (RB.2 0 _ rfl).1
  have f1 := (RB.2 1 _ rfl).1
  have f2 := (RB.2 2 _ rfl).1
  have f3 := (RB.2 3 _ rfl).1
  have f4 := (RB.2 4 _ rfl).1
  have f5 := (RB.2 5 _ rfl).1
  refine bodyPost_ret (v := .agg #[.string s, .int .i64 lv, .slice A3 n1 c3, .slice A4 n2 c4, .bool b1, .bool b2]) (by simp [results, Tryz.results78, go_sem, f0, f1, f2, f3, f4, f5]) rfl ?_
  refine ⟨_, _, rfl, ?_, ?_⟩
  · refine Rows.base ?_ (show w.heap.size ≤ w.heap.size + 3 by omega)
    iterate 9 refine Rows.low ?_ (by omega)
    exact HR2.out
  · iterate 9 refine Below.setCell ?_ (by simp; try omega) _
    exact HB2.out

def HndPost (w : World) (s : ByteArray) (lv : Int) (fs : List Flt) (n2 : Nat) (e : Ending) (w' : World) : Prop :=
  ∃ fv, e = .returned (.agg #[.string s, .int .i64 lv, fv]) ∧ Rows w' w.heap.size (hrows ⟨⟨s.data.toList, lv, fs⟩, fv, n2⟩) ∧ Below w.heap.size w w'

set_option maxHeartbeats 4000000 in
set_option maxRecDepth 100000 in
theorem toHandler_c (s : ByteArray) (lv : Int) (A2 : Option Addr) (n2 c2 B : Nat) (fs : List Flt) (w : World)
    (h2 : Sl w B 3 n2 (.slice A2 n2 c2) (fsCells fs)) (hB : B ≤ w.heap.size) (hn2 : n2 ≤ 1048576) :
    Calls Tryz.prog 79 #[.agg #[.string s, .int .i64 lv, .slice A2 n2 c2]] w (HndPost w s lv fs n2) := by
  have C2 := hid (fun (W : World) (hW : Below w.heap.size w W) => toFilterS_c _ n2 B fs W (h2.below hW hB) (Nat.le_trans hB hW.size) hn2)
  clear h2
  go_enter Tryz.func79, Tryz.ntmps79
  go_wp2_with fail
  refine (C2.out _ ?_).mono ?_
  case refine_1 => go_grown
  rintro e w1 ⟨fv, rfl, ho1, hb1⟩
  obtain ⟨A4, c4, rfl, _, _⟩ := (Sl.of_own ho1).form
  have K1 := (Blk.new _ _ _).to hb1
  have R1 := ((Blk.new _ _ _).alloc _).to hb1
  simp only [World.size_alloc] at K1 R1
  have HB1 := hid (Below.trans (by go_grown) (hb1.mono (by simp; omega)) : Below w.heap.size w w1)
  have HR1 := hid (Rows.one (r := ⟨162, 3, n2, .slice A4 n2 c4, fsCells fs⟩) (own_base ho1 (by simp) : w1.ownsRow (w.heap.size + 3) _ _ _ _ _))
  have hs1 : w.heap.size + 3 ≤ w1.heap.size := by have := hb1.size; simp at this; omega
  obtain ⟨e0c, e0f⟩ := K1.2 0 _ rfl
  obtain ⟨e1c, e1f⟩ := K1.2 1 _ rfl
  obtain ⟨e2c, e2f⟩ := K1.2 2 _ rfl
  obtain ⟨q0c, q0f⟩ := R1.2 0 _ rfl
  obtain ⟨q1c, q1f⟩ := R1.2 1 _ rfl
  obtain ⟨q2c, q2f⟩ := R1.2 2 _ rfl
  have HRB := hid R1
  clear K1 R1 hb1 ho1
  go_wp2_with fail
  have RB := ((((HRB.out.apart ⟨w.heap.size + 1 + 1, 2, none⟩ (.slice A4 n2 c4) (by simp)).set 0 (.string s)).set 1 (.int .i64 lv)).set 2 (.slice A4 n2 c4))
  have f0 := (RB.2 0 _ rfl).1
  have f1 := (RB.2 1 _ rfl).1
  have f2 := (RB.2 2 _ rfl).1
  refine bodyPost_ret (v := .agg #[.string s, .int .i64 lv, .slice A4 n2 c4]) (by simp [results, Tryz.results79, go_sem, f0, f1, f2]) rfl ?_
  refine ⟨_, rfl, ?_, ?_⟩
  · refine Rows.base ?_ (show w.heap.size ≤ w.heap.size + 3 by omega)
    iterate 4 refine Rows.low ?_ (by omega)
    exact HR1.out
  · iterate 4 refine Below.setCell ?_ (by simp; try omega) _
    exact HB1.out

theorem Tryz.infoLogger : (Tryz.prog.info? 112).map (fun i => (i.zero, i.size, i.bytes)) = some (some (.agg #[.string ByteArray.empty, .int .i64 0, .slice none 0 0, .slice none 0 0, .bool false, .bool false]), 6, 80) := by kernel_rfl
theorem Tryz.infoHandler : (Tryz.prog.info? 125).map (fun i => (i.zero, i.size, i.bytes)) = some (some (.agg #[.string ByteArray.empty, .int .i64 0, .slice none 0 0]), 3, 48) := by kernel_rfl

def LgrsPost (w : World) (n : Nat) (l : List LgrV) (e : Ending) (w' : World) : Prop :=
  ∃ v l', e = .returned v ∧ lsOf l' = lsOf l ∧ Rows w' w.heap.size (lsRow n v l' :: l'.flatMap lrows) ∧ Below w.heap.size w w'
def HndsPost (w : World) (n : Nat) (l : List HndV) (e : Ending) (w' : World) : Prop :=
  ∃ v l', e = .returned v ∧ hsOf l' = hsOf l ∧ Rows w' w.heap.size (hsRow n v l' :: l'.flatMap hrows) ∧ Below w.heap.size w w'

set_option maxHeartbeats 4000000 in
set_option maxRecDepth 100000 in
theorem toLoggerS_c (v : Value) (n B : Nat) (l : List LgrV) (w : World) (hv : Sl w B 6 n v (l.flatMap lcells)) (hm : ∀ x ∈ l, lraw w B x) (hf : ∀ x ∈ l, lfit x) (hB : B ≤ w.heap.size) (hn : n ≤ 1048576) :
    Calls Tryz.prog 38 #[v] w (LgrsPost w n l) := by
  have hln := Sl.count lcells_len hv (by omega)
  obtain ⟨A, c, rfl, hnc, hcm⟩ := hv.form
  obtain ⟨i0, hi, hz0, hz1, hz2⟩ := info_parts Tryz.infoLogger
  unfold maxLen at hcm
  have HV := hid (And.intro hv (And.intro hm (And.intro hf hln)))
  clear hv hm hf hln
  go_enter Tryz.func38, Tryz.ntmps38
  go_wp2_with (at_make; refine wpList_make_full _ rfl _ _ 33 rfl w.heap.size 112 i0 _ 6 Tryz.underlying33 hi hz0 hz1 .i64 .i64 _ _ n rfl rfl rfl rfl (by rw [hz2]; omega) (by unfold maxLen; omega) (Nat.le_refl _) ?_)
  intro w1 hown hg1
  have H1 := hid (And.intro hown (And.intro (below_of_grown hg1 (Nat.le_refl _) (by simp)) (show w.heap.size < w1.heap.size from (hown.lt _ rfl).2)))
  clear hown hg1
  go_wp2_with fail
  go_loopw [4] (fun iv wr => ∃ (k : Nat) (xs : List Value) (l' : List LgrV), iv = .int .i64 k ∧ k ≤ n ∧ wr.ownsRow w.heap.size 112 6 (.slice (some ⟨w.heap.size, 0, none⟩) n n) n xs ∧ Hid (lsOf l' = lsOf (l.take k) ∧ (∀ j, j < k * 6 → xs[j]? = (l'.flatMap lcells)[j]?) ∧ Rows wr (w.heap.size + 1) (l'.flatMap lrows)) ∧ w.heap.size < wr.heap.size ∧ Hid (Below w.heap.size w wr)) (fun iv _ => n - (intOf iv).toNat)
  case atStart => exact ⟨0, _, [], rfl, by omega, H1.out.1, ⟨rfl, fun j hj => by omega, Rows.nil _ _⟩, H1.out.2.2, H1.out.2.1⟩
  case round =>
    obtain ⟨k, xs, l', rfl, hk, hown, HX, hsz, HB⟩ := hrel
    by_cases hlt : k < n
    · obtain ⟨b, o, x, s, rfl, hbB, hx, hs, c0, c1, c2, c3, c4, c5⟩ := lcells_at (HV.out.1.below HB.out hB) hlt
      obtain ⟨r1, ⟨r2, r3⟩, ⟨r4, r5⟩⟩ := (HV.out.2.1 _ (List.mem_of_getElem? hx)).below HB.out hB
      obtain ⟨f1, ⟨f2, f3⟩, ⟨f4, f5⟩⟩ := HV.out.2.2.1 _ (List.mem_of_getElem? hx)
      obtain ⟨A3, k3, hhv, _, _⟩ := r2.form
      obtain ⟨A4, k4, hfv, _, _⟩ := r4.form
      rw [hhv] at c2 r2
      rw [hfv] at c3 r4
      have hcall := hid (toLogger_c s x.l.lv A3 A4 x.hn k3 x.fn k4 B x.l.hs x.l.fs x.l.stop x.l.off wr r2 r4 (Nat.le_trans hB HB.out.size) f2 f4)
      have HX2 := hid (And.intro hx hs)
      have HO := hid hown
      clear hx hs r1 r2 r3 r4 r5 f1 f2 f3 f4 f5 hhv hfv hown
      go_wp2_with fail
      refine hcall.out.mono ?_
      rintro e w2 ⟨hv', fv', rfl, hrows, hb⟩
      have ohv : w2.ownsRow wr.heap.size 9 1 hv' x.hn (x.l.hs.map txt) := hrows.1 _ (List.mem_cons_self ..)
      have ofv : w2.ownsRow wr.heap.size 162 3 fv' x.fn (fsCells x.l.fs) := hrows.1 _ (List.mem_cons_of_mem _ (List.mem_cons_self ..))
      obtain ⟨A5, k5, rfl, _, _⟩ := (Sl.of_own ohv).form
      obtain ⟨A6, k6, rfl, _, _⟩ := (Sl.of_own ofv).form
      clear ohv ofv
      have hown2 := own_below HO.out hb
      have hid2 : k * 6 + 6 ≤ n * 6 := by have := Nat.mul_le_mul_right 6 hlt; omega
      obtain ⟨u0, d0⟩ := own_cell hown2 (j := k * 6) (by omega)
      obtain ⟨u1, d1⟩ := own_cell hown2 (j := k * 6 + 1) (by omega)
      obtain ⟨u2, d2⟩ := own_cell hown2 (j := k * 6 + 2) (by omega)
      obtain ⟨u3, d3⟩ := own_cell hown2 (j := k * 6 + 3) (by omega)
      obtain ⟨u4, d4⟩ := own_cell hown2 (j := k * 6 + 4) (by omega)
      obtain ⟨u5, d5⟩ := own_cell hown2 (j := k * 6 + 5) (by omega)
      have g0 := hown2.frozenAt (k * 6)
      have g1 := hown2.frozenAt (k * 6 + 1)
      have g2 := hown2.frozenAt (k * 6 + 2)
      have g3 := hown2.frozenAt (k * 6 + 3)
      have g4 := hown2.frozenAt (k * 6 + 4)
      have g5 := hown2.frozenAt (k * 6 + 5)
      have R := hid (own_put6 hown2 (k * 6) (.string s) (.int .i64 x.l.lv) (.slice A5 x.hn k5) (.slice A6 x.fn k6) (.bool x.l.stop) (.bool x.l.off))
      have HRW := hid (HX.out.2.2.more hb (rs' := lrows ⟨⟨s.data.toList, x.l.lv, x.l.hs, x.l.fs, x.l.stop, x.l.off⟩, .slice A5 x.hn k5, x.hn, .slice A6 x.fn k6, x.fn⟩) hrows (by omega))
      have HB2 := hid (HB.out.trans (hb.mono HB.out.size))
      have hsz2 : w.heap.size < w2.heap.size := Nat.lt_of_lt_of_le hsz hb.size
      have hxl := hown2.1
      have hll : l'.length = k := by
        have h1 := congrArg List.length HX.out.1
        simp only [lsOf, List.length_map, List.length_take] at h1
        have := HV.out.2.2.2; omega
      clear hown2 hb c0 c1 c2 c3 c4 c5 hrows
      go_wp2_with fail
      go_roundw
      case rel =>
        refine ⟨k + 1, _, l' ++ [⟨⟨s.data.toList, x.l.lv, x.l.hs, x.l.fs, x.l.stop, x.l.off⟩, .slice A5 x.hn k5, x.hn, .slice A6 x.fn k6, x.fn⟩], by go_num, by omega, R.out, ⟨?_, ?_, ?_⟩, by simpa using hsz2, ?_⟩
        · unfold lsOf at HX ⊢
          rw [List.map_append, HX.out.1, List.take_add_one, HX2.out.1, List.map_append]
          simp only [Option.toList, List.map_cons, List.map_nil]
          rw [HX2.out.2]
        · intro j hj
          have e := flat_grow lcells 6 lcells_len l' ⟨⟨s.data.toList, x.l.lv, x.l.hs, x.l.fs, x.l.stop, x.l.off⟩, .slice A5 x.hn k5, x.hn, .slice A6 x.fn k6, x.fn⟩ xs k hll (by omega) HX.out.2.1 j (by omega)
          simpa [put_all, lcells, txt_data] using e
        · rw [List.flatMap_append]
          iterate 6 refine Rows.low ?_ (by omega)
          simpa using HRW.out
        · iterate 6 refine Below.setCell ?_ (by simp) _
          exact HB2.out
      case measure => simp [intOf]; omega
    · have HO := hid hown
      clear hown
      go_wp2_with fail
      go_ret
      have hkn : k = n := by omega
      subst hkn
      have hll : l'.length = k := by
        have h1 := congrArg List.length HX.out.1
        simp only [lsOf, List.length_map, List.length_take] at h1
        have := HV.out.2.2.2; omega
      have e : xs = l'.flatMap lcells := by
        have h1 := HO.out.1
        have h2 := flat_len lcells 6 lcells_len l'
        apply List.ext_getElem?
        intro j
        by_cases hj : j < k * 6
        · exact HX.out.2.1 j hj
        · rw [List.getElem?_eq_none (by omega), List.getElem?_eq_none (by omega)]
      refine ⟨_, l', rfl, by rw [HX.out.1, List.take_of_length_le (by have := HV.out.2.2.2; omega)], ?_, HB.out⟩
      have ho := HO.out
      rw [e] at ho
      refine ⟨fun r hr => ?_, List.pairwise_cons.2 ⟨fun b hb => ?_, HX.out.2.2.2⟩⟩
      · rcases List.mem_cons.1 hr with rfl | hr
        · exact ho
        · exact own_base (HX.out.2.2.1 r hr) (by omega)
      · have h3 := HX.out.2.2.1 b hb
        constructor
        · right; intro e2; have := own_lt h3 w.heap.size e2.symm; omega
        · cases hq : b.v.ownBlock with
          | none => exact .inl rfl
          | some g => right; intro e2; have e3 : g = w.heap.size := Option.some.inj e2; have := own_lt h3 g hq; omega

set_option maxHeartbeats 4000000 in
set_option maxRecDepth 100000 in
theorem toHandlerS_c (v : Value) (n B : Nat) (l : List HndV) (w : World) (hv : Sl w B 3 n v (l.flatMap hcells)) (hm : ∀ x ∈ l, hraw w B x) (hf : ∀ x ∈ l, hfit x) (hB : B ≤ w.heap.size) (hn : n ≤ 1048576) :
    Calls Tryz.prog 39 #[v] w (HndsPost w n l) := by
  have hln := Sl.count hcells_len hv (by omega)
  obtain ⟨A, c, rfl, hnc, hcm⟩ := hv.form
  obtain ⟨i0, hi, hz0, hz1, hz2⟩ := info_parts Tryz.infoHandler
  unfold maxLen at hcm
  have HV := hid (And.intro hv (And.intro hm (And.intro hf hln)))
  clear hv hm hf hln
  go_enter Tryz.func39, Tryz.ntmps39
  go_wp2_with (at_make; refine wpList_make_full _ rfl _ _ 34 rfl w.heap.size 125 i0 _ 3 Tryz.underlying34 hi hz0 hz1 .i64 .i64 _ _ n rfl rfl rfl rfl (by rw [hz2]; omega) (by unfold maxLen; omega) (Nat.le_refl _) ?_)
  intro w1 hown hg1
  have H1 := hid (And.intro hown (And.intro (below_of_grown hg1 (Nat.le_refl _) (by simp)) (show w.heap.size < w1.heap.size from (hown.lt _ rfl).2)))
  clear hown hg1
  go_wp2_with fail
  go_loopw [4] (fun iv wr => ∃ (k : Nat) (xs : List Value) (l' : List HndV), iv = .int .i64 k ∧ k ≤ n ∧ wr.ownsRow w.heap.size 125 3 (.slice (some ⟨w.heap.size, 0, none⟩) n n) n xs ∧ Hid (hsOf l' = hsOf (l.take k) ∧ (∀ j, j < k * 3 → xs[j]? = (l'.flatMap hcells)[j]?) ∧ Rows wr (w.heap.size + 1) (l'.flatMap hrows)) ∧ w.heap.size < wr.heap.size ∧ Hid (Below w.heap.size w wr)) (fun iv _ => n - (intOf iv).toNat)
  case atStart => exact ⟨0, _, [], rfl, by omega, H1.out.1, ⟨rfl, fun j hj => by omega, Rows.nil _ _⟩, H1.out.2.2, H1.out.2.1⟩
  case round =>
    obtain ⟨k, xs, l', rfl, hk, hown, HX, hsz, HB⟩ := hrel
    by_cases hlt : k < n
    · obtain ⟨b, o, x, s, rfl, hbB, hx, hs, c0, c1, c2⟩ := hcells_at (HV.out.1.below HB.out hB) hlt
      obtain ⟨r1, ⟨r4, r5⟩⟩ := (HV.out.2.1 _ (List.mem_of_getElem? hx)).below HB.out hB
      obtain ⟨f1, ⟨f4, f5⟩⟩ := HV.out.2.2.1 _ (List.mem_of_getElem? hx)
      obtain ⟨A4, k4, hfv, _, _⟩ := r4.form
      rw [hfv] at c2 r4
      have hcall := hid (toHandler_c s x.h.lv A4 x.fn k4 B x.h.fs wr r4 (Nat.le_trans hB HB.out.size) f4)
      have HX2 := hid (And.intro hx hs)
      have HO := hid hown
      clear hx hs r1 r4 r5 f1 f4 f5 hfv hown
      go_wp2_with fail
      refine hcall.out.mono ?_
      rintro e w2 ⟨fv', rfl, hrw, hb⟩
      have ofv : w2.ownsRow wr.heap.size 162 3 fv' x.fn (fsCells x.h.fs)   := hrw.1 _ (List.mem_cons_self ..)
      obtain ⟨A6, k6, rfl, _, _⟩ := (Sl.of_own ofv).form
      clear ofv
      have hown2 := own_below HO.out hb
      have hid2 : k * 3 + 3 ≤ n * 3 := by have := Nat.mul_le_mul_right 3 hlt; omega
      obtain ⟨u0, d0⟩ := own_cell hown2 (j := k * 3) (by omega)
      obtain ⟨u1, d1⟩ := own_cell hown2 (j := k * 3 + 1) (by omega)
      obtain ⟨u2, d2⟩ := own_cell hown2 (j := k * 3 + 2) (by omega)
      have g0 := hown2.frozenAt (k * 3)
      have g1 := hown2.frozenAt (k * 3 + 1)
      have g2 := hown2.frozenAt (k * 3 + 2)
      have R := hid (own_put3 hown2 (k * 3) (.string s) (.int .i64 x.h.lv) (.slice A6 x.fn k6))
      have HRW := hid (HX.out.2.2.more hb (rs' := hrows ⟨⟨s.data.toList, x.h.lv, x.h.fs⟩, .slice A6 x.fn k6, x.fn⟩) hrw (by omega))
      have HB2 := hid (HB.out.trans (hb.mono HB.out.size))
      have hsz2 : w.heap.size < w2.heap.size := Nat.lt_of_lt_of_le hsz hb.size
      have hxl := hown2.1
      have hll : l'.length = k := by
        have h1 := congrArg List.length HX.out.1
        simp only [hsOf, List.length_map, List.length_take] at h1
        have := HV.out.2.2.2; omega
      clear hown2 hb c0 c1 c2 hrw
      go_wp2_with fail
      go_roundw
      case rel =>
        refine ⟨k + 1, _, l' ++ [⟨⟨s.data.toList, x.h.lv, x.h.fs⟩, .slice A6 x.fn k6, x.fn⟩], by go_num, by omega, R.out, ⟨?_, ?_, ?_⟩, by simpa using hsz2, ?_⟩
        · unfold hsOf at HX ⊢
          rw [List.map_append, HX.out.1, List.take_add_one, HX2.out.1, List.map_append]
          simp only [Option.toList, List.map_cons, List.map_nil]
          rw [HX2.out.2]
        · intro j hj
          have e := flat_grow hcells 3 hcells_len l' ⟨⟨s.data.toList, x.h.lv, x.h.fs⟩, .slice A6 x.fn k6, x.fn⟩ xs k hll (by omega) HX.out.2.1 j (by omega)
          simpa [put_all, hcells, txt_data] using e
        · rw [List.flatMap_append]
          iterate 3 refine Rows.low ?_ (by omega)
          simpa using HRW.out
        · iterate 3 refine Below.setCell ?_ (by simp) _
          exact HB2.out
      case measure => simp [intOf]; omega
    · have HO := hid hown
      clear hown
      go_wp2_with fail
      go_ret
      have hkn : k = n := by omega
      subst hkn
      have hll : l'.length = k := by
        have h1 := congrArg List.length HX.out.1
        simp only [hsOf, List.length_map, List.length_take] at h1
        have := HV.out.2.2.2; omega
      have e : xs = l'.flatMap hcells := by
        have h1 := HO.out.1
        have h2 := flat_len hcells 3 hcells_len l'
        apply List.ext_getElem?
        intro j
        by_cases hj : j < k * 3
        · exact HX.out.2.1 j hj
        · rw [List.getElem?_eq_none (by omega), List.getElem?_eq_none (by omega)]
      refine ⟨_, l', rfl, by rw [HX.out.1, List.take_of_length_le (by have := HV.out.2.2.2; omega)], ?_, HB.out⟩
      have ho := HO.out
      rw [e] at ho
      refine ⟨fun r hr => ?_, List.pairwise_cons.2 ⟨fun b hb => ?_, HX.out.2.2.2⟩⟩
      · rcases List.mem_cons.1 hr with rfl | hr
        · exact ho
        · exact own_base (HX.out.2.2.1 r hr) (by omega)
      · have h3 := HX.out.2.2.1 b hb
        constructor
        · right; intro e2; have := own_lt h3 w.heap.size e2.symm; omega
        · cases hq : b.v.ownBlock with
          | none => exact .inl rfl
          | some g => right; intro e2; have e3 : g = w.heap.size := Option.some.inj e2; have := own_lt h3 g hq; omega

def ToTreePost (w : World) (na nb : Nat) (la : List LgrV) (lb : List HndV) (q : Int) (e : Ending) (w' : World) : Prop :=
  ∃ v1 v2 ls hs, e = .returned (.agg #[v1, v2, .int .i64 q]) ∧ lsOf ls = lsOf la ∧ hsOf hs = hsOf lb ∧ Rows w' w.heap.size (treeRows na v1 ls nb v2 hs) ∧ Below w.heap.size w w'

set_option maxHeartbeats 4000000 in
set_option maxRecDepth 100000 in
theorem toTree_c (Aa : Option Addr) (na ca : Nat) (Ab : Option Addr) (nb cb B : Nat) (q : Int) (la : List LgrV) (lb : List HndV) (w : World) (h : treeRaw w B Aa na ca Ab nb cb la lb) (hf : treeFit na nb la lb) (hB : B ≤ w.heap.size) :
    Calls Tryz.prog 9 #[.agg #[.slice Aa na ca, .slice Ab nb cb, .int .i64 q]] w (ToTreePost w na nb la lb q) := by
  have C1 := hid (fun (W : World) (hW : Below w.heap.size w W) => toLoggerS_c _ na B la W (h.1.1.below hW hB) (fun x hx => (h.1.2 x hx).below hW hB) hf.1.2 (Nat.le_trans hB hW.size) hf.1.1)
  have C2 := hid (fun (W : World) (hW : Below w.heap.size w W) => toHandlerS_c _ nb B lb W (h.2.1.below hW hB) (fun x hx => (h.2.2 x hx).below hW hB) hf.2.2 (Nat.le_trans hB hW.size) hf.2.1)
  clear h hf
  go_enter Tryz.func9, Tryz.ntmps9
  go_wp2_with fail
  refine (C1.out _ ?_).mono ?_
  case refine_1 => go_grown
  rintro e w1 ⟨v1, ls, rfl, hls, hr1, hb1⟩
  obtain ⟨A3, c3, rfl, _, _⟩ := (Sl.of_own (show w1.ownsRow _ _ 6 v1 na _ from hr1.head)).form
  have K1 := (Blk.new _ _ _).to hb1
  have R1 := ((Blk.new _ _ _).alloc _).to hb1
  have I1 := (((Blk.new _ _ _).alloc _).alloc _).to hb1
  simp only [World.size_alloc] at K1 R1 I1
  have HB1 := hid (Below.trans (by go_grown) (hb1.mono (by simp; omega)) : Below w.heap.size w w1)
  have HO1 := hid (hr1.base (by simp) : Rows w1 (w.heap.size + 3) _)
  have HS1 := hid (show w.heap.size + 3 ≤ w1.heap.size by have := hb1.size; simp at this; omega)
  have d1 := (I1.2 1 _ rfl).1
  obtain ⟨e0c, e0f⟩ := K1.2 0 _ rfl
  have HK := hid (And.intro K1 (And.intro R1 I1))
  have HL := hid hls
  clear K1 R1 I1 hb1 hr1 hls
  go_wp2_with fail
  refine (C2.out _ (HB1.out.setCell (by simp; omega) _)).mono ?_
  rintro e w2 ⟨v2, hs, rfl, hhs, hr2, hb2⟩
  obtain ⟨A4, c4, rfl, _, _⟩ := (Sl.of_own (show w2.ownsRow _ _ 3 v2 nb _ from hr2.head)).form
  obtain ⟨K1, R1, I1⟩ := HK.out
  have hs1 := HS1.out
  have K2 := (K1.set 0 (.slice A3 na c3)).to hb2
  have R2 := (R1.apart ⟨w.heap.size + 1 + 1, 0, none⟩ (.slice A3 na c3) (by simp)).to hb2
  have I2 := ((I1.apart ⟨w.heap.size + 1 + 1, 0, none⟩ (.slice A3 na c3) (by simp; omega)).to hb2)
  have HB2 := hid ((HB1.out.setCell (p := ⟨w.heap.size + 1 + 1, 0, none⟩) (by simp; omega) (.slice A3 na c3)).trans (hb2.mono (by simp; omega)))
  have HR2 := hid ((HO1.out.low (b := w.heap.size + 1 + 1) (j := 0) (u := .slice A3 na c3) (by omega)).more hb2 hr2 (by simp; omega))
  have HL2 := hid hhs
  obtain ⟨e0c', e0f'⟩ := K2.2 0 _ rfl
  obtain ⟨e1c, e1f⟩ := K2.2 1 _ rfl
  obtain ⟨e2c, e2f⟩ := K2.2 2 _ rfl
  obtain ⟨q0c, q0f⟩ := R2.2 0 _ rfl
  obtain ⟨q1c, q1f⟩ := R2.2 1 _ rfl
  obtain ⟨q2c, q2f⟩ := R2.2 2 _ rfl
  have i2 := (I2.2 2 _ rfl).1
  have hs2 : w.heap.size + 3 ≤ w2.heap.size := by have := hb2.size; simp at this; omega
  have HRB := hid R2
  clear K1 R1 I1 K2 R2 I2 hb2 hr2 hhs e0c e0f d1
  go_wp2_with fail
  have RB := (((((HRB.out.apart ⟨w.heap.size + 1 + 1, 1, none⟩ (.slice A4 nb c4) (by simp)).apart ⟨w.heap.size + 1 + 1, 2, none⟩ (.int .i64 q) (by simp)).set 0 (.slice A3 na c3)).set 1 (.slice A4 nb c4)).set 2 (.int .i64 q))
  have f0 := (RB.2 0 _ rfl).1
  have f1 := (RB.2 1 _ rfl).1
  have f2 := (RB.2 2 _ rfl).1
  refine bodyPost_ret (v := .agg #[.slice A3 na c3, .slice A4 nb c4, .int .i64 q]) (by simp [results, Tryz.results9, go_sem, f0, f1, f2]) rfl ?_
  refine ⟨_, _, ls, hs, rfl, HL.out, HL2.out, ?_, ?_⟩
  · refine Rows.base ?_ (show w.heap.size ≤ w.heap.size + 3 by omega)
    iterate 5 refine Rows.low ?_ (by omega)
    exact HR2.out
  · iterate 5 refine Below.setCell ?_ (by simp; try omega) _
    exact HB2.out
end Go.Proofs.YtlifaeleoiodkaaGreatDoor

/-
  TREES compared by the laws, and what an owned tree is to the functions.
-/
namespace Go.Proofs.YtlifaeleoiodkaaGreatDoor
open Go.RowKit Nm
set_option linter.unusedSimpArgs false
set_option linter.unusedVariables false

set_option maxHeartbeats 2000000 in
set_option maxRecDepth 100000 in
theorem eqLogger_c (s : ByteArray) (lv : Int) (A1 A2 A3 A4 : Option Addr) (n1 c1 n2 c2 c3 c4 B : Nat) (hs : List (List UInt8)) (fs : List Flt) (b1 b2 : Bool) (w : World)
    (h1 : Sl w B 1 n1 (.slice A1 n1 c1) (hs.map txt)) (h2 : Sl w B 3 n2 (.slice A2 n2 c2) (fsCells fs)) (h3 : Sl w B 1 n1 (.slice A3 n1 c3) (hs.map txt)) (h4 : Sl w B 3 n2 (.slice A4 n2 c4) (fsCells fs)) (hB : B ≤ w.heap.size) :
    Calls Tryz.prog 84 #[.agg #[.string s, .int .i64 lv, .slice A1 n1 c1, .slice A2 n2 c2, .bool b1, .bool b2], .agg #[.string s, .int .i64 lv, .slice A3 n1 c3, .slice A4 n2 c4, .bool b1, .bool b2]] w (BoolPost w true) := by
  have e0 : (s.toList == s.toList) = true := by simp
  have e1 : (lv == lv) = true := by simp
  have e2 : (b1 == b1) = true := by simp
  have e3 : (b2 == b2) = true := by simp
  have C1 := hid (fun (W : World) (hW : Below w.heap.size w W) => eqStrs_c _ _ n1 n1 B hs hs W (h1.below hW hB) (h3.below hW hB) (Nat.le_trans hB hW.size))
  have C2 := hid (fun (W : World) (hW : Below w.heap.size w W) => eqFilterS_c _ _ n2 B fs W (h2.below hW hB) (h4.below hW hB) (Nat.le_trans hB hW.size))
  have HT := hid (show decide (hs = hs) = true by simp)
  clear h1 h2 h3 h4
  go_enter Tryz.func84, Tryz.ntmps84
  go_wp2_with fail
  refine (C1.out _ ?_).mono ?_
  case refine_1 => go_grown
  rintro e w1 ⟨rfl, hb1⟩
  rw [HT.out]
  have K1 := (((Blk.new _ _ _).alloc _)).to hb1
  have K2 := (Blk.new _ _ _).to hb1
  simp only [World.size_alloc] at K1 K2
  have HB1 := hid (Below.trans (by go_grown) (hb1.mono (by simp; omega)) : Below w.heap.size w w1)
  have HK := hid (And.intro K1 K2)
  have x3 := (K1.2 3 _ rfl).1
  have y3 := (K2.2 3 _ rfl).1
  clear K1 K2 hb1
  go_wp2_with fail
  refine (C2.out _ HB1.out).mono ?_
  rintro e w2 ⟨rfl, hb2⟩
  obtain ⟨K1, K2⟩ := HK.out
  have K1 := K1.to hb2
  have K2 := K2.to hb2
  have HB2 := hid (HB1.out.trans (hb2.mono HB1.out.size))
  have x4 := (K1.2 4 _ rfl).1
  have y4 := (K2.2 4 _ rfl).1
  have x5 := (K1.2 5 _ rfl).1
  have y5 := (K2.2 5 _ rfl).1
  clear K1 K2 hb2 x3 y3
  go_wp2_with fail
  all_goals go_ret
  all_goals exact ⟨ret_bool (by simp_all), HB2.out⟩

set_option maxHeartbeats 2000000 in
set_option maxRecDepth 100000 in
theorem eqHandler_c (s : ByteArray) (lv : Int) (A2 A4 : Option Addr) (n2 c2 c4 B : Nat) (fs : List Flt) (w : World)
    (h2 : Sl w B 3 n2 (.slice A2 n2 c2) (fsCells fs)) (h4 : Sl w B 3 n2 (.slice A4 n2 c4) (fsCells fs)) (hB : B ≤ w.heap.size) :
    Calls Tryz.prog 85 #[.agg #[.string s, .int .i64 lv, .slice A2 n2 c2], .agg #[.string s, .int .i64 lv, .slice A4 n2 c4]] w (BoolPost w true) := by
  have C2 := hid (fun (W : World) (hW : Below w.heap.size w W) => eqFilterS_c _ _ n2 B fs W (h2.below hW hB) (h4.below hW hB) (Nat.le_trans hB hW.size))
  clear h2 h4
  go_enter Tryz.func85, Tryz.ntmps85
  go_wp2_with fail
  refine (C2.out _ ?_).mono ?_
  case refine_1 => go_grown
  rintro e w1 ⟨rfl, hb1⟩
  have HB1 := hid (Below.trans (by go_grown) (hb1.mono (by simp; omega)) : Below w.heap.size w w1)
  clear hb1
  go_wp2_with fail
  all_goals go_ret
  all_goals exact ⟨ret_bool (by simp_all), HB1.out⟩

set_option maxHeartbeats 4000000 in
set_option maxRecDepth 100000 in
theorem eqLoggerS_c (v1 v2 : Value) (n B : Nat) (l1 l2 : List LgrV) (w : World) (he : lsOf l1 = lsOf l2) (h1 : Sl w B 6 n v1 (l1.flatMap lcells)) (h2 : Sl w B 6 n v2 (l2.flatMap lcells)) (m1 : ∀ x ∈ l1, lraw w B x) (m2 : ∀ x ∈ l2, lraw w B x) (hB : B ≤ w.heap.size) :
    Calls Tryz.prog 44 #[v1, v2] w (BoolPost w true) := by
  obtain ⟨A1, k1, rfl, _, hm1⟩ := h1.form
  obtain ⟨A2, k2, rfl, _, hm2⟩ := h2.form
  unfold maxLen at hm1 hm2
  have HS := hid (And.intro (And.intro h1 m1) (And.intro h2 m2))
  have HE := hid he
  have b0 : ((n : Int) != (n : Int)) = false := by simp
  clear h1 h2 m1 m2 he
  go_enter Tryz.func44, Tryz.ntmps44
  go_wp2_with fail
  go_loopw [5] (fun iv wr => ∃ (i : Nat), iv = .int .i64 i ∧ i ≤ n ∧ Hid (Below w.heap.size w wr)) (fun iv _ => n - (intOf iv).toNat)
  case atStart => exact ⟨0, rfl, by omega, Below.refl _ _⟩
  case round =>
    obtain ⟨i, rfl, hi, HB⟩ := hrel
    by_cases hlt : i < n
    · obtain ⟨b, o, x, s, rfl, hbB, hx, hs, g0, g1, g2, g3, g4, g5⟩ := lcells_at (HS.out.1.1.below HB.out hB) hlt
      obtain ⟨b', o', x', s', rfl, hbB', hx', hs', g0', g1', g2', g3', g4', g5'⟩ := lcells_at (HS.out.2.1.below HB.out hB) hlt
      have hl : x.l = x'.l := by
        have h := congrArg (fun l => l[i]?) HE.out
        simp only [lsOf, List.getElem?_map, hx, hx', Option.map_some] at h
        exact Option.some.inj h
      obtain rfl : s = s' := (bytes_eq_iff _ _).1 (by rw [hs, hs', hl])
      obtain ⟨_, ⟨r2, _⟩, ⟨r4, _⟩⟩ := (HS.out.1.2 _ (List.mem_of_getElem? hx)).below HB.out hB
      obtain ⟨_, ⟨t2, _⟩, ⟨t4, _⟩⟩ := (HS.out.2.2 _ (List.mem_of_getElem? hx')).below HB.out hB
      obtain ⟨A3, k3, hhv, _, _⟩ := r2.form
      obtain ⟨A4, k4, hfv, _, _⟩ := r4.form
      obtain ⟨A5, k5, hhv', _, _⟩ := t2.form
      obtain ⟨A6, k6, hfv', _, _⟩ := t4.form
      have hn1 : x.hn = x'.hn := by have := r2.1; have := t2.1; rw [hl] at *; simp at *; omega
      have hn2 : x.fn = x'.fn := by have := r4.1; have := t4.1; rw [hl] at *; omega
      rw [hhv] at g2 r2
      rw [hfv] at g3 r4
      rw [hhv', ← hn1] at g2' t2
      rw [hfv', ← hn2] at g3' t4
      rw [← hl] at g1' g4' g5' t2 t4
      have E := hid (fun (W : World) (hW : Below wr.heap.size wr W) => eqLogger_c s x.l.lv A3 A4 A5 A6 x.hn k3 x.fn k4 k5 k6 B x.l.hs x.l.fs x.l.stop x.l.off W (r2.below hW (Nat.le_trans hB HB.out.size)) (r4.below hW (Nat.le_trans hB HB.out.size)) (t2.below hW (Nat.le_trans hB HB.out.size)) (t4.below hW (Nat.le_trans hB HB.out.size)) (Nat.le_trans hB (Nat.le_trans HB.out.size hW.size)))
      clear hx hx' hs hs' hl r2 r4 t2 t4 hhv hfv hhv' hfv' hn1 hn2
      go_wp2_with fail
      go_region_with (go_at_call 84; refine (E.out _ (by first | exact Below.refl _ _ | exact (Below.refl _ _).drew | exact (Below.refl _ _).drew.drew)).mono ?_; rintro e w2 ⟨rfl, hb⟩)
      all_goals go_wp2_with fail
      all_goals
        go_roundw
        case rel => exact ⟨i + 1, by go_num, by omega, by first | exact HB.out.trans (hb.mono HB.out.size) | exact HB.out.drew.trans (hb.mono HB.out.size) | exact HB.out.drew.drew.trans (hb.mono HB.out.size)⟩
        case measure => simp [intOf]; omega
    · go_wp2_with fail
      go_ret
      exact ⟨rfl, HB.out⟩

set_option maxHeartbeats 4000000 in
set_option maxRecDepth 100000 in
theorem eqHandlerS_c (v1 v2 : Value) (n B : Nat) (l1 l2 : List HndV) (w : World) (he : hsOf l1 = hsOf l2) (h1 : Sl w B 3 n v1 (l1.flatMap hcells)) (h2 : Sl w B 3 n v2 (l2.flatMap hcells)) (m1 : ∀ x ∈ l1, hraw w B x) (m2 : ∀ x ∈ l2, hraw w B x) (hB : B ≤ w.heap.size) :
    Calls Tryz.prog 45 #[v1, v2] w (BoolPost w true) := by
  obtain ⟨A1, k1, rfl, _, hm1⟩ := h1.form
  obtain ⟨A2, k2, rfl, _, hm2⟩ := h2.form
  unfold maxLen at hm1 hm2
  have HS := hid (And.intro (And.intro h1 m1) (And.intro h2 m2))
  have HE := hid he
  have b0 : ((n : Int) != (n : Int)) = false := by simp
  clear h1 h2 m1 m2 he
  go_enter Tryz.func45, Tryz.ntmps45
  go_wp2_with fail
  go_loopw [5] (fun iv wr => ∃ (i : Nat), iv = .int .i64 i ∧ i ≤ n ∧ Hid (Below w.heap.size w wr)) (fun iv _ => n - (intOf iv).toNat)
  case atStart => exact ⟨0, rfl, by omega, Below.refl _ _⟩
  case round =>
    obtain ⟨i, rfl, hi, HB⟩ := hrel
    by_cases hlt : i < n
    · obtain ⟨b, o, x, s, rfl, hbB, hx, hs, g0, g1, g2⟩ := hcells_at (HS.out.1.1.below HB.out hB) hlt
      obtain ⟨b', o', x', s', rfl, hbB', hx', hs', g0', g1', g2'⟩ := hcells_at (HS.out.2.1.below HB.out hB) hlt
      have hl : x.h = x'.h := by
        have h := congrArg (fun l => l[i]?) HE.out
        simp only [hsOf, List.getElem?_map, hx, hx', Option.map_some] at h
        exact Option.some.inj h
      obtain rfl : s = s' := (bytes_eq_iff _ _).1 (by rw [hs, hs', hl])
      obtain ⟨_, ⟨r4, _⟩⟩ := (HS.out.1.2 _ (List.mem_of_getElem? hx)).below HB.out hB
      obtain ⟨_, ⟨t4, _⟩⟩ := (HS.out.2.2 _ (List.mem_of_getElem? hx')).below HB.out hB
      obtain ⟨A4, k4, hfv, _, _⟩ := r4.form
      obtain ⟨A6, k6, hfv', _, _⟩ := t4.form
      have hn2 : x.fn = x'.fn := by have := r4.1; have := t4.1; rw [hl] at *; omega
      rw [hfv] at g2 r4
      rw [hfv', ← hn2] at g2' t4
      rw [← hl] at g1' t4
      have E := hid (fun (W : World) (hW : Below wr.heap.size wr W) => eqHandler_c s x.h.lv A4 A6 x.fn k4 k6 B x.h.fs W (r4.below hW (Nat.le_trans hB HB.out.size)) (t4.below hW (Nat.le_trans hB HB.out.size)) (Nat.le_trans hB (Nat.le_trans HB.out.size hW.size)))
      clear hx hx' hs hs' hl r4 t4 hfv hfv' hn2
      go_wp2_with fail
      go_region_with (go_at_call 85; refine (E.out _ (by first | exact Below.refl _ _ | exact (Below.refl _ _).drew | exact (Below.refl _ _).drew.drew)).mono ?_; rintro e w2 ⟨rfl, hb⟩)
      all_goals go_wp2_with fail
      all_goals
        go_roundw
        case rel => exact ⟨i + 1, by go_num, by omega, by first | exact HB.out.trans (hb.mono HB.out.size) | exact HB.out.drew.trans (hb.mono HB.out.size) | exact HB.out.drew.drew.trans (hb.mono HB.out.size)⟩
        case measure => simp [intOf]; omega
    · go_wp2_with fail
      go_ret
      exact ⟨rfl, HB.out⟩

set_option maxHeartbeats 2000000 in
set_option maxRecDepth 100000 in
theorem eqTree_c (Aa Aa' : Option Addr) (na ca ca' : Nat) (Ab Ab' : Option Addr) (nb cb cb' B : Nat) (q : Int) (la la' : List LgrV) (lb lb' : List HndV) (w : World) (h : treeRaw w B Aa na ca Ab nb cb la lb) (h' : treeRaw w B Aa' na ca' Ab' nb cb' la' lb') (hl : lsOf la = lsOf la') (hh : hsOf lb = hsOf lb') (hB : B ≤ w.heap.size) :
    Calls Tryz.prog 14 #[.agg #[.slice Aa na ca, .slice Ab nb cb, .int .i64 q], .agg #[.slice Aa' na ca', .slice Ab' nb cb', .int .i64 q]] w (BoolPost w true) := by
  have C1 := hid (fun (W : World) (hW : Below w.heap.size w W) => eqLoggerS_c _ _ na B la la' W hl (h.1.1.below hW hB) (h'.1.1.below hW hB) (fun x hx => (h.1.2 x hx).below hW hB) (fun x hx => (h'.1.2 x hx).below hW hB) (Nat.le_trans hB hW.size))
  have C2 := hid (fun (W : World) (hW : Below w.heap.size w W) => eqHandlerS_c _ _ nb B lb lb' W hh (h.2.1.below hW hB) (h'.2.1.below hW hB) (fun x hx => (h.2.2 x hx).below hW hB) (fun x hx => (h'.2.2 x hx).below hW hB) (Nat.le_trans hB hW.size))
  have e0 : (q == q) = true := by simp
  clear h h' hl hh
  go_enter Tryz.func14, Tryz.ntmps14
  go_wp2_with fail
  refine (C1.out _ ?_).mono ?_
  case refine_1 => go_grown
  rintro e w1 ⟨rfl, hb1⟩
  have K1 := (((Blk.new _ _ _).alloc _)).to hb1
  have K2 := (Blk.new _ _ _).to hb1
  simp only [World.size_alloc] at K1 K2
  have HB1 := hid (Below.trans (by go_grown) (hb1.mono (by simp; omega)) : Below w.heap.size w w1)
  have HK := hid (And.intro K1 K2)
  have x1 := (K1.2 1 _ rfl).1
  have y1 := (K2.2 1 _ rfl).1
  clear K1 K2 hb1
  go_wp2_with fail
  refine (C2.out _ HB1.out).mono ?_
  rintro e w2 ⟨rfl, hb2⟩
  obtain ⟨K1, K2⟩ := HK.out
  have K1 := K1.to hb2
  have K2 := K2.to hb2
  have HB2 := hid (HB1.out.trans (hb2.mono HB1.out.size))
  have x2 := (K1.2 2 _ rfl).1
  have y2 := (K2.2 2 _ rfl).1
  clear K1 K2 hb2 x1 y1
  go_wp2_with fail
  all_goals go_ret
  all_goals exact ⟨ret_bool (by simp_all), HB2.out⟩
end Go.Proofs.YtlifaeleoiodkaaGreatDoor

/-
  An argument that is a tree: what it reads as.
-/
namespace Go.Proofs.YtlifaeleoiodkaaGreatDoor
open Go.RowKit Nm Go.ChangeShapes Go.WideShapes Go.Deep
set_option linter.unusedSimpArgs false
set_option linter.unusedVariables false

instance : Inhabited Lgr := ⟨⟨[], 0, [], [], false, false⟩⟩
instance : Inhabited LgrV := ⟨⟨default, default, 0, default, 0⟩⟩
instance : Inhabited Hnd := ⟨⟨[], 0, []⟩⟩
instance : Inhabited HndV := ⟨⟨default, default, 0⟩⟩
theorem open_text {H : Type} {enc : TypeId × Value → H} {W : World} {base n : Nat} {sp : Nat → Bool} {hd : Bool} {cs : List Value} {x : DataW H × List MemPlace}
    (h : DataW.trod enc Tryz.prog W base sp hd n 9 cs = some x) : ∃ y : List UInt8, cs = [txt y] ∧ y.length ≤ maxLen := by
  obtain ⟨s, e, _, hs⟩ := DataW.trod_string Tryz.underlying9 h
  exact ⟨s.data.toList, by rw [e, txt_data], by rw [← Lib.size_eq]; exact hs⟩
theorem open_flt' {H : Type} {enc : TypeId × Value → H} {W : World} {base n : Nat} {sp : Nat → Bool} {hd : Bool} {cs : List Value} {x : DataW H × List MemPlace}
    (h : DataW.trod enc Tryz.prog W base sp hd n 182 cs = some x) : ∃ f : Flt, cs = fcells f ∧ f.nm.length ≤ maxLen :=
  open_flt Tryz.underlying182 (by kernel_rfl) (by kernel_rfl) Tryz.underlying3 Tryz.underlying9 Tryz.underlying3 h
theorem flatMap_txt (l : List (List UInt8)) : l.flatMap (fun t => [txt t]) = l.map txt := by
  induction l with
  | nil => rfl
  | cons a l ih => simp [ih]
/-- one slice among the fields -/
theorem open_txts {H : Type} {enc : TypeId × Value → H} {W : World} {base n : Nat} {sp : Nat → Bool} {hd : Bool} {v : Value} {x : DataW H × List MemPlace}
    (h : DataW.trod enc Tryz.prog W base sp hd n 102 [v] = some x) : ∃ (l : List (List UInt8)) (k : Nat), Sl W W.heap.size 1 k v (l.map txt) ∧ ∀ t ∈ l, t.length ≤ maxLen := by
  obtain ⟨l, k, h1, h2⟩ := open_rows (fun t : List UInt8 => [txt t]) 1 (fun _ => rfl) (by omega) (fun t => t.length ≤ maxLen) Tryz.underlying102 (by kernel_rfl) (fun _ _ _ h => open_text h) h
  exact ⟨l, k, by rw [← flatMap_txt]; exact h1, h2⟩
theorem open_fs {H : Type} {enc : TypeId × Value → H} {W : World} {base n : Nat} {sp : Nat → Bool} {hd : Bool} {v : Value} {x : DataW H × List MemPlace}
    (h : DataW.trod enc Tryz.prog W base sp hd n 103 [v] = some x) : ∃ (l : List Flt) (k : Nat), Sl W W.heap.size 3 k v (fsCells l) ∧ ∀ f ∈ l, f.nm.length ≤ maxLen :=
  open_rows fcells 3 (fun _ => rfl) (by omega) (fun f => f.nm.length ≤ maxLen) Tryz.underlying103 (by kernel_rfl) (fun _ _ _ h => open_flt' h) h
set_option maxRecDepth 100000 in
theorem openLogger {H : Type} {enc : TypeId × Value → H} {W : World} {base n : Nat} {sp : Nat → Bool} {hd : Bool} {cs : List Value} {x : DataW H × List MemPlace}
    (h : DataW.trod enc Tryz.prog W base sp hd n 105 cs = some x) : ∃ y : LgrV, cs = lcells y ∧ lraw W W.heap.size y := by
  obtain ⟨ys, m, _, _, hlen, hyl, hf⟩ := DataW.trod_struct Tryz.underlying105 h
  rw [show Tryz.prog.cellsOf 105 = 6 by kernel_rfl] at hlen
  have hys : ys.length = 6 := hyl
  match cs, hlen with
  | [c0, c1, c2, c3, c4, c5], _ =>
    have k0 : DataW.trod enc Tryz.prog W base sp hd m 9 [c0] = some (ys[0]'(by omega)) := by
      rw [← List.getElem?_eq_getElem, ← hf 0 _ rfl]
      first | rfl | (show _ = DataW.trod _ _ _ _ _ _ _ _ (List.take (Tryz.prog.cellsOf 9) _); rw [show Tryz.prog.cellsOf 9 = 1 by kernel_rfl]; rfl)
    have k1 : DataW.trod enc Tryz.prog W base sp hd m 3 [c1] = some (ys[1]'(by omega)) := by
      rw [← List.getElem?_eq_getElem, ← hf 1 _ rfl]
      first | rfl | (show _ = DataW.trod _ _ _ _ _ _ _ _ (List.take (Tryz.prog.cellsOf 3) _); rw [show Tryz.prog.cellsOf 3 = 1 by kernel_rfl]; rfl)
    have k2 : DataW.trod enc Tryz.prog W base sp hd m 102 [c2] = some (ys[2]'(by omega)) := by
      rw [← List.getElem?_eq_getElem, ← hf 2 _ rfl]
      first | rfl | (show _ = DataW.trod _ _ _ _ _ _ _ _ (List.take (Tryz.prog.cellsOf 102) _); rw [show Tryz.prog.cellsOf 102 = 1 by kernel_rfl]; rfl)
    have k3 : DataW.trod enc Tryz.prog W base sp hd m 103 [c3] = some (ys[3]'(by omega)) := by
      rw [← List.getElem?_eq_getElem, ← hf 3 _ rfl]
      first | rfl | (show _ = DataW.trod _ _ _ _ _ _ _ _ (List.take (Tryz.prog.cellsOf 103) _); rw [show Tryz.prog.cellsOf 103 = 1 by kernel_rfl]; rfl)
    have k4 : DataW.trod enc Tryz.prog W base sp hd m 4 [c4] = some (ys[4]'(by omega)) := by
      rw [← List.getElem?_eq_getElem, ← hf 4 _ rfl]
      first | rfl | (show _ = DataW.trod _ _ _ _ _ _ _ _ (List.take (Tryz.prog.cellsOf 4) _); rw [show Tryz.prog.cellsOf 4 = 1 by kernel_rfl]; rfl)
    have k5 : DataW.trod enc Tryz.prog W base sp hd m 4 [c5] = some (ys[5]'(by omega)) := by
      rw [← List.getElem?_eq_getElem, ← hf 5 _ rfl]
      first | rfl | (show _ = DataW.trod _ _ _ _ _ _ _ _ (List.take (Tryz.prog.cellsOf 4) _); rw [show Tryz.prog.cellsOf 4 = 1 by kernel_rfl]; rfl)
    obtain ⟨s0, e0, _, hs0⟩ := DataW.trod_string Tryz.underlying9 k0
    obtain ⟨p1, e1, _, _⟩ := DataW.trod_int Tryz.underlying3 k1
    obtain ⟨l2, n2, s2, m2⟩ := open_txts k2
    obtain ⟨l3, n3, s3, m3⟩ := open_fs k3
    obtain ⟨b4, e4, _⟩ := DataW.trod_bool Tryz.underlying4 k4
    obtain ⟨b5, e5, _⟩ := DataW.trod_bool Tryz.underlying4 k5
    simp at e0 e1 e4 e5
    subst e0; subst e1; subst e4; subst e5
    exact ⟨⟨⟨s0.data.toList, p1, l2, l3, b4, b5⟩, c2, n2, c3, n3⟩, by simp [lcells, txt_data], by show s0.data.toList.length ≤ _; rw [← Lib.size_eq]; exact hs0, ⟨s2, m2⟩, ⟨s3, m3⟩⟩
set_option maxRecDepth 100000 in
theorem openHandler {H : Type} {enc : TypeId × Value → H} {W : World} {base n : Nat} {sp : Nat → Bool} {hd : Bool} {cs : List Value} {x : DataW H × List MemPlace}
    (h : DataW.trod enc Tryz.prog W base sp hd n 108 cs = some x) : ∃ y : HndV, cs = hcells y ∧ hraw W W.heap.size y := by
  obtain ⟨ys, m, _, _, hlen, hyl, hf⟩ := DataW.trod_struct Tryz.underlying108 h
  rw [show Tryz.prog.cellsOf 108 = 3 by kernel_rfl] at hlen
  have hys : ys.length = 3 := hyl
  match cs, hlen with
  | [c0, c1, c2], _ =>
    have k0 : DataW.trod enc Tryz.prog W base sp hd m 9 [c0] = some (ys[0]'(by omega)) := by
      rw [← List.getElem?_eq_getElem, ← hf 0 _ rfl]
      first | rfl | (show _ = DataW.trod _ _ _ _ _ _ _ _ (List.take (Tryz.prog.cellsOf 9) _); rw [show Tryz.prog.cellsOf 9 = 1 by kernel_rfl]; rfl)
    have k1 : DataW.trod enc Tryz.prog W base sp hd m 3 [c1] = some (ys[1]'(by omega)) := by
      rw [← List.getElem?_eq_getElem, ← hf 1 _ rfl]
      first | rfl | (show _ = DataW.trod _ _ _ _ _ _ _ _ (List.take (Tryz.prog.cellsOf 3) _); rw [show Tryz.prog.cellsOf 3 = 1 by kernel_rfl]; rfl)
    have k2 : DataW.trod enc Tryz.prog W base sp hd m 103 [c2] = some (ys[2]'(by omega)) := by
      rw [← List.getElem?_eq_getElem, ← hf 2 _ rfl]
      first | rfl | (show _ = DataW.trod _ _ _ _ _ _ _ _ (List.take (Tryz.prog.cellsOf 103) _); rw [show Tryz.prog.cellsOf 103 = 1 by kernel_rfl]; rfl)
    obtain ⟨s0, e0, _, hs0⟩ := DataW.trod_string Tryz.underlying9 k0
    obtain ⟨p1, e1, _, _⟩ := DataW.trod_int Tryz.underlying3 k1
    obtain ⟨l3, n3, s3, m3⟩ := open_fs k2
    simp at e0 e1
    subst e0; subst e1
    exact ⟨⟨⟨s0.data.toList, p1, l3⟩, c2, n3⟩, by simp [hcells, txt_data], by show s0.data.toList.length ≤ _; rw [← Lib.size_eq]; exact hs0, ⟨s3, m3⟩⟩
set_option maxRecDepth 100000 in
theorem openTree {H : Type} {enc : TypeId × Value → H} {W : World} {base n : Nat} {sp : Nat → Bool} {hd : Bool} {cs : List Value} {x : DataW H × List MemPlace}
    (h : DataW.trod enc Tryz.prog W base sp hd n 25 cs = some x) :
    ∃ Aa na ca Ab nb cb q la lb, cs = [.slice Aa na ca, .slice Ab nb cb, .int .i64 q] ∧ treeRaw W W.heap.size Aa na ca Ab nb cb la lb := by
  obtain ⟨ys, m, _, _, hlen, hyl, hf⟩ := DataW.trod_struct Tryz.underlying25 h
  rw [show Tryz.prog.cellsOf 25 = 3 by kernel_rfl] at hlen
  have hys : ys.length = 3 := hyl
  match cs, hlen with
  | [c0, c1, c2], _ =>
    have k0 : DataW.trod enc Tryz.prog W base sp hd m 22 [c0] = some (ys[0]'(by omega)) := by
      rw [← List.getElem?_eq_getElem, ← hf 0 _ rfl]
      first | rfl | (show _ = DataW.trod _ _ _ _ _ _ _ _ (List.take (Tryz.prog.cellsOf 22) _); rw [show Tryz.prog.cellsOf 22 = 1 by kernel_rfl]; rfl)
    have k1 : DataW.trod enc Tryz.prog W base sp hd m 23 [c1] = some (ys[1]'(by omega)) := by
      rw [← List.getElem?_eq_getElem, ← hf 1 _ rfl]
      first | rfl | (show _ = DataW.trod _ _ _ _ _ _ _ _ (List.take (Tryz.prog.cellsOf 23) _); rw [show Tryz.prog.cellsOf 23 = 1 by kernel_rfl]; rfl)
    have k2 : DataW.trod enc Tryz.prog W base sp hd m 3 [c2] = some (ys[2]'(by omega)) := by
      rw [← List.getElem?_eq_getElem, ← hf 2 _ rfl]
      first | rfl | (show _ = DataW.trod _ _ _ _ _ _ _ _ (List.take (Tryz.prog.cellsOf 3) _); rw [show Tryz.prog.cellsOf 3 = 1 by kernel_rfl]; rfl)
    obtain ⟨la, n0, s0, m0⟩ := open_rows lcells 6 lcells_len (by omega) (fun y => lraw W W.heap.size y) Tryz.underlying22 (by kernel_rfl) (fun _ _ _ h => openLogger h) k0
    obtain ⟨lb, n1, s1, m1⟩ := open_rows hcells 3 hcells_len (by omega) (fun y => hraw W W.heap.size y) Tryz.underlying23 (by kernel_rfl) (fun _ _ _ h => openHandler h) k1
    obtain ⟨p2, e2, _, _⟩ := DataW.trod_int Tryz.underlying3 k2
    obtain ⟨Aa, ca, rfl, _, _⟩ := s0.form
    obtain ⟨Ab, cb, rfl, _, _⟩ := s1.form
    simp at e2
    subst e2
    exact ⟨Aa, n0, ca, Ab, n1, cb, p2, la, lb, rfl, ⟨s0, m0⟩, ⟨s1, m1⟩⟩
end Go.Proofs.YtlifaeleoiodkaaGreatDoor

/-
  TREES: data that fit; a tree of the call's own as the functions take it; ValidTree, LoggerAt of both programs.
-/
namespace Go.Proofs.YtlifaeleoiodkaaGreatDoor
open Go.RowKit Nm
set_option linter.unusedSimpArgs false
set_option linter.unusedVariables false

def lgrFit (l : Lgr) : Prop := l.nm.length ≤ maxTxt ∧ (l.hs.length ≤ maxTxt ∧ ∀ t ∈ l.hs, t.length ≤ maxTxt) ∧ (l.fs.length ≤ maxTxt ∧ ∀ f ∈ l.fs, f.nm.length ≤ maxTxt)
def hndFit (h : Hnd) : Prop := h.nm.length ≤ maxTxt ∧ (h.fs.length ≤ maxTxt ∧ ∀ f ∈ h.fs, f.nm.length ≤ maxTxt)
def dataFit (L : List Lgr) (H : List Hnd) : Prop := (L.length ≤ maxTxt ∧ ∀ l ∈ L, lgrFit l) ∧ (H.length ≤ maxTxt ∧ ∀ h ∈ H, hndFit h)
theorem fit_data {w : World} {B : Nat} {Aa : Option Addr} {na ca : Nat} {Ab : Option Addr} {nb cb : Nat} {la : List LgrV} {lb : List HndV} (h : treeRaw w B Aa na ca Ab nb cb la lb) (hf : treeFit na nb la lb) : dataFit (lsOf la) (hsOf lb) := by
  have h1 := Sl.count lcells_len h.1.1 (by omega)
  have h2 := Sl.count hcells_len h.2.1 (by omega)
  refine ⟨⟨by simp [lsOf]; have := hf.1.1; omega, fun l hl => ?_⟩, ⟨by simp [hsOf]; have := hf.2.1; omega, fun l hl => ?_⟩⟩
  · obtain ⟨x, hx, rfl⟩ := List.mem_map.1 hl
    obtain ⟨a, b, c⟩ := hf.1.2 x hx
    obtain ⟨a', b', c'⟩ := h.1.2 x hx
    have e1 : x.l.hs.length = x.hn := by have := b'.1.1; simpa using this
    have e2 : x.l.fs.length = x.fn := by have := c'.1.flen; exact this
    exact ⟨a, ⟨by omega, b.2⟩, ⟨by omega, c.2⟩⟩
  · obtain ⟨x, hx, rfl⟩ := List.mem_map.1 hl
    obtain ⟨a, c⟩ := hf.2.2 x hx
    obtain ⟨a', c'⟩ := h.2.2 x hx
    have e2 : x.h.fs.length = x.fn := by have := c'.1.flen; exact this
    exact ⟨a, ⟨by omega, c.2⟩⟩
/-- the rows of a tree value of these data -/
def TreeS (rs : List Row) (v : Value) (L : List Lgr) (H : List Hnd) (q : Int) : Prop :=
  ∃ v1 v2 ls hs, v = .agg #[v1, v2, .int .i64 q] ∧ lsOf ls = L ∧ hsOf hs = H ∧ rs = treeRows ls.length v1 ls hs.length v2 hs
/-- a tree as the functions take it -/
def TreeIn (w : World) (B : Nat) (v : Value) (L : List Lgr) (H : List Hnd) (q : Int) : Prop := ∃ ls hs, TreeAt w B v ls hs q ∧ lsOf ls = L ∧ hsOf hs = H
theorem TreeIn.below {w w' : World} {B B' : Nat} {v : Value} {L : List Lgr} {H : List Hnd} {q : Int} (h : TreeIn w B v L H q) (hb : Below B' w w') (hB : B ≤ B') : TreeIn w' B v L H q := by
  obtain ⟨ls, hs, h1, h2, h3⟩ := h
  exact ⟨ls, hs, h1.below hb hB, h2, h3⟩
theorem Rows.left {w : World} {lo : Nat} {a b : List Row} (h : Rows w lo (a ++ b)) : Rows w lo a := h.sub (List.sublist_append_left _ _)
theorem Rows.right {w : World} {lo : Nat} {a b : List Row} (h : Rows w lo (a ++ b)) : Rows w lo b := h.sub (List.sublist_append_right _ _)
theorem mem_lrows {ls : List LgrV} {x : LgrV} (h : x ∈ ls) {r : Row} (hr : r ∈ lrows x) : r ∈ ls.flatMap lrows := List.mem_flatMap.2 ⟨x, h, hr⟩
theorem mem_hrows {ls : List HndV} {x : HndV} (h : x ∈ ls) {r : Row} (hr : r ∈ hrows x) : r ∈ ls.flatMap hrows := List.mem_flatMap.2 ⟨x, h, hr⟩
/-- what the rows of a tree say of its parts -/
theorem rows_parts {w : World} {lo : Nat} {v1 v2 : Value} {ls : List LgrV} {hs : List HndV} (h : Rows w lo (treeRows ls.length v1 ls hs.length v2 hs)) :
    Sl w w.heap.size 6 ls.length v1 (ls.flatMap lcells) ∧ (∀ x ∈ ls, Sl w w.heap.size 1 x.hn x.hv (x.l.hs.map txt) ∧ Sl w w.heap.size 3 x.fn x.fv (fsCells x.l.fs)) ∧
    Sl w w.heap.size 3 hs.length v2 (hs.flatMap hcells) ∧ ∀ x ∈ hs, Sl w w.heap.size 3 x.fn x.fv (fsCells x.h.fs) := by
  have hl := h.left
  have hr := h.right
  refine ⟨Sl.of_own (show w.ownsRow _ _ 6 v1 _ _ from hl.head), fun x hx => ⟨?_, ?_⟩, Sl.of_own (show w.ownsRow _ _ 3 v2 _ _ from hr.head), fun x hx => ?_⟩
  · exact Sl.of_own (show w.ownsRow _ _ 1 x.hv x.hn _ from hl.tail.mem (mem_lrows hx (List.mem_cons_self ..)))
  · exact Sl.of_own (show w.ownsRow _ _ 3 x.fv x.fn _ from hl.tail.mem (mem_lrows hx (List.mem_cons_of_mem _ (List.mem_cons_self ..))))
  · exact Sl.of_own (show w.ownsRow _ _ 3 x.fv x.fn _ from hr.tail.mem (mem_hrows hx (List.mem_cons_self ..)))
theorem fs_le (x : List UInt8) (h : x.length ≤ maxTxt) : x.length ≤ maxLen := by unfold maxTxt at h; unfold maxLen; omega
theorem TreeS.raw {rs : List Row} {v : Value} {L : List Lgr} {H : List Hnd} {q : Int} {w : World} {lo : Nat} (h : TreeS rs v L H q) (hr : Rows w lo rs) (hd : dataFit L H) :
    ∃ A1 n1 k1 A2 n2 k2 ls hs, v = .agg #[.slice A1 n1 k1, .slice A2 n2 k2, .int .i64 q] ∧ treeRaw w w.heap.size A1 n1 k1 A2 n2 k2 ls hs ∧ n1 = L.length ∧ n2 = H.length ∧ lsOf ls = L ∧ hsOf hs = H := by
  obtain ⟨v1, v2, ls, hs, rfl, hL, hH, rfl⟩ := h
  obtain ⟨h1, h2, h3, h4⟩ := rows_parts hr
  obtain ⟨A1, k1, rfl, _, _⟩ := h1.form
  obtain ⟨A2, k2, rfl, _, _⟩ := h3.form
  refine ⟨A1, _, k1, A2, _, k2, ls, hs, rfl, ⟨⟨h1, fun x hx => ?_⟩, ⟨h3, fun x hx => ?_⟩⟩, by rw [← hL]; simp [lsOf], by rw [← hH]; simp [hsOf], hL, hH⟩
  · obtain ⟨a, b, c⟩ := hd.1.2 x.l (by rw [← hL]; exact List.mem_map.2 ⟨x, hx, rfl⟩)
    exact ⟨fs_le _ a, ⟨(h2 x hx).1, fun t ht => fs_le _ (b.2 t ht)⟩, ⟨(h2 x hx).2, fun t ht => fs_le _ (c.2 t ht)⟩⟩
  · obtain ⟨a, c⟩ := hd.2.2 x.h (by rw [← hH]; exact List.mem_map.2 ⟨x, hx, rfl⟩)
    exact ⟨fs_le _ a, ⟨h4 x hx, fun t ht => fs_le _ (c.2 t ht)⟩⟩
theorem TreeS.at_ {rs : List Row} {v : Value} {L : List Lgr} {H : List Hnd} {q : Int} {w : World} {lo : Nat} (h : TreeS rs v L H q) (hr : Rows w lo rs) (hd : dataFit L H) : TreeIn w w.heap.size v L H q := by
  obtain ⟨A1, n1, k1, A2, n2, k2, ls, hs, rfl, hraw, rfl, rfl, hL, hH⟩ := h.raw hr hd
  have hb1 := hd.1.1
  have hb2 := hd.2.1
  unfold maxTxt at hb1 hb2
  refine ⟨ls, hs, ⟨A1, _, k1, A2, _, k2, rfl, ⟨hraw.1.1, fun x hx => ?_⟩, ⟨hraw.2.1, fun x hx => ?_⟩, hb1, hb2, fun x hx => ?_⟩, hL, hH⟩
  · obtain ⟨a, b, c⟩ := hd.1.2 x.l (by rw [← hL]; exact List.mem_map.2 ⟨x, hx, rfl⟩)
    exact ⟨a, ⟨(hraw.1.2 x hx).2.1.1, b.2⟩, ⟨(hraw.1.2 x hx).2.2.1, c.2⟩⟩
  · obtain ⟨a, c⟩ := hd.2.2 x.h (by rw [← hH]; exact List.mem_map.2 ⟨x, hx, rfl⟩)
    exact ⟨a, ⟨(hraw.2.2 x hx).2.1, c.2⟩⟩
  · obtain ⟨a, b, c⟩ := hd.1.2 x.l (by rw [← hL]; exact List.mem_map.2 ⟨x, hx, rfl⟩)
    have e1 : x.l.hs.length = x.hn := by have := (hraw.1.2 x hx).2.1.1.1; simpa using this
    have := b.1
    unfold maxTxt at this; omega

/-- a tree comes back: its rows are of the call's own -/
def TreePost (w : World) (L : List Lgr) (H : List Hnd) (q : Int) (e : Ending) (w' : World) : Prop :=
  ∃ v rs, e = .returned v ∧ TreeS rs v L H q ∧ Rows w' w.heap.size rs ∧ Below w.heap.size w w'
theorem toTreeX_c (Aa : Option Addr) (na ca : Nat) (Ab : Option Addr) (nb cb B : Nat) (q : Int) (la : List LgrV) (lb : List HndV) (w : World) (h : treeRaw w B Aa na ca Ab nb cb la lb) (hf : treeFit na nb la lb) (hB : B ≤ w.heap.size) :
    Calls Tryz.prog 9 #[.agg #[.slice Aa na ca, .slice Ab nb cb, .int .i64 q]] w (TreePost w (lsOf la) (hsOf lb) q) := by
  refine (toTree_c Aa na ca Ab nb cb B q la lb w h hf hB).mono ?_
  rintro e w' ⟨v1, v2, ls, hs, rfl, hl, hh, hr, hb⟩
  have h1 : na = ls.length := by have := Sl.count lcells_len h.1.1 (by omega); have := congrArg List.length hl; simp [lsOf] at this; omega
  have h2 : nb = hs.length := by have := Sl.count hcells_len h.2.1 (by omega); have := congrArg List.length hh; simp [hsOf] at this; omega
  exact ⟨_, _, rfl, ⟨v1, v2, ls, hs, rfl, hl, hh, by rw [h1, h2]⟩, hr, hb⟩
theorem eqTreeX_c {rs rs' : List Row} {v v' : Value} {L : List Lgr} {H : List Hnd} {q : Int} {w : World} {lo lo' : Nat} (h : TreeS rs v L H q) (hr : Rows w lo rs) (h' : TreeS rs' v' L H q) (hr' : Rows w lo' rs') (hd : dataFit L H) :
    Calls Tryz.prog 14 #[v, v'] w (BoolPost w true) := by
  obtain ⟨A1, n1, k1, A2, n2, k2, ls, hs, rfl, hraw, rfl, rfl, hL, hH⟩ := h.raw hr hd
  obtain ⟨A1', n1', k1', A2', n2', k2', ls', hs', rfl, hraw', rfl, rfl, hL', hH'⟩ := h'.raw hr' hd
  exact eqTree_c A1 A1' _ k1 k1' A2 A2' _ k2 k2' w.heap.size q ls ls' hs hs' w hraw hraw' (hL.trans hL'.symm) (hH.trans hH'.symm) (Nat.le_refl _)

theorem implValidTreeX_c {v : Value} {B : Nat} {L : List Lgr} {H : List Hnd} {q : Int} {w : World} (h : TreeIn w B v L H q) (hB : B ≤ w.heap.size) :
    Calls Tryz.prog 24 #[v] w (BoolPost w (treeOk L H q)) := by
  obtain ⟨ls, hs, h1, rfl, rfl⟩ := h
  exact implValidTree_c v B ls hs q w h1 hB
theorem specTreeX_c {v : Value} {B : Nat} {L : List Lgr} {H : List Hnd} {q : Int} {w : World} (h : TreeIn w B v L H q) (hB : B ≤ w.heap.size) :
    Calls Tryz.prog 32 #[v] w (BoolPost w (treeOk L H q)) := by
  obtain ⟨ls, hs, h1, rfl, rfl⟩ := h
  exact specTree_c v B ls hs q w h1 hB
theorem TreeIn.form {w : World} {B : Nat} {v : Value} {L : List Lgr} {H : List Hnd} {q : Int} (h : TreeIn w B v L H q) :
    ∃ A1 n1 k1 A2 n2 k2, v = .agg #[.slice A1 n1 k1, .slice A2 n2 k2, .int .i64 q] := by
  obtain ⟨ls, hs, ⟨A1, n1, k1, A2, n2, k2, e, _⟩, _⟩ := h
  exact ⟨A1, n1, k1, A2, n2, k2, e⟩

theorem TreeIn.loggers {w : World} {B n1 k1 n2 k2 : Nat} {A1 A2 : Option Addr} {L : List Lgr} {H : List Hnd} {q : Int} (h : TreeIn w B (.agg #[.slice A1 n1 k1, .slice A2 n2 k2, .int .i64 q]) L H q) :
    ∃ ls, Ls w B n1 (.slice A1 n1 k1) ls ∧ lsOf ls = L := by
  obtain ⟨ls, hs, ⟨A1', n1', k1', A2', n2', k2', e, h1, _⟩, h2, h3⟩ := h
  simp at e
  obtain ⟨⟨rfl, rfl, rfl⟩, ⟨rfl, rfl, rfl⟩⟩ := e
  exact ⟨ls, h1, h2⟩
def namesOf (L : List Lgr) : List (List UInt8) := L.map (·.nm)
theorem namesOf_ls (l : List LgrV) : namesOf (lsOf l) = lnames l := lnames_eq l

end Go.Proofs.YtlifaeleoiodkaaGreatDoor

/-
  WALKS: LoggerAt of the program: the library's IndexFunc with a closure.
-/
namespace Go.Proofs.YtlifaeleoiodkaaGreatDoor
open Go.RowKit Nm
set_option linter.unusedSimpArgs false
set_option linter.unusedVariables false

set_option maxHeartbeats 1000000 in
set_option maxRecDepth 100000 in
theorem loggerAtFn_c (a s : ByteArray) (lv : Int) (v1 v2 : Value) (b1 b2 : Bool) (bx : Nat) (w : World) (hc : w.cell? ⟨bx, 0, none⟩ = some (.string s)) :
    Calls Tryz.prog 146 #[.agg #[.string a, .int .i64 lv, v1, v2, .bool b1, .bool b2], .pointer (some ⟨bx, 0, none⟩)] w (BoolPost w (decide (a.data.toList = s.data.toList))) := by
  have hlt : bx < w.heap.size := World.block_lt_of_cell? w _ hc
  have e0 := beq_txt a s
  have e1 : (w.alloc (.cells #[.string a, .int .i64 lv, v1, v2, .bool b1, .bool b2] 112)).cell? ⟨bx, 0, none⟩ = some (.string s) := (World.cell?_alloc_past _ _ _ hlt).trans hc
  go_enter Tryz.func146, Tryz.ntmps146
  go_wp2_with fail
  go_ret
  exact ⟨ret_bool (decide_eq_decide.2 Array.toList_inj.symm), by go_grown⟩

theorem mem_of_at {l : List LgrV} {k : Nat} {x : LgrV} (hx : l[k]? = some x) : (lnames l)[k]? = some x.l.nm := by simp [lnames, hx]

set_option maxHeartbeats 4000000 in
set_option maxRecDepth 100000 in
theorem indexFunc_c (v : Value) (n B bx : Nat) (l : List LgrV) (s : ByteArray) (w : World) (hv : Ls w B n v l) (hB : B ≤ w.heap.size) (hc : w.cell? ⟨bx, 0, none⟩ = some (.string s)) :
    Calls Tryz.prog 145 #[v, .func (.func 146) #[] #[.pointer (some ⟨bx, 0, none⟩)]] w
      (fun e w' => e = .returned (.int .i64 (idxL (lnames l) s.data.toList)) ∧ Below w.heap.size w w') := by
  have hlt0 : bx < w.heap.size := World.block_lt_of_cell? w _ hc
  have hln := hv.count
  obtain ⟨A, c, rfl, hnc, hcm⟩ := hv.1.form
  unfold maxLen at hcm
  have HV := hid (And.intro hv hln)
  have HC := hid (And.intro hc hlt0)
  clear hv hln hc hlt0
  go_enter Tryz.func145, Tryz.ntmps145
  go_wp2_with fail
  go_loopw [8] (fun iv wr => ∃ (k : Nat), iv = .int .i64 k ∧ k ≤ n ∧ Hid (¬ s.data.toList ∈ (lnames l).take k) ∧ Hid (Below w.heap.size w wr)) (fun iv _ => n - (intOf iv).toNat)
  case atStart => exact ⟨0, rfl, by omega, by simp [Hid], Below.refl _ _⟩
  case round =>
    obtain ⟨k, rfl, hk, HN, HB⟩ := hrel
    by_cases hlt : k < n
    · obtain ⟨b, o, x, a, rfl, hbB, hx, ha, _, _, _, c0, c1, c2, c3, c4, c5⟩ := (HV.out.1.below HB.out hB).at_ hlt
      have E := hid (loggerAtFn_c a s x.l.lv x.hv x.fv x.l.stop x.l.off bx wr ((HB.out.cell (p := ⟨bx, 0, none⟩) HC.out.2).trans HC.out.1))
      have HX := hid (mem_of_at hx)
      have HA := hid ha
      cases hz : decide (a.data.toList = s.data.toList) with
      | true =>
        rw [hz] at E
        have HZ := hid hz
        clear hx ha hz
        go_wp2_with (go_at_call 146; refine (E.out).mono ?_; rintro e w2 ⟨rfl, hb⟩)
        go_ret
        refine ⟨ret_int ?_, HB.out.trans (hb.mono HB.out.size)⟩
        have h := of_decide_eq_true HZ.out
        rw [idx_hit _ _ k (by rw [HX.out, ← HA.out, h]) HN.out]
      | false =>
        rw [hz] at E
        have HZ := hid hz
        clear hx ha hz
        go_wp2_with (go_at_call 146; refine (E.out).mono ?_; rintro e w2 ⟨rfl, hb⟩)
        go_roundw
        case rel => exact ⟨k + 1, by go_num, by omega, not_take_succ _ _ _ _ HN.out HX.out (by rw [← HA.out]; exact of_decide_eq_false HZ.out), HB.out.trans (hb.mono HB.out.size)⟩
        case measure => simp [intOf]; omega
    · have HE := hid (show ¬ s.data.toList ∈ lnames l by
        have h := HN.out
        rwa [List.take_of_length_le (by unfold lnames; rw [List.length_map]; have := HV.out.2; omega)] at h)
      go_wp2_with fail
      go_ret
      exact ⟨ret_int (by rw [idx_miss _ _ HE.out]), HB.out⟩

set_option maxHeartbeats 1000000 in
set_option maxRecDepth 100000 in
theorem implLoggerAtX_c {v : Value} {B : Nat} {L : List Lgr} {H : List Hnd} {q : Int} {w : World} (s : ByteArray) (h : TreeIn w B v L H q) (hB : B ≤ w.heap.size) :
    Calls Tryz.prog 137 #[v, .string s] w (fun e w' => e = .returned (.int .i64 (if treeOk L H q then idxL (namesOf L) s.data.toList else -1)) ∧ Below w.heap.size w w') := by
  have C := hid (fun (W : World) (hW : Below w.heap.size w W) => implValidTreeX_c (h.below hW hB) (Nat.le_trans hB hW.size))
  obtain ⟨A1, n1, k1, A2, n2, k2, rfl⟩ := h.form
  obtain ⟨ls, hl, hL⟩ := h.loggers
  have C2 := hid (fun (bx : Nat) (W : World) (hW : Below w.heap.size w W) (hc : W.cell? ⟨bx, 0, none⟩ = some (.string s)) => indexFunc_c _ n1 B bx ls s W (hl.below hW hB) (Nat.le_trans hB hW.size) hc)
  have hN : lnames ls = namesOf L := by rw [← hL, namesOf_ls]
  rw [hN] at C2
  have hmf : ∀ (fn : Fn) (first cap : Array Value) (w : World), (Instr.makeFunc fn first cap).run Tryz.prog w = .ok (.func fn first cap) w := fun _ _ _ _ => rfl
  clear h hl hL hN
  cases hz : treeOk L H q with
  | false =>
    rw [hz] at C
    go_enter Tryz.func137, Tryz.ntmps137
    go_wp2_with fail
    refine (C.out _ ?_).mono ?_
    case refine_1 => go_grown
    rintro e w1 ⟨rfl, hb1⟩
    have HB1 := hid (Below.trans (by go_grown) (hb1.mono (by simp; try omega)) : Below w.heap.size w w1)
    clear hb1
    go_wp2_with fail
    go_ret
    exact ⟨rfl, HB1.out⟩
  | true =>
    rw [hz] at C
    go_enter Tryz.func137, Tryz.ntmps137
    go_wp2_with fail
    refine (C.out _ ?_).mono ?_
    case refine_1 => go_grown
    rintro e w1 ⟨rfl, hb1⟩
    have K2 := ((Blk.new _ _ _).alloc _).to hb1
    have K1 := (Blk.new _ _ _).to hb1
    simp only [World.size_alloc] at K1 K2
    have x0 := (K2.2 0 _ rfl).1
    have HY := hid ((K1.2 0 _ rfl).1)
    have HB1 := hid (Below.trans (by go_grown) (hb1.mono (by simp; try omega)) : Below w.heap.size w w1)
    clear hb1 K2 K1
    go_wp2_with fail
    refine (C2.out _ _ HB1.out HY.out).mono ?_
    rintro e w2 ⟨rfl, hb2⟩
    have HB2 := hid (HB1.out.trans (hb2.mono HB1.out.size))
    clear x0 hb2
    go_wp2_with fail
    go_ret
    exact ⟨rfl, HB2.out⟩
end Go.Proofs.YtlifaeleoiodkaaGreatDoor
