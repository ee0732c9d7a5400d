/-
  TREES as the laws take them: their sizes.
-/
import Derived.Test.YtlhelhfaogcibaaG0
namespace Go.Proofs.Ytlhelhfaogcibaa
open Go.RowKit Nm
set_option linter.unusedSimpArgs false
set_option linter.unusedVariables false

set_option maxHeartbeats 2000000 in
set_option maxRecDepth 100000 in
theorem szStringS_c (v : Value) (n B : Nat) (l : List (List UInt8)) (left : Int) (w : World) (hv : Sl w B 1 n v (l.map txt)) (hB : B ≤ w.heap.size) (hm : ∀ t ∈ l, t.length ≤ maxLen) (h0 : 0 ≤ left) (h1 : left ≤ 1048576) :
    Calls Try.prog 82 #[v, .int .i64 left] w (SzPost left (n ≤ maxTxt ∧ ∀ t ∈ l, t.length ≤ maxTxt) w) := by
  have hln : l.length = n := by have := hv.1; simpa using this
  obtain ⟨A, c, rfl, hnc, hcm⟩ := hv.form
  unfold maxLen at hcm
  have HV := hid (And.intro hv (And.intro hm hln))
  clear hv hm hln
  by_cases hl : left - (n : Int) < 0
  · go_enter Try.func82, Try.ntmps82
    go_wp2_with fail
    go_ret
    exact ⟨_, rfl, Below.refl _ _, .inl (by omega)⟩
  go_enter Try.func82, Try.ntmps82
  go_wp2_with fail
  go_loopw [1, 5] (fun lv iv wr => ∃ (k : Nat) (q : Int), iv = .int .i64 k ∧ lv = .int .i64 q ∧ k ≤ n ∧ 0 ≤ q ∧ q ≤ left ∧ Hid (∀ t ∈ l.take k, t.length ≤ maxTxt) ∧ Hid (Below w.heap.size w wr)) (fun _ iv _ => n - (intOf iv).toNat)
  case atStart => exact ⟨0, _, rfl, rfl, by omega, by omega, by omega, by intro f hf; simp at hf, Below.refl _ _⟩
  case round =>
    obtain ⟨k, q, rfl, rfl, hk, hq0, hq1, HL, HB⟩ := hrel
    by_cases hlt : k < n
    · obtain ⟨b, o, p, rfl, hbB, hx, c0⟩ := (HV.out.1.below HB.out hB).text hlt
      have hps : p.size ≤ 9223372036854775807 := by have := HV.out.2.1 _ (List.mem_of_getElem? hx); rw [← Lib.size_eq] at this; unfold maxLen at this; omega
      have HX := hid hx
      clear hx
      by_cases hq : q - (p.size : Int) < 0
      · go_wp2_with fail
        go_ret
        exact ⟨_, rfl, HB.out, .inl (by omega)⟩
      · go_wp2_with fail
        go_roundw
        case rel =>
          refine ⟨k + 1, _, by go_num, rfl, by omega, by omega, by omega, ?_, HB⟩
          intro g hg
          rcases mem_take_succ' l k _ g HX.out hg with rfl | hg
          · rw [← Lib.size_eq]; unfold maxTxt; omega
          · exact HL.out g hg
        case measure => simp [intOf]; omega
    · go_wp2_with fail
      go_ret
      refine ⟨_, rfl, HB.out, .inr ⟨hq0, hq1, by unfold maxTxt; omega, ?_⟩⟩
      have := HL.out
      rwa [List.take_of_length_le (by have := HV.out.2.2; omega)] at this

/-- what the laws' helper says of filters, in the words of the others -/
theorem szFs_c (v : Value) (n B : Nat) (l : List Flt) (left : Int) (w : World) (hv : Sl w B 3 n v (fsCells l)) (hB : B ≤ w.heap.size) (hm : ∀ f ∈ l, f.nm.length ≤ maxLen) (h0 : 0 ≤ left) (h1 : left ≤ 1048576) :
    Calls Try.prog 83 #[v, .int .i64 left] w (SzPost left (n ≤ maxTxt ∧ ∀ f ∈ l, f.nm.length ≤ maxTxt) w) := by
  have hl := hv.flen
  refine (szFilterS_c v n B l left w hv hB hm h0 h1).mono ?_
  rintro e w1 ⟨r, rfl, hb, hr⟩
  refine ⟨r, rfl, hb, ?_⟩
  rcases hr with hr | ⟨a, b, c, d⟩
  · exact .inl hr
  · exact .inr ⟨a, b, by unfold maxTxt; omega, fun f hf => by have := d f hf; unfold maxTxt; omega⟩

/-- a logger, a handler of an argument, ahead of any look at sizes -/
def lraw (w : World) (B : Nat) (x : LgrV) : Prop := x.l.nm.length ≤ maxLen ∧ (Sl w B 1 x.hn x.hv (x.l.hs.map txt) ∧ ∀ t ∈ x.l.hs, t.length ≤ maxLen) ∧ (Sl w B 3 x.fn x.fv (fsCells x.l.fs) ∧ ∀ f ∈ x.l.fs, f.nm.length ≤ maxLen)
def hraw (w : World) (B : Nat) (x : HndV) : Prop := x.h.nm.length ≤ maxLen ∧ (Sl w B 3 x.fn x.fv (fsCells x.h.fs) ∧ ∀ f ∈ x.h.fs, f.nm.length ≤ maxLen)
/-- .. that fit -/
def lfit (x : LgrV) : Prop := x.l.nm.length ≤ maxTxt ∧ (x.hn ≤ maxTxt ∧ ∀ t ∈ x.l.hs, t.length ≤ maxTxt) ∧ (x.fn ≤ maxTxt ∧ ∀ f ∈ x.l.fs, f.nm.length ≤ maxTxt)
def hfit (x : HndV) : Prop := x.h.nm.length ≤ maxTxt ∧ (x.fn ≤ maxTxt ∧ ∀ f ∈ x.h.fs, f.nm.length ≤ maxTxt)
theorem lraw.below {w w' : World} {B B' : Nat} {x : LgrV} (h : lraw w B x) (hb : Below B' w w') (hB : B ≤ B') : lraw w' B x := ⟨h.1, ⟨h.2.1.1.below hb hB, h.2.1.2⟩, ⟨h.2.2.1.below hb hB, h.2.2.2⟩⟩
theorem hraw.below {w w' : World} {B B' : Nat} {x : HndV} (h : hraw w B x) (hb : Below B' w w') (hB : B ≤ B') : hraw w' B x := ⟨h.1, ⟨h.2.1.below hb hB, h.2.2⟩⟩
theorem lcells_at {w : World} {B n c : Nat} {A : Option Addr} {l : List LgrV} (h : Sl w B 6 n (.slice A n c) (l.flatMap lcells)) {k : Nat} (hk : k < n) :
    ∃ (b o : Nat) (x : LgrV) (s : ByteArray), A = some ⟨b, o, none⟩ ∧ b < B ∧ l[k]? = some x ∧ s.data.toList = x.l.nm ∧
      w.cell? ⟨b, o + k * 6, none⟩ = some (.string s) ∧ w.cell? ⟨b, o + k * 6 + 1, none⟩ = some (.int .i64 x.l.lv) ∧ w.cell? ⟨b, o + k * 6 + 2, none⟩ = some x.hv ∧ w.cell? ⟨b, o + k * 6 + 3, none⟩ = some x.fv ∧
      w.cell? ⟨b, o + k * 6 + 4, none⟩ = some (.bool x.l.stop) ∧ w.cell? ⟨b, o + k * 6 + 5, none⟩ = some (.bool x.l.off) := by
  obtain ⟨b, o, x, e, hb, hx, hc⟩ := Sl.elem lcells_len h (by omega) hk
  exact ⟨b, o, x, ⟨x.l.nm.toArray⟩, e, hb, hx, by simp, hc 0 _ rfl, hc 1 _ rfl, hc 2 _ rfl, hc 3 _ rfl, hc 4 _ rfl, hc 5 _ rfl⟩
theorem hcells_at {w : World} {B n c : Nat} {A : Option Addr} {l : List HndV} (h : Sl w B 3 n (.slice A n c) (l.flatMap hcells)) {k : Nat} (hk : k < n) :
    ∃ (b o : Nat) (x : HndV) (s : ByteArray), A = some ⟨b, o, none⟩ ∧ b < B ∧ l[k]? = some x ∧ s.data.toList = x.h.nm ∧
      w.cell? ⟨b, o + k * 3, none⟩ = some (.string s) ∧ w.cell? ⟨b, o + k * 3 + 1, none⟩ = some (.int .i64 x.h.lv) ∧ w.cell? ⟨b, o + k * 3 + 2, none⟩ = some x.fv := by
  obtain ⟨b, o, x, e, hb, hx, hc⟩ := Sl.elem hcells_len h (by omega) hk
  exact ⟨b, o, x, ⟨x.h.nm.toArray⟩, e, hb, hx, by simp, hc 0 _ rfl, hc 1 _ rfl, hc 2 _ rfl⟩

set_option maxHeartbeats 2000000 in
set_option maxRecDepth 100000 in
theorem szLogger_c (s : ByteArray) (lv : Int) (A1 A2 : Option Addr) (n1 c1 n2 c2 B : Nat) (hs : List (List UInt8)) (fs : List Flt) (b1 b2 : Bool) (left : Int) (w : World) (hs0 : s.size ≤ maxLen)
    (h1 : Sl w B 1 n1 (.slice A1 n1 c1) (hs.map txt)) (m1 : ∀ t ∈ hs, t.length ≤ maxLen) (h2 : Sl w B 3 n2 (.slice A2 n2 c2) (fsCells fs)) (m2 : ∀ f ∈ fs, f.nm.length ≤ maxLen) (hB : B ≤ w.heap.size) (h0 : 0 ≤ left) (hl : left ≤ 1048576) :
    Calls Try.prog 63 #[.agg #[.string s, .int .i64 lv, .slice A1 n1 c1, .slice A2 n2 c2, .bool b1, .bool b2], .int .i64 left] w
      (SzPost left (s.size ≤ maxTxt ∧ (n1 ≤ maxTxt ∧ ∀ t ∈ hs, t.length ≤ maxTxt) ∧ (n2 ≤ maxTxt ∧ ∀ f ∈ fs, f.nm.length ≤ maxTxt)) w) := by
  unfold maxLen at hs0
  have HB0 := hid (show Below w.heap.size w (w.alloc (.cells #[.string s, .int .i64 lv, .slice A1 n1 c1, .slice A2 n2 c2, .bool b1, .bool b2] 82)) from (Below.refl _ _).alloc (Nat.le_refl _) _)
  have HC := hid (Below.refl (w.alloc (.cells #[.string s, .int .i64 lv, .slice A1 n1 c1, .slice A2 n2 c2, .bool b1, .bool b2] 82)).heap.size (w.alloc (.cells #[.string s, .int .i64 lv, .slice A1 n1 c1, .slice A2 n2 c2, .bool b1, .bool b2] 82)))
  have C1 := hid (fun (W : World) (hW : Below w.heap.size w W) (q : Int) (q0 : 0 ≤ q) (q1 : q ≤ 1048576) => szStringS_c _ n1 B hs q W (h1.below hW hB) (Nat.le_trans hB hW.size) m1 q0 q1)
  have C2 := hid (fun (W : World) (hW : Below w.heap.size w W) (q : Int) (q0 : 0 ≤ q) (q1 : q ≤ 1048576) => szFs_c _ n2 B fs q W (h2.below hW hB) (Nat.le_trans hB hW.size) m2 q0 q1)
  clear h1 h2 m1 m2
  by_cases hq : left - (s.size : Int) < 0
  · go_enter Try.func63, Try.ntmps63
    go_wp2_with fail
    go_ret
    exact ⟨_, rfl, HB0.out, .inl (by omega)⟩
  go_enter Try.func63, Try.ntmps63
  go_wp2_with fail
  refine (C1.out _ HB0.out _ (by omega) (by omega)).mono ?_
  rintro e w1 ⟨r1, rfl, hb1, hr1⟩
  replace HC := hid (HC.out.trans (hb1.mono HC.out.size))
  clear hb1
  have d3 := box_cell HC.out 3
  rcases hr1 with hr1 | ⟨hr1, hr1', f1⟩
  · go_wp2_with fail
    go_ret
    exact ⟨_, rfl, HB0.out.trans (HC.out.mono (by simp)), .inl (by omega)⟩
  have F1 := hid f1
  clear f1
  go_wp2_with fail
  refine (C2.out _ (HB0.out.trans (HC.out.mono (by simp))) _ (by omega) (by omega)).mono ?_
  rintro e w2 ⟨r2, rfl, hb2, hr2⟩
  replace HC := hid (HC.out.trans (hb2.mono HC.out.size))
  clear hb2 d3
  rcases hr2 with hr2 | ⟨hr2, hr2', f2⟩
  · go_wp2_with fail
    go_ret
    exact ⟨_, rfl, HB0.out.trans (HC.out.mono (by simp)), .inl (by omega)⟩
  have F2 := hid f2
  clear f2
  go_wp2_with fail
  go_ret
  exact ⟨_, rfl, HB0.out.trans (HC.out.mono (by simp)), .inr ⟨by omega, by omega, by unfold maxTxt; omega, F1.out, F2.out⟩⟩

set_option maxHeartbeats 2000000 in
set_option maxRecDepth 100000 in
theorem szHandler_c (s : ByteArray) (lv : Int) (A2 : Option Addr) (n2 c2 B : Nat) (fs : List Flt) (left : Int) (w : World) (hs0 : s.size ≤ maxLen)
    (h2 : Sl w B 3 n2 (.slice A2 n2 c2) (fsCells fs)) (m2 : ∀ f ∈ fs, f.nm.length ≤ maxLen) (hB : B ≤ w.heap.size) (h0 : 0 ≤ left) (hl : left ≤ 1048576) :
    Calls Try.prog 64 #[.agg #[.string s, .int .i64 lv, .slice A2 n2 c2], .int .i64 left] w
      (SzPost left (s.size ≤ maxTxt ∧ (n2 ≤ maxTxt ∧ ∀ f ∈ fs, f.nm.length ≤ maxTxt)) w) := by
  unfold maxLen at hs0
  have HB0 := hid (show Below w.heap.size w (w.alloc (.cells #[.string s, .int .i64 lv, .slice A2 n2 c2] 85)) from (Below.refl _ _).alloc (Nat.le_refl _) _)
  have C2 := hid (fun (W : World) (hW : Below w.heap.size w W) (q : Int) (q0 : 0 ≤ q) (q1 : q ≤ 1048576) => szFs_c _ n2 B fs q W (h2.below hW hB) (Nat.le_trans hB hW.size) m2 q0 q1)
  clear h2 m2
  by_cases hq : left - (s.size : Int) < 0
  · go_enter Try.func64, Try.ntmps64
    go_wp2_with fail
    go_ret
    exact ⟨_, rfl, HB0.out, .inl (by omega)⟩
  go_enter Try.func64, Try.ntmps64
  go_wp2_with fail
  refine (C2.out _ HB0.out _ (by omega) (by omega)).mono ?_
  rintro e w2 ⟨r2, rfl, hb2, hr2⟩
  replace HB0 := hid (HB0.out.trans (hb2.mono HB0.out.size))
  clear hb2
  rcases hr2 with hr2 | ⟨hr2, hr2', f2⟩
  · go_wp2_with fail
    go_ret
    exact ⟨_, rfl, HB0.out, .inl (by omega)⟩
  have F2 := hid f2
  clear f2
  go_wp2_with fail
  go_ret
  exact ⟨_, rfl, HB0.out, .inr ⟨by omega, by omega, by unfold maxTxt; omega, F2.out⟩⟩

set_option maxHeartbeats 4000000 in
set_option maxRecDepth 100000 in
theorem szLoggerS_c (v : Value) (n B : Nat) (l : List LgrV) (left : Int) (w : World) (hv : Sl w B 6 n v (l.flatMap lcells)) (hB : B ≤ w.heap.size) (hm : ∀ x ∈ l, lraw w B x) (h0 : 0 ≤ left) (h1 : left ≤ 1048576) :
    Calls Try.prog 37 #[v, .int .i64 left] w (SzPost left (n ≤ maxTxt ∧ ∀ x ∈ l, lfit x) w) := by
  have hln := Sl.count lcells_len hv (by omega)
  obtain ⟨A, c, rfl, hnc, hcm⟩ := hv.form
  unfold maxLen at hcm
  have HV := hid (And.intro hv (And.intro hm hln))
  clear hv hm hln
  by_cases hl : left - (n : Int) < 0
  · go_enter Try.func37, Try.ntmps37
    go_wp2_with fail
    go_ret
    exact ⟨_, rfl, Below.refl _ _, .inl (by omega)⟩
  go_enter Try.func37, Try.ntmps37
  go_wp2_with fail
  go_loopw [1, 5] (fun lv iv wr => ∃ (k : Nat) (q : Int), iv = .int .i64 k ∧ lv = .int .i64 q ∧ k ≤ n ∧ 0 ≤ q ∧ q ≤ left ∧ Hid (∀ x ∈ l.take k, lfit x) ∧ Hid (Below w.heap.size w wr)) (fun _ iv _ => n - (intOf iv).toNat)
  case atStart => exact ⟨0, _, rfl, rfl, by omega, by omega, by omega, by intro f hf; simp at hf, Below.refl _ _⟩
  case round =>
    obtain ⟨k, q, rfl, rfl, hk, hq0, hq1, HL, HB⟩ := hrel
    by_cases hlt : k < n
    · obtain ⟨b, o, x, s, rfl, hbB, hx, hs, c0, c1, c2, c3, c4, c5⟩ := lcells_at (HV.out.1.below HB.out hB) hlt
      obtain ⟨r1, ⟨r2, r3⟩, ⟨r4, r5⟩⟩ := (HV.out.2.1 _ (List.mem_of_getElem? hx)).below HB.out hB
      obtain ⟨A3, k3, hhv, _, _⟩ := r2.form
      obtain ⟨A4, k4, hfv, _, _⟩ := r4.form
      rw [hhv] at c2 r2
      rw [hfv] at c3 r4
      have hcall := hid (szLogger_c s x.l.lv A3 A4 x.hn k3 x.fn k4 B x.l.hs x.l.fs x.l.stop x.l.off q wr (by rw [Lib.size_eq, hs]; exact r1) r2 r3 r4 r5 (Nat.le_trans hB HB.out.size) hq0 (by omega))
      have HX := hid (And.intro hx hs)
      clear hx hs r1 r2 r3 r4 r5 hhv hfv
      go_wp2_with fail
      refine hcall.out.mono ?_
      rintro e w1 ⟨r, rfl, hb, hr⟩
      have HB1 := hid (HB.out.trans (hb.mono HB.out.size))
      clear hb
      rcases hr with hr | ⟨hr0, hr1, hr2⟩
      · go_wp2_with fail
        go_ret
        exact ⟨_, rfl, HB1.out, .inl (by omega)⟩
      · have HR := hid hr2
        clear hr2
        go_wp2_with fail
        go_roundw
        case rel =>
          refine ⟨k + 1, r, by go_num, rfl, by omega, hr0, by omega, ?_, HB1.out⟩
          intro g hg
          rcases mem_take_succ' l k _ g HX.out.1 hg with rfl | hg
          · exact ⟨by rw [← HX.out.2, ← Lib.size_eq]; exact HR.out.1, HR.out.2⟩
          · exact HL.out g hg
        case measure => simp [intOf]; omega
    · go_wp2_with fail
      go_ret
      refine ⟨_, rfl, HB.out, .inr ⟨hq0, hq1, by unfold maxTxt; omega, ?_⟩⟩
      have := HL.out
      rwa [List.take_of_length_le (by have := HV.out.2.2; omega)] at this

set_option maxHeartbeats 4000000 in
set_option maxRecDepth 100000 in
theorem szHandlerS_c (v : Value) (n B : Nat) (l : List HndV) (left : Int) (w : World) (hv : Sl w B 3 n v (l.flatMap hcells)) (hB : B ≤ w.heap.size) (hm : ∀ x ∈ l, hraw w B x) (h0 : 0 ≤ left) (h1 : left ≤ 1048576) :
    Calls Try.prog 38 #[v, .int .i64 left] w (SzPost left (n ≤ maxTxt ∧ ∀ x ∈ l, hfit x) w) := by
  have hln := Sl.count hcells_len hv (by omega)
  obtain ⟨A, c, rfl, hnc, hcm⟩ := hv.form
  unfold maxLen at hcm
  have HV := hid (And.intro hv (And.intro hm hln))
  clear hv hm hln
  by_cases hl : left - (n : Int) < 0
  · go_enter Try.func38, Try.ntmps38
    go_wp2_with fail
    go_ret
    exact ⟨_, rfl, Below.refl _ _, .inl (by omega)⟩
  go_enter Try.func38, Try.ntmps38
  go_wp2_with fail
  go_loopw [1, 5] (fun lv iv wr => ∃ (k : Nat) (q : Int), iv = .int .i64 k ∧ lv = .int .i64 q ∧ k ≤ n ∧ 0 ≤ q ∧ q ≤ left ∧ Hid (∀ x ∈ l.take k, hfit x) ∧ Hid (Below w.heap.size w wr)) (fun _ iv _ => n - (intOf iv).toNat)
  case atStart => exact ⟨0, _, rfl, rfl, by omega, by omega, by omega, by intro f hf; simp at hf, Below.refl _ _⟩
  case round =>
    obtain ⟨k, q, rfl, rfl, hk, hq0, hq1, HL, HB⟩ := hrel
    by_cases hlt : k < n
    · obtain ⟨b, o, x, s, rfl, hbB, hx, hs, c0, c1, c2⟩ := hcells_at (HV.out.1.below HB.out hB) hlt
      obtain ⟨r1, ⟨r4, r5⟩⟩ := (HV.out.2.1 _ (List.mem_of_getElem? hx)).below HB.out hB
      obtain ⟨A4, k4, hfv, _, _⟩ := r4.form
      rw [hfv] at c2 r4
      have hcall := hid (szHandler_c s x.h.lv A4 x.fn k4 B x.h.fs q wr (by rw [Lib.size_eq, hs]; exact r1) r4 r5 (Nat.le_trans hB HB.out.size) hq0 (by omega))
      have HX := hid (And.intro hx hs)
      clear hx hs r1 r4 r5 hfv
      go_wp2_with fail
      refine hcall.out.mono ?_
      rintro e w1 ⟨r, rfl, hb, hr⟩
      have HB1 := hid (HB.out.trans (hb.mono HB.out.size))
      clear hb
      rcases hr with hr | ⟨hr0, hr1, hr2⟩
      · go_wp2_with fail
        go_ret
        exact ⟨_, rfl, HB1.out, .inl (by omega)⟩
      · have HR := hid hr2
        clear hr2
        go_wp2_with fail
        go_roundw
        case rel =>
          refine ⟨k + 1, r, by go_num, rfl, by omega, hr0, by omega, ?_, HB1.out⟩
          intro g hg
          rcases mem_take_succ' l k _ g HX.out.1 hg with rfl | hg
          · exact ⟨by rw [← HX.out.2, ← Lib.size_eq]; exact HR.out.1, HR.out.2⟩
          · exact HL.out g hg
        case measure => simp [intOf]; omega
    · go_wp2_with fail
      go_ret
      refine ⟨_, rfl, HB.out, .inr ⟨hq0, hq1, by unfold maxTxt; omega, ?_⟩⟩
      have := HL.out
      rwa [List.take_of_length_le (by have := HV.out.2.2; omega)] at this

/-- the two slices of a tree that comes in -/
def treeRaw (w : World) (B : Nat) (Aa : Option Addr) (na ca : Nat) (Ab : Option Addr) (nb cb : Nat) (la : List LgrV) (lb : List HndV) : Prop :=
  (Sl w B 6 na (.slice Aa na ca) (la.flatMap lcells) ∧ ∀ x ∈ la, lraw w B x) ∧ (Sl w B 3 nb (.slice Ab nb cb) (lb.flatMap hcells) ∧ ∀ x ∈ lb, hraw w B x)
def treeFit (na nb : Nat) (la : List LgrV) (lb : List HndV) : Prop := (na ≤ maxTxt ∧ ∀ x ∈ la, lfit x) ∧ (nb ≤ maxTxt ∧ ∀ x ∈ lb, hfit x)
theorem treeRaw.below {w w' : World} {B B' : Nat} {Aa : Option Addr} {na ca : Nat} {Ab : Option Addr} {nb cb : Nat} {la : List LgrV} {lb : List HndV} (h : treeRaw w B Aa na ca Ab nb cb la lb) (hb : Below B' w w') (hB : B ≤ B') : treeRaw w' B Aa na ca Ab nb cb la lb :=
  ⟨⟨h.1.1.below hb hB, fun x hx => (h.1.2 x hx).below hb hB⟩, ⟨h.2.1.below hb hB, fun x hx => (h.2.2 x hx).below hb hB⟩⟩

set_option maxHeartbeats 2000000 in
set_option maxRecDepth 100000 in
theorem szTree_c (Aa : Option Addr) (na ca : Nat) (Ab : Option Addr) (nb cb B : Nat) (q0 : Int) (la : List LgrV) (lb : List HndV) (left : Int) (w : World) (h : treeRaw w B Aa na ca Ab nb cb la lb) (hB : B ≤ w.heap.size) (h0 : 0 ≤ left) (h1 : left ≤ 1048576) :
    Calls Try.prog 11 #[.agg #[.slice Aa na ca, .slice Ab nb cb, .int .i64 q0], .int .i64 left] w (SzPost left (treeFit na nb la lb) w) := by
  have HB0 := hid (show Below w.heap.size w (w.alloc (.cells #[.slice Aa na ca, .slice Ab nb cb, .int .i64 q0] 25)) from (Below.refl _ _).alloc (Nat.le_refl _) _)
  have HC := hid (Below.refl (w.alloc (.cells #[.slice Aa na ca, .slice Ab nb cb, .int .i64 q0] 25)).heap.size (w.alloc (.cells #[.slice Aa na ca, .slice Ab nb cb, .int .i64 q0] 25)))
  have C1 := hid (fun (W : World) (hW : Below w.heap.size w W) (q : Int) (q0 : 0 ≤ q) (q1 : q ≤ 1048576) => szLoggerS_c _ na B la q W (h.1.1.below hW hB) (Nat.le_trans hB hW.size) (fun x hx => (h.1.2 x hx).below hW hB) q0 q1)
  have C2 := hid (fun (W : World) (hW : Below w.heap.size w W) (q : Int) (q0 : 0 ≤ q) (q1 : q ≤ 1048576) => szHandlerS_c _ nb B lb q W (h.2.1.below hW hB) (Nat.le_trans hB hW.size) (fun x hx => (h.2.2 x hx).below hW hB) q0 q1)
  clear h
  go_enter Try.func11, Try.ntmps11
  go_wp2_with fail
  refine (C1.out _ HB0.out _ (by omega) (by omega)).mono ?_
  rintro e w1 ⟨r1, rfl, hb1, hr1⟩
  replace HC := hid (HC.out.trans (hb1.mono HC.out.size))
  clear hb1
  have d1 := box_cell HC.out 1
  rcases hr1 with hr1 | ⟨hr1, hr1', f1⟩
  · go_wp2_with fail
    go_ret
    exact ⟨_, rfl, HB0.out.trans (HC.out.mono (by simp)), .inl (by omega)⟩
  have F1 := hid f1
  clear f1
  go_wp2_with fail
  refine (C2.out _ (HB0.out.trans (HC.out.mono (by simp))) _ (by omega) (by omega)).mono ?_
  rintro e w2 ⟨r2, rfl, hb2, hr2⟩
  replace HC := hid (HC.out.trans (hb2.mono HC.out.size))
  clear hb2 d1
  rcases hr2 with hr2 | ⟨hr2, hr2', f2⟩
  · go_wp2_with fail
    go_ret
    exact ⟨_, rfl, HB0.out.trans (HC.out.mono (by simp)), .inl (by omega)⟩
  have F2 := hid f2
  clear f2
  go_wp2_with fail
  go_ret
  exact ⟨_, rfl, HB0.out.trans (HC.out.mono (by simp)), .inr ⟨by omega, by omega, F1.out, F2.out⟩⟩
end Go.Proofs.Ytlhelhfaogcibaa
