/-
  TREES compared by the laws, and what an owned tree is to the functions.
-/
import Derived.Test.YtlhelhfaogcibaaN2
namespace Go.Proofs.Ytlhelhfaogcibaa
open Go.RowKit Nm
set_option linter.unusedSimpArgs false
set_option linter.unusedVariables false

set_option maxHeartbeats 2000000 in
set_option maxRecDepth 100000 in
theorem eqLogger_c (s : ByteArray) (lv : Int) (A1 A2 A3 A4 : Option Addr) (n1 c1 n2 c2 c3 c4 B : Nat) (hs : List (List UInt8)) (fs : List Flt) (b1 b2 : Bool) (w : World)
    (h1 : Sl w B 1 n1 (.slice A1 n1 c1) (hs.map txt)) (h2 : Sl w B 3 n2 (.slice A2 n2 c2) (fsCells fs)) (h3 : Sl w B 1 n1 (.slice A3 n1 c3) (hs.map txt)) (h4 : Sl w B 3 n2 (.slice A4 n2 c4) (fsCells fs)) (hB : B ≤ w.heap.size) :
    Calls Try.prog 72 #[.agg #[.string s, .int .i64 lv, .slice A1 n1 c1, .slice A2 n2 c2, .bool b1, .bool b2], .agg #[.string s, .int .i64 lv, .slice A3 n1 c3, .slice A4 n2 c4, .bool b1, .bool b2]] w (BoolPost w true) := by
  have e0 : (s.toList == s.toList) = true := by simp
  have e1 : (lv == lv) = true := by simp
  have e2 : (b1 == b1) = true := by simp
  have e3 : (b2 == b2) = true := by simp
  have C1 := hid (fun (W : World) (hW : Below w.heap.size w W) => eqStrs_c _ _ n1 n1 B hs hs W (h1.below hW hB) (h3.below hW hB) (Nat.le_trans hB hW.size))
  have C2 := hid (fun (W : World) (hW : Below w.heap.size w W) => eqFilterS_c _ _ n2 B fs W (h2.below hW hB) (h4.below hW hB) (Nat.le_trans hB hW.size))
  have HT := hid (show decide (hs = hs) = true by simp)
  clear h1 h2 h3 h4
  go_enter Try.func72, Try.ntmps72
  go_wp2_with fail
  refine (C1.out _ ?_).mono ?_
  case refine_1 => go_grown
  rintro e w1 ⟨rfl, hb1⟩
  rw [HT.out]
  have K1 := (((Blk.new _ _ _).alloc _)).to hb1
  have K2 := (Blk.new _ _ _).to hb1
  simp only [World.size_alloc] at K1 K2
  have HB1 := hid (Below.trans (by go_grown) (hb1.mono (by simp; omega)) : Below w.heap.size w w1)
  have HK := hid (And.intro K1 K2)
  have x3 := (K1.2 3 _ rfl).1
  have y3 := (K2.2 3 _ rfl).1
  clear K1 K2 hb1
  go_wp2_with fail
  refine (C2.out _ HB1.out).mono ?_
  rintro e w2 ⟨rfl, hb2⟩
  obtain ⟨K1, K2⟩ := HK.out
  have K1 := K1.to hb2
  have K2 := K2.to hb2
  have HB2 := hid (HB1.out.trans (hb2.mono HB1.out.size))
  have x4 := (K1.2 4 _ rfl).1
  have y4 := (K2.2 4 _ rfl).1
  have x5 := (K1.2 5 _ rfl).1
  have y5 := (K2.2 5 _ rfl).1
  clear K1 K2 hb2 x3 y3
  go_wp2_with fail
  all_goals go_ret
  all_goals exact ⟨ret_bool (by simp_all), HB2.out⟩

set_option maxHeartbeats 2000000 in
set_option maxRecDepth 100000 in
theorem eqHandler_c (s : ByteArray) (lv : Int) (A2 A4 : Option Addr) (n2 c2 c4 B : Nat) (fs : List Flt) (w : World)
    (h2 : Sl w B 3 n2 (.slice A2 n2 c2) (fsCells fs)) (h4 : Sl w B 3 n2 (.slice A4 n2 c4) (fsCells fs)) (hB : B ≤ w.heap.size) :
    Calls Try.prog 73 #[.agg #[.string s, .int .i64 lv, .slice A2 n2 c2], .agg #[.string s, .int .i64 lv, .slice A4 n2 c4]] w (BoolPost w true) := by
  have C2 := hid (fun (W : World) (hW : Below w.heap.size w W) => eqFilterS_c _ _ n2 B fs W (h2.below hW hB) (h4.below hW hB) (Nat.le_trans hB hW.size))
  clear h2 h4
  go_enter Try.func73, Try.ntmps73
  go_wp2_with fail
  refine (C2.out _ ?_).mono ?_
  case refine_1 => go_grown
  rintro e w1 ⟨rfl, hb1⟩
  have HB1 := hid (Below.trans (by go_grown) (hb1.mono (by simp; omega)) : Below w.heap.size w w1)
  clear hb1
  go_wp2_with fail
  all_goals go_ret
  all_goals exact ⟨ret_bool (by simp_all), HB1.out⟩

set_option maxHeartbeats 4000000 in
set_option maxRecDepth 100000 in
theorem eqLoggerS_c (v1 v2 : Value) (n B : Nat) (l1 l2 : List LgrV) (w : World) (he : lsOf l1 = lsOf l2) (h1 : Sl w B 6 n v1 (l1.flatMap lcells)) (h2 : Sl w B 6 n v2 (l2.flatMap lcells)) (m1 : ∀ x ∈ l1, lraw w B x) (m2 : ∀ x ∈ l2, lraw w B x) (hB : B ≤ w.heap.size) :
    Calls Try.prog 45 #[v1, v2] w (BoolPost w true) := by
  obtain ⟨A1, k1, rfl, _, hm1⟩ := h1.form
  obtain ⟨A2, k2, rfl, _, hm2⟩ := h2.form
  unfold maxLen at hm1 hm2
  have HS := hid (And.intro (And.intro h1 m1) (And.intro h2 m2))
  have HE := hid he
  have b0 : ((n : Int) != (n : Int)) = false := by simp
  clear h1 h2 m1 m2 he
  go_enter Try.func45, Try.ntmps45
  go_wp2_with fail
  go_loopw [5] (fun iv wr => ∃ (i : Nat), iv = .int .i64 i ∧ i ≤ n ∧ Hid (Below w.heap.size w wr)) (fun iv _ => n - (intOf iv).toNat)
  case atStart => exact ⟨0, rfl, by omega, Below.refl _ _⟩
  case round =>
    obtain ⟨i, rfl, hi, HB⟩ := hrel
    by_cases hlt : i < n
    · obtain ⟨b, o, x, s, rfl, hbB, hx, hs, g0, g1, g2, g3, g4, g5⟩ := lcells_at (HS.out.1.1.below HB.out hB) hlt
      obtain ⟨b', o', x', s', rfl, hbB', hx', hs', g0', g1', g2', g3', g4', g5'⟩ := lcells_at (HS.out.2.1.below HB.out hB) hlt
      have hl : x.l = x'.l := by
        have h := congrArg (fun l => l[i]?) HE.out
        simp only [lsOf, List.getElem?_map, hx, hx', Option.map_some] at h
        exact Option.some.inj h
      obtain rfl : s = s' := (bytes_eq_iff _ _).1 (by rw [hs, hs', hl])
      obtain ⟨_, ⟨r2, _⟩, ⟨r4, _⟩⟩ := (HS.out.1.2 _ (List.mem_of_getElem? hx)).below HB.out hB
      obtain ⟨_, ⟨t2, _⟩, ⟨t4, _⟩⟩ := (HS.out.2.2 _ (List.mem_of_getElem? hx')).below HB.out hB
      obtain ⟨A3, k3, hhv, _, _⟩ := r2.form
      obtain ⟨A4, k4, hfv, _, _⟩ := r4.form
      obtain ⟨A5, k5, hhv', _, _⟩ := t2.form
      obtain ⟨A6, k6, hfv', _, _⟩ := t4.form
      have hn1 : x.hn = x'.hn := by have := r2.1; have := t2.1; rw [hl] at *; simp at *; omega
      have hn2 : x.fn = x'.fn := by have := r4.1; have := t4.1; rw [hl] at *; omega
      rw [hhv] at g2 r2
      rw [hfv] at g3 r4
      rw [hhv', ← hn1] at g2' t2
      rw [hfv', ← hn2] at g3' t4
      rw [← hl] at g1' g4' g5' t2 t4
      have E := hid (fun (W : World) (hW : Below wr.heap.size wr W) => eqLogger_c s x.l.lv A3 A4 A5 A6 x.hn k3 x.fn k4 k5 k6 B x.l.hs x.l.fs x.l.stop x.l.off W (r2.below hW (Nat.le_trans hB HB.out.size)) (r4.below hW (Nat.le_trans hB HB.out.size)) (t2.below hW (Nat.le_trans hB HB.out.size)) (t4.below hW (Nat.le_trans hB HB.out.size)) (Nat.le_trans hB (Nat.le_trans HB.out.size hW.size)))
      clear hx hx' hs hs' hl r2 r4 t2 t4 hhv hfv hhv' hfv' hn1 hn2
      go_wp2_with fail
      go_region_with (go_at_call 72; refine (E.out _ (by first | exact Below.refl _ _ | exact (Below.refl _ _).drew | exact (Below.refl _ _).drew.drew)).mono ?_; rintro e w2 ⟨rfl, hb⟩)
      all_goals go_wp2_with fail
      all_goals
        go_roundw
        case rel => exact ⟨i + 1, by go_num, by omega, by first | exact HB.out.trans (hb.mono HB.out.size) | exact HB.out.drew.trans (hb.mono HB.out.size) | exact HB.out.drew.drew.trans (hb.mono HB.out.size)⟩
        case measure => simp [intOf]; omega
    · go_wp2_with fail
      go_ret
      exact ⟨rfl, HB.out⟩

set_option maxHeartbeats 4000000 in
set_option maxRecDepth 100000 in
theorem eqHandlerS_c (v1 v2 : Value) (n B : Nat) (l1 l2 : List HndV) (w : World) (he : hsOf l1 = hsOf l2) (h1 : Sl w B 3 n v1 (l1.flatMap hcells)) (h2 : Sl w B 3 n v2 (l2.flatMap hcells)) (m1 : ∀ x ∈ l1, hraw w B x) (m2 : ∀ x ∈ l2, hraw w B x) (hB : B ≤ w.heap.size) :
    Calls Try.prog 46 #[v1, v2] w (BoolPost w true) := by
  obtain ⟨A1, k1, rfl, _, hm1⟩ := h1.form
  obtain ⟨A2, k2, rfl, _, hm2⟩ := h2.form
  unfold maxLen at hm1 hm2
  have HS := hid (And.intro (And.intro h1 m1) (And.intro h2 m2))
  have HE := hid he
  have b0 : ((n : Int) != (n : Int)) = false := by simp
  clear h1 h2 m1 m2 he
  go_enter Try.func46, Try.ntmps46
  go_wp2_with fail
  go_loopw [5] (fun iv wr => ∃ (i : Nat), iv = .int .i64 i ∧ i ≤ n ∧ Hid (Below w.heap.size w wr)) (fun iv _ => n - (intOf iv).toNat)
  case atStart => exact ⟨0, rfl, by omega, Below.refl _ _⟩
  case round =>
    obtain ⟨i, rfl, hi, HB⟩ := hrel
    by_cases hlt : i < n
    · obtain ⟨b, o, x, s, rfl, hbB, hx, hs, g0, g1, g2⟩ := hcells_at (HS.out.1.1.below HB.out hB) hlt
      obtain ⟨b', o', x', s', rfl, hbB', hx', hs', g0', g1', g2'⟩ := hcells_at (HS.out.2.1.below HB.out hB) hlt
      have hl : x.h = x'.h := by
        have h := congrArg (fun l => l[i]?) HE.out
        simp only [hsOf, List.getElem?_map, hx, hx', Option.map_some] at h
        exact Option.some.inj h
      obtain rfl : s = s' := (bytes_eq_iff _ _).1 (by rw [hs, hs', hl])
      obtain ⟨_, ⟨r4, _⟩⟩ := (HS.out.1.2 _ (List.mem_of_getElem? hx)).below HB.out hB
      obtain ⟨_, ⟨t4, _⟩⟩ := (HS.out.2.2 _ (List.mem_of_getElem? hx')).below HB.out hB
      obtain ⟨A4, k4, hfv, _, _⟩ := r4.form
      obtain ⟨A6, k6, hfv', _, _⟩ := t4.form
      have hn2 : x.fn = x'.fn := by have := r4.1; have := t4.1; rw [hl] at *; omega
      rw [hfv] at g2 r4
      rw [hfv', ← hn2] at g2' t4
      rw [← hl] at g1' t4
      have E := hid (fun (W : World) (hW : Below wr.heap.size wr W) => eqHandler_c s x.h.lv A4 A6 x.fn k4 k6 B x.h.fs W (r4.below hW (Nat.le_trans hB HB.out.size)) (t4.below hW (Nat.le_trans hB HB.out.size)) (Nat.le_trans hB (Nat.le_trans HB.out.size hW.size)))
      clear hx hx' hs hs' hl r4 t4 hfv hfv' hn2
      go_wp2_with fail
      go_region_with (go_at_call 73; refine (E.out _ (by first | exact Below.refl _ _ | exact (Below.refl _ _).drew | exact (Below.refl _ _).drew.drew)).mono ?_; rintro e w2 ⟨rfl, hb⟩)
      all_goals go_wp2_with fail
      all_goals
        go_roundw
        case rel => exact ⟨i + 1, by go_num, by omega, by first | exact HB.out.trans (hb.mono HB.out.size) | exact HB.out.drew.trans (hb.mono HB.out.size) | exact HB.out.drew.drew.trans (hb.mono HB.out.size)⟩
        case measure => simp [intOf]; omega
    · go_wp2_with fail
      go_ret
      exact ⟨rfl, HB.out⟩

set_option maxHeartbeats 2000000 in
set_option maxRecDepth 100000 in
theorem eqTree_c (Aa Aa' : Option Addr) (na ca ca' : Nat) (Ab Ab' : Option Addr) (nb cb cb' B : Nat) (q : Int) (la la' : List LgrV) (lb lb' : List HndV) (w : World) (h : treeRaw w B Aa na ca Ab nb cb la lb) (h' : treeRaw w B Aa' na ca' Ab' nb cb' la' lb') (hl : lsOf la = lsOf la') (hh : hsOf lb = hsOf lb') (hB : B ≤ w.heap.size) :
    Calls Try.prog 15 #[.agg #[.slice Aa na ca, .slice Ab nb cb, .int .i64 q], .agg #[.slice Aa' na ca', .slice Ab' nb cb', .int .i64 q]] w (BoolPost w true) := by
  have C1 := hid (fun (W : World) (hW : Below w.heap.size w W) => eqLoggerS_c _ _ na B la la' W hl (h.1.1.below hW hB) (h'.1.1.below hW hB) (fun x hx => (h.1.2 x hx).below hW hB) (fun x hx => (h'.1.2 x hx).below hW hB) (Nat.le_trans hB hW.size))
  have C2 := hid (fun (W : World) (hW : Below w.heap.size w W) => eqHandlerS_c _ _ nb B lb lb' W hh (h.2.1.below hW hB) (h'.2.1.below hW hB) (fun x hx => (h.2.2 x hx).below hW hB) (fun x hx => (h'.2.2 x hx).below hW hB) (Nat.le_trans hB hW.size))
  have e0 : (q == q) = true := by simp
  clear h h' hl hh
  go_enter Try.func15, Try.ntmps15
  go_wp2_with fail
  refine (C1.out _ ?_).mono ?_
  case refine_1 => go_grown
  rintro e w1 ⟨rfl, hb1⟩
  have K1 := (((Blk.new _ _ _).alloc _)).to hb1
  have K2 := (Blk.new _ _ _).to hb1
  simp only [World.size_alloc] at K1 K2
  have HB1 := hid (Below.trans (by go_grown) (hb1.mono (by simp; omega)) : Below w.heap.size w w1)
  have HK := hid (And.intro K1 K2)
  have x1 := (K1.2 1 _ rfl).1
  have y1 := (K2.2 1 _ rfl).1
  clear K1 K2 hb1
  go_wp2_with fail
  refine (C2.out _ HB1.out).mono ?_
  rintro e w2 ⟨rfl, hb2⟩
  obtain ⟨K1, K2⟩ := HK.out
  have K1 := K1.to hb2
  have K2 := K2.to hb2
  have HB2 := hid (HB1.out.trans (hb2.mono HB1.out.size))
  have x2 := (K1.2 2 _ rfl).1
  have y2 := (K2.2 2 _ rfl).1
  clear K1 K2 hb2 x1 y1
  go_wp2_with fail
  all_goals go_ret
  all_goals exact ⟨ret_bool (by simp_all), HB2.out⟩
end Go.Proofs.Ytlhelhfaogcibaa
