/-
  LAWS OF CHANGED TREES: the laws' equalFilters and equalTree of alike ones.
-/
import Derived.Test.YtioegkcekbkblaaGreatZyEM
import Derived.Test.YtioegkcekbkblaaGreatZyLookI
import Derived.Deep.QuietTactic
import Derived.BigQuiet
namespace Go.Proofs.YtioegkcekbkblaaGreat
open Go.RowKit Nm
set_option linter.unusedSimpArgs false
set_option linter.unusedVariables false

set_option maxHeartbeats 4000000 in
set_option maxRecDepth 100000 in
theorem equalFilters_c (v1 v2 : Value) (n B : Nat) (l : List Flt) (w : World) (h1 : Sl w B 3 n v1 (fsCells l)) (h2 : Sl w B 3 n v2 (fsCells l)) (hB : B ≤ w.heap.size) :
    Calls Tryz.prog 69 #[v1, v2] w (BoolPost w true) := by
  obtain ⟨A1, k1, rfl, _, hm1⟩ := h1.form
  obtain ⟨A2, k2, rfl, _, hm2⟩ := h2.form
  unfold maxLen at hm1 hm2
  have HS := hid (And.intro h1 h2)
  have b0 : ((n : Int) != (n : Int)) = false := by simp
  clear h1 h2
  go_enter Tryz.func69, Tryz.ntmps69
  go_wp2_with fail
  go_loopw [5] (fun iv wr => ∃ (i : Nat), iv = .int .i64 i ∧ i ≤ n ∧ Hid (Below w.heap.size w wr)) (fun iv _ => n - (intOf iv).toNat)
  case atStart => exact ⟨0, rfl, by omega, Below.refl _ _⟩
  case round =>
    obtain ⟨k, rfl, hi, HB⟩ := hrel
    by_cases hlt : k < n
    · obtain ⟨b, o, f, s, rfl, hb1, hx, hs, g0, g1, g2⟩ := HS.out.1.flt hlt
      obtain ⟨b', o', f', s', rfl, hb2, hx', hs', g0', g1', g2'⟩ := HS.out.2.flt hlt
      rw [hx] at hx'
      obtain rfl := Option.some.inj hx'
      obtain rfl : s = s' := (bytes_eq_iff _ _).1 (by rw [hs, hs'])
      have c0 : wr.cell? ⟨b, o + k * 3, none⟩ = _ := (HB.out.cell (p := ⟨b, o + k * 3, none⟩) (by show b < _; omega)).trans g0
      have c0' : wr.cell? ⟨b', o' + k * 3, none⟩ = _ := (HB.out.cell (p := ⟨b', o' + k * 3, none⟩) (by show b' < _; omega)).trans g0'
      have c1 : wr.cell? ⟨b, o + k * 3 + 1, none⟩ = _ := (HB.out.cell (p := ⟨b, o + k * 3 + 1, none⟩) (by show b < _; omega)).trans g1
      have c1' : wr.cell? ⟨b', o' + k * 3 + 1, none⟩ = _ := (HB.out.cell (p := ⟨b', o' + k * 3 + 1, none⟩) (by show b' < _; omega)).trans g1'
      have c2 : wr.cell? ⟨b, o + k * 3 + 2, none⟩ = _ := (HB.out.cell (p := ⟨b, o + k * 3 + 2, none⟩) (by show b < _; omega)).trans g2
      have c2' : wr.cell? ⟨b', o' + k * 3 + 2, none⟩ = _ := (HB.out.cell (p := ⟨b', o' + k * 3 + 2, none⟩) (by show b' < _; omega)).trans g2'
      clear hx hx' hs hs' g0 g1 g2 g0' g1' g2'
      go_wp2_with fail
      go_quiet (fail)
      go_wp2_with fail
      go_roundw
      case rel => exact ⟨k + 1, by go_num, by omega, below_dr HB.out _⟩
      case measure => simp [intOf]; omega
    · go_wp2_with fail
      go_ret
      exact ⟨rfl, HB.out⟩

theorem TreeIn.handsE {w : World} {B n1 k1 n2 k2 : Nat} {A1 A2 : Option Addr} {L : List Lgr} {H : List Hnd} {q : Int} (h : TreeIn w B (.agg #[.slice A1 n1 k1, .slice A2 n2 k2, .int .i64 q]) L H q) :
    ∃ hs, Hs w B n2 (.slice A2 n2 k2) hs ∧ hsOf hs = H := by
  obtain ⟨ls, hs, ⟨A1', n1', k1', A2', n2', k2', e, _, h1, _⟩, h2, h3⟩ := h
  simp at e
  obtain ⟨⟨rfl, rfl, rfl⟩, ⟨rfl, rfl, rfl⟩⟩ := e
  exact ⟨hs, h1, h3⟩
theorem TreeIn.lens {w : World} {B n1 k1 n2 k2 : Nat} {A1 A2 : Option Addr} {L : List Lgr} {H : List Hnd} {q : Int} (h : TreeIn w B (.agg #[.slice A1 n1 k1, .slice A2 n2 k2, .int .i64 q]) L H q) : n1 = L.length ∧ n2 = H.length ∧ n1 ≤ k1 ∧ n2 ≤ k2 ∧ k1 ≤ maxLen ∧ k2 ≤ maxLen := by
  obtain ⟨ls, hl, hL⟩ := h.loggers
  obtain ⟨hs, hh, hH⟩ := h.handsE
  have a := hl.count
  have b := hh.count
  have c := hl.1.cap
  have d := hh.1.cap
  subst hL; subst hH
  unfold lsOf hsOf
  rw [List.length_map, List.length_map]
  exact ⟨a.symm, b.symm, c.1, d.1, c.2, d.2⟩
/-- logger k of a tree: its cells -/
theorem TreeIn.lgr {w : World} {B n1 k1 n2 k2 : Nat} {A1 A2 : Option Addr} {L : List Lgr} {H : List Hnd} {q : Int} (h : TreeIn w B (.agg #[.slice A1 n1 k1, .slice A2 n2 k2, .int .i64 q]) L H q) {k : Nat} (hk : k < n1) :
    ∃ (b o : Nat) (p : ByteArray) (A3 : Option Addr) (hn k3 : Nat) (A4 : Option Addr) (fn k4 : Nat), A1 = some ⟨b, o, none⟩ ∧ p.data.toList = (nsOf L).getD k [] ∧ hn = (hsAt L k).length ∧ fn = (fsAt L k).length ∧ Sl w B 1 hn (.slice A3 hn k3) ((hsAt L k).map txt) ∧ Sl w B 3 fn (.slice A4 fn k4) (fsCells (fsAt L k)) ∧
      w.cell? ⟨b, o + k * 6, none⟩ = some (.string p) ∧ w.cell? ⟨b, o + k * 6 + 1, none⟩ = some (.int .i64 (lvAt L k)) ∧ w.cell? ⟨b, o + k * 6 + 2, none⟩ = some (.slice A3 hn k3) ∧ w.cell? ⟨b, o + k * 6 + 3, none⟩ = some (.slice A4 fn k4) ∧
      w.cell? ⟨b, o + k * 6 + 4, none⟩ = some (.bool (stopAt L k)) ∧ w.cell? ⟨b, o + k * 6 + 5, none⟩ = some (.bool (offAt L k)) := by
  obtain ⟨ls, hl, hL⟩ := h.loggers
  obtain ⟨b, o, _, _, rfl, _⟩ := hl.at_ hk
  obtain ⟨p, A3, hn, k3, A4, fn, k4, hp, _, ht, hf, c0, c1, c2, c3, c4, c5⟩ := logger_at hl hL hk
  exact ⟨b, o, p, A3, hn, k3, A4, fn, k4, rfl, hp, ht.count.symm, (Sl.flen hf.1).symm, ht.1, hf.1, c0, c1, c2, c3, c4, c5⟩
def hnmAt (H : List Hnd) (k : Nat) : Name := (H.map (·.nm)).getD k []
def hlvAt (H : List Hnd) (k : Nat) : Int := (H.map (·.lv)).getD k 0
def hfsAt (H : List Hnd) (k : Nat) : List Flt := (H.map (·.fs)).getD k []
/-- handler k of a tree: its cells -/
theorem TreeIn.hnd {w : World} {B n1 k1 n2 k2 : Nat} {A1 A2 : Option Addr} {L : List Lgr} {H : List Hnd} {q : Int} (h : TreeIn w B (.agg #[.slice A1 n1 k1, .slice A2 n2 k2, .int .i64 q]) L H q) {k : Nat} (hk : k < n2) :
    ∃ (b o : Nat) (p : ByteArray) (A4 : Option Addr) (fn k4 : Nat), A2 = some ⟨b, o, none⟩ ∧ p.data.toList = hnmAt H k ∧ fn = (hfsAt H k).length ∧ Sl w B 3 fn (.slice A4 fn k4) (fsCells (hfsAt H k)) ∧
      w.cell? ⟨b, o + k * 3, none⟩ = some (.string p) ∧ w.cell? ⟨b, o + k * 3 + 1, none⟩ = some (.int .i64 (hlvAt H k)) ∧ w.cell? ⟨b, o + k * 3 + 2, none⟩ = some (.slice A4 fn k4) := by
  obtain ⟨hs, hh, hH⟩ := h.handsE
  obtain ⟨b, o, x, s, rfl, _, hx, hsx, _, hf, c0, c1, c2⟩ := hh.at_ hk
  have e1 : H[k]? = some x.h := by rw [← hH]; unfold hsOf; rw [List.getElem?_map, hx]; rfl
  have g : ∀ {α : Type} (f : Hnd → α) (d : α), (H.map f).getD k d = f x.h := fun f d => by simp [List.getD, e1]
  obtain ⟨A4, k4, e4, _, _⟩ := hf.1.form
  rw [e4] at hf c2
  refine ⟨b, o, s, A4, x.fn, k4, rfl, by rw [hnmAt, g (·.nm) []]; exact hsx, ?_, ?_, c0, ?_, c2⟩
  · rw [hfsAt, g (·.fs) []]; exact (Sl.flen hf.1).symm
  · rw [hfsAt, g (·.fs) []]; exact hf.1
  · rw [hlvAt, g (·.lv) 0]; exact c1

set_option maxHeartbeats 16000000 in
set_option maxRecDepth 100000 in
theorem equalTree_c {w : World} {B1 B2 : Nat} {v1 v2 : Value} {L : List Lgr} {H : List Hnd} {q : Int} (h1 : TreeIn w B1 v1 L H q) (h2 : TreeIn w B2 v2 L H q) (hB1 : B1 ≤ w.heap.size) (hB2 : B2 ≤ w.heap.size) :
    Calls Tryz.prog 30 #[v1, v2] w (BoolPost w true) := by
  have T1 := hid (fun (W : World) (hW : Below w.heap.size w W) => h1.below hW hB1)
  have T2 := hid (fun (W : World) (hW : Below w.heap.size w W) => h2.below hW hB2)
  obtain ⟨A1, n1, k1, A2, n2, k2, rfl⟩ := h1.form
  obtain ⟨A5, n5, k5, A6, n6, k6, rfl⟩ := h2.form
  obtain ⟨e1, e2, hc1, hc2, hm1, hm2⟩ := h1.lens
  obtain ⟨e5, e6, hc5, hc6, hm5, hm6⟩ := h2.lens
  obtain rfl : n1 = n5 := by omega
  obtain rfl : n2 = n6 := by omega
  unfold maxLen at hm1 hm2 hm5 hm6
  have b0 : ((n1 : Int) != (n1 : Int)) = false := by simp
  have b1 : ((n2 : Int) != (n2 : Int)) = false := by simp
  have b2 : (q != q) = false := by simp
  have hbx : Below w.heap.size w ((w.alloc (.cells #[.slice A1 n1 k1, .slice A2 n2 k2, .int .i64 q] 26)).alloc (.cells #[.slice A5 n1 k5, .slice A6 n2 k6, .int .i64 q] 26)) := ((Below.refl _ _).alloc (Nat.le_refl _) _).alloc (by simp) _
  have K1 := (Blk.new w #[.slice A1 n1 k1, .slice A2 n2 k2, .int .i64 q] 26).alloc (.cells #[.slice A5 n1 k5, .slice A6 n2 k6, .int .i64 q] 26)
  have K2 := Blk.new (w.alloc (.cells #[.slice A1 n1 k1, .slice A2 n2 k2, .int .i64 q] 26)) #[.slice A5 n1 k5, .slice A6 n2 k6, .int .i64 q] 26
  simp only [World.size_alloc] at K2
  have d0 := (K1.2 0 _ rfl).1
  have d1 := (K1.2 1 _ rfl).1
  have d2 := (K1.2 2 _ rfl).1
  have f0 := (K2.2 0 _ rfl).1
  have f1 := (K2.2 1 _ rfl).1
  have f2 := (K2.2 2 _ rfl).1
  have HK1 := hid K1
  have HK2 := hid K2
  have HBX := hid hbx
  clear h1 h2 e1 e2 e5 e6 K1 K2 hbx
  go_enter Tryz.func30, Tryz.ntmps30
  go_wp2_with fail
  generalize hw2 : (w.alloc (.cells #[.slice A1 n1 k1, .slice A2 n2 k2, .int .i64 q] 26)).alloc (.cells #[.slice A5 n1 k5, .slice A6 n2 k6, .int .i64 q] 26) = w2 at *
  clear hw2 d0 d1 d2 f0 f1 f2
  go_loopw [5] (fun iv wr => ∃ (i : Nat), iv = .int .i64 i ∧ i ≤ n1 ∧ Hid (Below w2.heap.size w2 wr)) (fun iv _ => n1 - (intOf iv).toNat)
  case atStart => exact ⟨0, rfl, by omega, Below.refl _ _⟩
  case round =>
    obtain ⟨k, rfl, hi, HB⟩ := hrel
    have d0 := ((HK1.out.to HB.out).2 0 _ rfl).1
    have f0 := ((HK2.out.to HB.out).2 0 _ rfl).1
    have HW := hid (HBX.out.trans (HB.out.mono HBX.out.size))
    by_cases hlt : k < n1
    · obtain ⟨b, o, p, A3, hn, k3, A4, fn, k4, rfl, hp, hhn, hfn, ht, hf, c0, c1, c2, c3, c4, c5⟩ := (T1.out _ HW.out).lgr hlt
      obtain ⟨b', o', p', A3', hn', k3', A4', fn', k4', rfl, hp', hhn', hfn', ht', hf', c0', c1', c2', c3', c4', c5'⟩ := (T2.out _ HW.out).lgr hlt
      obtain rfl : p = p' := (bytes_eq_iff _ _).1 (by rw [hp, hp'])
      obtain rfl : hn = hn' := by rw [hhn, hhn']
      obtain rfl : fn = fn' := by rw [hfn, hfn']
      have hxB : Below wr.heap.size wr ((wr.alloc (.cells #[.string p, .int .i64 (lvAt L k), .slice A3 hn k3, .slice A4 fn k4, .bool (stopAt L k), .bool (offAt L k)] 72)).alloc (.cells #[.string p, .int .i64 (lvAt L k), .slice A3' hn k3', .slice A4' fn k4', .bool (stopAt L k), .bool (offAt L k)] 72)) := ((Below.refl _ _).alloc (Nat.le_refl _) _).alloc (by simp) _
      have KX := (Blk.new wr #[.string p, .int .i64 (lvAt L k), .slice A3 hn k3, .slice A4 fn k4, .bool (stopAt L k), .bool (offAt L k)] 72).alloc (.cells #[.string p, .int .i64 (lvAt L k), .slice A3' hn k3', .slice A4' fn k4', .bool (stopAt L k), .bool (offAt L k)] 72)
      have KY := Blk.new (wr.alloc (.cells #[.string p, .int .i64 (lvAt L k), .slice A3 hn k3, .slice A4 fn k4, .bool (stopAt L k), .bool (offAt L k)] 72)) #[.string p, .int .i64 (lvAt L k), .slice A3' hn k3', .slice A4' fn k4', .bool (stopAt L k), .bool (offAt L k)] 72
      simp only [World.size_alloc] at KY
      have g1 := Nat.le_trans hB1 HW.out.size
      have g2 := Nat.le_trans hB2 HW.out.size
      have E1 := hid (equalTexts_c _ _ _ _ _ (hsAt L k) (hsAt L k) _ ((ht.below hxB g1).more (Nat.le_trans g1 hxB.size)) ((ht'.below hxB g2).more (Nat.le_trans g2 hxB.size)) (Nat.le_refl _))
      rw [decide_eq_true (show hsAt L k = hsAt L k from rfl)] at E1
      have E2 := hid (fun (W : World) (hW : Below wr.heap.size wr W) => equalFilters_c _ _ _ W.heap.size (fsAt L k) W ((hf.below hW g1).more (Nat.le_trans g1 hW.size)) ((hf'.below hW g2).more (Nat.le_trans g2 hW.size)) (Nat.le_refl _))
      have en := eq_true_of (a := p) (b := p) rfl
      have hwr : w.heap.size + 1 < wr.heap.size := (HK2.out.to HB.out).1
      have hbl : b' < wr.heap.size := World.block_lt_of_cell? wr _ c0'
      have HKX := hid KX
      have HKY := hid KY
      have HXB := hid hxB
      clear hp hp' hhn hhn' hfn hfn' ht ht' hf hf' KX KY hxB g1 g2
      generalize lvAt L k = lv at *
      generalize stopAt L k = sb at *
      generalize offAt L k = ob at *
      have b3 : (lv != lv) = false := by simp
      have b4 : (sb != sb) = false := by simp
      have b5 : (ob != ob) = false := by simp
      go_wp2_with fail
      refine (E1.out).mono ?_
      rintro e w5 ⟨rfl, hb⟩
      have x3 := ((HKX.out.to hb).2 3 _ rfl).1
      have y3 := ((HKY.out.to hb).2 3 _ rfl).1
      have HX5 := hid (HXB.out.trans (hb.mono HXB.out.size))
      clear hb
      go_wp2_with fail
      refine (E2.out _ HX5.out).mono ?_
      rintro e w6 ⟨rfl, hb⟩
      have HX6 := hid (HX5.out.trans (hb.mono HX5.out.size))
      clear hb x3 y3
      go_wp2_with fail
      go_roundw
      case rel => exact ⟨k + 1, by go_num, by omega, HB.out.trans (HX6.out.mono HB.out.size)⟩
      case measure => simp [intOf]; omega
    · go_wp2_with fail
      clear d0 f0
      go_loopw [8] (fun iv wr => ∃ (i : Nat), iv = .int .i64 i ∧ i ≤ n2 ∧ Hid (Below w2.heap.size w2 wr)) (fun iv _ => n2 - (intOf iv).toNat)
      case atStart => exact ⟨0, rfl, by omega, HB.out⟩
      case round =>
        obtain ⟨j, rfl, hj, HC⟩ := hrel
        have d1 := ((HK1.out.to HC.out).2 1 _ rfl).1
        have f1 := ((HK2.out.to HC.out).2 1 _ rfl).1
        have HV := hid (HBX.out.trans (HC.out.mono HBX.out.size))
        by_cases hjt : j < n2
        · obtain ⟨b, o, p, A4, fn, k4, rfl, hp, hfn, hf, c0, c1, c2⟩ := (T1.out _ HV.out).hnd hjt
          obtain ⟨b', o', p', A4', fn', k4', rfl, hp', hfn', hf', c0', c1', c2'⟩ := (T2.out _ HV.out).hnd hjt
          obtain rfl : p = p' := (bytes_eq_iff _ _).1 (by rw [hp, hp'])
          obtain rfl : fn = fn' := by rw [hfn, hfn']
          have g1 := Nat.le_trans hB1 HV.out.size
          have g2 := Nat.le_trans hB2 HV.out.size
          have E2 := hid (fun (W : World) (hW : Below wr.heap.size wr W) => equalFilters_c _ _ _ W.heap.size (hfsAt H j) W ((hf.below hW g1).more (Nat.le_trans g1 hW.size)) ((hf'.below hW g2).more (Nat.le_trans g2 hW.size)) (Nat.le_refl _))
          have HXB := hid (show Below wr.heap.size wr ((wr.alloc (.cells #[.string p, .int .i64 (hlvAt H j), .slice A4 fn k4] 47)).alloc (.cells #[.string p, .int .i64 (hlvAt H j), .slice A4' fn k4'] 47)) from ((Below.refl _ _).alloc (Nat.le_refl _) _).alloc (by simp) _)
          have en := eq_true_of (a := p) (b := p) rfl
          have hwr : w.heap.size + 1 < wr.heap.size := (HK2.out.to HC.out).1
          have hbl : b' < wr.heap.size := World.block_lt_of_cell? wr _ c0'
          clear hp hp' hfn hfn' hf hf' g1 g2
          generalize hlvAt H j = lv at *
          have b3 : (lv != lv) = false := by simp
          go_wp2_with fail
          refine (E2.out _ HXB.out).mono ?_
          rintro e w6 ⟨rfl, hb⟩
          have HX6 := hid (HXB.out.trans (hb.mono HXB.out.size))
          clear hb
          go_wp2_with fail
          go_roundw
          case rel => exact ⟨j + 1, by go_num, by omega, HC.out.trans (HX6.out.mono HC.out.size)⟩
          case measure => simp [intOf]; omega
        · go_wp2_with fail
          go_ret
          exact ⟨rfl, HBX.out.trans (HC.out.mono HBX.out.size)⟩
end Go.Proofs.YtioegkcekbkblaaGreat
