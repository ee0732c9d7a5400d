/-
  SPOTS: the model's SpotsOf.
-/
import Derived.Test.YtpfnjkmkenaipaaU5
namespace Go.Proofs.Ytpfnjkmkenaipaa
open Go.RowKit Nm
set_option linter.unusedSimpArgs false
set_option linter.unusedVariables false

set_option maxHeartbeats 4000000 in
set_option maxRecDepth 100000 in
theorem specSpotsOf_c {w : World} {B : Nat} {v : Value} {L : List Lgr} {H : List Hnd} {q : Int} (x : ByteArray) (h : TreeIn w B v L H q) (hB : B ≤ w.heap.size) (hx : x.size ≤ maxTxt) :
    Calls Try.prog 9 #[v, .string x] w (RowPost w 50 2 (spotsT L H q x.data.toList).length ((spotsT L H q x.data.toList).flatMap spcells)) := by
  have C := hid (fun (W : World) (hW : Below w.heap.size w W) => specTreeX_c (h.below hW hB) (Nat.le_trans hB hW.size))
  have V := hid (fun (W : World) => validName_c x W (by unfold maxTxt at hx; omega))
  cases hz : treeOk L H q with
  | false =>
    have HE := hid (show spotsT L H q x.data.toList = [] by unfold spotsT; rw [hz]; rfl)
    obtain ⟨A1, n1, k1, A2, n2, k2, rfl⟩ := h.form
    rw [hz] at C
    clear h hz
    go_enter Try.func9, Try.ntmps9
    go_wp2_with fail
    refine (C.out _ ?_).mono ?_
    case refine_1 => go_grown
    rintro e w1 ⟨rfl, hb1⟩
    have HB1 := hid (Below.trans (by go_grown) (hb1.mono (by simp; try omega)) : Below w.heap.size w w1)
    clear hb1
    go_wp2_with fail
    go_ret
    exact ⟨_, rfl, by rw [HE.out]; exact World.ownsRow_nil _ _ _ _, HB1.out⟩
  | true =>
    rw [hz] at C
    obtain ⟨b, o, n1, k1, A2, n2, k2, ls, rfl, hl, hL, hN, hn, hn8, hn1, hbB⟩ := h.opened hz
    have HEf := hid (fun (hy : nameOk x.data.toList = false) => (show spotsT L H q x.data.toList = [] by unfold spotsT; rw [hz, hy]; rfl))
    have HEt := hid (fun (hy : nameOk x.data.toList = true) => (show spotsT L H q x.data.toList = spotsI L (pathN (nsOf L) x.data.toList) by unfold spotsT; rw [hz, hy]; rfl))
    have CP := hid (fun (W : World) (hW : Below w.heap.size w W) => specSpots_c (A2 := A2) (n2 := n2) (k2 := k2) H q x (hl.below hW hB) hL hN hn (Nat.le_trans hB hW.size) hbB hz hx)
    clear h hz hl hL hN hn
    generalize hk : spotsI L (pathN (nsOf L) x.data.toList) = pl at *
    clear hk
    go_enter Try.func9, Try.ntmps9
    go_wp2_with fail
    refine (C.out _ ?_).mono ?_
    case refine_1 => go_grown
    rintro e w1 ⟨rfl, hb1⟩
    have K1 := (Blk.new _ _ _).to hb1
    simp only [World.size_alloc] at K1
    have HK1 := hid K1
    have HB1 := hid (Below.trans (by go_grown) (hb1.mono (by simp; try omega)) : Below w.heap.size w w1)
    clear hb1 K1
    cases hy : nameOk x.data.toList with
    | false =>
      rw [hy] at V
      have HE := hid (HEf.out hy)
      clear hy
      go_wp2_with fail
      refine (V.out _).mono ?_
      rintro e w2 ⟨rfl, hb2⟩
      have HB2 := hid (HB1.out.trans (hb2.mono HB1.out.size))
      clear hb2
      go_wp2_with fail
      go_ret
      exact ⟨_, rfl, by rw [HE.out]; exact World.ownsRow_nil _ _ _ _, HB2.out⟩
    | true =>
      rw [hy] at V
      have HE := hid (HEt.out hy)
      clear hy
      go_wp2_with fail
      refine (V.out _).mono ?_
      rintro e w2 ⟨rfl, hb2⟩
      have HB2 := hid (HB1.out.trans (hb2.mono HB1.out.size))
      have HK2 := hid (HK1.out.to hb2)
      clear hb2
      have d0 := (HK2.out.2 0 _ rfl).1
      have d1 := (HK2.out.2 1 _ rfl).1
      have d2 := (HK2.out.2 2 _ rfl).1
      go_wp2_with fail
      refine (CP.out _ HB2.out).mono ?_
      rintro e w3 ⟨vi, rfl, hoi, hb3⟩
      have HO := hid hoi
      have HB3 := hid (HB2.out.trans (hb3.mono HB2.out.size))
      clear hoi hb3 d0 d1 d2
      go_wp2_with fail
      go_ret
      exact ⟨_, rfl, by rw [HE.out]; exact own_base HO.out HB2.out.size, HB3.out⟩
end Go.Proofs.Ytpfnjkmkenaipaa
