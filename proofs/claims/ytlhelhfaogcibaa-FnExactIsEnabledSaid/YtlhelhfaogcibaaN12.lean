/-
  WALKS: the model's NearestTo, PathOf, ParentOf.
-/
import Derived.Test.YtlhelhfaogcibaaN9
import Derived.Test.YtlhelhfaogcibaaA3
import Derived.StillTailTactics
import Derived.Deep.RegionHeld3
namespace Go.Proofs.Ytlhelhfaogcibaa
open Go.RowKit Nm
set_option linter.unusedSimpArgs false
set_option linter.unusedVariables false

set_option maxHeartbeats 4000000 in
set_option maxRecDepth 100000 in
theorem specNearestTo_c {w : World} {B : Nat} {v : Value} {L : List Lgr} {H : List Hnd} {q : Int} (x : ByteArray) (h : TreeIn w B v L H q) (hB : B ≤ w.heap.size) (hx : x.size ≤ maxTxt) :
    Calls Try.prog 12 #[v, .string x] w (fun e w' => e = .returned (txt (nearestT L H q x.data.toList)) ∧ Below w.heap.size w w') := by
  unfold maxTxt at hx
  have C := hid (fun (W : World) (hW : Below w.heap.size w W) => specTreeX_c (h.below hW hB) (Nat.le_trans hB hW.size))
  have V := hid (fun (W : World) => validName_c x W hx)
  cases hz : treeOk L H q with
  | false =>
    have HE := hid (show nearestT L H q x.data.toList = [] by unfold nearestT; rw [hz]; rfl)
    obtain ⟨A1, n1, k1, A2, n2, k2, rfl⟩ := h.form
    rw [hz] at C
    clear h hz
    go_enter Try.func12, Try.ntmps12
    go_wp2_with fail
    refine (C.out _ ?_).mono ?_
    case refine_1 => go_grown
    rintro e w1 ⟨rfl, hb1⟩
    have HB1 := hid (Below.trans (by go_grown) (hb1.mono (by simp; try omega)) : Below w.heap.size w w1)
    clear hb1
    go_wp2_with fail
    go_ret
    exact ⟨by rw [HE.out]; rfl, HB1.out⟩
  | true =>
    rw [hz] at C
    obtain ⟨b, o, n1, k1, A2, n2, k2, ls, rfl, hl, hL, hN, hn, hn8, hn1, hbB⟩ := h.opened hz
    obtain ⟨h0, hnd, hnm, hlen, _⟩ := tree_ns hz
    rw [← hn] at hlen
    have HEf := hid (fun (hy : nameOk x.data.toList = false) => (show nearestT L H q x.data.toList = [] by unfold nearestT; rw [hz, hy]; rfl))
    have HEt := hid (fun (hy : nameOk x.data.toList = true) => (show nearestT L H q x.data.toList = (nsOf L).getD (nearN (nsOf L) x.data.toList) [] by unfold nearestT; rw [hz, hy]; rfl))
    have CN := hid (fun (W : World) (hW : Below w.heap.size w W) => specNearest_c (some ⟨b, o, none⟩) A2 n1 k1 n2 k2 B q ls x W (hl.below hW hB) (Nat.le_trans hB hW.size) hn1 (by omega) (by unfold maxLen; omega))
    rw [hN] at CN
    have hlt : nearN (nsOf L) x.data.toList < n1 := by rw [← hlen]; exact near_lt h0 _
    have hcap := hl.1.cap
    unfold maxLen at hcap
    have HV := hid (And.intro hl (And.intro hL hbB))
    clear h hz hl hL hN h0 hnd hnm hlen hn
    generalize hk : nearN (nsOf L) x.data.toList = k at *
    clear hk
    go_enter Try.func12, Try.ntmps12
    go_wp2_with fail
    refine (C.out _ ?_).mono ?_
    case refine_1 => go_grown
    rintro e w1 ⟨rfl, hb1⟩
    have K1 := (Blk.new _ _ _).to hb1
    simp only [World.size_alloc] at K1
    have HK1 := hid K1
    have HB1 := hid (Below.trans (by go_grown) (hb1.mono (by simp; try omega)) : Below w.heap.size w w1)
    clear hb1 K1
    cases hy : nameOk x.data.toList with
    | false =>
      rw [hy] at V
      have HE := hid (HEf.out hy)
      clear hy
      go_wp2_with fail
      refine (V.out _).mono ?_
      rintro e w2 ⟨rfl, hb2⟩
      have HB2 := hid (HB1.out.trans (hb2.mono HB1.out.size))
      clear hb2
      go_wp2_with fail
      go_ret
      exact ⟨by rw [HE.out]; rfl, HB2.out⟩
    | true =>
      rw [hy] at V
      have HE := hid (HEt.out hy)
      clear hy
      go_wp2_with fail
      refine (V.out _).mono ?_
      rintro e w2 ⟨rfl, hb2⟩
      have HB2 := hid (HB1.out.trans (hb2.mono HB1.out.size))
      have HK2 := hid (HK1.out.to hb2)
      clear hb2
      have d0 := (HK2.out.2 0 _ rfl).1
      have d1 := (HK2.out.2 1 _ rfl).1
      have d2 := (HK2.out.2 2 _ rfl).1
      obtain ⟨p, A3, hn', k3, A4, fn, k4, hp, hps, _, _, c0, _⟩ := logger_at (HV.out.1.below HB2.out hB) HV.out.2.1 hlt
      have HP := hid (show (nsOf L).getD k [] = p.data.toList from hp.symm)
      have hwr : w.heap.size < w2.heap.size := HK2.out.1
      have hbr : b < w2.heap.size := by have := HB2.out.size; have := HV.out.2.2; omega
      have s0 : (0 : Int) ≤ (k : Int) := by omega
      have s1 : (k : Int) < (n1 : Int) := by omega
      have s2 : ((k : Int)).toNat = k := by simp
      clear hp hps
      go_wp2_with fail
      go_region_held3 (fun w' => w'.cell? ⟨w.heap.size, 0, none⟩ = some (.slice (some ⟨b, o, none⟩) n1 k1) ∧ w'.cell? ⟨w.heap.size, 1, none⟩ = some (.slice A2 n2 k2) ∧ w'.cell? ⟨w.heap.size, 2, none⟩ = some (.int .i64 q) ∧ w'.cell? ⟨b, o + k * 6, none⟩ = some (.string p)) (first | go_keep | exact ⟨(hb9.cell (p := ⟨w.heap.size, _, none⟩) hwr).trans d0, (hb9.cell (p := ⟨w.heap.size, _, none⟩) hwr).trans d1, (hb9.cell (p := ⟨w.heap.size, _, none⟩) hwr).trans d2, (hb9.cell (p := ⟨b, _, none⟩) hbr).trans c0⟩) (first | (go_at_call 41; refine (CN.out _ (by first | exact HB2.out | exact HB2.out.drew | exact HB2.out.drew.drew)).mono ?_; rintro e w9 ⟨rfl, hb9⟩))
      all_goals go_wp2_with fail
      all_goals go_ret
      all_goals exact ⟨by rw [HE.out, HP.out, txt_data]; rfl, by first | exact HB2.out.trans (hb9.mono HB2.out.size) | exact HB2.out.drew.trans (hb9.mono HB2.out.drew.size)⟩

set_option maxHeartbeats 4000000 in
set_option maxRecDepth 100000 in
theorem specPathOf_c {w : World} {B : Nat} {v : Value} {L : List Lgr} {H : List Hnd} {q : Int} (x : ByteArray) (h : TreeIn w B v L H q) (hB : B ≤ w.heap.size) (hx : x.size ≤ maxTxt) :
    Calls Try.prog 16 #[v, .string x] w (StrsPost w (pathT L H q x.data.toList)) := by
  unfold maxTxt at hx
  have C := hid (fun (W : World) (hW : Below w.heap.size w W) => specTreeX_c (h.below hW hB) (Nat.le_trans hB hW.size))
  have V := hid (fun (W : World) => validName_c x W hx)
  cases hz : treeOk L H q with
  | false =>
    have HE := hid (show pathT L H q x.data.toList = [] by unfold pathT; rw [hz]; rfl)
    obtain ⟨A1, n1, k1, A2, n2, k2, rfl⟩ := h.form
    rw [hz] at C
    clear h hz
    go_enter Try.func16, Try.ntmps16
    go_wp2_with fail
    refine (C.out _ ?_).mono ?_
    case refine_1 => go_grown
    rintro e w1 ⟨rfl, hb1⟩
    have HB1 := hid (Below.trans (by go_grown) (hb1.mono (by simp; try omega)) : Below w.heap.size w w1)
    clear hb1
    go_wp2_with fail
    go_ret
    exact ⟨_, rfl, by rw [HE.out]; exact World.ownsRow_nil _ _ _ _, HB1.out⟩
  | true =>
    rw [hz] at C
    obtain ⟨b, o, n1, k1, A2, n2, k2, ls, rfl, hl, hL, hN, hn, hn8, hn1, hbB⟩ := h.opened hz
    obtain ⟨h0, hnd, hnm, hlen, _⟩ := tree_ns hz
    rw [← hn] at hlen
    have HEf := hid (fun (hy : nameOk x.data.toList = false) => (show pathT L H q x.data.toList = [] by unfold pathT; rw [hz, hy]; rfl))
    have HEt := hid (fun (hy : nameOk x.data.toList = true) => (show pathT L H q x.data.toList = (pathN (nsOf L) x.data.toList).map (fun i => (nsOf L).getD i []) by unfold pathT; rw [hz, hy]; rfl))
    have CP := hid (fun (W : World) (hW : Below w.heap.size w W) => specPath_c (some ⟨b, o, none⟩) A2 n1 k1 n2 k2 B q ls x W (hl.below hW hB) (Nat.le_trans hB hW.size) (by omega) (by unfold maxLen; omega) (by rw [hN]; exact h0) (by rw [hN]; exact hnm))
    rw [hN] at CP
    have HPL := hid (show (pathN (nsOf L) x.data.toList).length ≤ 5 ∧ ∀ i ∈ pathN (nsOf L) x.data.toList, i < n1 from ⟨pathF_len _ _ _, by rw [← hlen]; exact pathF_lt h0 _ _ (near_lt h0 _)⟩)
    have hcap := hl.1.cap
    unfold maxLen at hcap
    have HV := hid (And.intro hl (And.intro hL hbB))
    clear h hz hl hL hN h0 hnd hnm hlen hn
    generalize hk : pathN (nsOf L) x.data.toList = pl at *
    clear hk
    go_enter Try.func16, Try.ntmps16
    go_wp2_with fail
    refine (C.out _ ?_).mono ?_
    case refine_1 => go_grown
    rintro e w1 ⟨rfl, hb1⟩
    have K1 := (Blk.new _ _ _).to hb1
    simp only [World.size_alloc] at K1
    have HK1 := hid K1
    have HB1 := hid (Below.trans (by go_grown) (hb1.mono (by simp; try omega)) : Below w.heap.size w w1)
    clear hb1 K1
    cases hy : nameOk x.data.toList with
    | false =>
      rw [hy] at V
      have HE := hid (HEf.out hy)
      clear hy
      go_wp2_with fail
      refine (V.out _).mono ?_
      rintro e w2 ⟨rfl, hb2⟩
      have HB2 := hid (HB1.out.trans (hb2.mono HB1.out.size))
      clear hb2
      go_wp2_with fail
      go_ret
      exact ⟨_, rfl, by rw [HE.out]; exact World.ownsRow_nil _ _ _ _, HB2.out⟩
    | true =>
      rw [hy] at V
      have HE := hid (HEt.out hy)
      clear hy
      go_wp2_with fail
      refine (V.out _).mono ?_
      rintro e w2 ⟨rfl, hb2⟩
      have HB2 := hid (HB1.out.trans (hb2.mono HB1.out.size))
      have HK2 := hid (HK1.out.to hb2)
      clear hb2
      have d0 := (HK2.out.2 0 _ rfl).1
      have d1 := (HK2.out.2 1 _ rfl).1
      have d2 := (HK2.out.2 2 _ rfl).1
      have hw2 : w.heap.size < w2.heap.size := HK2.out.1
      go_wp2_with fail
      refine (CP.out _ (HB2.out.alloc HB2.out.size _)).mono ?_
      rintro e w3 ⟨vi, rfl, hoi, hb3⟩
      obtain ⟨Ai, ci, rfl, hic, hicm⟩ := (Sl.of_own hoi).form
      unfold maxLen at hicm
      have H0 := hid (show w3.ownsRow w2.heap.size 9 1 (.slice (some ⟨w2.heap.size, 0, none⟩) 0 0) 0 [] from own_below (World.ownsRow_lit w2 #[] 0 (Nat.le_refl _) (by unfold maxLen; omega) rfl) hb3)
      have HOi := hid hoi
      have HA := hid (show ∀ g, (Value.slice (some ⟨w2.heap.size, 0, none⟩) 0 0).ownBlock = some g → (Value.slice Ai pl.length ci).ownBlock ≠ some g from by
        intro g hg e
        have h1 := (hoi.lt g e).1
        simp [Value.ownBlock] at hg h1
        omega)
      have HB3 := hid (Below.trans ((Below.refl w2.heap.size w2).alloc (Nat.le_refl _) _) (hb3.mono (by simp)) : Below w2.heap.size w2 w3)
      have hw23 : w2.heap.size ≤ w3.heap.size := HB3.out.size
      clear d0 d1 d2 hoi hb3
      go_wp2_with fail
      go_loopw [5, 7] (fun sv iv wr => ∃ (k : Nat) (pre : List Name), iv = .int .i64 k ∧ k ≤ pl.length ∧ Hid (pre = (pl.take k).map (fun i => (nsOf L).getD i [])) ∧ pre.length = k ∧ wr.ownsRow w2.heap.size 9 1 sv pre.length (pre.map txt) ∧ Hid (wr.ownsRow (w2.heap.size + 1) 3 1 (.slice Ai pl.length ci) pl.length (pl.map icell)) ∧ Hid (∀ g, sv.ownBlock = some g → (Value.slice Ai pl.length ci).ownBlock ≠ some g) ∧ Hid (Below w2.heap.size w2 wr)) (fun _ iv _ => pl.length - (intOf iv).toNat)
      case atStart => exact ⟨0, [], rfl, by omega, rfl, rfl, H0.out, (show w3.ownsRow _ _ _ _ _ _ by simpa using HOi.out), HA.out, HB3.out⟩
      case round =>
        obtain ⟨k, pre, rfl, hk, HE2, rfl, hown, HI, HAp, HBx⟩ := hrel
        obtain ⟨Ax, cx, rfl, _, _⟩ := (Sl.of_own hown).form
        have HO := hid hown
        clear hown
        have HW := hid (HB2.out.trans (HBx.out.mono HB2.out.size))
        have hpl5 := HPL.out.1
        by_cases hlt : pre.length < pl.length
        · obtain ⟨bi, oi, i, rfl, hbi, hxi, ic⟩ := ints_at (Sl.of_own HI.out) hlt
          have hi1 : i < n1 := HPL.out.2 i (List.mem_of_getElem? hxi)
          have HXI := hid hxi
          obtain ⟨p, A3, hn', k3, A4, fn, k4, hp, hps, _, _, g0, _⟩ := logger_at HV.out.1 HV.out.2.1 hi1
          have HP := hid hp
          obtain ⟨v', w4, hrun, ho4, hg4, hloc⟩ := runText wr w2.heap.size _ pre HO.out p (by omega) HBx.out.size
          have HR := hid hrun
          have HO4 := hid ho4
          have HA4 := hid (apart_kept HI.out HAp.out hg4 hloc)
          have HB4 := hid (HBx.out.grown hg4 HBx.out.size (own_lt HO.out))
          have hbw : b < w.heap.size := by have := HV.out.2.2; omega
          have d0 := ((HK2.out.below HBx.out hw2).2 0 _ rfl).1
          have c0 := (HW.out.cell (p := ⟨b, o + i * 6, none⟩) hbw).trans g0
          have S4 := hid (And.intro ((HK2.out.below HB4.out hw2).2 0 _ rfl).1 (And.intro ((World.cell?_of_block (a := ⟨bi, oi + pre.length, none⟩) (hg4.block bi hbi (fun e => HAp.out bi e.symm rfl))).trans ic) (((HB2.out.trans (HB4.out.mono HB2.out.size)).cell (p := ⟨b, o + i * 6, none⟩) hbw).trans g0)))
          have s0 : (0 : Int) ≤ (pre.length : Int) := by omega
          have s1 : (pre.length : Int) < (pl.length : Int) := by omega
          have s2 : ((pre.length : Int)).toNat = pre.length := by simp
          have t0 : (0 : Int) ≤ (i : Int) := by omega
          have t1 : (i : Int) < (n1 : Int) := by omega
          have t2 : ((i : Int)).toNat = i := by simp
          have hwr : w.heap.size < wr.heap.size := by have := HBx.out.size; omega
          have hbr : b < wr.heap.size := by omega
          clear hp hps hxi ho4 hg4 hloc hrun g0
          go_wp2_with fail
          go_region_held3 (fun w' => w'.cell? ⟨w.heap.size, 0, none⟩ = some (.slice (some ⟨b, o, none⟩) n1 k1) ∧ w'.cell? ⟨bi, oi + pre.length, none⟩ = some (.int .i64 i) ∧ w'.cell? ⟨b, o + i * 6, none⟩ = some (.string p)) (first | go_keep | exact S4.out) (first | (refine wp_app rfl (by rfl) (by rfl) HR.out ?_))
          go_wp2_with fail
          go_roundw
          case rel =>
            refine ⟨pre.length + 1, pre ++ [p.data.toList], by go_num, by omega, ?_, by simp, by simpa using HO4.out, HA4.out.1, HA4.out.2, HB4.out⟩
            show _ = _
            rw [List.take_add_one, List.map_append, HXI.out, ← HE2.out, HP.out]; rfl
          case measure => simp [intOf]; omega
        · have HF := hid (show pathT L H q x.data.toList = pre by rw [HE.out, HE2.out, List.take_of_length_le (by omega)])
          go_wp2_with fail
          go_ret
          exact ⟨_, rfl, by rw [HF.out]; exact own_base HO.out HB2.out.size, HW.out⟩
end Go.Proofs.Ytlhelhfaogcibaa
