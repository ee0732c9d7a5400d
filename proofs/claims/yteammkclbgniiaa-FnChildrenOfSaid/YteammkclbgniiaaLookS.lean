/-
  N12, N13, N14, N15 laid together.
-/
import Derived.Test.YteammkclbgniiaaLookI
import Derived.Test.YteammkclbgniiaaHelps
import Derived.StillTailTactics
import Derived.Deep.RegionHeld3
/-
  WALKS: the model's NearestTo, PathOf, ParentOf.
-/
namespace Go.Proofs.Yteammkclbgniiaa
open Go.RowKit Nm
set_option linter.unusedSimpArgs false
set_option linter.unusedVariables false

set_option maxHeartbeats 4000000 in
set_option maxRecDepth 100000 in
theorem specNearestTo_c {w : World} {B : Nat} {v : Value} {L : List Lgr} {H : List Hnd} {q : Int} (x : ByteArray) (h : TreeIn w B v L H q) (hB : B ≤ w.heap.size) (hx : x.size ≤ maxTxt) :
    Calls Try.prog 19 #[v, .string x] w (fun e w' => e = .returned (txt (nearestT L H q x.data.toList)) ∧ Below w.heap.size w w') := by
  unfold maxTxt at hx
  have C := hid (fun (W : World) (hW : Below w.heap.size w W) => specTreeX_c (h.below hW hB) (Nat.le_trans hB hW.size))
  have V := hid (fun (W : World) => validName_c x W hx)
  cases hz : treeOk L H q with
  | false =>
    have HE := hid (show nearestT L H q x.data.toList = [] by unfold nearestT; rw [hz]; rfl)
    obtain ⟨A1, n1, k1, A2, n2, k2, rfl⟩ := h.form
    rw [hz] at C
    clear h hz
    go_enter Try.func19, Try.ntmps19
    go_wp2_with fail
    refine (C.out _ ?_).mono ?_
    case refine_1 => go_grown
    rintro e w1 ⟨rfl, hb1⟩
    have HB1 := hid (Below.trans (by go_grown) (hb1.mono (by simp; try omega)) : Below w.heap.size w w1)
    clear hb1
    go_wp2_with fail
    go_ret
    exact ⟨by rw [HE.out]; rfl, HB1.out⟩
  | true =>
    rw [hz] at C
    obtain ⟨b, o, n1, k1, A2, n2, k2, ls, rfl, hl, hL, hN, hn, hn8, hn1, hbB⟩ := h.opened hz
    obtain ⟨h0, hnd, hnm, hlen, _⟩ := tree_ns hz
    rw [← hn] at hlen
    have HEf := hid (fun (hy : nameOk x.data.toList = false) => (show nearestT L H q x.data.toList = [] by unfold nearestT; rw [hz, hy]; rfl))
    have HEt := hid (fun (hy : nameOk x.data.toList = true) => (show nearestT L H q x.data.toList = (nsOf L).getD (nearN (nsOf L) x.data.toList) [] by unfold nearestT; rw [hz, hy]; rfl))
    have CN := hid (fun (W : World) (hW : Below w.heap.size w W) => specNearest_c (some ⟨b, o, none⟩) A2 n1 k1 n2 k2 B q ls x W (hl.below hW hB) (Nat.le_trans hB hW.size) hn1 (by omega) (by unfold maxLen; omega))
    rw [hN] at CN
    have hlt : nearN (nsOf L) x.data.toList < n1 := by rw [← hlen]; exact near_lt h0 _
    have hcap := hl.1.cap
    unfold maxLen at hcap
    have HV := hid (And.intro hl (And.intro hL hbB))
    clear h hz hl hL hN h0 hnd hnm hlen hn
    generalize hk : nearN (nsOf L) x.data.toList = k at *
    clear hk
    go_enter Try.func19, Try.ntmps19
    go_wp2_with fail
    refine (C.out _ ?_).mono ?_
    case refine_1 => go_grown
    rintro e w1 ⟨rfl, hb1⟩
    have K1 := (Blk.new _ _ _).to hb1
    simp only [World.size_alloc] at K1
    have HK1 := hid K1
    have HB1 := hid (Below.trans (by go_grown) (hb1.mono (by simp; try omega)) : Below w.heap.size w w1)
    clear hb1 K1
    cases hy : nameOk x.data.toList with
    | false =>
      rw [hy] at V
      have HE := hid (HEf.out hy)
      clear hy
      go_wp2_with fail
      refine (V.out _).mono ?_
      rintro e w2 ⟨rfl, hb2⟩
      have HB2 := hid (HB1.out.trans (hb2.mono HB1.out.size))
      clear hb2
      go_wp2_with fail
      go_ret
      exact ⟨by rw [HE.out]; rfl, HB2.out⟩
    | true =>
      rw [hy] at V
      have HE := hid (HEt.out hy)
      clear hy
      go_wp2_with fail
      refine (V.out _).mono ?_
      rintro e w2 ⟨rfl, hb2⟩
      have HB2 := hid (HB1.out.trans (hb2.mono HB1.out.size))
      have HK2 := hid (HK1.out.to hb2)
      clear hb2
      have d0 := (HK2.out.2 0 _ rfl).1
      have d1 := (HK2.out.2 1 _ rfl).1
      have d2 := (HK2.out.2 2 _ rfl).1
      obtain ⟨p, A3, hn', k3, A4, fn, k4, hp, hps, _, _, c0, _⟩ := logger_at (HV.out.1.below HB2.out hB) HV.out.2.1 hlt
      have HP := hid (show (nsOf L).getD k [] = p.data.toList from hp.symm)
      have hwr : w.heap.size < w2.heap.size := HK2.out.1
      have hbr : b < w2.heap.size := by have := HB2.out.size; have := HV.out.2.2; omega
      have s0 : (0 : Int) ≤ (k : Int) := by omega
      have s1 : (k : Int) < (n1 : Int) := by omega
      have s2 : ((k : Int)).toNat = k := by simp
      clear hp hps
      go_wp2_with fail
      go_region_held3 (fun w' => w'.cell? ⟨w.heap.size, 0, none⟩ = some (.slice (some ⟨b, o, none⟩) n1 k1) ∧ w'.cell? ⟨w.heap.size, 1, none⟩ = some (.slice A2 n2 k2) ∧ w'.cell? ⟨w.heap.size, 2, none⟩ = some (.int .i64 q) ∧ w'.cell? ⟨b, o + k * 6, none⟩ = some (.string p)) (first | go_keep | exact ⟨(hb9.cell (p := ⟨w.heap.size, _, none⟩) hwr).trans d0, (hb9.cell (p := ⟨w.heap.size, _, none⟩) hwr).trans d1, (hb9.cell (p := ⟨w.heap.size, _, none⟩) hwr).trans d2, (hb9.cell (p := ⟨b, _, none⟩) hbr).trans c0⟩) (first | (go_at_call 51; refine (CN.out _ (by first | exact HB2.out | exact HB2.out.drew | exact HB2.out.drew.drew)).mono ?_; rintro e w9 ⟨rfl, hb9⟩))
      all_goals go_wp2_with fail
      all_goals go_ret
      all_goals exact ⟨by rw [HE.out, HP.out, txt_data]; rfl, by first | exact HB2.out.trans (hb9.mono HB2.out.size) | exact HB2.out.drew.trans (hb9.mono HB2.out.drew.size)⟩

set_option maxHeartbeats 4000000 in
set_option maxRecDepth 100000 in
theorem specPathOf_c {w : World} {B : Nat} {v : Value} {L : List Lgr} {H : List Hnd} {q : Int} (x : ByteArray) (h : TreeIn w B v L H q) (hB : B ≤ w.heap.size) (hx : x.size ≤ maxTxt) :
    Calls Try.prog 25 #[v, .string x] w (StrsPost w (pathT L H q x.data.toList)) := by
  unfold maxTxt at hx
  have C := hid (fun (W : World) (hW : Below w.heap.size w W) => specTreeX_c (h.below hW hB) (Nat.le_trans hB hW.size))
  have V := hid (fun (W : World) => validName_c x W hx)
  cases hz : treeOk L H q with
  | false =>
    have HE := hid (show pathT L H q x.data.toList = [] by unfold pathT; rw [hz]; rfl)
    obtain ⟨A1, n1, k1, A2, n2, k2, rfl⟩ := h.form
    rw [hz] at C
    clear h hz
    go_enter Try.func25, Try.ntmps25
    go_wp2_with fail
    refine (C.out _ ?_).mono ?_
    case refine_1 => go_grown
    rintro e w1 ⟨rfl, hb1⟩
    have HB1 := hid (Below.trans (by go_grown) (hb1.mono (by simp; try omega)) : Below w.heap.size w w1)
    clear hb1
    go_wp2_with fail
    go_ret
    exact ⟨_, rfl, by rw [HE.out]; exact World.ownsRow_nil _ _ _ _, HB1.out⟩
  | true =>
    rw [hz] at C
    obtain ⟨b, o, n1, k1, A2, n2, k2, ls, rfl, hl, hL, hN, hn, hn8, hn1, hbB⟩ := h.opened hz
    obtain ⟨h0, hnd, hnm, hlen, _⟩ := tree_ns hz
    rw [← hn] at hlen
    have HEf := hid (fun (hy : nameOk x.data.toList = false) => (show pathT L H q x.data.toList = [] by unfold pathT; rw [hz, hy]; rfl))
    have HEt := hid (fun (hy : nameOk x.data.toList = true) => (show pathT L H q x.data.toList = (pathN (nsOf L) x.data.toList).map (fun i => (nsOf L).getD i []) by unfold pathT; rw [hz, hy]; rfl))
    have CP := hid (fun (W : World) (hW : Below w.heap.size w W) => specPath_c (some ⟨b, o, none⟩) A2 n1 k1 n2 k2 B q ls x W (hl.below hW hB) (Nat.le_trans hB hW.size) (by omega) (by unfold maxLen; omega) (by rw [hN]; exact h0) (by rw [hN]; exact hnm))
    rw [hN] at CP
    have HPL := hid (show (pathN (nsOf L) x.data.toList).length ≤ 5 ∧ ∀ i ∈ pathN (nsOf L) x.data.toList, i < n1 from ⟨pathF_len _ _ _, by rw [← hlen]; exact pathF_lt h0 _ _ (near_lt h0 _)⟩)
    have hcap := hl.1.cap
    unfold maxLen at hcap
    have HV := hid (And.intro hl (And.intro hL hbB))
    clear h hz hl hL hN h0 hnd hnm hlen hn
    generalize hk : pathN (nsOf L) x.data.toList = pl at *
    clear hk
    go_enter Try.func25, Try.ntmps25
    go_wp2_with fail
    refine (C.out _ ?_).mono ?_
    case refine_1 => go_grown
    rintro e w1 ⟨rfl, hb1⟩
    have K1 := (Blk.new _ _ _).to hb1
    simp only [World.size_alloc] at K1
    have HK1 := hid K1
    have HB1 := hid (Below.trans (by go_grown) (hb1.mono (by simp; try omega)) : Below w.heap.size w w1)
    clear hb1 K1
    cases hy : nameOk x.data.toList with
    | false =>
      rw [hy] at V
      have HE := hid (HEf.out hy)
      clear hy
      go_wp2_with fail
      refine (V.out _).mono ?_
      rintro e w2 ⟨rfl, hb2⟩
      have HB2 := hid (HB1.out.trans (hb2.mono HB1.out.size))
      clear hb2
      go_wp2_with fail
      go_ret
      exact ⟨_, rfl, by rw [HE.out]; exact World.ownsRow_nil _ _ _ _, HB2.out⟩
    | true =>
      rw [hy] at V
      have HE := hid (HEt.out hy)
      clear hy
      go_wp2_with fail
      refine (V.out _).mono ?_
      rintro e w2 ⟨rfl, hb2⟩
      have HB2 := hid (HB1.out.trans (hb2.mono HB1.out.size))
      have HK2 := hid (HK1.out.to hb2)
      clear hb2
      have d0 := (HK2.out.2 0 _ rfl).1
      have d1 := (HK2.out.2 1 _ rfl).1
      have d2 := (HK2.out.2 2 _ rfl).1
      have hw2 : w.heap.size < w2.heap.size := HK2.out.1
      go_wp2_with fail
      refine (CP.out _ (HB2.out.alloc HB2.out.size _)).mono ?_
      rintro e w3 ⟨vi, rfl, hoi, hb3⟩
      obtain ⟨Ai, ci, rfl, hic, hicm⟩ := (Sl.of_own hoi).form
      unfold maxLen at hicm
      have H0 := hid (show w3.ownsRow w2.heap.size 9 1 (.slice (some ⟨w2.heap.size, 0, none⟩) 0 0) 0 [] from own_below (World.ownsRow_lit w2 #[] 0 (Nat.le_refl _) (by unfold maxLen; omega) rfl) hb3)
      have HOi := hid hoi
      have HA := hid (show ∀ g, (Value.slice (some ⟨w2.heap.size, 0, none⟩) 0 0).ownBlock = some g → (Value.slice Ai pl.length ci).ownBlock ≠ some g from by
        intro g hg e
        have h1 := (hoi.lt g e).1
        simp [Value.ownBlock] at hg h1
        omega)
      have HB3 := hid (Below.trans ((Below.refl w2.heap.size w2).alloc (Nat.le_refl _) _) (hb3.mono (by simp)) : Below w2.heap.size w2 w3)
      have hw23 : w2.heap.size ≤ w3.heap.size := HB3.out.size
      clear d0 d1 d2 hoi hb3
      go_wp2_with fail
      go_loopw [5, 7] (fun sv iv wr => ∃ (k : Nat) (pre : List Name), iv = .int .i64 k ∧ k ≤ pl.length ∧ Hid (pre = (pl.take k).map (fun i => (nsOf L).getD i [])) ∧ pre.length = k ∧ wr.ownsRow w2.heap.size 9 1 sv pre.length (pre.map txt) ∧ Hid (wr.ownsRow (w2.heap.size + 1) 3 1 (.slice Ai pl.length ci) pl.length (pl.map icell)) ∧ Hid (∀ g, sv.ownBlock = some g → (Value.slice Ai pl.length ci).ownBlock ≠ some g) ∧ Hid (Below w2.heap.size w2 wr)) (fun _ iv _ => pl.length - (intOf iv).toNat)
      case atStart => exact ⟨0, [], rfl, by omega, rfl, rfl, H0.out, (show w3.ownsRow _ _ _ _ _ _ by simpa using HOi.out), HA.out, HB3.out⟩
      case round =>
        obtain ⟨k, pre, rfl, hk, HE2, rfl, hown, HI, HAp, HBx⟩ := hrel
        obtain ⟨Ax, cx, rfl, _, _⟩ := (Sl.of_own hown).form
        have HO := hid hown
        clear hown
        have HW := hid (HB2.out.trans (HBx.out.mono HB2.out.size))
        have hpl5 := HPL.out.1
        by_cases hlt : pre.length < pl.length
        · obtain ⟨bi, oi, i, rfl, hbi, hxi, ic⟩ := ints_at (Sl.of_own HI.out) hlt
          have hi1 : i < n1 := HPL.out.2 i (List.mem_of_getElem? hxi)
          have HXI := hid hxi
          obtain ⟨p, A3, hn', k3, A4, fn, k4, hp, hps, _, _, g0, _⟩ := logger_at HV.out.1 HV.out.2.1 hi1
          have HP := hid hp
          obtain ⟨v', w4, hrun, ho4, hg4, hloc⟩ := runText wr w2.heap.size _ pre HO.out p (by omega) HBx.out.size
          have HR := hid hrun
          have HO4 := hid ho4
          have HA4 := hid (apart_kept HI.out HAp.out hg4 hloc)
          have HB4 := hid (HBx.out.grown hg4 HBx.out.size (own_lt HO.out))
          have hbw : b < w.heap.size := by have := HV.out.2.2; omega
          have d0 := ((HK2.out.below HBx.out hw2).2 0 _ rfl).1
          have c0 := (HW.out.cell (p := ⟨b, o + i * 6, none⟩) hbw).trans g0
          have S4 := hid (And.intro ((HK2.out.below HB4.out hw2).2 0 _ rfl).1 (And.intro ((World.cell?_of_block (a := ⟨bi, oi + pre.length, none⟩) (hg4.block bi hbi (fun e => HAp.out bi e.symm rfl))).trans ic) (((HB2.out.trans (HB4.out.mono HB2.out.size)).cell (p := ⟨b, o + i * 6, none⟩) hbw).trans g0)))
          have s0 : (0 : Int) ≤ (pre.length : Int) := by omega
          have s1 : (pre.length : Int) < (pl.length : Int) := by omega
          have s2 : ((pre.length : Int)).toNat = pre.length := by simp
          have t0 : (0 : Int) ≤ (i : Int) := by omega
          have t1 : (i : Int) < (n1 : Int) := by omega
          have t2 : ((i : Int)).toNat = i := by simp
          have hwr : w.heap.size < wr.heap.size := by have := HBx.out.size; omega
          have hbr : b < wr.heap.size := by omega
          clear hp hps hxi ho4 hg4 hloc hrun g0
          go_wp2_with fail
          go_region_held3 (fun w' => w'.cell? ⟨w.heap.size, 0, none⟩ = some (.slice (some ⟨b, o, none⟩) n1 k1) ∧ w'.cell? ⟨bi, oi + pre.length, none⟩ = some (.int .i64 i) ∧ w'.cell? ⟨b, o + i * 6, none⟩ = some (.string p)) (first | go_keep | exact S4.out) (first | (refine wp_app rfl (by rfl) (by rfl) HR.out ?_))
          go_wp2_with fail
          go_roundw
          case rel =>
            refine ⟨pre.length + 1, pre ++ [p.data.toList], by go_num, by omega, ?_, by simp, by simpa using HO4.out, HA4.out.1, HA4.out.2, HB4.out⟩
            show _ = _
            rw [List.take_add_one, List.map_append, HXI.out, ← HE2.out, HP.out]; rfl
          case measure => simp [intOf]; omega
        · have HF := hid (show pathT L H q x.data.toList = pre by rw [HE.out, HE2.out, List.take_of_length_le (by omega)])
          go_wp2_with fail
          go_ret
          exact ⟨_, rfl, by rw [HF.out]; exact own_base HO.out HB2.out.size, HW.out⟩
end Go.Proofs.Yteammkclbgniiaa

/-
  WALKS: the model's ParentOf, BranchOf, ChildrenOf.
-/
namespace Go.Proofs.Yteammkclbgniiaa
open Go.RowKit Nm
set_option linter.unusedSimpArgs false
set_option linter.unusedVariables false

theorem path_second {ns : List Name} (hok : ∀ z ∈ ns, nameOk z = true) (h0 : ns[0]? = some []) {x : Name} (hr : ns.getD (nearN ns x) [] ≠ []) : (pathN ns x)[1]? = some (upN ns (nearN ns x)) := by
  unfold pathN
  obtain ⟨g, hg, e⟩ := pathF_up (ns := ns) (f := 4) hr (depth_le hok _)
  rw [e]
  cases g with
  | zero => omega
  | succ g => simp only [List.getElem?_cons_succ, pathF]; split <;> rfl
theorem near_self {ns : List Name} (h0 : ns[0]? = some []) (hn : ns.Nodup) {x : Name} (hm : x ∈ ns) : nearN ns x < ns.length ∧ ns.getD (nearN ns x) [] = x := by
  obtain ⟨j, hj, e⟩ := List.getElem_of_mem hm
  have e2 : ns[j]? = some x := by rw [List.getElem?_eq_getElem hj, e]
  rw [near_hit h0 hn _ _ e2]
  exact ⟨hj, at_getD e2⟩

set_option maxHeartbeats 4000000 in
set_option maxRecDepth 100000 in
theorem specParentOf_c {w : World} {B : Nat} {v : Value} {L : List Lgr} {H : List Hnd} {q : Int} (x : ByteArray) (h : TreeIn w B v L H q) (hB : B ≤ w.heap.size) (hx : x.size ≤ maxTxt) :
    Calls Try.prog 28 #[v, .string x] w (fun e w' => e = .returned (.tuple #[txt (parentT L H q x.data.toList), .bool (parentB L H q x.data.toList)]) ∧ Below w.heap.size w w') := by
  unfold maxTxt at hx
  have C := hid (fun (W : World) (hW : Below w.heap.size w W) => specTreeX_c (h.below hW hB) (Nat.le_trans hB hW.size))
  have HP0 := hid (show parentT L H q x.data.toList = if parentB L H q x.data.toList then (nsOf L).getD (upN (nsOf L) (nearN (nsOf L) x.data.toList)) [] else [] from rfl)
  cases hz : treeOk L H q with
  | false =>
    have HE := hid (show parentB L H q x.data.toList = false by unfold parentB; rw [hz]; rfl)
    obtain ⟨A1, n1, k1, A2, n2, k2, rfl⟩ := h.form
    rw [hz] at C
    clear h hz
    go_enter Try.func28, Try.ntmps28
    go_wp2_with fail
    refine (C.out _ ?_).mono ?_
    case refine_1 => go_grown
    rintro e w1 ⟨rfl, hb1⟩
    have HB1 := hid (Below.trans (by go_grown) (hb1.mono (by simp; try omega)) : Below w.heap.size w w1)
    clear hb1
    go_wp2_with fail
    go_ret2
    exact ⟨by rw [HP0.out, HE.out]; rfl, HB1.out⟩
  | true =>
    rw [hz] at C
    obtain ⟨b, o, n1, k1, A2, n2, k2, ls, rfl, hl, hL, hN, hn, hn8, hn1, hbB⟩ := h.opened hz
    obtain ⟨h0, hnd, hnm, hlen, _⟩ := tree_ns hz
    rw [← hn] at hlen
    have HE := hid (show parentB L H q x.data.toList = (!decide (x.data.toList = []) && decide (x.data.toList ∈ nsOf L)) by unfold parentB; rw [hz]; rfl)
    have AT := hid (fun (W : World) (hW : Below w.heap.size w W) => loggerAt_c (.slice (some ⟨b, o, none⟩) n1 k1) n1 B ls x W (hl.below hW hB))
    have CP := hid (fun (W : World) (hW : Below w.heap.size w W) => specPath_c (some ⟨b, o, none⟩) A2 n1 k1 n2 k2 B q ls x W (hl.below hW hB) (Nat.le_trans hB hW.size) (by omega) (by unfold maxLen; omega) (by rw [hN]; exact h0) (by rw [hN]; exact hnm))
    rw [hN] at CP AT
    have HPS := hid (fun (hm : x.data.toList ∈ nsOf L) (hr : x.data.toList ≠ []) => (show (pathN (nsOf L) x.data.toList)[1]? = some (upN (nsOf L) (nearN (nsOf L) x.data.toList)) from path_second hnm h0 (by rw [(near_self h0 hnd hm).2]; exact hr)))
    have hul : upN (nsOf L) (nearN (nsOf L) x.data.toList) < n1 := by rw [← hlen]; exact near_lt h0 _
    have hcap := hl.1.cap
    unfold maxLen at hcap
    have HV := hid (And.intro hl (And.intro hL hbB))
    clear h hz hl hL hN h0 hnd hnm hlen hn
    generalize hk : upN (nsOf L) (nearN (nsOf L) x.data.toList) = k at *
    clear hk
    go_enter Try.func28, Try.ntmps28
    go_wp2_with fail
    refine (C.out _ ?_).mono ?_
    case refine_1 => go_grown
    rintro e w1 ⟨rfl, hb1⟩
    have K1 := (Blk.new _ _ _).to hb1
    simp only [World.size_alloc] at K1
    have HK1 := hid K1
    have HB1 := hid (Below.trans (by go_grown) (hb1.mono (by simp; try omega)) : Below w.heap.size w w1)
    clear hb1 K1
    by_cases hr : x.data.toList = []
    · have e0 := empty_true hr
      have HF := hid (show parentB L H q x.data.toList = false by rw [HE.out, decide_eq_true hr]; rfl)
      clear hr
      go_wp2_with fail
      go_ret2
      exact ⟨by rw [HP0.out, HF.out]; rfl, HB1.out⟩
    have e0 := empty_false hr
    have d0 := (HK1.out.2 0 _ rfl).1
    have A1 := hid (AT.out w1 HB1.out)
    by_cases hm : x.data.toList ∈ nsOf L
    · have HF := hid (show parentB L H q x.data.toList = true by rw [HE.out, decide_eq_false hr, decide_eq_true hm]; rfl)
      have HX := hid (HPS.out hm hr)
      have hpos : 0 ≤ idxL (nsOf L) x.data.toList := by unfold idxL; rw [if_pos hm]; omega
      generalize hi : idxL (nsOf L) x.data.toList = i at *
      clear hr hm hi
      have d1 := (HK1.out.2 1 _ rfl).1
      have d2 := (HK1.out.2 2 _ rfl).1
      obtain ⟨p, A3, hn', k3, A4, fn, k4, hp, hps, _, _, g0, _⟩ := logger_at HV.out.1 HV.out.2.1 hul
      have HP := hid hp
      have hbw : b < w.heap.size := by have := HV.out.2.2; omega
      have c0 := (HB1.out.cell (p := ⟨b, o + k * 6, none⟩) hbw).trans g0
      have hw1 : w.heap.size < w1.heap.size := HK1.out.1
      have hbr : b < w1.heap.size := by omega
      have t0 : (0 : Int) ≤ (k : Int) := by omega
      have t1 : (k : Int) < (n1 : Int) := by omega
      have t2 : ((k : Int)).toNat = k := by simp
      clear hp hps g0
      go_wp2_with (go_at_call 48; refine (A1.out).mono ?_; rintro e w2 ⟨rfl, hw2⟩; have hw2 := hw2.symm; subst hw2)
      refine wp_region_held_drew (S := (fun w' : World => w'.cell? ⟨w.heap.size, 0, none⟩ = some (.slice (some ⟨b, o, none⟩) n1 k1) ∧ w'.cell? ⟨w.heap.size, 1, none⟩ = some (.slice A2 n2 k2) ∧ w'.cell? ⟨w.heap.size, 2, none⟩ = some (.int .i64 q) ∧ w'.cell? ⟨b, o + k * 6, none⟩ = some (.string p))) (by kernel_rfl) ⟨d0, d1, d2, c0⟩ (fun hS => ?_)
      refine wpAnyH_take (i := 0) (oi := ?oi101) (v := ?v101) ?hi101 (by kernel_rfl) ?hf101 ?hr101 ?hQ101 (Or.inl ⟨?hw101, ?hy101⟩) (by assumption) ?rest101
      case hi101 => simp only [List.getElem?_toArray, List.getElem?_cons_succ, List.getElem?_cons_zero]; rfl
      case hf101 => kernel_rfl
      case hr101 => kernel_rfl
      case hw101 => rfl
      case hy101 => (intro w hSw; (try dsimp only at hSw); go_simp; all_goals (first | done | with_reducible rfl))
      case hQ101 => exact fun _ _ _ h => h
      simp only [Act.put, List.setIfInBounds_toArray, List.set_cons_zero, List.set_cons_succ]
      refine wpAnyH_take (i := 1) (oi := ?oi102) (v := ?v102) ?hi102 (by kernel_rfl) ?hf102 ?hr102 ?hQ102 (Or.inl ⟨?hw102, ?hy102⟩) (by assumption) ?rest102
      case hi102 => simp only [List.getElem?_toArray, List.getElem?_cons_succ, List.getElem?_cons_zero]; rfl
      case hf102 => kernel_rfl
      case hr102 => kernel_rfl
      case hw102 => rfl
      case hy102 => (intro w hSw; (try dsimp only at hSw); go_simp; all_goals (first | done | with_reducible rfl))
      case hQ102 => exact fun _ _ _ h => h
      simp only [Act.put, List.setIfInBounds_toArray, List.set_cons_zero, List.set_cons_succ]
      refine wpAnyH_take (i := 2) (oi := ?oi103) (v := ?v103) ?hi103 (by kernel_rfl) ?hf103 ?hr103 ?hQ103 (Or.inl ⟨?hw103, ?hy103⟩) (by assumption) ?rest103
      case hi103 => simp only [List.getElem?_toArray, List.getElem?_cons_succ, List.getElem?_cons_zero]; rfl
      case hf103 => kernel_rfl
      case hr103 => kernel_rfl
      case hw103 => rfl
      case hy103 => (intro w hSw; (try dsimp only at hSw); go_simp; all_goals (first | done | with_reducible rfl))
      case hQ103 => exact fun _ _ _ h => h
      simp only [Act.put, List.setIfInBounds_toArray, List.set_cons_zero, List.set_cons_succ]
      refine wpAnyH_take (i := 3) (oi := ?oi104) (v := ?v104) ?hi104 (by kernel_rfl) ?hf104 ?hr104 ?hQ104 (Or.inl ⟨?hw104, ?hy104⟩) (by assumption) ?rest104
      case hi104 => simp only [List.getElem?_toArray, List.getElem?_cons_succ, List.getElem?_cons_zero]; rfl
      case hf104 => kernel_rfl
      case hr104 => kernel_rfl
      case hw104 => rfl
      case hy104 => (intro w hSw; (try dsimp only at hSw); go_simp; all_goals (first | done | with_reducible rfl))
      case hQ104 => exact fun _ _ _ h => h
      simp only [Act.put, List.setIfInBounds_toArray, List.set_cons_zero, List.set_cons_succ]
      refine wpAnyH_ready (rs := [4]) (by kernel_rfl) (by simp) ?_
      refine AllReadyH.cons (o := ?oi105) ?hi105 (fun K hK => ?step105) AllReadyH.nil
      case hi105 => simp only [List.getElem?_toArray, List.getElem?_cons_succ, List.getElem?_cons_zero]; rfl
      rw [if_pos (by rfl)]
      go_simp
      go_at_call 54
      refine (CP.out _ HB1.out.drew).mono ?_
      rintro e w9 ⟨vi, rfl, hoi, hb9⟩
      have hS9 : w9.cell? ⟨w.heap.size, 0, none⟩ = some (.slice (some ⟨b, o, none⟩) n1 k1) ∧ w9.cell? ⟨w.heap.size, 1, none⟩ = some (.slice A2 n2 k2) ∧ w9.cell? ⟨w.heap.size, 2, none⟩ = some (.int .i64 q) ∧ w9.cell? ⟨b, o + k * 6, none⟩ = some (.string p) :=
        ⟨(hb9.cell (p := ⟨w.heap.size, _, none⟩) hw1).trans d0, (hb9.cell (p := ⟨w.heap.size, _, none⟩) hw1).trans d1, (hb9.cell (p := ⟨w.heap.size, _, none⟩) hw1).trans d2, (hb9.cell (p := ⟨b, _, none⟩) hbr).trans c0⟩
      obtain ⟨Ai, ci, rfl, hic, hicm⟩ := (Sl.of_own hoi).form
      unfold maxLen at hicm
      have hl2 : 1 < (pathN (nsOf L) x.data.toList).length := (List.getElem?_eq_some_iff.1 HX.out).1
      obtain ⟨bi, oi, i', rfl, hbi, hxi, ic⟩ := ints_at (Sl.of_own hoi) hl2
      obtain rfl : k = i' := by rw [HX.out] at hxi; exact Option.some.inj hxi
      have HB9 := hid (HB1.out.drew.trans (hb9.mono HB1.out.drew.size))
      refine hK.out _ _ hS9 (fun _ => ?_)
      have u1 : (1 : Int) < ((pathN (nsOf L) x.data.toList).length : Int) := by omega
      clear hoi hb9 hxi
      have hS10 := And.intro hS9 ic
      refine wpAnyH_mono (S' := (fun w' : World => (w'.cell? ⟨w.heap.size, 0, none⟩ = some (.slice (some ⟨b, o, none⟩) n1 k1) ∧ w'.cell? ⟨w.heap.size, 1, none⟩ = some (.slice A2 n2 k2) ∧ w'.cell? ⟨w.heap.size, 2, none⟩ = some (.int .i64 q) ∧ w'.cell? ⟨b, o + k * 6, none⟩ = some (.string p)) ∧ w'.cell? ⟨bi, oi + 1, none⟩ = some (.int .i64 k))) (fun _ h => h.1) _ _ _ _ ?_
      refine wpAnyH_take (i := 5) (oi := ?oi106) (v := ?v106) ?hi106 (by kernel_rfl) ?hf106 ?hr106 ?hQ106 (Or.inl ⟨?hw106, ?hy106⟩) (by assumption) ?rest106
      case hi106 => simp only [List.getElem?_toArray, List.getElem?_cons_succ, List.getElem?_cons_zero]; rfl
      case hf106 => kernel_rfl
      case hr106 => kernel_rfl
      case hw106 => rfl
      case hy106 => (intro w hSw; (try dsimp only at hSw); go_simp; all_goals (first | done | with_reducible rfl))
      case hQ106 => exact fun _ _ _ h => h
      simp only [Act.put, List.setIfInBounds_toArray, List.set_cons_zero, List.set_cons_succ]
      refine wpAnyH_take (i := 6) (oi := ?oi107) (v := ?v107) ?hi107 (by kernel_rfl) ?hf107 ?hr107 ?hQ107 (Or.inl ⟨?hw107, ?hy107⟩) (by assumption) ?rest107
      case hi107 => simp only [List.getElem?_toArray, List.getElem?_cons_succ, List.getElem?_cons_zero]; rfl
      case hf107 => kernel_rfl
      case hr107 => kernel_rfl
      case hw107 => rfl
      case hy107 => (intro w hSw; (try dsimp only at hSw); go_simp; all_goals (first | done | with_reducible rfl))
      case hQ107 => exact fun _ _ _ h => h
      simp only [Act.put, List.setIfInBounds_toArray, List.set_cons_zero, List.set_cons_succ]
      refine wpAnyH_take (i := 7) (oi := ?oi108) (v := ?v108) ?hi108 (by kernel_rfl) ?hf108 ?hr108 ?hQ108 (Or.inl ⟨?hw108, ?hy108⟩) (by assumption) ?rest108
      case hi108 => simp only [List.getElem?_toArray, List.getElem?_cons_succ, List.getElem?_cons_zero]; rfl
      case hf108 => kernel_rfl
      case hr108 => kernel_rfl
      case hw108 => rfl
      case hy108 => (intro w hSw; (try dsimp only at hSw); go_simp; all_goals (first | done | with_reducible rfl))
      case hQ108 => exact fun _ _ _ h => h
      simp only [Act.put, List.setIfInBounds_toArray, List.set_cons_zero, List.set_cons_succ]
      refine wpAnyH_take (i := 8) (oi := ?oi109) (v := ?v109) ?hi109 (by kernel_rfl) ?hf109 ?hr109 ?hQ109 (Or.inl ⟨?hw109, ?hy109⟩) (by assumption) ?rest109
      case hi109 => simp only [List.getElem?_toArray, List.getElem?_cons_succ, List.getElem?_cons_zero]; rfl
      case hf109 => kernel_rfl
      case hr109 => kernel_rfl
      case hw109 => rfl
      case hy109 => (intro w hSw; (try dsimp only at hSw); go_simp; all_goals (first | done | with_reducible rfl))
      case hQ109 => exact fun _ _ _ h => h
      simp only [Act.put, List.setIfInBounds_toArray, List.set_cons_zero, List.set_cons_succ]
      refine wpAnyH_take (i := 9) (oi := ?oi110) (v := ?v110) ?hi110 (by kernel_rfl) ?hf110 ?hr110 ?hQ110 (Or.inl ⟨?hw110, ?hy110⟩) (by assumption) ?rest110
      case hi110 => simp only [List.getElem?_toArray, List.getElem?_cons_succ, List.getElem?_cons_zero]; rfl
      case hf110 => kernel_rfl
      case hr110 => kernel_rfl
      case hw110 => rfl
      case hy110 => (intro w hSw; (try dsimp only at hSw); go_simp; all_goals (first | done | with_reducible rfl))
      case hQ110 => exact fun _ _ _ h => h
      simp only [Act.put, List.setIfInBounds_toArray, List.set_cons_zero, List.set_cons_succ]
      refine wpAnyH_take (i := 10) (oi := ?oi111) (v := ?v111) ?hi111 (by kernel_rfl) ?hf111 ?hr111 ?hQ111 (Or.inl ⟨?hw111, ?hy111⟩) (by assumption) ?rest111
      case hi111 => simp only [List.getElem?_toArray, List.getElem?_cons_succ, List.getElem?_cons_zero]; rfl
      case hf111 => kernel_rfl
      case hr111 => kernel_rfl
      case hw111 => rfl
      case hy111 => (intro w hSw; (try dsimp only at hSw); go_simp; all_goals (first | done | with_reducible rfl))
      case hQ111 => exact fun _ _ _ h => h
      simp only [Act.put, List.setIfInBounds_toArray, List.set_cons_zero, List.set_cons_succ]
      refine wpAnyH_take (i := 11) (oi := ?oi112) (v := ?v112) ?hi112 (by kernel_rfl) ?hf112 ?hr112 ?hQ112 (Or.inl ⟨?hw112, ?hy112⟩) (by assumption) ?rest112
      case hi112 => simp only [List.getElem?_toArray, List.getElem?_cons_succ, List.getElem?_cons_zero]; rfl
      case hf112 => kernel_rfl
      case hr112 => kernel_rfl
      case hw112 => rfl
      case hy112 => (intro w hSw; (try dsimp only at hSw); go_simp; all_goals (first | done | with_reducible rfl))
      case hQ112 => exact fun _ _ _ h => h
      simp only [Act.put, List.setIfInBounds_toArray, List.set_cons_zero, List.set_cons_succ]
      refine wpAnyH_done (by kernel_rfl) ?_ _
      go_wp2_with fail
      go_ret2
      refine ⟨?_, HB9.out⟩
      rw [HP0.out, HF.out, if_pos rfl, ← HP.out, txt_data]; rfl
    · have HF := hid (show parentB L H q x.data.toList = false by rw [HE.out, decide_eq_false hm, Bool.and_false])
      have hneg : idxL (nsOf L) x.data.toList < 0 := by rw [idx_neg]; exact hm
      generalize hi : idxL (nsOf L) x.data.toList = i at *
      clear hr hm hi
      go_wp2_with (go_at_call 48; refine (A1.out).mono ?_; rintro e w2 ⟨rfl, hw2⟩; have hw2 := hw2.symm; subst hw2)
      go_ret2
      exact ⟨by rw [HP0.out, HF.out]; rfl, HB1.out⟩
end Go.Proofs.Yteammkclbgniiaa

/-
  WALKS: the model's BranchOf, ChildrenOf.
-/
namespace Go.Proofs.Yteammkclbgniiaa
open Go.RowKit Nm
set_option linter.unusedSimpArgs false
set_option linter.unusedVariables false

theorem eq_boolN (a b : ByteArray) : ∃ z, (a.toList == b.toList) = z ∧ decide (a.data.toList = b.data.toList) = z := ⟨_, rfl, (beq_txt a b).symm⟩

set_option maxHeartbeats 8000000 in
set_option maxRecDepth 100000 in
theorem specChildrenOf_c {w : World} {B : Nat} {v : Value} {L : List Lgr} {H : List Hnd} {q : Int} (x : ByteArray) (h : TreeIn w B v L H q) (hB : B ≤ w.heap.size) :
    Calls Try.prog 32 #[v, .string x] w (StrsPost w (childrenT L H q x.data.toList)) := by
  have C := hid (fun (W : World) (hW : Below w.heap.size w W) => specTreeX_c (h.below hW hB) (Nat.le_trans hB hW.size))
  cases hz : treeOk L H q with
  | false =>
    have HE := hid (show childrenT L H q x.data.toList = [] by unfold childrenT; rw [hz]; rfl)
    obtain ⟨A1, n1, k1, A2, n2, k2, rfl⟩ := h.form
    rw [hz] at C
    clear h hz
    go_enter Try.func32, Try.ntmps32
    go_wp2_with fail
    refine (C.out _ ?_).mono ?_
    case refine_1 => go_grown
    rintro e w1 ⟨rfl, hb1⟩
    have HB1 := hid (Below.trans (by go_grown) (hb1.mono (by simp; try omega)) : Below w.heap.size w w1)
    clear hb1
    go_wp2_with fail
    go_ret
    exact ⟨_, rfl, by rw [HE.out]; exact World.ownsRow_nil _ _ _ _, HB1.out⟩
  | true =>
    rw [hz] at C
    obtain ⟨b, o, n1, k1, A2, n2, k2, ls, rfl, hl, hL, hN, hn, hn8, hn1, hbB⟩ := h.opened hz
    obtain ⟨h0, hnd, hnm, hlen, _⟩ := tree_ns hz
    rw [← hn] at hlen
    have HE := hid (show childrenT L H q x.data.toList = (nsOf L).filter (childOk (nsOf L) x.data.toList) by unfold childrenT; rw [hz]; rfl)
    have CP := hid (fun (y : ByteArray) (hy : y.size ≤ maxLen) (W : World) (hW : Below w.heap.size w W) => specPath_c (some ⟨b, o, none⟩) A2 n1 k1 n2 k2 B q ls y W (hl.below hW hB) (Nat.le_trans hB hW.size) (by omega) hy (by rw [hN]; exact h0) (by rw [hN]; exact hnm))
    rw [hN] at CP
    have hcap := hl.1.cap
    unfold maxLen at hcap
    have HV := hid (And.intro hl (And.intro hL (And.intro hlen (And.intro hbB (And.intro h0 (And.intro hnd hnm))))))
    clear h hz hl hN hn hL hlen h0 hnd hnm
    go_enter Try.func32, Try.ntmps32
    go_wp2_with fail
    refine (C.out _ ?_).mono ?_
    case refine_1 => go_grown
    rintro e w1 ⟨rfl, hb1⟩
    have K1 := (Blk.new _ _ _).to hb1
    simp only [World.size_alloc] at K1
    have HK1 := hid K1
    have HB1 := hid (Below.trans (by go_grown) (hb1.mono (by simp; try omega)) : Below w.heap.size w w1)
    have hw1 : w.heap.size < w1.heap.size := HK1.out.1
    clear hb1 K1
    go_wp2_with fail
    go_loopw [5, 6] (fun sv iv wr => ∃ (k : Nat), iv = .int .i64 k ∧ 1 ≤ k ∧ k ≤ n1 ∧ wr.ownsRow w1.heap.size 9 1 sv (takeF (childOk (nsOf L) x.data.toList) (nsOf L) k).length ((takeF (childOk (nsOf L) x.data.toList) (nsOf L) k).map txt) ∧ Hid (Below w1.heap.size w1 wr)) (fun _ iv _ => n1 - (intOf iv).toNat)
    case atStart =>
      refine ⟨1, rfl, by omega, by omega, ?_, (Below.refl _ _).alloc (Nat.le_refl _) _⟩
      rw [takeF_miss HV.out.2.2.2.2.1 rfl]
      exact World.ownsRow_lit w1 #[] 0 (Nat.le_refl _) (by unfold maxLen; omega) rfl
    case round =>
      obtain ⟨k, rfl, hk1, hk, hown, HBx⟩ := hrel
      have hfl := takeF_len (childOk (nsOf L) x.data.toList) (nsOf L) k
      obtain ⟨Ax, cx, rfl, _, _⟩ := (Sl.of_own hown).form
      have HO := hid hown
      clear hown
      have HW := hid (HB1.out.trans (HBx.out.mono HB1.out.size))
      have HKx := hid (HK1.out.below HBx.out hw1)
      have d0 := (HKx.out.2 0 _ rfl).1
      by_cases hlt : k < n1
      · obtain ⟨p, A3, hn', k3, A4, fn, k4, hp, hps, _, _, g0, _⟩ := logger_at HV.out.1 HV.out.2.1 hlt
        have hpm : p.size ≤ maxLen := by unfold maxTxt at hps; unfold maxLen; omega
        have hul : upN (nsOf L) k < n1 := by rw [← HV.out.2.2.1]; exact near_lt HV.out.2.2.2.2.1 _
        obtain ⟨p', A3', hn'', k3', A4', fn', k4', hp', hps', _, _, g0', _⟩ := logger_at HV.out.1 HV.out.2.1 hul
        have hlen := HV.out.2.2.1
        have hr : p.data.toList ≠ [] := by
          intro e
          have e2 : (nsOf L).getD k [] = (nsOf L).getD 0 [] := by rw [← hp, e]; exact (at_getD HV.out.2.2.2.2.1).symm
          have := nodup_at HV.out.2.2.2.2.2.1 (by rw [hlen]; exact hlt) (by rw [hlen]; omega) e2
          omega
        have HX := hid (show (nsOf L)[k]? = some p.data.toList by rw [hp]; exact getD_at (by rw [hlen]; exact hlt))
        have hnear : nearN (nsOf L) p.data.toList = k := near_hit HV.out.2.2.2.2.1 HV.out.2.2.2.2.2.1 _ _ HX.out
        have HC := hid (show childOk (nsOf L) x.data.toList p.data.toList = decide (p'.data.toList = x.data.toList) by
          unfold childOk; rw [decide_eq_false hr, hp', hp]; rfl)
        have HPS := hid (show (pathN (nsOf L) p.data.toList)[1]? = some (upN (nsOf L) k) by
          have := path_second HV.out.2.2.2.2.2.2 HV.out.2.2.2.2.1 (x := p.data.toList) (by rw [hnear, ← hp]; exact hr)
          rwa [hnear] at this)
        have hbw : b < w.heap.size := by have := HV.out.2.2.2.1; omega
        have c0 := (HW.out.cell (p := ⟨b, o + k * 6, none⟩) hbw).trans g0
        have c0' := (HW.out.cell (p := ⟨b, o + upN (nsOf L) k * 6, none⟩) hbw).trans g0'
        have d1 := (HKx.out.2 1 _ rfl).1
        have d2 := (HKx.out.2 2 _ rfl).1
        have hwr : w.heap.size < wr.heap.size := HKx.out.1
        have hbr : b < wr.heap.size := by omega
        have CPp := hid (CP.out p hpm)
        clear hr hp hps hp' hps' g0 g0' hnear hlen
        generalize hu : upN (nsOf L) k = u at *
        clear hu
        obtain ⟨zq, e1, f1⟩ := eq_boolN p' x
        have F1 := hid f1
        clear f1
        have t0 : (0 : Int) ≤ (u : Int) := by omega
        have t1 : (u : Int) < (n1 : Int) := by omega
        have t2 : ((u : Int)).toNat = u := by simp
        go_wp2_with fail
        refine wp_region_held_drew (S := (fun w' : World => w'.cell? ⟨w.heap.size, 0, none⟩ = some (.slice (some ⟨b, o, none⟩) n1 k1) ∧ w'.cell? ⟨w.heap.size, 1, none⟩ = some (.slice A2 n2 k2) ∧ w'.cell? ⟨w.heap.size, 2, none⟩ = some (.int .i64 q) ∧ w'.cell? ⟨b, o + u * 6, none⟩ = some (.string p'))) (by kernel_rfl) ⟨d0, d1, d2, c0'⟩ (fun hS => ?_)
        refine wpAnyH_take (i := 0) (oi := ?oi113) (v := ?v113) ?hi113 (by kernel_rfl) ?hf113 ?hr113 ?hQ113 (Or.inl ⟨?hw113, ?hy113⟩) (by assumption) ?rest113
        case hi113 => simp only [List.getElem?_toArray, List.getElem?_cons_succ, List.getElem?_cons_zero]; rfl
        case hf113 => kernel_rfl
        case hr113 => kernel_rfl
        case hw113 => rfl
        case hy113 => (intro w hSw; (try dsimp only at hSw); go_simp; all_goals (first | done | with_reducible rfl))
        case hQ113 => exact fun _ _ _ h => h
        simp only [Act.put, List.setIfInBounds_toArray, List.set_cons_zero, List.set_cons_succ]
        refine wpAnyH_take (i := 1) (oi := ?oi114) (v := ?v114) ?hi114 (by kernel_rfl) ?hf114 ?hr114 ?hQ114 (Or.inl ⟨?hw114, ?hy114⟩) (by assumption) ?rest114
        case hi114 => simp only [List.getElem?_toArray, List.getElem?_cons_succ, List.getElem?_cons_zero]; rfl
        case hf114 => kernel_rfl
        case hr114 => kernel_rfl
        case hw114 => rfl
        case hy114 => (intro w hSw; (try dsimp only at hSw); go_simp; all_goals (first | done | with_reducible rfl))
        case hQ114 => exact fun _ _ _ h => h
        simp only [Act.put, List.setIfInBounds_toArray, List.set_cons_zero, List.set_cons_succ]
        refine wpAnyH_take (i := 2) (oi := ?oi115) (v := ?v115) ?hi115 (by kernel_rfl) ?hf115 ?hr115 ?hQ115 (Or.inl ⟨?hw115, ?hy115⟩) (by assumption) ?rest115
        case hi115 => simp only [List.getElem?_toArray, List.getElem?_cons_succ, List.getElem?_cons_zero]; rfl
        case hf115 => kernel_rfl
        case hr115 => kernel_rfl
        case hw115 => rfl
        case hy115 => (intro w hSw; (try dsimp only at hSw); go_simp; all_goals (first | done | with_reducible rfl))
        case hQ115 => exact fun _ _ _ h => h
        simp only [Act.put, List.setIfInBounds_toArray, List.set_cons_zero, List.set_cons_succ]
        refine wpAnyH_take (i := 3) (oi := ?oi116) (v := ?v116) ?hi116 (by kernel_rfl) ?hf116 ?hr116 ?hQ116 (Or.inl ⟨?hw116, ?hy116⟩) (by assumption) ?rest116
        case hi116 => simp only [List.getElem?_toArray, List.getElem?_cons_succ, List.getElem?_cons_zero]; rfl
        case hf116 => kernel_rfl
        case hr116 => kernel_rfl
        case hw116 => rfl
        case hy116 => (intro w hSw; (try dsimp only at hSw); go_simp; all_goals (first | done | with_reducible rfl))
        case hQ116 => exact fun _ _ _ h => h
        simp only [Act.put, List.setIfInBounds_toArray, List.set_cons_zero, List.set_cons_succ]
        refine wpAnyH_take (i := 10) (oi := ?oi117) (v := ?v117) ?hi117 (by kernel_rfl) ?hf117 ?hr117 ?hQ117 (Or.inl ⟨?hw117, ?hy117⟩) (by assumption) ?rest117
        case hi117 => simp only [List.getElem?_toArray, List.getElem?_cons_succ, List.getElem?_cons_zero]; rfl
        case hf117 => kernel_rfl
        case hr117 => kernel_rfl
        case hw117 => rfl
        case hy117 => (intro w hSw; (try dsimp only at hSw); go_simp; all_goals (first | done | with_reducible rfl))
        case hQ117 => exact fun _ _ _ h => h
        simp only [Act.put, List.setIfInBounds_toArray, List.set_cons_zero, List.set_cons_succ]
        refine wpAnyH_ready (rs := [4]) (by kernel_rfl) (by simp) ?_
        refine AllReadyH.cons (o := ?oi118) ?hi118 (fun K hK => ?step118) AllReadyH.nil
        case hi118 => simp only [List.getElem?_toArray, List.getElem?_cons_succ, List.getElem?_cons_zero]; rfl
        rw [if_pos (by rfl)]
        go_simp
        go_at_call 54
        refine (CPp.out _ HW.out.drew).mono ?_
        rintro e w9 ⟨vi, rfl, hoi, hb9⟩
        have hS9 : w9.cell? ⟨w.heap.size, 0, none⟩ = some (.slice (some ⟨b, o, none⟩) n1 k1) ∧ w9.cell? ⟨w.heap.size, 1, none⟩ = some (.slice A2 n2 k2) ∧ w9.cell? ⟨w.heap.size, 2, none⟩ = some (.int .i64 q) ∧ w9.cell? ⟨b, o + u * 6, none⟩ = some (.string p') :=
          ⟨(hb9.cell (p := ⟨w.heap.size, _, none⟩) hwr).trans d0, (hb9.cell (p := ⟨w.heap.size, _, none⟩) hwr).trans d1, (hb9.cell (p := ⟨w.heap.size, _, none⟩) hwr).trans d2, (hb9.cell (p := ⟨b, _, none⟩) hbr).trans c0'⟩
        obtain ⟨Ai, ci, rfl, hic, hicm⟩ := (Sl.of_own hoi).form
        unfold maxLen at hicm
        have hl2 : 1 < (pathN (nsOf L) p.data.toList).length := (List.getElem?_eq_some_iff.1 HPS.out).1
        obtain ⟨bi, oi, i', rfl, hbi, hxi, ic⟩ := ints_at (Sl.of_own hoi) hl2
        obtain rfl : u = i' := by rw [HPS.out] at hxi; exact Option.some.inj hxi
        have HB9 := hid (HBx.out.drew.trans (hb9.mono HBx.out.drew.size))
        have HO9 := hid (own_below HO.out.drew hb9)
        refine hK.out _ _ hS9 (fun _ => ?_)
        have u1 : (1 : Int) < ((pathN (nsOf L) p.data.toList).length : Int) := by omega
        clear hoi hb9 hxi
        have hS10 := And.intro hS9 ic
        refine wpAnyH_mono (S' := (fun w' : World => (w'.cell? ⟨w.heap.size, 0, none⟩ = some (.slice (some ⟨b, o, none⟩) n1 k1) ∧ w'.cell? ⟨w.heap.size, 1, none⟩ = some (.slice A2 n2 k2) ∧ w'.cell? ⟨w.heap.size, 2, none⟩ = some (.int .i64 q) ∧ w'.cell? ⟨b, o + u * 6, none⟩ = some (.string p')) ∧ w'.cell? ⟨bi, oi + 1, none⟩ = some (.int .i64 u))) (fun _ h => h.1) _ _ _ _ ?_
        refine wpAnyH_take (i := 5) (oi := ?oi119) (v := ?v119) ?hi119 (by kernel_rfl) ?hf119 ?hr119 ?hQ119 (Or.inl ⟨?hw119, ?hy119⟩) (by assumption) ?rest119
        case hi119 => simp only [List.getElem?_toArray, List.getElem?_cons_succ, List.getElem?_cons_zero]; rfl
        case hf119 => kernel_rfl
        case hr119 => kernel_rfl
        case hw119 => rfl
        case hy119 => (intro w hSw; (try dsimp only at hSw); go_simp; all_goals (first | done | with_reducible rfl))
        case hQ119 => exact fun _ _ _ h => h
        simp only [Act.put, List.setIfInBounds_toArray, List.set_cons_zero, List.set_cons_succ]
        refine wpAnyH_take (i := 6) (oi := ?oi120) (v := ?v120) ?hi120 (by kernel_rfl) ?hf120 ?hr120 ?hQ120 (Or.inl ⟨?hw120, ?hy120⟩) (by assumption) ?rest120
        case hi120 => simp only [List.getElem?_toArray, List.getElem?_cons_succ, List.getElem?_cons_zero]; rfl
        case hf120 => kernel_rfl
        case hr120 => kernel_rfl
        case hw120 => rfl
        case hy120 => (intro w hSw; (try dsimp only at hSw); go_simp; all_goals (first | done | with_reducible rfl))
        case hQ120 => exact fun _ _ _ h => h
        simp only [Act.put, List.setIfInBounds_toArray, List.set_cons_zero, List.set_cons_succ]
        refine wpAnyH_take (i := 7) (oi := ?oi121) (v := ?v121) ?hi121 (by kernel_rfl) ?hf121 ?hr121 ?hQ121 (Or.inl ⟨?hw121, ?hy121⟩) (by assumption) ?rest121
        case hi121 => simp only [List.getElem?_toArray, List.getElem?_cons_succ, List.getElem?_cons_zero]; rfl
        case hf121 => kernel_rfl
        case hr121 => kernel_rfl
        case hw121 => rfl
        case hy121 => (intro w hSw; (try dsimp only at hSw); go_simp; all_goals (first | done | with_reducible rfl))
        case hQ121 => exact fun _ _ _ h => h
        simp only [Act.put, List.setIfInBounds_toArray, List.set_cons_zero, List.set_cons_succ]
        refine wpAnyH_take (i := 8) (oi := ?oi122) (v := ?v122) ?hi122 (by kernel_rfl) ?hf122 ?hr122 ?hQ122 (Or.inl ⟨?hw122, ?hy122⟩) (by assumption) ?rest122
        case hi122 => simp only [List.getElem?_toArray, List.getElem?_cons_succ, List.getElem?_cons_zero]; rfl
        case hf122 => kernel_rfl
        case hr122 => kernel_rfl
        case hw122 => rfl
        case hy122 => (intro w hSw; (try dsimp only at hSw); go_simp; all_goals (first | done | with_reducible rfl))
        case hQ122 => exact fun _ _ _ h => h
        simp only [Act.put, List.setIfInBounds_toArray, List.set_cons_zero, List.set_cons_succ]
        refine wpAnyH_take (i := 9) (oi := ?oi123) (v := ?v123) ?hi123 (by kernel_rfl) ?hf123 ?hr123 ?hQ123 (Or.inl ⟨?hw123, ?hy123⟩) (by assumption) ?rest123
        case hi123 => simp only [List.getElem?_toArray, List.getElem?_cons_succ, List.getElem?_cons_zero]; rfl
        case hf123 => kernel_rfl
        case hr123 => kernel_rfl
        case hw123 => rfl
        case hy123 => (intro w hSw; (try dsimp only at hSw); go_simp; all_goals (first | done | with_reducible rfl))
        case hQ123 => exact fun _ _ _ h => h
        simp only [Act.put, List.setIfInBounds_toArray, List.set_cons_zero, List.set_cons_succ]
        refine wpAnyH_take (i := 11) (oi := ?oi124) (v := ?v124) ?hi124 (by kernel_rfl) ?hf124 ?hr124 ?hQ124 (Or.inl ⟨?hw124, ?hy124⟩) (by assumption) ?rest124
        case hi124 => simp only [List.getElem?_toArray, List.getElem?_cons_succ, List.getElem?_cons_zero]; rfl
        case hf124 => kernel_rfl
        case hr124 => kernel_rfl
        case hw124 => rfl
        case hy124 => (intro w hSw; (try dsimp only at hSw); go_simp; all_goals (first | done | with_reducible rfl))
        case hQ124 => exact fun _ _ _ h => h
        simp only [Act.put, List.setIfInBounds_toArray, List.set_cons_zero, List.set_cons_succ]
        refine wpAnyH_done (by kernel_rfl) ?_ _
        clear hS hS9 hS10 ic d0 d1 d2 c0 c0'
        clear e1
        cases zq with
        | true =>
          have HF := hid (show takeF (childOk (nsOf L) x.data.toList) (nsOf L) (k + 1) = takeF (childOk (nsOf L) x.data.toList) (nsOf L) k ++ [p.data.toList] from takeF_hit HX.out (by rw [HC.out, F1.out]))
          go_wp2_with (at_builtin; (refine appText _ rfl (.tmp 37) (.tmp 39) rfl w1.heap.size _ (takeF (childOk (nsOf L) x.data.toList) (nsOf L) k) (by rfl) HO9.out p _ _ _ (by rfl) (by simp) (by omega) HB9.out.size ?_))
          intro v' w4 ho4 hb4
          have HO4 := hid ho4
          have HB4 := hid (HB9.out.trans hb4)
          clear ho4 hb4
          go_wp2_with fail
          go_roundw
          case rel => exact ⟨k + 1, by go_num, by omega, by omega, by rw [HF.out]; simpa using HO4.out, HB4.out⟩
          case measure => simp [intOf]; omega
        | false =>
          have HF := hid (show takeF (childOk (nsOf L) x.data.toList) (nsOf L) (k + 1) = takeF (childOk (nsOf L) x.data.toList) (nsOf L) k from takeF_miss HX.out (by rw [HC.out, F1.out]))
          go_wp2_with fail
          go_roundw
          case rel => exact ⟨k + 1, by go_num, by omega, by omega, by rw [HF.out]; exact HO9.out, HB9.out⟩
          case measure => simp [intOf]; omega
      · obtain rfl : k = n1 := by omega
        have HF := hid (show childrenT L H q x.data.toList = takeF (childOk (nsOf L) x.data.toList) (nsOf L) k by rw [HE.out, takeF_all (by rw [HV.out.2.2.1]; exact Nat.le_refl _)])
        go_wp2_with fail
        go_ret
        exact ⟨_, rfl, by rw [HF.out]; exact own_base HO.out HB1.out.size, HW.out⟩
end Go.Proofs.Yteammkclbgniiaa

/-
  WALKS: the model's effective, EffectiveLevel, enabled, IsEnabled.
-/
namespace Go.Proofs.Yteammkclbgniiaa
open Go.RowKit Nm
set_option linter.unusedSimpArgs false
set_option linter.unusedVariables false

theorem txt_len {n : Nat} (h : n ≤ maxTxt) : n ≤ maxLen := by unfold maxTxt at h; unfold maxLen; omega
theorem lvAt_nonneg {L : List Lgr} (h : ∀ l ∈ L, 0 ≤ l.lv) (k : Nat) : 0 ≤ lvAt L k := by
  unfold lvAt
  by_cases hk : k < L.length
  · have e : (L.map (·.lv)).getD k 0 = L[k].lv := by simp [List.getD, hk]
    rw [e]; exact h _ (List.getElem_mem _)
  · have e : (L.map (·.lv)).getD k 0 = 0 := by simp [List.getD, Nat.le_of_not_lt hk]
    rw [e]; exact Int.le_refl _
theorem firstLv_at {l : List Int} {k : Nat} {a : Int} (h : ∀ x ∈ l.take k, ¬ 0 < x) (hk : l[k]? = some a) (ha : 0 < a) : firstLv l = a := by
  rw [firstLv_skip h]
  have e : l.drop k = a :: l.drop (k + 1) := by
    have hl := (List.getElem?_eq_some_iff.1 hk)
    rw [List.drop_eq_getElem_cons hl.1, hl.2]
  rw [e, firstLv, if_pos ha]
theorem firstLv_none {l : List Int} (h : ∀ x ∈ l, ¬ 0 < x) : firstLv l = 0 := by
  rw [firstLv_skip (k := l.length) (by rw [List.take_length]; exact h), List.drop_length]; rfl

set_option maxHeartbeats 4000000 in
set_option maxRecDepth 100000 in
theorem specEffective_c {w : World} {B b o n1 k1 n2 k2 : Nat} {A2 : Option Addr} {L : List Lgr} {ls : List LgrV} (q : Int) (x : ByteArray) (hl : Ls w B n1 (.slice (some ⟨b, o, none⟩) n1 k1) ls) (hL : lsOf ls = L) (hN : lnames ls = nsOf L) (hlen : (nsOf L).length = n1) (hn8 : n1 ≤ 8) (hB : B ≤ w.heap.size) (hbB : b < B) (hx : x.size ≤ maxLen)
    (h0 : (nsOf L)[0]? = some []) (hnm : ∀ z ∈ nsOf L, nameOk z = true) (hlv : ∀ l ∈ L, 0 ≤ l.lv) :
    Calls Try.prog 57 #[.agg #[.slice (some ⟨b, o, none⟩) n1 k1, .slice A2 n2 k2, .int .i64 q], .string x] w (fun e w' => e = .returned (.int .i64 (levelN (nsOf L) (lvAt L) x.data.toList)) ∧ Below w.heap.size w w') := by
  have CP := hid (fun (W : World) (hW : Below w.heap.size w W) => specPath_c (some ⟨b, o, none⟩) A2 n1 k1 n2 k2 B q ls x W (hl.below hW hB) (Nat.le_trans hB hW.size) (by omega) hx (by rw [hN]; exact h0) (by rw [hN]; exact hnm))
  rw [hN] at CP
  have HPL := hid (show (pathN (nsOf L) x.data.toList).length ≤ 5 ∧ ∀ i ∈ pathN (nsOf L) x.data.toList, i < n1 from ⟨pathF_len _ _ _, by rw [← hlen]; exact pathF_lt h0 _ _ (near_lt h0 _)⟩)
  have HE := hid (show levelN (nsOf L) (lvAt L) x.data.toList = firstLv ((pathN (nsOf L) x.data.toList).map (lvAt L)) from (level_first _ (lvAt_nonneg hlv) _ _).symm)
  have hcap := hl.1.cap
  unfold maxLen at hcap
  have HV := hid (And.intro hl (And.intro hL hbB))
  clear hl hL hN hlen h0 hnm hlv
  generalize hk : pathN (nsOf L) x.data.toList = pl at *
  clear hk
  go_enter Try.func57, Try.ntmps57
  go_wp2_with fail
  refine (CP.out _ ?_).mono ?_
  case refine_1 => go_grown
  rintro e w1 ⟨vi, rfl, hoi, hb1⟩
  have K1 := (Blk.new _ _ _).to hb1
  simp only [World.size_alloc] at K1
  have HK1 := hid K1
  have HB1 := hid (Below.trans (by go_grown) (hb1.mono (by simp; try omega)) : Below w.heap.size w w1)
  have hw1 : w.heap.size < w1.heap.size := HK1.out.1
  obtain ⟨Ai, ci, rfl, hic, hicm⟩ := (Sl.of_own hoi).form
  unfold maxLen at hicm
  have HOi := hid (Sl.of_own hoi)
  clear hb1 K1 hoi
  go_wp2_with fail
  go_loopw [6] (fun iv wr => ∃ (k : Nat), iv = .int .i64 k ∧ k ≤ pl.length ∧ Hid (∀ y ∈ (pl.map (lvAt L)).take k, ¬ 0 < y) ∧ Hid (Below w1.heap.size w1 wr)) (fun iv _ => pl.length - (intOf iv).toNat)
  case atStart => exact ⟨0, rfl, by omega, by intro y hy; simp at hy, Below.refl _ _⟩
  case round =>
    obtain ⟨k, rfl, hk, HN, HBx⟩ := hrel
    have HW := hid (HB1.out.trans (HBx.out.mono HB1.out.size))
    have hpl5 := HPL.out.1
    by_cases hlt : k < pl.length
    · obtain ⟨bi, oi, i, rfl, hbi, hxi, ic0⟩ := ints_at HOi.out hlt
      have hi1 : i < n1 := HPL.out.2 i (List.mem_of_getElem? hxi)
      have HXI := hid (show (pl.map (lvAt L))[k]? = some (lvAt L i) by rw [List.getElem?_map, hxi]; rfl)
      obtain ⟨p, A3, hn', k3, A4, fn, k4, hp, hps, _, _, g0, g1, _⟩ := logger_at HV.out.1 HV.out.2.1 hi1
      have hbw : b < w.heap.size := by have := HV.out.2.2; omega
      have d0 := ((HK1.out.below HBx.out hw1).2 0 _ rfl).1
      have c1 := (HW.out.cell (p := ⟨b, o + i * 6 + 1, none⟩) hbw).trans g1
      have ic := (HBx.out.cell (p := ⟨bi, oi + k, none⟩) hbi).trans ic0
      have s0 : (0 : Int) ≤ (k : Int) := by omega
      have s1 : (k : Int) < (pl.length : Int) := by omega
      have s2 : ((k : Int)).toNat = k := by simp
      have t0 : (0 : Int) ≤ (i : Int) := by omega
      have t1 : (i : Int) < (n1 : Int) := by omega
      have t2 : ((i : Int)).toNat = i := by simp
      clear hp hps hxi g0 g1 ic0
      by_cases hz : 0 < lvAt L i
      · have HF := hid (show levelN (nsOf L) (lvAt L) x.data.toList = lvAt L i by rw [HE.out]; exact firstLv_at HN.out HXI.out hz)
        go_wp2_with fail
        go_quiet (fail)
        go_wp2_with fail
        go_quiet (fail)
        go_wp2_with fail
        go_ret
        exact ⟨by rw [HF.out]; rfl, below_dr (below_dr HW.out _) _⟩
      · have HS := hid (show ∀ y ∈ (pl.map (lvAt L)).take (k + 1), ¬ 0 < y by
          intro y hy
          rw [List.take_add_one, HXI.out] at hy
          rcases List.mem_append.1 hy with hy | hy
          · exact HN.out y hy
          · simp at hy; rw [hy]; exact hz)
        go_wp2_with fail
        go_quiet (fail)
        go_wp2_with fail
        go_roundw
        case rel => exact ⟨k + 1, by go_num, by omega, (fun y hy => by have := HS.out y hy; omega), below_dr HBx.out _⟩
        case measure => simp [intOf]; omega
    · have HF := hid (show levelN (nsOf L) (lvAt L) x.data.toList = 0 by
        rw [HE.out]
        refine firstLv_none ?_
        have := HN.out
        rwa [List.take_of_length_le (by rw [List.length_map]; omega)] at this)
      go_wp2_with fail
      go_ret
      exact ⟨by rw [HF.out]; rfl, HW.out⟩

set_option maxHeartbeats 4000000 in
set_option maxRecDepth 100000 in
theorem specEffectiveLevel_c {w : World} {B : Nat} {v : Value} {L : List Lgr} {H : List Hnd} {q : Int} (x : ByteArray) (h : TreeIn w B v L H q) (hB : B ≤ w.heap.size) (hx : x.size ≤ maxTxt) :
    Calls Try.prog 35 #[v, .string x] w (fun e w' => e = .returned (.int .i64 (levelT L H q x.data.toList)) ∧ Below w.heap.size w w') := by
  unfold maxTxt at hx
  have C := hid (fun (W : World) (hW : Below w.heap.size w W) => specTreeX_c (h.below hW hB) (Nat.le_trans hB hW.size))
  have V := hid (fun (W : World) => validName_c x W hx)
  cases hz : treeOk L H q with
  | false =>
    have HE := hid (show levelT L H q x.data.toList = -1 by unfold levelT; rw [hz]; rfl)
    obtain ⟨A1, n1, k1, A2, n2, k2, rfl⟩ := h.form
    rw [hz] at C
    clear h hz
    go_enter Try.func35, Try.ntmps35
    go_wp2_with fail
    refine (C.out _ ?_).mono ?_
    case refine_1 => go_grown
    rintro e w1 ⟨rfl, hb1⟩
    have HB1 := hid (Below.trans (by go_grown) (hb1.mono (by simp; try omega)) : Below w.heap.size w w1)
    clear hb1
    go_wp2_with fail
    go_ret
    exact ⟨by rw [HE.out]; rfl, HB1.out⟩
  | true =>
    rw [hz] at C
    obtain ⟨b, o, n1, k1, A2, n2, k2, ls, rfl, hl, hL, hN, hn, hn8, hn1, hbB⟩ := h.opened hz
    obtain ⟨h0, hnd, hnm, hlen, _⟩ := tree_ns hz
    have hlv := (tree_names hz).2.2.2.2.2
    rw [← hn] at hlen
    have HEf := hid (fun (hy : nameOk x.data.toList = false) => (show levelT L H q x.data.toList = -1 by unfold levelT; rw [hz, hy]; rfl))
    have HEt := hid (fun (hy : nameOk x.data.toList = true) => (show levelT L H q x.data.toList = levelN (nsOf L) (lvAt L) x.data.toList by unfold levelT; rw [hz, hy]; rfl))
    have CE := hid (fun (W : World) (hW : Below w.heap.size w W) => specEffective_c (A2 := A2) (n2 := n2) (k2 := k2) q x (hl.below hW hB) hL hN hlen hn8 (Nat.le_trans hB hW.size) hbB (by unfold maxLen; omega) h0 hnm (fun l hl => (hlv l hl).1))
    clear h hz hl hL hN h0 hnd hnm hlen hn hlv
    go_enter Try.func35, Try.ntmps35
    go_wp2_with fail
    refine (C.out _ ?_).mono ?_
    case refine_1 => go_grown
    rintro e w1 ⟨rfl, hb1⟩
    have K1 := (Blk.new _ _ _).to hb1
    simp only [World.size_alloc] at K1
    have HK1 := hid K1
    have HB1 := hid (Below.trans (by go_grown) (hb1.mono (by simp; try omega)) : Below w.heap.size w w1)
    clear hb1 K1
    cases hy : nameOk x.data.toList with
    | false =>
      rw [hy] at V
      have HE := hid (HEf.out hy)
      clear hy
      go_wp2_with fail
      refine (V.out _).mono ?_
      rintro e w2 ⟨rfl, hb2⟩
      have HB2 := hid (HB1.out.trans (hb2.mono HB1.out.size))
      clear hb2
      go_wp2_with fail
      go_ret
      exact ⟨by rw [HE.out]; rfl, HB2.out⟩
    | true =>
      rw [hy] at V
      have HE := hid (HEt.out hy)
      clear hy
      go_wp2_with fail
      refine (V.out _).mono ?_
      rintro e w2 ⟨rfl, hb2⟩
      have HB2 := hid (HB1.out.trans (hb2.mono HB1.out.size))
      have HK2 := hid (HK1.out.to hb2)
      clear hb2
      have d0 := (HK2.out.2 0 _ rfl).1
      have d1 := (HK2.out.2 1 _ rfl).1
      have d2 := (HK2.out.2 2 _ rfl).1
      go_wp2_with fail
      refine (CE.out _ HB2.out).mono ?_
      rintro e w3 ⟨rfl, hb3⟩
      have HB3 := hid (HB2.out.trans (hb3.mono HB2.out.size))
      clear hb3
      go_wp2_with fail
      go_ret
      exact ⟨by rw [HE.out]; rfl, HB3.out⟩

set_option maxHeartbeats 4000000 in
set_option maxRecDepth 100000 in
theorem specEnabled_c {w : World} {B b o n1 k1 n2 k2 : Nat} {A2 : Option Addr} {L : List Lgr} {ls : List LgrV} (q : Int) (x : ByteArray) (lv : Int) (hl : Ls w B n1 (.slice (some ⟨b, o, none⟩) n1 k1) ls) (hL : lsOf ls = L) (hN : lnames ls = nsOf L) (hlen : (nsOf L).length = n1) (hn8 : n1 ≤ 8) (hB : B ≤ w.heap.size) (hbB : b < B) (hx : x.size ≤ maxLen)
    (h0 : (nsOf L)[0]? = some []) (hnd : (nsOf L).Nodup) (hnm : ∀ z ∈ nsOf L, nameOk z = true) (hlv : ∀ l ∈ L, 0 ≤ l.lv) :
    Calls Try.prog 60 #[.agg #[.slice (some ⟨b, o, none⟩) n1 k1, .slice A2 n2 k2, .int .i64 q], .string x, .int .i64 lv] w (BoolPost w (enabledT L q x.data.toList lv)) := by
  have CE := hid (fun (W : World) (hW : Below w.heap.size w W) => specEffective_c (A2 := A2) (n2 := n2) (k2 := k2) q x (hl.below hW hB) hL hN hlen hn8 (Nat.le_trans hB hW.size) hbB hx h0 hnm hlv)
  have HB0 := hid (show Below w.heap.size w (w.alloc (.cells #[.slice (some ⟨b, o, none⟩) n1 k1, .slice A2 n2 k2, .int .i64 q] 26)) from (Below.refl _ _).alloc (Nat.le_refl _) _)
  have AT := hid (loggerAt_c (.slice (some ⟨b, o, none⟩) n1 k1) n1 B ls x (w.alloc (.cells #[.slice (some ⟨b, o, none⟩) n1 k1, .slice A2 n2 k2, .int .i64 q] 26)) (hl.below HB0.out hB))
  rw [hN] at AT
  have HE := hid (show enabledT L q x.data.toList lv = (!offT L x.data.toList && (decide (q < lv) && decide (levelN (nsOf L) (lvAt L) x.data.toList ≤ lv))) from rfl)
  have hcap := hl.1.cap
  unfold maxLen at hcap
  by_cases hm : x.data.toList ∈ nsOf L
  · have hns := near_self h0 hnd hm
    have hlt : nearN (nsOf L) x.data.toList < n1 := by rw [← hlen]; exact hns.1
    have hix : idxL (nsOf L) x.data.toList = ((nearN (nsOf L) x.data.toList : Nat) : Int) := by
      unfold idxL
      rw [if_pos hm]
      have : (nsOf L).idxOf x.data.toList = nearN (nsOf L) x.data.toList := (near_hit h0 hnd _ _ (by rw [List.getElem?_eq_getElem (List.idxOf_lt_length_of_mem hm), List.getElem_idxOf])).symm
      rw [this]
    rw [hix] at AT
    have HO := hid (show offT L x.data.toList = offAt L (nearN (nsOf L) x.data.toList) by unfold offT; rw [decide_eq_true hm]; rfl)
    obtain ⟨p, A3, hn', k3, A4, fn, k4, hp, hps, _, _, g0, g1, g2, g3, g4, g5⟩ := logger_at (hl.below HB0.out hB) hL hlt
    clear hns hm hix hp hps g0 g1 g2 g3 g4 hl hL hN hlen h0 hnd hnm hlv
    generalize hk : nearN (nsOf L) x.data.toList = k at *
    clear hk
    have s0 : (0 : Int) ≤ (k : Int) := by omega
    have s1 : (k : Int) < (n1 : Int) := by omega
    have s2 : ((k : Int)).toNat = k := by simp
    cases hof : offAt L k with
    | true =>
      rw [hof] at g5
      have HF := hid (show enabledT L q x.data.toList lv = false by rw [HE.out, HO.out, hof]; rfl)
      clear hof
      go_enter Try.func60, Try.ntmps60
      go_wp2_with (go_at_call 48; refine (AT.out).mono ?_; rintro e w2 ⟨rfl, hw2⟩; have hw2 := hw2.symm; subst hw2)
      go_ret
      exact ⟨ret_bool HF.out.symm, HB0.out⟩
    | false =>
      rw [hof] at g5
      have HF := hid (show enabledT L q x.data.toList lv = (decide (q < lv) && decide (levelN (nsOf L) (lvAt L) x.data.toList ≤ lv)) by rw [HE.out, HO.out, hof]; rfl)
      clear hof
      by_cases hq : q < lv
      · have HF2 := hid (show enabledT L q x.data.toList lv = decide (levelN (nsOf L) (lvAt L) x.data.toList ≤ lv) by rw [HF.out, decide_eq_true hq]; rfl)
        go_enter Try.func60, Try.ntmps60
        go_wp2_with (go_at_call 48; refine (AT.out).mono ?_; rintro e w2 ⟨rfl, hw2⟩; have hw2 := hw2.symm; subst hw2)
        refine (CE.out _ HB0.out).mono ?_
        rintro e w3 ⟨rfl, hb3⟩
        have HB3 := hid (HB0.out.trans (hb3.mono HB0.out.size))
        clear hb3
        go_wp2_with fail
        go_ret
        exact ⟨ret_bool HF2.out.symm, HB3.out⟩
      · have HF2 := hid (show enabledT L q x.data.toList lv = false by rw [HF.out, decide_eq_false hq]; rfl)
        go_enter Try.func60, Try.ntmps60
        go_wp2_with (go_at_call 48; refine (AT.out).mono ?_; rintro e w2 ⟨rfl, hw2⟩; have hw2 := hw2.symm; subst hw2)
        go_ret
        exact ⟨ret_bool HF2.out.symm, HB0.out⟩
  · have hix : idxL (nsOf L) x.data.toList = -1 := idx_miss _ _ hm
    rw [hix] at AT
    have HF := hid (show enabledT L q x.data.toList lv = (decide (q < lv) && decide (levelN (nsOf L) (lvAt L) x.data.toList ≤ lv)) by
      rw [HE.out]; unfold offT; rw [decide_eq_false hm]; rfl)
    clear hm hix hl hL hN hlen h0 hnd hnm hlv
    by_cases hq : q < lv
    · have HF2 := hid (show enabledT L q x.data.toList lv = decide (levelN (nsOf L) (lvAt L) x.data.toList ≤ lv) by rw [HF.out, decide_eq_true hq]; rfl)
      go_enter Try.func60, Try.ntmps60
      go_wp2_with (go_at_call 48; refine (AT.out).mono ?_; rintro e w2 ⟨rfl, hw2⟩; have hw2 := hw2.symm; subst hw2)
      refine (CE.out _ HB0.out).mono ?_
      rintro e w3 ⟨rfl, hb3⟩
      have HB3 := hid (HB0.out.trans (hb3.mono HB0.out.size))
      clear hb3
      go_wp2_with fail
      go_ret
      exact ⟨ret_bool HF2.out.symm, HB3.out⟩
    · have HF2 := hid (show enabledT L q x.data.toList lv = false by rw [HF.out, decide_eq_false hq]; rfl)
      go_enter Try.func60, Try.ntmps60
      go_wp2_with (go_at_call 48; refine (AT.out).mono ?_; rintro e w2 ⟨rfl, hw2⟩; have hw2 := hw2.symm; subst hw2)
      go_ret
      exact ⟨ret_bool HF2.out.symm, HB0.out⟩

set_option maxHeartbeats 4000000 in
set_option maxRecDepth 100000 in
theorem specIsEnabled_c {w : World} {B : Nat} {v : Value} {L : List Lgr} {H : List Hnd} {q : Int} (x : ByteArray) (lv : Int) (h : TreeIn w B v L H q) (hB : B ≤ w.heap.size) (hx : x.size ≤ maxTxt) :
    Calls Try.prog 38 #[v, .string x, .int .i64 lv] w (BoolPost w (isEnabledT L H q x.data.toList lv)) := by
  unfold maxTxt at hx
  have C := hid (fun (W : World) (hW : Below w.heap.size w W) => specTreeX_c (h.below hW hB) (Nat.le_trans hB hW.size))
  have V := hid (fun (W : World) => validName_c x W hx)
  have R := hid (fun (W : World) => inRange_c lv 1 60 W)
  cases hz : treeOk L H q with
  | false =>
    have HE := hid (show isEnabledT L H q x.data.toList lv = false by unfold isEnabledT; rw [hz]; rfl)
    obtain ⟨A1, n1, k1, A2, n2, k2, rfl⟩ := h.form
    rw [hz] at C
    clear h hz
    go_enter Try.func38, Try.ntmps38
    go_wp2_with fail
    refine (C.out _ ?_).mono ?_
    case refine_1 => go_grown
    rintro e w1 ⟨rfl, hb1⟩
    have HB1 := hid (Below.trans (by go_grown) (hb1.mono (by simp; try omega)) : Below w.heap.size w w1)
    clear hb1
    go_wp2_with fail
    go_ret
    exact ⟨ret_bool HE.out.symm, HB1.out⟩
  | true =>
    rw [hz] at C
    obtain ⟨b, o, n1, k1, A2, n2, k2, ls, rfl, hl, hL, hN, hn, hn8, hn1, hbB⟩ := h.opened hz
    obtain ⟨h0, hnd, hnm, hlen, _⟩ := tree_ns hz
    have hlv := (tree_names hz).2.2.2.2.2
    rw [← hn] at hlen
    have HE := hid (show isEnabledT L H q x.data.toList lv = (nameOk x.data.toList && ((decide (1 ≤ lv) && decide (lv ≤ 60)) && enabledT L q x.data.toList lv)) by unfold isEnabledT; rw [hz]; rfl)
    have CE := hid (fun (W : World) (hW : Below w.heap.size w W) => specEnabled_c (A2 := A2) (n2 := n2) (k2 := k2) q x lv (hl.below hW hB) hL hN hlen hn8 (Nat.le_trans hB hW.size) hbB (by unfold maxLen; omega) h0 hnd hnm (fun l hl => (hlv l hl).1))
    clear h hz hl hL hN h0 hnd hnm hlen hn hlv
    go_enter Try.func38, Try.ntmps38
    go_wp2_with fail
    refine (C.out _ ?_).mono ?_
    case refine_1 => go_grown
    rintro e w1 ⟨rfl, hb1⟩
    have K1 := (Blk.new _ _ _).to hb1
    simp only [World.size_alloc] at K1
    have HK1 := hid K1
    have HB1 := hid (Below.trans (by go_grown) (hb1.mono (by simp; try omega)) : Below w.heap.size w w1)
    clear hb1 K1
    cases hy : nameOk x.data.toList with
    | false =>
      rw [hy] at V HE
      clear hy
      go_wp2_with fail
      refine (V.out _).mono ?_
      rintro e w2 ⟨rfl, hb2⟩
      have HB2 := hid (HB1.out.trans (hb2.mono HB1.out.size))
      clear hb2
      go_wp2_with fail
      go_ret
      exact ⟨ret_bool HE.out.symm, HB2.out⟩
    | true =>
      rw [hy] at V HE
      clear hy
      cases hr : (decide (1 ≤ lv) && decide (lv ≤ 60)) with
      | false =>
        rw [hr] at R HE
        clear hr
        go_wp2_with fail
        refine (V.out _).mono ?_
        rintro e w2 ⟨rfl, hb2⟩
        have HB2 := hid (HB1.out.trans (hb2.mono HB1.out.size))
        clear hb2
        go_wp2_with (go_at_call 59; refine (R.out _).mono ?_; rintro e w3 ⟨rfl, hw3⟩; have hw3 := hw3.symm; subst hw3)
        go_ret
        exact ⟨ret_bool HE.out.symm, HB2.out⟩
      | true =>
        rw [hr] at R HE
        clear hr
        go_wp2_with fail
        refine (V.out _).mono ?_
        rintro e w2 ⟨rfl, hb2⟩
        have HB2 := hid (HB1.out.trans (hb2.mono HB1.out.size))
        have HK2 := hid (HK1.out.to hb2)
        clear hb2
        have d0 := (HK2.out.2 0 _ rfl).1
        have d1 := (HK2.out.2 1 _ rfl).1
        have d2 := (HK2.out.2 2 _ rfl).1
        go_wp2_with (go_at_call 59; refine (R.out _).mono ?_; rintro e w3 ⟨rfl, hw3⟩; have hw3 := hw3.symm; subst hw3)
        refine (CE.out _ HB2.out).mono ?_
        rintro e w3 ⟨rfl, hb3⟩
        have HB3 := hid (HB2.out.trans (hb3.mono HB2.out.size))
        clear hb3
        go_wp2_with fail
        go_ret
        exact ⟨ret_bool HE.out.symm, HB3.out⟩
end Go.Proofs.Yteammkclbgniiaa
