/-
  SPOTS: the model's.
-/
import Derived.Test.YtpfnjkmkenaipaaU4
namespace Go.Proofs.Ytpfnjkmkenaipaa
open Go.RowKit Nm
set_option linter.unusedSimpArgs false
set_option linter.unusedVariables false

theorem spotsI_at {L : List Lgr} {pl : List Nat} {k i : Nat} (h : pl[k]? = some i) : spotsI L (pl.drop k) = ownS L i ++ (if stopAt L i then [] else spotsI L (pl.drop (k + 1))) := by
  obtain ⟨hk, rfl⟩ := List.getElem?_eq_some_iff.1 h
  rw [List.drop_eq_getElem_cons hk, spotsI]
theorem spotsI_end {L : List Lgr} {pl : List Nat} {k : Nat} (h : pl.length ≤ k) : spotsI L (pl.drop k) = [] := by
  rw [List.drop_eq_nil_of_le h, spotsI]

set_option maxHeartbeats 8000000 in
set_option maxRecDepth 100000 in
theorem specSpots_c {w : World} {B b o n1 k1 n2 k2 : Nat} {A2 : Option Addr} {L : List Lgr} {ls : List LgrV} (H : List Hnd) (q : Int) (x : ByteArray) (hl : Ls w B n1 (.slice (some ⟨b, o, none⟩) n1 k1) ls) (hL : lsOf ls = L) (hN : lnames ls = nsOf L) (hn : n1 = L.length) (hB : B ≤ w.heap.size) (hbB : b < B)
    (hok : treeOk L H q = true) (hx : x.size ≤ maxTxt) :
    Calls Try.prog 43 #[.agg #[.slice (some ⟨b, o, none⟩) n1 k1, .slice A2 n2 k2, .int .i64 q], .string x] w (RowPost w 50 2 (spotsI L (pathN (nsOf L) x.data.toList)).length ((spotsI L (pathN (nsOf L) x.data.toList)).flatMap spcells)) := by
  unfold maxTxt at hx
  obtain ⟨h0, hnd, hnm, hlen, _⟩ := tree_ns hok
  rw [← hn] at hlen
  obtain ⟨_, _, _, h8, _, _⟩ := tree_names hok
  have hn8 : n1 ≤ 8 := by omega
  have CP := hid (fun (W : World) (hW : Below w.heap.size w W) => specPath_c (some ⟨b, o, none⟩) A2 n1 k1 n2 k2 B q ls x W (hl.below hW hB) (Nat.le_trans hB hW.size) (by omega) (by unfold maxLen; omega) (by rw [hN]; exact h0) (by rw [hN]; exact hnm))
  rw [hN] at CP
  have HPL := hid (show (pathN (nsOf L) x.data.toList).length ≤ 5 ∧ ∀ i ∈ pathN (nsOf L) x.data.toList, i < n1 from ⟨pathF_len _ _ _, by rw [← hlen]; exact pathF_lt h0 _ _ (near_lt h0 _)⟩)
  have hcap := hl.1.cap
  unfold maxLen at hcap
  have HH := hid (hsAt_len hok)
  have HV := hid (And.intro hl (And.intro hL hbB))
  clear hok hl hL hN h0 hnd hnm hlen hn h8
  generalize hk : pathN (nsOf L) x.data.toList = pl at *
  clear hk
  have H30 := hid (spotsI_len HH.out pl)
  obtain ⟨w2, hw2⟩ : ∃ w2, w2 = w.alloc (.cells #[.slice (some ⟨b, o, none⟩) n1 k1, .slice A2 n2 k2, .int .i64 q] 32) := ⟨_, rfl⟩
  have hs2 : w2.heap.size = w.heap.size + 1 := by rw [hw2]; simp
  have HB2 := hid (show Below w.heap.size w w2 by rw [hw2]; exact (Below.refl _ _).alloc (Nat.le_refl _) _)
  have HK2 := hid (show Blk w2 w.heap.size [.slice (some ⟨b, o, none⟩) n1 k1, .slice A2 n2 k2, .int .i64 q] by rw [hw2]; exact Blk.new w _ _)
  have HW2 := hid hw2
  have HS2 := hid hs2
  clear hw2 hs2
  go_enter Try.func43, Try.ntmps43
  go_wp2_with fail
  refine (CP.out _ ?_).mono ?_
  case refine_1 => go_grown
  rintro e w3 ⟨vi, rfl, hoi, hb3⟩
  rw [← HW2.out] at hoi hb3
  have hs2 := HS2.out
  have hw2 : w.heap.size < w2.heap.size := by omega
  obtain ⟨Ai, ci, rfl, hic, hicm⟩ := (Sl.of_own hoi).form
  unfold maxLen at hicm
  have hz3 : (w2.alloc (.cells #[] 50)).heap.size = w2.heap.size + 1 := by simp
  have H0 := hid (show w3.ownsRow w2.heap.size 50 2 (.slice (some ⟨w2.heap.size, 0, none⟩) 0 0) 0 [] from own_below (World.ownsRow_lit w2 #[] 0 (Nat.le_refl _) (by unfold maxLen; omega) rfl) hb3)
  rw [hz3] at hoi
  have HOi := hid hoi
  have HA := hid (show ∀ g, (Value.slice (some ⟨w2.heap.size, 0, none⟩) 0 0).ownBlock = some g → (Value.slice Ai pl.length ci).ownBlock ≠ some g from by
    intro g hg e
    have h1 := (hoi.lt g e).1
    simp [Value.ownBlock] at hg h1
    omega)
  have HB3 := hid (Below.trans ((Below.refl w2.heap.size w2).alloc (Nat.le_refl _) _) (hb3.mono (by simp)) : Below w2.heap.size w2 w3)
  rw [hs2] at H0 HA
  have hw23 : w2.heap.size ≤ w3.heap.size := HB3.out.size
  clear hoi hb3 hz3
  go_wp2_with fail
  go_loopw [5, 7] (fun sv iv wr => ∃ (k : Nat) (pre : List Spt), iv = .int .i64 k ∧ k ≤ pl.length ∧ Hid (pre ++ spotsI L (pl.drop k) = spotsI L pl) ∧ wr.ownsRow (w.heap.size + 1) 50 2 sv pre.length (pre.flatMap spcells) ∧ Hid (wr.ownsRow (w2.heap.size + 1) 3 1 (.slice Ai pl.length ci) pl.length (pl.map icell)) ∧ Hid (∀ g, sv.ownBlock = some g → (Value.slice Ai pl.length ci).ownBlock ≠ some g) ∧ Hid (Below w2.heap.size w2 wr)) (fun _ iv _ => pl.length - (intOf iv).toNat)
  case atStart => exact ⟨0, [], rfl, by omega, rfl, H0.out, (show w3.ownsRow _ _ _ _ _ _ by simpa using HOi.out), HA.out, HB3.out⟩
  case round =>
    obtain ⟨k, pre, rfl, hk, HE2, hown, HI, HAp, HBx⟩ := hrel
    obtain ⟨Ax, cx, rfl, _, _⟩ := (Sl.of_own hown).form
    have HO := hid hown
    clear hown
    have HW := hid (HB2.out.trans (HBx.out.mono HB2.out.size))
    have hpl5 := HPL.out.1
    by_cases hlt : k < pl.length
    · obtain ⟨bi, oi, i, rfl, hbi, hxi, ic⟩ := ints_at (Sl.of_own HI.out) hlt
      have hi1 : i < n1 := HPL.out.2 i (List.mem_of_getElem? hxi)
      have HXI := hid (spotsI_at (L := L) hxi)
      have hbw : b < w.heap.size := by have := HV.out.2.2; omega
      obtain ⟨p, A3, hn', k3, A4, fn, k4, hp, hps, ht, _, g0, g1, g2, g3, g4, g5⟩ := logger_at HV.out.1 HV.out.2.1 hi1
      have hcap3 := ht.1.cap
      unfold maxLen at hcap3
      have htl := ht.count
      have hn6 : hn' ≤ 6 := by have := HH.out i; omega
      have HP := hid (And.intro hp hps)
      have HT := hid (And.intro ht htl)
      have d0 := ((HK2.out.below HBx.out hw2).2 0 _ rfl).1
      have c0 := (HW.out.cell (p := ⟨b, o + i * 6, none⟩) hbw).trans g0
      have c1 := (HW.out.cell (p := ⟨b, o + i * 6 + 1, none⟩) hbw).trans g1
      have c2 := (HW.out.cell (p := ⟨b, o + i * 6 + 2, none⟩) hbw).trans g2
      have c3 := (HW.out.cell (p := ⟨b, o + i * 6 + 3, none⟩) hbw).trans g3
      have c4 := (HW.out.cell (p := ⟨b, o + i * 6 + 4, none⟩) hbw).trans g4
      have c5 := (HW.out.cell (p := ⟨b, o + i * 6 + 5, none⟩) hbw).trans g5
      have hpl : pre.length ≤ 30 := by
        have e1 := congrArg List.length HE2.out
        rw [List.length_append] at e1
        have := H30.out
        omega
      have HPl := hid hpl
      have s0 : (0 : Int) ≤ (k : Int) := by omega
      have s1 : (k : Int) < (pl.length : Int) := by omega
      have s2 : ((k : Int)).toNat = k := by simp
      have t0 : (0 : Int) ≤ (i : Int) := by omega
      have t1 : (i : Int) < (n1 : Int) := by omega
      have t2 : ((i : Int)).toNat = i := by simp
      have hwr : w.heap.size < wr.heap.size := by have := HBx.out.size; omega
      have hbr : b < wr.heap.size := by omega
      clear hp hps hxi g0 g1 g2 g3 g4 g5 ht htl hpl
      go_wp2_with fail
      go_region_held3 (fun w' => w'.cell? ⟨w.heap.size, 0, none⟩ = some (.slice (some ⟨b, o, none⟩) n1 k1) ∧ w'.cell? ⟨bi, oi + k, none⟩ = some (.int .i64 i) ∧ w'.cell? ⟨b, o + i * 6, none⟩ = some (.string p) ∧ w'.cell? ⟨b, o + i * 6 + 1, none⟩ = some (.int .i64 (lvAt L i)) ∧ w'.cell? ⟨b, o + i * 6 + 2, none⟩ = some (.slice A3 hn' k3) ∧ w'.cell? ⟨b, o + i * 6 + 3, none⟩ = some (.slice A4 fn k4) ∧ w'.cell? ⟨b, o + i * 6 + 4, none⟩ = some (.bool (stopAt L i)) ∧ w'.cell? ⟨b, o + i * 6 + 5, none⟩ = some (.bool (offAt L i))) (first | go_keep) (fail)
      obtain ⟨wa, hwa⟩ : ∃ wa, wa = (wr.alloc (.cells #[.string p, .int .i64 (lvAt L i), .slice A3 hn' k3, .slice A4 fn k4, .bool (stopAt L i), .bool (offAt L i)] 47)).drew := ⟨_, rfl⟩
      have hba : Below wr.heap.size wr wa := by rw [hwa]; exact ((Below.refl _ _).alloc (Nat.le_refl _) _).drew
      have hza : wa.heap.size = wr.heap.size + 1 := by rw [hwa]; show (wr.alloc _).heap.size = _; simp
      obtain ⟨bx, hbx⟩ : ∃ bx, bx = wr.heap.size := ⟨_, rfl⟩
      have HKx := hid (show Blk wa bx [.string p, .int .i64 (lvAt L i), .slice A3 hn' k3, .slice A4 fn k4, .bool (stopAt L i), .bool (offAt L i)] by rw [hwa, hbx]; exact (Blk.new wr _ _).dr 1)
      have HOa := hid (own_below HO.out hba)
      have HIa := hid (own_below HI.out hba)
      have HBa := hid (HBx.out.trans (hba.mono HBx.out.size))
      have HXa := hid (show ∀ g, (Value.slice Ax pre.length cx).ownBlock = some g → g ≠ bx from fun g hg e => by have := (HO.out.lt g hg).2; omega)
      rw [← hwa]
      clear hba hza d0 ic c0 c1 c2 c3 c4 c5 hwa
      rw [← hbx]
      have hwx : w.heap.size < bx := by omega
      clear hbx
      go_wp2_with fail
      go_loopw [5, 9] (fun sv jv wr => ∃ (j : Nat) (cur : List Spt), jv = .int .i64 j ∧ j ≤ hn' ∧ Hid (cur = pre ++ ownK L i j) ∧ wr.ownsRow (w.heap.size + 1) 50 2 sv cur.length (cur.flatMap spcells) ∧ Hid (wr.ownsRow (w2.heap.size + 1) 3 1 (.slice (some ⟨bi, oi, none⟩) pl.length ci) pl.length (pl.map icell)) ∧ Hid (∀ g, sv.ownBlock = some g → (Value.slice (some ⟨bi, oi, none⟩) pl.length ci).ownBlock ≠ some g) ∧ Hid (∀ g, sv.ownBlock = some g → g ≠ bx) ∧ Hid (Blk wr bx [.string p, .int .i64 (lvAt L i), .slice A3 hn' k3, .slice A4 fn k4, .bool (stopAt L i), .bool (offAt L i)]) ∧ Hid (Below w2.heap.size w2 wr)) (fun _ jv _ => hn' - (intOf jv).toNat)
      case atStart => exact ⟨0, pre, rfl, by omega, (show _ = _ by rw [ownK_zero, List.append_nil]), HOa.out, HIa.out, HAp.out, HXa.out, HKx.out, HBa.out⟩
      case round =>
        obtain ⟨j, cur, rfl, hj, HCu, hown, HIj, HAj, HXj, HKj, HBj⟩ := hrel
        obtain ⟨Ay, cy, rfl, _, _⟩ := (Sl.of_own hown).form
        have HOj := hid hown
        have HWj := hid (HB2.out.trans (HBj.out.mono HB2.out.size))
        have x2 := (HKj.out.2 2 _ rfl).1
        clear hown
        by_cases hjn : j < hn'
        · obtain ⟨bt, ot, s, rfl, hbt, hxs, hss, gt⟩ := HT.out.1.text hjn
          have hbtw : bt < w.heap.size := by omega
          have et := (HWj.out.cell (p := ⟨bt, ot + j, none⟩) hbtw).trans gt
          have x0 := (HKj.out.2 0 _ rfl).1
          have hlj : cur.length ≤ 1048576 := by
            rw [HCu.out, List.length_append]
            have := ownK_len L i j
            have := HPl.out
            omega
          have HX := hid hxs
          obtain ⟨v', w4, hrun, ho4, hg4, hloc⟩ := runSpot wr (w.heap.size + 1) _ cur HOj.out p s hlj (by have := HBj.out.size; omega)
          have HR := hid hrun
          have HO4 := hid ho4
          have HA4 := hid (apart_kept HIj.out HAj.out hg4 hloc)
          have HB4 := hid (HBj.out.grown hg4 HBj.out.size (fun z hz => by have := own_lt HOj.out z hz; omega))
          have hne : some bx ≠ (Value.slice Ay cur.length cy).ownBlock := fun e => HXj.out bx e.symm rfl
          have HK4 := hid (HKj.out.kept hg4 hne)
          have HX4 := hid (show ∀ g, v'.ownBlock = some g → g ≠ bx from fun g hg => by
            rcases hloc with h | h
            · exact HXj.out g (h.symm.trans hg)
            · rw [h] at hg
              have h1 : wr.heap.size + 1 = g := by simpa using hg
              have := HKj.out.1
              omega)
          have S4 := hid (And.intro (HK4.out.2 0 _ rfl).1 (And.intro (HK4.out.2 2 _ rfl).1 (((HB2.out.trans (HB4.out.mono HB2.out.size)).cell (p := ⟨bt, ot + j, none⟩) hbtw).trans gt)))
          have s0 : (0 : Int) ≤ (j : Int) := by omega
          have s1 : (j : Int) < (hn' : Int) := by omega
          have s2 : ((j : Int)).toNat = j := by simp
          have hwr : bx < wr.heap.size := HKj.out.1
          have hbr : bt < wr.heap.size := by omega
          clear hxs hss gt hrun ho4 hg4 hloc hne
          go_wp2_with fail
          go_region_held3 (fun w' => w'.cell? ⟨bx, 0, none⟩ = some (.string p) ∧ w'.cell? ⟨bx, 2, none⟩ = some (.slice (some ⟨bt, ot, none⟩) hn' k3) ∧ w'.cell? ⟨bt, ot + j, none⟩ = some (.string s)) (first | go_keep | exact S4.out) (first | (refine wp_app rfl (by rfl) (by rfl) HR.out ?_))
          go_wp2_with fail
          go_roundw
          case rel =>
            refine ⟨j + 1, cur ++ [⟨p.data.toList, s.data.toList⟩], by go_num, by omega, ?_, by simpa using HO4.out, HA4.out.1, HA4.out.2, HX4.out, HK4.out, HB4.out⟩
            show _ = _
            rw [ownK_step HX.out, ← List.append_assoc, ← HP.out.1, HCu.out]
          case measure => simp [intOf]; omega
        · obtain rfl : j = hn' := by omega
          have hoK : ownK L i j = ownS L i := ownK_all (by have := HT.out.2; omega)
          have HCL := hid (show cur = pre ++ ownS L i by rw [HCu.out, hoK])
          have x4 := (HKj.out.2 4 _ rfl).1
          clear hoK
          cases hst : stopAt L i with
          | true =>
            rw [hst] at x4
            have HF := hid (show spotsI L pl = cur by rw [HCL.out, ← HE2.out, HXI.out, hst]; simp)
            clear hst
            go_wp2_with fail
            go_ret
            exact ⟨_, rfl, by rw [HF.out]; exact own_base HOj.out (by omega), HWj.out⟩
          | false =>
            rw [hst] at x4
            have HF := hid (show cur ++ spotsI L (pl.drop (k + 1)) = spotsI L pl by rw [HCL.out, ← HE2.out, HXI.out, hst]; simp)
            clear hst
            go_wp2_with fail
            go_roundw
            case rel => exact ⟨k + 1, cur, by go_num, by omega, HF.out, HOj.out, HIj.out, HAj.out, HBj.out⟩
            case measure => simp [intOf]; omega
    · have hle : spotsI L (pl.drop k) = [] := spotsI_end (by omega)
      have HF := hid (show spotsI L pl = pre by rw [← HE2.out, hle, List.append_nil])
      clear hle
      go_wp2_with fail
      go_ret
      exact ⟨_, rfl, by rw [HF.out]; exact own_base HO.out (by omega), HW.out⟩
end Go.Proofs.Ytpfnjkmkenaipaa
