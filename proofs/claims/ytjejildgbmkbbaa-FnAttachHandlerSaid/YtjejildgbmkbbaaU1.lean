/-
  WALKS: UsersOf, UsedHandlers of both; the library's Index and Contains over texts.
-/
import Derived.Test.YtjejildgbmkbbaaU0
namespace Go.Proofs.Ytjejildgbmkbbaa
open Go.RowKit Nm
set_option linter.unusedSimpArgs false
set_option linter.unusedVariables false

set_option maxHeartbeats 1000000 in
set_option maxRecDepth 100000 in
theorem indexTxt_c (v : Value) (n B : Nat) (l : List (List UInt8)) (s : ByteArray) (w : World) (hv : Txts w B n v l) :
    Calls Try.prog 36 #[v, .string s] w fun e w' => e = .returned (.int .i64 (idxL l s.data.toList)) ∧ w = w' := by
  have hln := hv.count
  obtain ⟨A, c, rfl, hnc, hcm⟩ := hv.1.form
  unfold maxLen at hcm
  have HV := hid (And.intro hv hln)
  clear hv hln
  go_enter Try.func36, Try.ntmps36
  go_wp2_with fail
  go_loop [8] (fun iv => ∃ k : Nat, iv = .int .i64 k ∧ k ≤ n ∧ Hid (s.data.toList ∉ l.take k)) (fun iv => n - (intOf iv).toNat)
  case atStart => exact ⟨0, rfl, by omega, by simp [Hid]⟩
  case round =>
    obtain ⟨k, rfl, hk, HN⟩ := hrel
    by_cases hlt : k < n
    · obtain ⟨b, o, t, rfl, hb, hxn, _, g0⟩ := HV.out.1.text hlt
      have HX := hid hxn
      clear hxn
      have s0 : (0 : Int) ≤ (k : Int) := by omega
      have s1 : (k : Int) < (n : Int) := by omega
      have s2 : ((k : Int)).toNat = k := by simp
      by_cases he : s.data.toList = t.data.toList
      · have e1 := eq_true_of he
        have HE := hid (show idxL l s.data.toList = (k : Int) from idx_hit _ _ _ (by rw [he]; exact HX.out) HN.out)
        clear he
        go_wp2_with fail
        go_ret
        exact ⟨ret_int HE.out.symm, rfl⟩
      · have e1 := eq_false_of he
        have HE := hid (not_take_succ _ _ _ _ HN.out HX.out (fun e => he e.symm))
        clear he
        go_wp2_with fail
        refine ⟨⟨k + 1, by go_num, by omega, HE⟩, by simp [intOf]; omega⟩
    · have HE := hid (show idxL l s.data.toList = -1 from idx_miss _ _ (by have := HN.out; rwa [List.take_of_length_le (by have := HV.out.2; omega)] at this))
      go_wp2_with fail
      go_ret
      exact ⟨ret_int HE.out.symm, rfl⟩
theorem idx_ge (l : List (List UInt8)) (x : List UInt8) : decide (0 ≤ idxL l x) = decide (x ∈ l) := by
  refine decide_eq_decide.2 ⟨fun h => ?_, fun h => ?_⟩
  · apply Classical.byContradiction; intro hn; rw [idx_miss _ _ hn] at h; omega
  · unfold idxL; rw [if_pos h]; omega
set_option maxHeartbeats 400000 in
set_option maxRecDepth 100000 in
theorem containsTxt_c (v : Value) (n B : Nat) (l : List (List UInt8)) (s : ByteArray) (w : World) (hv : Txts w B n v l) :
    Calls Try.prog 18 #[v, .string s] w fun e w' => e = .returned (.bool (decide (s.data.toList ∈ l))) ∧ w = w' := by
  have C := hid (indexTxt_c v n B l s w hv)
  obtain ⟨A, c, rfl, hnc, hcm⟩ := hv.1.form
  have HE := hid (idx_ge l s.data.toList)
  generalize decide (s.data.toList ∈ l) = z at HE ⊢
  generalize idxL l s.data.toList = x at C HE
  clear hv
  go_enter Try.func18, Try.ntmps18
  go_wp2_with fail
  refine C.out.mono ?_
  rintro e w1 ⟨rfl, rfl⟩
  go_wp2_with fail
  go_ret
  exact ⟨ret_bool HE.out, rfl⟩

set_option maxHeartbeats 4000000 in
set_option maxRecDepth 100000 in
theorem implUsersOf_c {w : World} {B : Nat} {v : Value} {L : List Lgr} {H : List Hnd} {q : Int} (x : ByteArray) (h : TreeIn w B v L H q) (hB : B ≤ w.heap.size) :
    Calls Try.prog 11 #[v, .string x] w (StrsPost w (usersT L H q x.data.toList)) := by
  have C := hid (fun (W : World) (hW : Below w.heap.size w W) => implValidTreeX_c (h.below hW hB) (Nat.le_trans hB hW.size))
  cases hz : treeOk L H q with
  | false =>
    have HE := hid (show usersT L H q x.data.toList = [] by unfold usersT; rw [hz]; rfl)
    obtain ⟨A1, n1, k1, A2, n2, k2, rfl⟩ := h.form
    rw [hz] at C
    clear h hz
    go_enter Try.func11, Try.ntmps11
    go_wp2_with fail
    refine (C.out _ ?_).mono ?_
    case refine_1 => go_grown
    rintro e w1 ⟨rfl, hb1⟩
    have HB1 := hid (Below.trans (by go_grown) (hb1.mono (by simp; try omega)) : Below w.heap.size w w1)
    clear hb1
    go_wp2_with fail
    go_ret
    exact ⟨_, rfl, by rw [HE.out]; exact World.ownsRow_nil _ _ _ _, HB1.out⟩
  | true =>
    rw [hz] at C
    obtain ⟨b, o, n1, k1, A2, n2, k2, ls, rfl, hl, hL, hN, hn, hn8, hn1, hbB⟩ := h.opened hz
    have HE := hid (show usersT L H q x.data.toList = usersK L x.data.toList L.length by unfold usersT usersN; rw [hz]; rfl)
    have CC := hid (fun (v : Value) (m : Nat) (l : List (List UInt8)) (W : World) (hW : Txts W B m v l) => containsTxt_c v m B l x W hW)
    have HV := hid (And.intro hl (And.intro hL hn))
    clear h hz hl hN hn hL
    go_enter Try.func11, Try.ntmps11
    go_wp2_with fail
    refine (C.out _ ?_).mono ?_
    case refine_1 => go_grown
    rintro e w1 ⟨rfl, hb1⟩
    have K1 := (Blk.new _ _ _).to hb1
    simp only [World.size_alloc] at K1
    have HK1 := hid K1
    have HB1 := hid (Below.trans (by go_grown) (hb1.mono (by simp; try omega)) : Below w.heap.size w w1)
    clear hb1 K1
    have d0 := (HK1.out.2 0 _ rfl).1
    go_wp2_with fail
    clear d0
    go_loopw [5, 14] (fun sv iv wr => ∃ (k : Nat), iv = .int .i64 k ∧ k ≤ n1 ∧ wr.ownsRow w1.heap.size 9 1 sv (usersK L x.data.toList k).length ((usersK L x.data.toList k).map txt) ∧ Hid (Below w1.heap.size w1 wr)) (fun _ iv _ => n1 - (intOf iv).toNat)
    case atStart => exact ⟨0, rfl, by omega, World.ownsRow_nil _ _ _ _, Below.refl _ _⟩
    case round =>
      obtain ⟨k, rfl, hk, hown, HBx⟩ := hrel
      have hfl := usersK_len L x.data.toList k
      obtain ⟨Ax, cx, rfl, _, _⟩ := (Sl.of_own hown).form
      have HO := hid hown
      clear hown
      have HW := hid (HB1.out.trans (HBx.out.mono HB1.out.size))
      by_cases hlt : k < n1
      · obtain ⟨p, A3, hn', k3, A4, fn, k4, hp, hps, ht, _, c0, c1, c2, c3, c4, c5⟩ := logger_at (HV.out.1.below HW.out hB) HV.out.2.1 hlt
        have HB0 := hid (HBx.out.alloc HBx.out.size (.cells #[.string p, .int .i64 (lvAt L k), .slice A3 hn' k3, .slice A4 fn k4, .bool (stopAt L k), .bool (offAt L k)] 48))
        have HO0 := hid (HO.out.alloc (.cells #[.string p, .int .i64 (lvAt L k), .slice A3 hn' k3, .slice A4 fn k4, .bool (stopAt L k), .bool (offAt L k)] 48))
        have hbb : B ≤ wr.heap.size := Nat.le_trans hB HW.out.size
        have HT := hid (ht.below ((Below.refl wr.heap.size wr).alloc (Nat.le_refl _) (.cells #[.string p, .int .i64 (lvAt L k), .slice A3 hn' k3, .slice A4 fn k4, .bool (stopAt L k), .bool (offAt L k)] 48)) hbb)
        have CK := hid (CC.out _ _ _ _ HT.out)
        have HP := hid hp
        have HMt := hid (fun (hm : x.data.toList ∈ hsAt L k) => (show usersK L x.data.toList (k + 1) = usersK L x.data.toList k ++ [p.data.toList] by rw [HP.out]; exact usersK_hit (by rw [← HV.out.2.2]; exact hlt) hm))
        have HMf := hid (fun (hm : ¬ x.data.toList ∈ hsAt L k) => (show usersK L x.data.toList (k + 1) = usersK L x.data.toList k from usersK_miss (by rw [← HV.out.2.2]; exact hlt) hm))
        clear hp hps ht
        by_cases hm : x.data.toList ∈ hsAt L k
        · have HF := hid (HMt.out hm)
          rw [decide_eq_true hm] at CK
          clear hm
          go_wp2_with (first | (go_at_call 18; refine CK.out.mono ?_; rintro e w3 ⟨rfl, h9⟩; obtain rfl := h9.symm; clear h9) | (at_builtin; (refine appText _ rfl (.tmp 22) (.tmp 25) rfl w1.heap.size _ (usersK L x.data.toList k) (by rfl) HO0.out p _ _ _ (by rfl) (by simp) (by omega) HB0.out.size ?_)))
          intro v' w4 ho4 hb4
          have HO4 := hid ho4
          have HB4 := hid (HB0.out.trans hb4)
          clear ho4 hb4
          go_wp2_with fail
          go_roundw
          case rel => exact ⟨k + 1, by go_num, by omega, by rw [HF.out]; simpa using HO4.out, HB4.out⟩
          case measure => simp [intOf]; omega
        · have HF := hid (HMf.out hm)
          rw [decide_eq_false hm] at CK
          clear hm
          go_wp2_with (go_at_call 18; refine CK.out.mono ?_; rintro e w3 ⟨rfl, h9⟩; obtain rfl := h9.symm; clear h9)
          go_roundw
          case rel => exact ⟨k + 1, by go_num, by omega, by rw [HF.out]; exact HO0.out, HB0.out⟩
          case measure => simp [intOf]; omega
      · obtain rfl : k = n1 := by omega
        have HF := hid (show usersT L H q x.data.toList = usersK L x.data.toList k by rw [HE.out, ← HV.out.2.2])
        go_wp2_with fail
        go_ret
        exact ⟨_, rfl, by rw [HF.out]; exact own_base HO.out HB1.out.size, HW.out⟩

end Go.Proofs.Ytjejildgbmkbbaa
