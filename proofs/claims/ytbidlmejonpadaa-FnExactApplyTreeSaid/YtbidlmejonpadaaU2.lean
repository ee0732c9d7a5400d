/-
  WALKS: UsedHandlers of both.
-/
import Derived.Test.YtbidlmejonpadaaU1
namespace Go.Proofs.Ytbidlmejonpadaa
open Go.RowKit Nm
set_option linter.unusedSimpArgs false
set_option linter.unusedVariables false

theorem TreeIn.hands {w : World} {B n1 k1 n2 k2 : Nat} {A1 A2 : Option Addr} {L : List Lgr} {H : List Hnd} {q : Int} (h : TreeIn w B (.agg #[.slice A1 n1 k1, .slice A2 n2 k2, .int .i64 q]) L H q) :
    ∃ hs, Hs w B n2 (.slice A2 n2 k2) hs ∧ hsOf hs = H := by
  obtain ⟨ls, hs, ⟨A1', n1', k1', A2', n2', k2', e, _, h1, _⟩, h2, h3⟩ := h
  simp at e
  obtain ⟨⟨rfl, rfl, rfl⟩, ⟨rfl, rfl, rfl⟩⟩ := e
  exact ⟨hs, h1, h3⟩
/-- handler k: its cells -/
theorem handler_at {w : World} {B n k2 : Nat} {A : Option Addr} {hs : List HndV} {H : List Hnd} (hh : Hs w B n (.slice A n k2) hs) (hH : hsOf hs = H) {k : Nat} (hk : k < n) :
    ∃ (b o : Nat) (p : ByteArray) (h : Hnd) (A4 : Option Addr) (fn k4 : Nat), A = some ⟨b, o, none⟩ ∧ b < B ∧ H[k]? = some h ∧ p.data.toList = h.nm ∧ p.size ≤ maxTxt ∧ Fs w B fn (.slice A4 fn k4) h.fs ∧
      w.cell? ⟨b, o + k * 3, none⟩ = some (.string p) ∧ w.cell? ⟨b, o + k * 3 + 1, none⟩ = some (.int .i64 h.lv) ∧ w.cell? ⟨b, o + k * 3 + 2, none⟩ = some (.slice A4 fn k4) := by
  obtain ⟨b, o, x, s, e, hb, hx, hs', hz, hf, c0, c1, c2⟩ := hh.at_ hk
  obtain ⟨A4, k4, e4, _, _⟩ := hf.1.form
  rw [e4] at hf c2
  exact ⟨b, o, s, x.h, A4, x.fn, k4, e, hb, by rw [← hH]; unfold hsOf; rw [List.getElem?_map, hx]; rfl, hs', hz, hf, c0, c1, c2⟩

set_option maxHeartbeats 4000000 in
set_option maxRecDepth 100000 in
theorem implUsedHandlers_c {w : World} {B : Nat} {v : Value} {L : List Lgr} {H : List Hnd} {q : Int} (h : TreeIn w B v L H q) (hB : B ≤ w.heap.size) :
    Calls Try.prog 21 #[v] w (StrsPost w (usedT L H q)) := by
  have C := hid (fun (W : World) (hW : Below w.heap.size w W) => implValidTreeX_c (h.below hW hB) (Nat.le_trans hB hW.size))
  have CU := hid (fun (x : ByteArray) (W : World) (hW : Below w.heap.size w W) => implUsersOf_c x (h.below hW hB) (Nat.le_trans hB hW.size))
  obtain ⟨A1, n1, k1, A2, n2, k2, rfl⟩ := h.form
  cases hz : treeOk L H q with
  | false =>
    have HE := hid (show usedT L H q = [] by unfold usedT; rw [hz]; rfl)
    rw [hz] at C
    clear h hz CU
    go_enter Try.func21, Try.ntmps21
    go_wp2_with fail
    refine (C.out _ ?_).mono ?_
    case refine_1 => go_grown
    rintro e w1 ⟨rfl, hb1⟩
    have HB1 := hid (Below.trans (by go_grown) (hb1.mono (by simp; try omega)) : Below w.heap.size w w1)
    clear hb1
    go_wp2_with fail
    go_ret
    exact ⟨_, rfl, by rw [HE.out]; exact World.ownsRow_nil _ _ _ _, HB1.out⟩
  | true =>
    rw [hz] at C
    obtain ⟨hs, hh, hH⟩ := h.hands
    have hn : n2 = H.length := by rw [← hH]; unfold hsOf; rw [List.length_map]; exact hh.count.symm
    have hn6 : n2 ≤ 6 := by rw [hn]; exact tree_hlen hz
    have HE := hid (show usedT L H q = usedK L H H.length by unfold usedT; rw [hz]; rfl)
    have HU := hid (fun (x : Name) => (show usersT L H q x = usersN L x by unfold usersT; rw [hz]; rfl))
    have HV := hid (And.intro hh (And.intro hH hn))
    clear h hz hh hH hn
    go_enter Try.func21, Try.ntmps21
    go_wp2_with fail
    refine (C.out _ ?_).mono ?_
    case refine_1 => go_grown
    rintro e w1 ⟨rfl, hb1⟩
    have K1 := (Blk.new _ _ _).to hb1
    simp only [World.size_alloc] at K1
    have HK1 := hid K1
    have HB1 := hid (Below.trans (by go_grown) (hb1.mono (by simp; try omega)) : Below w.heap.size w w1)
    have hw1 : w.heap.size < w1.heap.size := HK1.out.1
    clear hb1 K1
    have d1 := (HK1.out.2 1 _ rfl).1
    go_wp2_with fail
    clear d1
    go_loopw [3, 12] (fun sv iv wr => ∃ (k : Nat), iv = .int .i64 k ∧ k ≤ n2 ∧ wr.ownsRow w1.heap.size 9 1 sv (usedK L H k).length ((usedK L H k).map txt) ∧ Hid (Below w1.heap.size w1 wr)) (fun _ iv _ => n2 - (intOf iv).toNat)
    case atStart => exact ⟨0, rfl, by omega, World.ownsRow_nil _ _ _ _, Below.refl _ _⟩
    case round =>
      obtain ⟨k, rfl, hk, hown, HBx⟩ := hrel
      have hfl := usedK_len L H k
      obtain ⟨Ax, cx, rfl, _, _⟩ := (Sl.of_own hown).form
      have HO := hid hown
      clear hown
      have HW := hid (HB1.out.trans (HBx.out.mono HB1.out.size))
      by_cases hlt : k < n2
      · obtain ⟨b, o, p, x, A4, fn, k4, rfl, hbB, hx, hp, hps, _, c0, c1, c2⟩ := handler_at (HV.out.1.below HW.out hB) HV.out.2.1 hlt
        have HB0 := hid (HBx.out.alloc HBx.out.size (.cells #[.string p, .int .i64 x.lv, .slice A4 fn k4] 49))
        have HO0 := hid (HO.out.alloc (.cells #[.string p, .int .i64 x.lv, .slice A4 fn k4] 49))
        have HW0 := hid (HB1.out.trans (HB0.out.mono HB1.out.size))
        have CUp := hid (CU.out p _ HW0.out)
        rw [HU.out p.data.toList] at CUp
        have HP := hid hp
        have HX := hid hx
        have HC := hid (Below.refl (wr.alloc (.cells #[.string p, .int .i64 x.lv, .slice A4 fn k4] 49)).heap.size (wr.alloc (.cells #[.string p, .int .i64 x.lv, .slice A4 fn k4] 49)))
        have HK0 := hid (HK1.out.below HB0.out hw1)
        have d0 := (HK0.out.2 0 _ rfl).1
        have d1 := (HK0.out.2 1 _ rfl).1
        have d2 := (HK0.out.2 2 _ rfl).1
        have HMt := hid (fun (hm : 0 < (usersN L p.data.toList).length) => (show usedK L H (k + 1) = usedK L H k ++ [p.data.toList] by rw [HP.out]; exact usedK_hit HX.out (by rw [← HP.out]; exact hm)))
        have HMf := hid (fun (hm : ¬ 0 < (usersN L p.data.toList).length) => (show usedK L H (k + 1) = usedK L H k from usedK_miss HX.out (by rw [← HP.out]; exact hm)))
        have hul := usersK_len L p.data.toList L.length
        clear hp hps hx
        generalize usersN L p.data.toList = U at *
        go_wp2_with fail
        refine (CUp.out).mono ?_
        rintro e w3 ⟨vu, rfl, hou, hb3⟩
        obtain ⟨Au, cu, rfl, _, _⟩ := (Sl.of_own hou).form
        have HB3 := hid (HB0.out.trans (hb3.mono HB0.out.size))
        have HO3 := hid (own_below HO0.out hb3)
        replace HC := hid (HC.out.trans (hb3.mono HC.out.size))
        clear hou hb3 d0 d1 d2
        have e0 := box_cell HC.out 0
        by_cases hm : (0 : Int) < (U.length : Int)
        · have HF := hid (HMt.out (by omega))
          go_wp2_with (at_builtin; (refine appText _ rfl (.tmp 22) (.tmp 25) rfl w1.heap.size _ (usedK L H k) (by rfl) HO3.out p _ _ _ (by rfl) (by simp) (by omega) HB3.out.size ?_))
          intro v' w4 ho4 hb4
          have HO4 := hid ho4
          have HB4 := hid (HB3.out.trans hb4)
          clear ho4 hb4
          go_wp2_with fail
          go_roundw
          case rel => exact ⟨k + 1, by go_num, by omega, by rw [HF.out]; simpa using HO4.out, HB4.out⟩
          case measure => simp [intOf]; omega
        · have HF := hid (HMf.out (by omega))
          go_wp2_with fail
          go_roundw
          case rel => exact ⟨k + 1, by go_num, by omega, by rw [HF.out]; exact HO3.out, HB3.out⟩
          case measure => simp [intOf]; omega
      · obtain rfl : k = n2 := by omega
        have HF := hid (show usedT L H q = usedK L H k by rw [HE.out, ← HV.out.2.2])
        go_wp2_with fail
        go_ret
        exact ⟨_, rfl, by rw [HF.out]; exact own_base HO.out HB1.out.size, HW.out⟩

set_option maxHeartbeats 4000000 in
set_option maxRecDepth 100000 in
theorem specUsedHandlers_c {w : World} {B : Nat} {v : Value} {L : List Lgr} {H : List Hnd} {q : Int} (h : TreeIn w B v L H q) (hB : B ≤ w.heap.size) :
    Calls Try.prog 20 #[v] w (StrsPost w (usedT L H q)) := by
  have C := hid (fun (W : World) (hW : Below w.heap.size w W) => specTreeX_c (h.below hW hB) (Nat.le_trans hB hW.size))
  cases hz : treeOk L H q with
  | false =>
    have HE := hid (show usedT L H q = [] by unfold usedT; rw [hz]; rfl)
    obtain ⟨A1, n1, k1, A2, n2, k2, rfl⟩ := h.form
    rw [hz] at C
    clear h hz
    go_enter Try.func20, Try.ntmps20
    go_wp2_with fail
    refine (C.out _ ?_).mono ?_
    case refine_1 => go_grown
    rintro e w1 ⟨rfl, hb1⟩
    have HB1 := hid (Below.trans (by go_grown) (hb1.mono (by simp; try omega)) : Below w.heap.size w w1)
    clear hb1
    go_wp2_with fail
    go_ret
    exact ⟨_, rfl, by rw [HE.out]; exact World.ownsRow_nil _ _ _ _, HB1.out⟩
  | true =>
    rw [hz] at C
    obtain ⟨b1, o1, n1, k1, A2, n2, k2, ls, rfl, hl, hL, hN, hn1e, hn8, hn1, hbB1⟩ := h.opened hz
    obtain ⟨hs, hh, hH⟩ := h.hands
    have hn : n2 = H.length := by rw [← hH]; unfold hsOf; rw [List.length_map]; exact hh.count.symm
    have hn6 : n2 ≤ 6 := by rw [hn]; exact tree_hlen hz
    have HE := hid (show usedT L H q = usedK L H H.length by unfold usedT; rw [hz]; rfl)
    have CU := hid (fun (x : ByteArray) (W : World) (hW : Below w.heap.size w W) => usersOf_c (A2 := A2) (n2 := n2) (k2 := k2) (q := q) ls x (hl.below hW hB) hL hn1e (Nat.le_trans hB hW.size) hbB1 hn8)
    have hcap := hh.1.cap
    unfold maxLen at hcap
    have HV := hid (And.intro hh (And.intro hH hn))
    clear h hz hh hH hn hl hL hN hn1e
    go_enter Try.func20, Try.ntmps20
    go_wp2_with fail
    refine (C.out _ ?_).mono ?_
    case refine_1 => go_grown
    rintro e w1 ⟨rfl, hb1⟩
    have K1 := (Blk.new _ _ _).to hb1
    simp only [World.size_alloc] at K1
    have HK1 := hid K1
    have HB1 := hid (Below.trans (by go_grown) (hb1.mono (by simp; try omega)) : Below w.heap.size w w1)
    have hw1 : w.heap.size < w1.heap.size := HK1.out.1
    clear hb1 K1
    go_wp2_with fail
    go_loopw [3, 4] (fun sv iv wr => ∃ (k : Nat), iv = .int .i64 k ∧ k ≤ n2 ∧ wr.ownsRow w1.heap.size 9 1 sv (usedK L H k).length ((usedK L H k).map txt) ∧ Hid (Below w1.heap.size w1 wr)) (fun _ iv _ => n2 - (intOf iv).toNat)
    case atStart => exact ⟨0, rfl, by omega, World.ownsRow_lit w1 #[] 0 (Nat.le_refl _) (by unfold maxLen; omega) rfl, (Below.refl _ _).alloc (Nat.le_refl _) _⟩
    case round =>
      obtain ⟨k, rfl, hk, hown, HBx⟩ := hrel
      have hfl := usedK_len L H k
      obtain ⟨Ax, cx, rfl, _, _⟩ := (Sl.of_own hown).form
      have HO := hid hown
      clear hown
      have HW := hid (HB1.out.trans (HBx.out.mono HB1.out.size))
      have HKx := hid (HK1.out.below HBx.out hw1)
      have d1 := (HKx.out.2 1 _ rfl).1
      by_cases hlt : k < n2
      · obtain ⟨b, o, p, x, A4, fn, k4, rfl, hbB, hx, hp, hps, _, c0, _, _⟩ := handler_at (HV.out.1.below HW.out hB) HV.out.2.1 hlt
        have CUp := hid (CU.out p _ HW.out.drew)
        have HP := hid hp
        have HX := hid hx
        have d0 := (HKx.out.2 0 _ rfl).1
        have d2 := (HKx.out.2 2 _ rfl).1
        have hbw : b < wr.heap.size := by have := HW.out.size; omega
        have hwr : w.heap.size < wr.heap.size := HKx.out.1
        have HMt := hid (fun (hm : 0 < (usersN L p.data.toList).length) => (show usedK L H (k + 1) = usedK L H k ++ [p.data.toList] by rw [HP.out]; exact usedK_hit HX.out (by rw [← HP.out]; exact hm)))
        have HMf := hid (fun (hm : ¬ 0 < (usersN L p.data.toList).length) => (show usedK L H (k + 1) = usedK L H k from usedK_miss HX.out (by rw [← HP.out]; exact hm)))
        have s0 : (0 : Int) ≤ (k : Int) := by omega
        have s1 : (k : Int) < (n2 : Int) := by omega
        have s2 : ((k : Int)).toNat = k := by simp
        clear hp hps hx
        generalize usersN L p.data.toList = U at *
        go_wp2_with fail
        refine wp_region_held_drew (S := (fun w' : World => w'.cell? ⟨w.heap.size, 0, none⟩ = some (.slice (some ⟨b1, o1, none⟩) n1 k1) ∧ w'.cell? ⟨w.heap.size, 1, none⟩ = some (.slice (some ⟨b, o, none⟩) n2 k2) ∧ w'.cell? ⟨w.heap.size, 2, none⟩ = some (.int .i64 q) ∧ w'.cell? ⟨b, o + k * 3, none⟩ = some (.string p))) (by kernel_rfl) ⟨d0, d1, d2, c0⟩ (fun hS => ?_)
        refine wpAnyH_take (i := 0) (oi := ?oi101) (v := ?v101) ?hi101 (by kernel_rfl) ?hf101 ?hr101 ?hQ101 (Or.inl ⟨?hw101, ?hy101⟩) (by assumption) ?rest101
        case hi101 => simp only [List.getElem?_toArray, List.getElem?_cons_succ, List.getElem?_cons_zero]; rfl
        case hf101 => kernel_rfl
        case hr101 => kernel_rfl
        case hw101 => rfl
        case hy101 => (intro w hSw; (try dsimp only at hSw); go_simp; all_goals (first | done | with_reducible rfl))
        case hQ101 => exact fun _ _ _ h => h
        simp only [Act.put, List.setIfInBounds_toArray, List.set_cons_zero, List.set_cons_succ]
        refine wpAnyH_take (i := 1) (oi := ?oi102) (v := ?v102) ?hi102 (by kernel_rfl) ?hf102 ?hr102 ?hQ102 (Or.inl ⟨?hw102, ?hy102⟩) (by assumption) ?rest102
        case hi102 => simp only [List.getElem?_toArray, List.getElem?_cons_succ, List.getElem?_cons_zero]; rfl
        case hf102 => kernel_rfl
        case hr102 => kernel_rfl
        case hw102 => rfl
        case hy102 => (intro w hSw; (try dsimp only at hSw); go_simp; all_goals (first | done | with_reducible rfl))
        case hQ102 => exact fun _ _ _ h => h
        simp only [Act.put, List.setIfInBounds_toArray, List.set_cons_zero, List.set_cons_succ]
        refine wpAnyH_take (i := 2) (oi := ?oi103) (v := ?v103) ?hi103 (by kernel_rfl) ?hf103 ?hr103 ?hQ103 (Or.inl ⟨?hw103, ?hy103⟩) (by assumption) ?rest103
        case hi103 => simp only [List.getElem?_toArray, List.getElem?_cons_succ, List.getElem?_cons_zero]; rfl
        case hf103 => kernel_rfl
        case hr103 => kernel_rfl
        case hw103 => rfl
        case hy103 => (intro w hSw; (try dsimp only at hSw); go_simp; all_goals (first | done | with_reducible rfl))
        case hQ103 => exact fun _ _ _ h => h
        simp only [Act.put, List.setIfInBounds_toArray, List.set_cons_zero, List.set_cons_succ]
        refine wpAnyH_take (i := 3) (oi := ?oi104) (v := ?v104) ?hi104 (by kernel_rfl) ?hf104 ?hr104 ?hQ104 (Or.inl ⟨?hw104, ?hy104⟩) (by assumption) ?rest104
        case hi104 => simp only [List.getElem?_toArray, List.getElem?_cons_succ, List.getElem?_cons_zero]; rfl
        case hf104 => kernel_rfl
        case hr104 => kernel_rfl
        case hw104 => rfl
        case hy104 => (intro w hSw; (try dsimp only at hSw); go_simp; all_goals (first | done | with_reducible rfl))
        case hQ104 => exact fun _ _ _ h => h
        simp only [Act.put, List.setIfInBounds_toArray, List.set_cons_zero, List.set_cons_succ]
        refine wpAnyH_take (i := 4) (oi := ?oi105) (v := ?v105) ?hi105 (by kernel_rfl) ?hf105 ?hr105 ?hQ105 (Or.inl ⟨?hw105, ?hy105⟩) (by assumption) ?rest105
        case hi105 => simp only [List.getElem?_toArray, List.getElem?_cons_succ, List.getElem?_cons_zero]; rfl
        case hf105 => kernel_rfl
        case hr105 => kernel_rfl
        case hw105 => rfl
        case hy105 => (intro w hSw; (try dsimp only at hSw); go_simp; all_goals (first | done | with_reducible rfl))
        case hQ105 => exact fun _ _ _ h => h
        simp only [Act.put, List.setIfInBounds_toArray, List.set_cons_zero, List.set_cons_succ]
        refine wpAnyH_take (i := 5) (oi := ?oi106) (v := ?v106) ?hi106 (by kernel_rfl) ?hf106 ?hr106 ?hQ106 (Or.inl ⟨?hw106, ?hy106⟩) (by assumption) ?rest106
        case hi106 => simp only [List.getElem?_toArray, List.getElem?_cons_succ, List.getElem?_cons_zero]; rfl
        case hf106 => kernel_rfl
        case hr106 => kernel_rfl
        case hw106 => rfl
        case hy106 => (intro w hSw; (try dsimp only at hSw); go_simp; all_goals (first | done | with_reducible rfl))
        case hQ106 => exact fun _ _ _ h => h
        simp only [Act.put, List.setIfInBounds_toArray, List.set_cons_zero, List.set_cons_succ]
        refine wpAnyH_take (i := 6) (oi := ?oi107) (v := ?v107) ?hi107 (by kernel_rfl) ?hf107 ?hr107 ?hQ107 (Or.inl ⟨?hw107, ?hy107⟩) (by assumption) ?rest107
        case hi107 => simp only [List.getElem?_toArray, List.getElem?_cons_succ, List.getElem?_cons_zero]; rfl
        case hf107 => kernel_rfl
        case hr107 => kernel_rfl
        case hw107 => rfl
        case hy107 => (intro w hSw; (try dsimp only at hSw); go_simp; all_goals (first | done | with_reducible rfl))
        case hQ107 => exact fun _ _ _ h => h
        simp only [Act.put, List.setIfInBounds_toArray, List.set_cons_zero, List.set_cons_succ]
        refine wpAnyH_ready (rs := [7]) (by kernel_rfl) (by simp) ?_
        refine AllReadyH.cons (o := ?oi108) ?hi108 (fun K hK => ?step108) AllReadyH.nil
        case hi108 => simp only [List.getElem?_toArray, List.getElem?_cons_succ, List.getElem?_cons_zero]; rfl
        rw [if_pos (by rfl)]
        go_simp
        go_at_call 44
        refine (CUp.out).mono ?_
        rintro e w3 ⟨vu, rfl, hou, hb3⟩
        have hS9 : w3.cell? ⟨w.heap.size, 0, none⟩ = some (.slice (some ⟨b1, o1, none⟩) n1 k1) ∧ w3.cell? ⟨w.heap.size, 1, none⟩ = some (.slice (some ⟨b, o, none⟩) n2 k2) ∧ w3.cell? ⟨w.heap.size, 2, none⟩ = some (.int .i64 q) ∧ w3.cell? ⟨b, o + k * 3, none⟩ = some (.string p) :=
          ⟨(hb3.cell (p := ⟨w.heap.size, _, none⟩) hwr).trans d0, (hb3.cell (p := ⟨w.heap.size, _, none⟩) hwr).trans d1, (hb3.cell (p := ⟨w.heap.size, _, none⟩) hwr).trans d2, (hb3.cell (p := ⟨b, _, none⟩) hbw).trans c0⟩
        obtain ⟨Au, cu, rfl, _, _⟩ := (Sl.of_own hou).form
        have HB3 := hid (HBx.out.drew.trans (hb3.mono HBx.out.drew.size))
        have HO3 := hid (own_below HO.out.drew hb3)
        clear hou hb3
        refine hK.out _ _ hS9 (fun _ => ?_)
        refine wpAnyH_take (i := 8) (oi := ?oi109) (v := ?v109) ?hi109 (by kernel_rfl) ?hf109 ?hr109 ?hQ109 (Or.inl ⟨?hw109, ?hy109⟩) (by assumption) ?rest109
        case hi109 => simp only [List.getElem?_toArray, List.getElem?_cons_succ, List.getElem?_cons_zero]; rfl
        case hf109 => kernel_rfl
        case hr109 => kernel_rfl
        case hw109 => rfl
        case hy109 => (intro w hSw; (try dsimp only at hSw); go_simp; all_goals (first | done | with_reducible rfl))
        case hQ109 => exact fun _ _ _ h => h
        simp only [Act.put, List.setIfInBounds_toArray, List.set_cons_zero, List.set_cons_succ]
        refine wpAnyH_take (i := 9) (oi := ?oi110) (v := ?v110) ?hi110 (by kernel_rfl) ?hf110 ?hr110 ?hQ110 (Or.inl ⟨?hw110, ?hy110⟩) (by assumption) ?rest110
        case hi110 => simp only [List.getElem?_toArray, List.getElem?_cons_succ, List.getElem?_cons_zero]; rfl
        case hf110 => kernel_rfl
        case hr110 => kernel_rfl
        case hw110 => rfl
        case hy110 => (intro w hSw; (try dsimp only at hSw); go_simp; all_goals (first | done | with_reducible rfl))
        case hQ110 => exact fun _ _ _ h => h
        simp only [Act.put, List.setIfInBounds_toArray, List.set_cons_zero, List.set_cons_succ]
        refine wpAnyH_done (by kernel_rfl) ?_ _
        have e1 := hS9.2.1
        have e0 := hS9.2.2.2
        clear hS hS9 d0 d1 d2 c0
        by_cases hm : (0 : Int) < (U.length : Int)
        · have HF := hid (HMt.out (by omega))
          go_wp2_with (at_builtin; (refine appText _ rfl (.tmp 26) (.tmp 33) rfl w1.heap.size _ (usedK L H k) (by rfl) HO3.out p _ _ _ (by rfl) (by simp) (by omega) HB3.out.size ?_))
          intro v' w4 ho4 hb4
          have HO4 := hid ho4
          have HB4 := hid (HB3.out.trans hb4)
          clear ho4 hb4
          go_wp2_with fail
          go_roundw
          case rel => exact ⟨k + 1, by go_num, by omega, by rw [HF.out]; simpa using HO4.out, HB4.out⟩
          case measure => simp [intOf]; omega
        · have HF := hid (HMf.out (by omega))
          go_wp2_with fail
          go_roundw
          case rel => exact ⟨k + 1, by go_num, by omega, by rw [HF.out]; exact HO3.out, HB3.out⟩
          case measure => simp [intOf]; omega
      · obtain rfl : k = n2 := by omega
        have HF := hid (show usedT L H q = usedK L H k by rw [HE.out, ← HV.out.2.2])
        go_wp2_with fail
        go_ret
        exact ⟨_, rfl, by rw [HF.out]; exact own_base HO.out HB1.out.size, HW.out⟩
end Go.Proofs.Ytbidlmejonpadaa
