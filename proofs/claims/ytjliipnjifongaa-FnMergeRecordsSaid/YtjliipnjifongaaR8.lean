/-
  RECORDS: MergeRecords of both.
-/
import Derived.Test.YtjliipnjifongaaR7
namespace Go.Proofs.Ytjliipnjifongaa
open Go.RowKit Nm
set_option linter.unusedSimpArgs false
set_option linter.unusedVariables false

def mergeR : List Rec → List Rec → List Rec
  | [], b => b
  | x :: a, [] => x :: a
  | x :: a, y :: b => if x.sq ≤ y.sq then x :: mergeR a (y :: b) else y :: mergeR (x :: a) b
termination_by a b => a.length + b.length
theorem mergeR_nil (b : List Rec) : mergeR [] b = b := by rw [mergeR]
theorem mergeR_none (a : List Rec) : mergeR a [] = a := by cases a <;> rw [mergeR]
theorem mergeR_left {x y : Rec} {a b : List Rec} (h : x.sq ≤ y.sq) : mergeR (x :: a) (y :: b) = x :: mergeR a (y :: b) := by rw [mergeR, if_pos h]
theorem mergeR_right {x y : Rec} {a b : List Rec} (h : ¬ x.sq ≤ y.sq) : mergeR (x :: a) (y :: b) = y :: mergeR (x :: a) b := by rw [mergeR, if_neg h]
theorem drop_at {α : Type} {l : List α} {k : Nat} {x : α} (h : l[k]? = some x) : l.drop k = x :: l.drop (k + 1) := by
  obtain ⟨hl, rfl⟩ := List.getElem?_eq_some_iff.1 h
  exact List.drop_eq_getElem_cons hl
theorem merge_left {a b z m : List Rec} {i k : Nat} {x y : Rec} (hx : a[i]? = some x) (hy : b[k]? = some y) (h : x.sq ≤ y.sq) (hm : z ++ mergeR (a.drop i) (b.drop k) = m) :
    (z ++ [x]) ++ mergeR (a.drop (i + 1)) (b.drop k) = m := by
  rw [drop_at hx, drop_at hy, mergeR_left h, ← drop_at hy] at hm; simpa using hm
theorem merge_right {a b z m : List Rec} {i k : Nat} {x y : Rec} (hx : a[i]? = some x) (hy : b[k]? = some y) (h : ¬ x.sq ≤ y.sq) (hm : z ++ mergeR (a.drop i) (b.drop k) = m) :
    (z ++ [y]) ++ mergeR (a.drop i) (b.drop (k + 1)) = m := by
  rw [drop_at hx, drop_at hy, mergeR_right h, ← drop_at hx] at hm; simpa using hm
theorem merge_last {a b z m : List Rec} {i k : Nat} {x : Rec} (hx : a[i]? = some x) (hk : b.length ≤ k) (hm : z ++ mergeR (a.drop i) (b.drop k) = m) :
    (z ++ [x]) ++ mergeR (a.drop (i + 1)) (b.drop k) = m := by
  rw [List.drop_of_length_le hk, mergeR_none] at hm ⊢; rw [drop_at hx] at hm; simpa using hm
theorem merge_rest {a b z m : List Rec} {i k : Nat} {y : Rec} (hy : b[k]? = some y) (hi : a.length ≤ i) (hm : z ++ mergeR (a.drop i) (b.drop k) = m) :
    (z ++ [y]) ++ mergeR (a.drop i) (b.drop (k + 1)) = m := by
  rw [List.drop_of_length_le hi, mergeR_nil] at hm ⊢; rw [drop_at hy] at hm; simpa using hm
def mergeOk (a b : List Rec) : Bool := recsOk a && (recsOk b && decide (a.length + b.length ≤ 12))
def MergePost (w : World) (a b : List Rec) (e : Ending) (w' : World) : Prop :=
  ∃ v, e = .returned (.tuple #[v, .bool (mergeOk a b)]) ∧ (∃ z : List Rec, z = (if mergeOk a b then mergeR a b else []) ∧ w'.ownsRow w.heap.size 32 4 v z.length (z.flatMap rcells)) ∧ Below w.heap.size w w'
theorem merge_no {w w' : World} {a b : List Rec} (h : mergeOk a b = false) (hb : Below w.heap.size w w') : MergePost w a b (.returned (.tuple #[.slice none 0 0, .bool false])) w' :=
  ⟨_, by rw [h], ⟨[], by rw [h]; rfl, World.ownsRow_nil _ _ _ _⟩, hb⟩
theorem merge_yes {w w' : World} {a b z : List Rec} {v : Value} (h : mergeOk a b = true) (hz : z = mergeR a b) (ho : w'.ownsRow w.heap.size 32 4 v z.length (z.flatMap rcells)) (hb : Below w.heap.size w w') : MergePost w a b (.returned (.tuple #[v, .bool true])) w' :=
  ⟨v, by rw [h], ⟨z, by rw [h, hz]; rfl, ho⟩, hb⟩

set_option maxHeartbeats 4000000 in
set_option maxRecDepth 100000 in
theorem specMerge_c (v1 v2 : Value) (n1 n2 B : Nat) (l1 l2 : List Rec) (w : World) (h1 : Rs w B n1 v1 l1) (h2 : Rs w B n2 v2 l2) (hB : B ≤ w.heap.size) (hn1 : n1 ≤ maxTxt) (hn2 : n2 ≤ maxTxt) :
    Calls Try.prog 23 #[v1, v2] w (MergePost w l1 l2) := by
  have hl1 := h1.count
  have hl2 := h2.count
  obtain ⟨A1, c1, rfl, hnc1, hcm1⟩ := h1.1.form
  obtain ⟨A2, c2, rfl, hnc2, hcm2⟩ := h2.1.form
  have C1 := hid (fun W (hW : Below w.heap.size w W) => specValidRecords_c _ n1 B l1 W (h1.below hW hB) (Nat.le_trans hB hW.size))
  have C2 := hid (fun W (hW : Below w.heap.size w W) => specValidRecords_c _ n2 B l2 W (h2.below hW hB) (Nat.le_trans hB hW.size))
  unfold maxLen at hcm1 hcm2
  unfold maxTxt at hn1 hn2
  have HV := hid (And.intro (And.intro h1 hl1) (And.intro h2 hl2))
  have HB := hid (Below.refl w.heap.size w)
  clear h1 h2 hl1 hl2
  generalize hr1 : recsOk l1 = r1 at C1
  generalize hr2 : recsOk l2 = r2 at C2
  have HM := hid (show mergeOk l1 l2 = (r1 && (r2 && decide ((n1 : Int) + (n2 : Int) ≤ 12))) by
    unfold mergeOk; rw [hr1, hr2, decide_eq_decide.2 (show l1.length + l2.length ≤ 12 ↔ (n1 : Int) + (n2 : Int) ≤ 12 by have := HV.out.1.2; have := HV.out.2.2; omega)])
  clear hr1 hr2
  go_enter Try.func23, Try.ntmps23
  go_wp2_with (go_at_call 58; first | ((with_reducible refine (C1.out _ HB.out).mono ?_); rintro e w1 ⟨rfl, hb⟩; replace HB := hid (HB.out.trans (hb.mono HB.out.size)); clear hb) | ((with_reducible refine (C2.out _ HB.out).mono ?_); rintro e w1 ⟨rfl, hb⟩; replace HB := hid (HB.out.trans (hb.mono HB.out.size)); clear hb))
  all_goals first
    | (go_ret2
       exact merge_no (by rw [HM.out]; simp_all <;> omega) HB.out)
    | skip
  have HK := hid (show mergeOk l1 l2 = true by rw [HM.out]; simp_all)
  have hsum : (n1 : Int) + (n2 : Int) ≤ 12 := by assumption
  obtain ⟨w3, rfl⟩ : ∃ w3 : World, w3 = w1 := ⟨_, rfl⟩
  go_loopw [6, 7, 8] (fun v iv kv wr => ∃ (i k : Nat) (z : List Rec), iv = .int .i64 i ∧ kv = .int .i64 k ∧ i ≤ n1 ∧ k ≤ n2 ∧ z.length = i + k ∧ Hid (z ++ mergeR (l1.drop i) (l2.drop k) = mergeR l1 l2) ∧ wr.ownsRow w.heap.size 32 4 v z.length (z.flatMap rcells) ∧ Hid (Below w.heap.size w wr)) (fun _ iv kv _ => n1 + n2 - ((intOf iv).toNat + (intOf kv).toNat))
  case atStart => exact ⟨0, 0, [], rfl, rfl, by omega, by omega, rfl, by simp [Hid], own_base (World.ownsRow_lit w3 #[] 0 (Nat.le_refl _) (by unfold maxLen; omega) rfl) HB.out.size, HB.out.alloc HB.out.size _⟩
  case round =>
    obtain ⟨i, k, z, rfl, rfl, hi, hk, hz, HE, hown, HBx⟩ := hrel
    obtain ⟨Ax, cx, rfl, _, _⟩ := (Sl.of_own hown).form
    have HO := hid hown
    clear hown HB
    by_cases hd : i + k < n1 + n2
    · by_cases hk2 : k = n2
      · subst hk2
        obtain ⟨b, o, nm, lv, tx, sq, rfl, hbB, hx1, c0, c1', c2', c3⟩ := rcells_at (HV.out.1.1.1.below HBx.out hB) (show i < n1 by omega)
        have HS := hid (merge_last hx1 (by have := HV.out.2.2; omega) HE.out)
        have bk : ((k : Int) == (k : Int)) = true := by simp
        clear hx1
        go_wp2_with fail
        go_quiet (fail)
        go_wp2_with (at_builtin; refine appRecord _ rfl (.tmp 58) (.tmp 63) rfl w.heap.size _ z (by rfl) (own_dr HO.out _) nm lv tx sq _ _ _ (by rfl) (by simp) (by omega) (below_dr HBx.out _).size ?_; intro v' w4 ho4 hb4; have HO4 := hid (And.intro ho4 ((below_dr HBx.out _).trans hb4)); clear ho4 hb4)
        go_roundw
        case rel => exact ⟨i + 1, k, _, by go_num, rfl, by omega, by omega, by rw [List.length_append]; show z.length + 1 = _; omega, HS, HO4.out.1, HO4.out.2⟩
        case measure => simp [intOf]; omega
      · have bk : ((k : Int) == (n2 : Int)) = false := by rw [beq_eq_false_iff_ne]; omega
        obtain ⟨b2, o2, nm2, lv2, tx2, sq2, rfl, hbB2, hy1, d0, d1, d2, d3⟩ := rcells_at (HV.out.2.1.1.below HBx.out hB) (show k < n2 by omega)
        by_cases hi1 : i = n1
        · have HS := hid (merge_rest hy1 (by have := HV.out.1.2; omega) HE.out)
          subst hi1
          have bi : decide ((i : Int) < (i : Int)) = false := by simp
          clear hy1
          go_wp2_with fail
          go_quiet (fail)
          go_wp2_with (at_builtin; refine appRecord _ rfl (.tmp 67) (.tmp 72) rfl w.heap.size _ z (by rfl) (own_dr HO.out _) nm2 lv2 tx2 sq2 _ _ _ (by rfl) (by simp) (by omega) (below_dr HBx.out _).size ?_; intro v' w4 ho4 hb4; have HO4 := hid (And.intro ho4 ((below_dr HBx.out _).trans hb4)); clear ho4 hb4)
          go_roundw
          case rel => exact ⟨i, k + 1, _, rfl, by go_num, by omega, by omega, by rw [List.length_append]; show z.length + 1 = _; omega, HS, HO4.out.1, HO4.out.2⟩
          case measure => simp [intOf]; omega
        · obtain ⟨b, o, nm, lv, tx, sq, rfl, hbB, hx1, c0, c1', c2', c3⟩ := rcells_at (HV.out.1.1.1.below HBx.out hB) (show i < n1 by omega)
          have bi : (i : Int) < (n1 : Int) := by omega
          have bk2 : (k : Int) < (n2 : Int) := by omega
          by_cases hle : sq ≤ sq2
          · have HS := hid (merge_left hx1 hy1 hle HE.out)
            clear hx1 hy1
            go_wp2_with fail
            go_quiet (fail)
            go_wp2_with (at_builtin; refine appRecord _ rfl (.tmp 58) (.tmp 63) rfl w.heap.size _ z (by rfl) (own_dr HO.out _) nm lv tx sq _ _ _ (by rfl) (by simp) (by omega) (below_dr HBx.out _).size ?_; intro v' w4 ho4 hb4; have HO4 := hid (And.intro ho4 ((below_dr HBx.out _).trans hb4)); clear ho4 hb4)
            go_roundw
            case rel => exact ⟨i + 1, k, _, by go_num, rfl, by omega, by omega, by rw [List.length_append]; show z.length + 1 = _; omega, HS, HO4.out.1, HO4.out.2⟩
            case measure => simp [intOf]; omega
          · have HS := hid (merge_right hx1 hy1 hle HE.out)
            have hgt : sq2 < sq := by omega
            clear hx1 hy1 hle
            go_wp2_with fail
            go_quiet (fail)
            go_wp2_with (at_builtin; refine appRecord _ rfl (.tmp 67) (.tmp 72) rfl w.heap.size _ z (by rfl) (own_dr HO.out _) nm2 lv2 tx2 sq2 _ _ _ (by rfl) (by simp) (by omega) (below_dr HBx.out _).size ?_; intro v' w4 ho4 hb4; have HO4 := hid (And.intro ho4 ((below_dr HBx.out _).trans hb4)); clear ho4 hb4)
            go_roundw
            case rel => exact ⟨i, k + 1, _, rfl, by go_num, by omega, by omega, by rw [List.length_append]; show z.length + 1 = _; omega, HS, HO4.out.1, HO4.out.2⟩
            case measure => simp [intOf]; omega
    · have HF := hid (show z = mergeR l1 l2 by
        have h1 := HE.out
        rw [List.drop_of_length_le (by have := HV.out.1.2; omega), List.drop_of_length_le (by have := HV.out.2.2; omega), mergeR_nil, List.append_nil] at h1
        exact h1)
      go_wp2_with fail
      go_ret2
      exact merge_yes HK.out HF.out HO.out HBx.out
end Go.Proofs.Ytjliipnjifongaa
