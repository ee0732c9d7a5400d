/-
  RECORDS: SampleRecords of both.
-/
import Derived.Test.YtjliipnjifongaaR5
import Derived.Test.YtjliipnjifongaaBase
namespace Go.Proofs.Ytjliipnjifongaa
open Go.RowKit Nm
set_option linter.unusedSimpArgs false
set_option linter.unusedVariables false

/-- how many of the first k records have the text -/
def cntT (l : List Rec) (k : Nat) (t : List UInt8) : Nat := ((l.take k).filter fun r => decide (r.tx = t)).length
theorem cntT_zero (l : List Rec) (t : List UInt8) : cntT l 0 t = 0 := by simp [cntT]
theorem cntT_succ (l : List Rec) (k : Nat) (t : List UInt8) (r : Rec) (h : l[k]? = some r) : cntT l (k + 1) t = cntT l k t + if t = r.tx then 1 else 0 := by
  unfold cntT
  rw [List.take_add_one, h, List.filter_append, List.length_append]
  congr 1
  by_cases e : t = r.tx
  · subst e; simp
  · rw [if_neg e]; simp; exact fun h => e h.symm
theorem cntT_le (l : List Rec) (k : Nat) (t : List UInt8) : cntT l k t ≤ k := by
  unfold cntT
  have h1 := List.length_filter_le (fun r : Rec => decide (r.tx = t)) (l.take k)
  have h2 := List.length_take_le k l
  omega
def keepS (l : List Rec) (a b : Int) (k : Nat) (r : Rec) : Bool := decide ((cntT l (k + 1) r.tx : Int) ≤ a) || decide (((cntT l (k + 1) r.tx : Int) - a) % b = 0)
def sampOk (l : List Rec) (a b : Int) : Bool := recsOk l && ((decide (0 ≤ a) && decide (a ≤ 12)) && (decide (1 ≤ b) && decide (b ≤ 12)))
def sampleL (l : List Rec) (a b : Int) : List Rec := if sampOk l a b then rounds (pickIf l (keepS l a b)) l.length else []

theorem sampleL_len (l : List Rec) (a b : Int) : (sampleL l a b).length ≤ 12 := by
  unfold sampleL
  split
  · rename_i h
    have h1 := rounds_len (pickIf l (keepS l a b)) (fun i => pickIf_len _ _ i) l.length
    unfold sampOk recsOk at h; simp only [Bool.and_eq_true, decide_eq_true_eq] at h
    omega
  · simp
theorem zeroInt (w : World) : (zeroValue 3).run Try.prog w = .ok (.int .i64 0) w := by kernel_rfl

set_option maxHeartbeats 4000000 in
set_option maxRecDepth 100000 in
theorem implSample_c (v : Value) (n B : Nat) (l : List Rec) (x y : Int) (w : World) (hv : Rs w B n v l) (hB : B ≤ w.heap.size) (hn : n ≤ maxTxt) :
    Calls Try.prog 18 #[v, .int .i64 x, .int .i64 y] w (RowPost w 32 4 (sampleL l x y).length ((sampleL l x y).flatMap rcells)) := by
  have hln := hv.count
  obtain ⟨A, c, rfl, hnc, hcm⟩ := hv.1.form
  have C := hid (implValidRecords_c _ n B l w hv hB)
  unfold maxLen at hcm
  unfold maxTxt at hn
  have HV := hid (And.intro hv hln)
  clear hv hln
  cases hs : sampOk l x y with
  | false =>
    have HD := hid (show sampleL l x y = [] by unfold sampleL; rw [hs]; rfl)
    have HS := hid hs
    generalize hr : recsOk l = r at C
    have HR := hid hr
    clear hs hr
    go_enter Try.func18, Try.ntmps18
    go_wp2_with (go_at_call 20; refine C.out.mono ?_; rintro e w1 ⟨rfl, hb⟩; have HB1 := hid hb; clear hb)
    all_goals first
      | (go_ret
         exact ⟨_, rfl, by rw [HD.out]; exact World.ownsRow_nil _ _ _ _, HB1.out⟩)
      | (exfalso; have h1 := HS.out; unfold sampOk at h1; rw [HR.out] at h1; simp_all <;> omega)
  | true =>
  have HD := hid (show sampleL l x y = rounds (pickIf l (keepS l x y)) l.length by unfold sampleL; rw [hs]; rfl)
  unfold sampOk at hs
  simp only [Bool.and_eq_true, decide_eq_true_eq] at hs
  obtain ⟨hr, ⟨x0, x1⟩, y0, y1⟩ := hs
  rw [hr] at C
  have hn12 : n ≤ 12 := by unfold recsOk at hr; simp only [Bool.and_eq_true, decide_eq_true_eq] at hr; have := HV.out.2; omega
  clear hr
  have hmm := @run_makeMap Try.prog
  go_enter Try.func18, Try.ntmps18
  go_wp2_with (go_at_call 20; refine C.out.mono ?_; rintro e w1 ⟨rfl, hb⟩; have HB1 := hid hb; clear hb)
  clear hmm
  go_loopw [7, 34] (fun v iv wr => ∃ (k : Nat) (z : List Rec), iv = .int .i64 k ∧ k ≤ n ∧ Hid (z = rounds (pickIf l (keepS l x y)) k) ∧ z.length ≤ k ∧ wr.ownsRow (w1.heap.size + 1) 32 4 v z.length (z.flatMap rcells) ∧ Hid (MapV wr (.int .i64 0) w1.heap.size k (fun t => .int .i64 (cntT l k t))) ∧ Hid (w1.heap.size + 1 ≤ wr.heap.size) ∧ Hid (Below w.heap.size w wr)) (fun _ iv _ => n - (intOf iv).toNat)
  case atStart => exact ⟨0, [], rfl, by omega, rfl, by simp, World.ownsRow_nil _ _ _ _, (MapV.made w1 _).congr (fun t => by rw [cntT_zero]; rfl), by show _ ≤ _; simp, HB1.out.alloc HB1.out.size _⟩
  case round =>
    obtain ⟨k, z, rfl, hk, HE, hz, hown, HM, HZ, HB⟩ := hrel
    obtain ⟨Ax, cx, rfl, _, _⟩ := (Sl.of_own hown).form
    have HO := hid hown
    clear hown
    by_cases hlt : k < n
    · obtain ⟨b, o, nm, lv, tx, sq, rfl, hbB, hx1, c0, c1, c2, c3⟩ := rcells_at (HV.out.1.1.below HB.out hB) hlt
      have hft := (rcells_fit HV.out.1.2 hx1).2
      have hmt : tx.size ≤ maxLen := by unfold maxTxt at hft; unfold maxLen; omega
      have HX := hid hx1
      have HB0 := hid (HB.out.alloc HB.out.size (.cells #[.string nm, .int .i64 lv, .string tx, .int .i64 sq] 32))
      have HO0 := hid (HO.out.alloc (.cells #[.string nm, .int .i64 lv, .string tx, .int .i64 sq] 32))
      have HM0 := hid (HM.out.alloc' (.cells #[.string nm, .int .i64 lv, .string tx, .int .i64 sq] 32))
      have look := HM0.out.look Try.underlying88 (zeroInt _) tx hmt
      have HK := hid (show keepS l x y k ⟨nm.data.toList, lv, tx.data.toList, sq⟩ = (decide ((cntT l k tx.data.toList : Int) + 1 ≤ x) || decide (((cntT l k tx.data.toList : Int) + 1 - x) % y = 0)) by
        unfold keepS; rw [cntT_succ l k _ _ hx1]; simp)
      have HC := hid (fun t => cntT_succ l k t _ hx1)
      have hle := cntT_le l k tx.data.toList
      generalize hq : cntT l k tx.data.toList = q at look HK hle
      have HQ := hid hq
      clear hx1 hft hq
      go_wp2_with (at_mapUpdate; refine wpList_mapV _ HM0.out 88 3 Try.underlying88 rfl _ _ _ rfl rfl (by unfold maxLen; omega) tx hmt (.int .i64 (q + 1)) rfl (by rfl) ?_)
      intro w2 hM hg
      have HM2 := hid (hM.congr (g := fun t => .int .i64 (cntT l (k + 1) t)) (fun t => by
        have h1 := HC.out t
        by_cases e : t = tx.data.toList
        · subst e; rw [if_pos rfl] at h1 ⊢; rw [h1, HQ.out]; rfl
        · rw [if_neg e] at h1 ⊢; rw [h1]; rfl))
      have look2 := HM2.out.look Try.underlying88 (zeroInt _) tx hmt
      rw [HC.out, HQ.out, if_pos rfl] at look2
      have hz1 := HZ.out
      have bx : ∀ j : Nat, w2.cell? ⟨wr.heap.size, j, none⟩ = (#[.string nm, .int .i64 lv, .string tx, .int .i64 sq] : Array Value)[j]? := fun j =>
        (World.cell?_of_block (hg.block wr.heap.size (by simp) (by intro e; simp at e; omega))).trans (cell_of_row _ wr.heap.size j _ _ _ (heap_alloc_new wr _))
      have d0 := bx 0
      have d1 := bx 1
      have d2 := bx 2
      have d3 := bx 3
      have HO2 := hid (own_apart HO0.out hg (by omega))
      have HB2 := hid (HB0.out.grown hg (by have := HB1.out.size; simp; omega) (by intro e he; cases he; exact HB1.out.size))
      have hz2 : w1.heap.size + 1 ≤ w2.heap.size := by have := hg.size; simp at this; omega
      clear bx hM hg look c0 c1 c2 c3
      generalize hkk : keepS l x y k ⟨nm.data.toList, lv, tx.data.toList, sq⟩ = kk at HK
      have hit := hid (fun (hf : kk = true) => show z ++ [(⟨nm.data.toList, lv, tx.data.toList, sq⟩ : Rec)] = rounds (pickIf l (keepS l x y)) (k + 1) by
        rw [rounds_hit (pickIf_hit HX.out (hkk.trans hf)), HE.out])
      have mis := hid (fun (hf : kk = false) => show z = rounds (pickIf l (keepS l x y)) (k + 1) by
        rw [rounds_miss (pickIf_miss HX.out (hkk.trans hf)), HE.out])
      clear hkk
      go_wp2_with (at_builtin; refine appRecord _ rfl (.tmp 57) (.tmp 59) rfl (w1.heap.size + 1) _ z (by rfl) HO2.out nm lv tx sq _ _ _ (by rfl) (by simp) (by omega) hz2 ?_; intro v' w3 ho3 hb3; have HO3 := hid (And.intro ho3 (And.intro (HB2.out.trans (hb3.mono (by have := HB1.out.size; omega))) (And.intro (HM2.out.under hb3 (by omega)) (Nat.le_trans hz2 hb3.size)))); clear ho3 hb3)
      all_goals go_roundw
      all_goals first
        | (case rel => exact ⟨k + 1, _, by go_num, by omega, hit.out (by rw [HK.out]; simp_all <;> omega), by rw [List.length_append]; show z.length + 1 ≤ _; omega, HO3.out.1, HO3.out.2.2.1, HO3.out.2.2.2, HO3.out.2.1⟩)
        | (case rel => exact ⟨k + 1, z, by go_num, by omega, mis.out (by rw [HK.out]; simp_all <;> omega), by omega, HO2.out, HM2, hz2, HB2⟩)
        | (case measure => simp [intOf]; omega)
    · have HF := hid (show z = sampleL l x y by rw [HE.out, HD.out, show l.length = k by have := HV.out.2; omega])
      go_wp2_with fail
      go_ret
      exact ⟨_, rfl, by rw [← HF.out]; exact own_base HO.out (by have := HB1.out.size; omega), HB.out⟩
end Go.Proofs.Ytjliipnjifongaa
