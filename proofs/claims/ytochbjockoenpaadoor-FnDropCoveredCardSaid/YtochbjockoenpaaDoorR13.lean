/-
  RULES: DropCovered of both.
-/
import Derived.Test.YtochbjockoenpaaDoorR10
import Derived.Test.YtochbjockoenpaaDoorR11
import Derived.Test.YtochbjockoenpaaDoorUM
import Derived.Deep.QuietTactic
import Derived.BigQuiet
import Derived.Deep.RegionHeld3
namespace Go.Proofs.YtochbjockoenpaaDoor
open Go.RowKit Nm
set_option linter.unusedSimpArgs false
set_option linter.unusedVariables false

/-- x covers y -/
def covB (x y : Rul) : Bool := (decide (x.wd = []) || decide (x.wd = y.wd)) && (belowL y.md x.md && (decide (x.ln = 0) || decide (x.ln = y.ln)))
def freeC (l : List Rul) (k : Nat) (y : Rul) : Bool := !((l.take k).any fun x => covB x y)
def dropCov (l : List Rul) : List Rul := if rulsOk l then rounds (pickIf l (freeC l)) l.length else []
theorem dropCov_len (l : List Rul) : (dropCov l).length ≤ 6 := by
  unfold dropCov
  split
  · rename_i h
    have h1 := rounds_len (pickIf l (freeC l)) (fun i => pickIf_len _ _ i) l.length
    unfold rulsOk at h; simp only [Bool.and_eq_true, decide_eq_true_eq] at h
    omega
  · simp
theorem any_next {α : Type} {l : List α} {p : α → Bool} {k : Nat} {x : α} {b : Bool} (h : (l.take k).any p = b) (hx : l[k]? = some x) : (l.take (k + 1)).any p = (b || p x) := by
  rw [List.take_add_one, hx, List.any_append, h]; simp
theorem any_hit {α : Type} {l : List α} {p : α → Bool} {k : Nat} {x : α} (hx : l[k]? = some x) (h : p x = true) : l.any p = true := List.any_eq_true.2 ⟨x, List.mem_of_getElem? hx, h⟩
theorem eq_boolR (p q : ByteArray) : ∃ a : Bool, (p.toList == q.toList) = a ∧ decide (p.data.toList = q.data.toList) = a := by
  by_cases h : p.data.toList = q.data.toList
  · exact ⟨true, eq_true_of h, decide_eq_true h⟩
  · exact ⟨false, eq_false_of h, decide_eq_false h⟩
theorem eq_boolRi (p q : Int) : ∃ a : Bool, (p == q) = a ∧ decide (p = q) = a := ⟨decide (p = q), by by_cases h : p = q <;> simp [h], rfl⟩
theorem empty_bool (p : ByteArray) : ∃ a : Bool, p.toList.isEmpty = a ∧ decide (p.data.toList = []) = a := by
  by_cases h : p.data.toList = []
  · exact ⟨true, empty_true h, decide_eq_true h⟩
  · exact ⟨false, empty_false h, decide_eq_false h⟩

set_option maxHeartbeats 4000000 in
set_option maxRecDepth 100000 in
theorem implCovers_c (xa ya xl yl : Int) (xw xm yw ym : ByteArray) (w : World) (hx : xm.size ≤ 1048576) (hy : ym.size ≤ 1048576) :
    Calls Tryd.prog 14 #[.agg #[.int .i64 xa, .string xw, .string xm, .int .i64 xl], .agg #[.int .i64 ya, .string yw, .string ym, .int .i64 yl]] w (BoolPost w (covB ⟨xa, xw.data.toList, xm.data.toList, xl⟩ ⟨ya, yw.data.toList, ym.data.toList, yl⟩)) := by
  have CB := hid (fun W => inBranch_c ym xm W (by unfold maxLen; omega) (by omega))
  obtain ⟨e1, h1, g1⟩ := empty_bool xw
  obtain ⟨e2, h2, g2⟩ := eq_boolR xw yw
  obtain ⟨e3, h3, g3⟩ := eq_boolRi xl 0
  obtain ⟨e4, h4, g4⟩ := eq_boolRi xl yl
  have HE := hid (show covB ⟨xa, xw.data.toList, xm.data.toList, xl⟩ ⟨ya, yw.data.toList, ym.data.toList, yl⟩ = ((e1 || e2) && (belowL ym.data.toList xm.data.toList && (e3 || e4))) by unfold covB; rw [g1, g2, g3, g4])
  generalize covB ⟨xa, xw.data.toList, xm.data.toList, xl⟩ ⟨ya, yw.data.toList, ym.data.toList, yl⟩ = z at HE ⊢
  generalize belowL ym.data.toList xm.data.toList = b at CB HE
  have HB0 := hid (show Below w.heap.size w ((w.alloc (.cells #[.int .i64 xa, .string xw, .string xm, .int .i64 xl] 33)).alloc (.cells #[.int .i64 ya, .string yw, .string ym, .int .i64 yl] 33)) from ((Below.refl _ _).alloc (Nat.le_refl _) _).alloc (by simp) _)
  clear g1 g2 g3 g4
  cases e1 <;> cases e2 <;> cases e3 <;> cases e4 <;> cases b
  all_goals
    go_enter Tryd.func14, Tryd.ntmps14
    go_wp2_with (go_at_call 26; refine (CB.out _).mono ?_; rintro e w2 ⟨rfl, rfl⟩)
    go_ret
    exact ⟨ret_bool (by rw [HE.out]; rfl), HB0.out⟩

set_option maxHeartbeats 4000000 in
set_option maxRecDepth 100000 in
theorem specCovers_c (xa ya xl yl : Int) (xw xm yw ym : ByteArray) (w : World) (hx : xm.size ≤ 1048576) (hy : ym.size ≤ 1048576) :
    Calls Tryd.prog 16 #[.agg #[.int .i64 xa, .string xw, .string xm, .int .i64 xl], .agg #[.int .i64 ya, .string yw, .string ym, .int .i64 yl]] w (BoolPost w (covB ⟨xa, xw.data.toList, xm.data.toList, xl⟩ ⟨ya, yw.data.toList, ym.data.toList, yl⟩)) := by
  have CB := hid (fun W => specBelow_c ym xm W (by unfold maxLen; omega) (by unfold maxLen; omega))
  obtain ⟨e1, h1, g1⟩ := empty_bool xw
  obtain ⟨e2, h2, g2⟩ := eq_boolR xw yw
  obtain ⟨e3, h3, g3⟩ := eq_boolRi xl 0
  obtain ⟨e4, h4, g4⟩ := eq_boolRi xl yl
  have HE := hid (show covB ⟨xa, xw.data.toList, xm.data.toList, xl⟩ ⟨ya, yw.data.toList, ym.data.toList, yl⟩ = ((e1 || e2) && (belowL ym.data.toList xm.data.toList && (e3 || e4))) by unfold covB; rw [g1, g2, g3, g4])
  generalize covB ⟨xa, xw.data.toList, xm.data.toList, xl⟩ ⟨ya, yw.data.toList, ym.data.toList, yl⟩ = z at HE ⊢
  generalize belowL ym.data.toList xm.data.toList = b at CB HE
  have HB0 := hid (show Below w.heap.size w ((w.alloc (.cells #[.int .i64 xa, .string xw, .string xm, .int .i64 xl] 33)).alloc (.cells #[.int .i64 ya, .string yw, .string ym, .int .i64 yl] 33)) from ((Below.refl _ _).alloc (Nat.le_refl _) _).alloc (by simp) _)
  clear g1 g2 g3 g4
  cases e1 <;> cases e2 <;> cases e3 <;> cases e4 <;> cases b
  all_goals
    go_enter Tryd.func16, Tryd.ntmps16
    go_wp2_with (go_at_call 30; refine (CB.out _).mono ?_; rintro e w2 ⟨rfl, rfl⟩)
    go_ret
    exact ⟨ret_bool (by rw [HE.out]; rfl), HB0.out⟩

/-- a rule in a box -/
def RuleAt (w : World) (bx : Nat) (a : Int) (s m : ByteArray) (n : Int) : Prop := w.cell? ⟨bx, 0, none⟩ = some (.int .i64 a) ∧ w.cell? ⟨bx, 1, none⟩ = some (.string s) ∧ w.cell? ⟨bx, 2, none⟩ = some (.string m) ∧ w.cell? ⟨bx, 3, none⟩ = some (.int .i64 n)
theorem RuleAt.below {w w' : World} {B bx : Nat} {a n : Int} {s m : ByteArray} (h : RuleAt w bx a s m n) (hb : Below B w w') (hB : bx < B) : RuleAt w' bx a s m n :=
  ⟨(hb.cell (p := ⟨bx, 0, none⟩) hB).trans h.1, (hb.cell (p := ⟨bx, 1, none⟩) hB).trans h.2.1, (hb.cell (p := ⟨bx, 2, none⟩) hB).trans h.2.2.1, (hb.cell (p := ⟨bx, 3, none⟩) hB).trans h.2.2.2⟩

set_option maxHeartbeats 1000000 in
set_option maxRecDepth 100000 in
theorem coversFn_c (xa ya xl yl : Int) (xw xm yw ym : ByteArray) (bx : Nat) (w : World) (hx : xm.size ≤ 1048576) (hy : ym.size ≤ 1048576) (hc : RuleAt w bx ya yw ym yl) :
    Calls Tryd.prog 13 #[.agg #[.int .i64 xa, .string xw, .string xm, .int .i64 xl], .pointer (some ⟨bx, 0, none⟩)] w (BoolPost w (covB ⟨xa, xw.data.toList, xm.data.toList, xl⟩ ⟨ya, yw.data.toList, ym.data.toList, yl⟩)) := by
  have hlt : bx < w.heap.size := World.block_lt_of_cell? w _ hc.1
  have hb0 : Below w.heap.size w (w.alloc (.cells #[.int .i64 xa, .string xw, .string xm, .int .i64 xl] 33)) := (Below.refl _ _).alloc (Nat.le_refl _) _
  obtain ⟨y0, y1, y2, y3⟩ := hc.below hb0 hlt
  have C := hid (fun W => implCovers_c xa ya xl yl xw xm yw ym W hx hy)
  have HB0 := hid hb0
  generalize covB ⟨xa, xw.data.toList, xm.data.toList, xl⟩ ⟨ya, yw.data.toList, ym.data.toList, yl⟩ = z at C ⊢
  clear hb0 hc
  go_enter Tryd.func13, Tryd.ntmps13
  go_wp2_with fail
  refine (C.out _).mono ?_
  rintro e w1 ⟨rfl, hb⟩
  have HB1 := hid (HB0.out.trans (hb.mono HB0.out.size))
  clear hb
  go_wp2_with fail
  go_ret
  exact ⟨rfl, HB1.out⟩

set_option maxHeartbeats 4000000 in
set_option maxRecDepth 100000 in
theorem indexCov_c (v : Value) (n B bx : Nat) (l : List Rul) (ya yl : Int) (yw ym : ByteArray) (w : World) (hv : Ruls w B n v l) (hB : B ≤ w.heap.size) (hy : ym.size ≤ 1048576) (hc : RuleAt w bx ya yw ym yl) :
    Calls Tryd.prog 19 #[v, .func (.func 13) #[] #[.pointer (some ⟨bx, 0, none⟩)]] w
      (fun e w' => (∃ z : Int, e = .returned (.int .i64 z) ∧ decide (0 ≤ z) = l.any fun x => covB x ⟨ya, yw.data.toList, ym.data.toList, yl⟩) ∧ Below w.heap.size w w') := by
  have hlt0 : bx < w.heap.size := World.block_lt_of_cell? w _ hc.1
  have hln := hv.count
  obtain ⟨A, c, rfl, hnc, hcm⟩ := hv.1.form
  unfold maxLen at hcm
  have HV := hid (And.intro hv hln)
  have HC := hid (And.intro hc hlt0)
  clear hv hln hc hlt0
  go_enter Tryd.func19, Tryd.ntmps19
  go_wp2_with fail
  go_loopw [8] (fun iv wr => ∃ (k : Nat), iv = .int .i64 k ∧ k ≤ n ∧ Hid (((l.take k).any fun x => covB x ⟨ya, yw.data.toList, ym.data.toList, yl⟩) = false) ∧ Hid (Below w.heap.size w wr)) (fun iv _ => n - (intOf iv).toNat)
  case atStart => exact ⟨0, rfl, by omega, by simp [Hid], Below.refl _ _⟩
  case round =>
    obtain ⟨k, rfl, hk, HN, HB⟩ := hrel
    by_cases hlt : k < n
    · obtain ⟨b, o, ac, wd, md, ln, rfl, hbB, hx, c0, c1, c2, c3⟩ := rucells_at (HV.out.1.1.below HB.out hB) hlt
      have hfit := rucells_fit HV.out.1.2 hx
      have E := hid (coversFn_c ac ya ln yl wd md yw ym bx wr hfit.2 hy (HC.out.1.below HB.out HC.out.2))
      have HX := hid hx
      clear hx hfit
      cases hz : covB ⟨ac, wd.data.toList, md.data.toList, ln⟩ ⟨ya, yw.data.toList, ym.data.toList, yl⟩ with
      | true =>
        rw [hz] at E
        have HZ := hid hz
        clear hz
        go_wp2_with (go_at_call 13; refine (E.out).mono ?_; rintro e w2 ⟨rfl, hb⟩)
        go_ret
        exact ⟨⟨k, rfl, by rw [any_hit HX.out HZ.out]; exact decide_eq_true (by omega)⟩, HB.out.trans (hb.mono HB.out.size)⟩
      | false =>
        rw [hz] at E
        have HZ := hid hz
        clear hz
        go_wp2_with (go_at_call 13; refine (E.out).mono ?_; rintro e w2 ⟨rfl, hb⟩)
        go_roundw
        case rel => exact ⟨k + 1, by go_num, by omega, (show _ = _ by rw [any_next HN.out HX.out, HZ.out]; rfl), HB.out.trans (hb.mono HB.out.size)⟩
        case measure => simp [intOf]; omega
    · have HE := hid (show (l.any fun x => covB x ⟨ya, yw.data.toList, ym.data.toList, yl⟩) = false by
        have h := HN.out
        rwa [List.take_of_length_le (by have := HV.out.2; omega)] at h)
      go_wp2_with fail
      go_ret
      exact ⟨⟨-1, rfl, by rw [HE.out]; rfl⟩, HB.out⟩

set_option maxHeartbeats 1000000 in
set_option maxRecDepth 100000 in
theorem containsCov_c (v : Value) (n B bx : Nat) (l : List Rul) (ya yl : Int) (yw ym : ByteArray) (w : World) (hv : Ruls w B n v l) (hB : B ≤ w.heap.size) (hy : ym.size ≤ 1048576) (hc : RuleAt w bx ya yw ym yl) :
    Calls Tryd.prog 12 #[v, .func (.func 13) #[] #[.pointer (some ⟨bx, 0, none⟩)]] w
      (BoolPost w (l.any fun x => covB x ⟨ya, yw.data.toList, ym.data.toList, yl⟩)) := by
  have C := hid (indexCov_c v n B bx l ya yl yw ym w hv hB hy hc)
  obtain ⟨A, c, rfl, hnc, hcm⟩ := hv.1.form
  generalize (l.any fun x => covB x ⟨ya, yw.data.toList, ym.data.toList, yl⟩) = z at C ⊢
  clear hv hc
  go_enter Tryd.func12, Tryd.ntmps12
  go_wp2_with fail
  refine C.out.mono ?_
  rintro e w1 ⟨⟨i, rfl, hi⟩, hb⟩
  have HI := hid hi
  have HB := hid hb
  clear hi hb
  go_wp2_with fail
  go_ret
  exact ⟨ret_bool HI.out, HB.out⟩

set_option maxHeartbeats 4000000 in
set_option maxRecDepth 100000 in
theorem implDropCovered_c (v : Value) (n B : Nat) (l : List Rul) (w : World) (hv : Ruls w B n v l) (hB : B ≤ w.heap.size) (hn : n ≤ maxTxt) :
    Calls Tryd.prog 5 #[v] w (RowPost w 33 4 (dropCov l).length ((dropCov l).flatMap rucells)) := by
  have hln := hv.count
  obtain ⟨A, c, rfl, hnc, hcm⟩ := hv.1.form
  have C := hid (implValidRules_c _ n B l w hv hB)
  unfold maxLen at hcm
  unfold maxTxt at hn
  have CC := hid (fun (k : Nat) (hk : k ≤ n) (bx : Nat) (ya yl : Int) (yw ym : ByteArray) (W : World) (hW : Below w.heap.size w W) (hy : ym.size ≤ 1048576) (hc : RuleAt W bx ya yw ym yl) =>
    containsCov_c (.slice A k c) k B bx (l.take k) ya yl yw ym W ⟨by rw [← flat_takeK rucells 4 rucells_len]; exact (hv.1.below hW hB).cutK hk, fun x hx => hv.2 x (List.mem_of_mem_take hx)⟩ (Nat.le_trans hB hW.size) hy hc)
  have HV := hid (And.intro hv hln)
  have hmf : ∀ (fn : Fn) (first cap : Array Value) (w : World), (Instr.makeFunc fn first cap).run Tryd.prog w = .ok (.func fn first cap) w := fun _ _ _ _ => rfl
  clear hv hln
  cases hr : rulsOk l with
  | false =>
    rw [hr] at C
    have HD := hid (show dropCov l = [] by unfold dropCov; rw [hr]; rfl)
    clear hr CC
    go_enter Tryd.func5, Tryd.ntmps5
    go_wp2_with (go_at_call 8; refine C.out.mono ?_; rintro e w1 ⟨rfl, hb⟩)
    go_ret
    exact ⟨_, rfl, by rw [HD.out]; exact World.ownsRow_nil _ _ _ _, hb⟩
  | true =>
  rw [hr] at C
  have HD := hid (show dropCov l = rounds (pickIf l (freeC l)) l.length by unfold dropCov; rw [hr]; rfl)
  clear hr
  go_enter Tryd.func5, Tryd.ntmps5
  go_wp2_with (go_at_call 8; refine C.out.mono ?_; rintro e w1 ⟨rfl, hb⟩; have HB1 := hid hb; clear hb)
  go_loopw [3, 11] (fun v iv wr => ∃ (k : Nat) (x : List Rul), iv = .int .i64 k ∧ k ≤ n ∧ Hid (x = rounds (pickIf l (freeC l)) k) ∧ x.length ≤ k ∧ wr.ownsRow w.heap.size 33 4 v x.length (x.flatMap rucells) ∧ Hid (Below w.heap.size w wr)) (fun _ iv _ => n - (intOf iv).toNat)
  case atStart => exact ⟨0, [], rfl, by omega, rfl, by simp, World.ownsRow_nil _ _ _ _, HB1.out⟩
  case round =>
    obtain ⟨k, x, rfl, hk, HE, hx, hown, HB⟩ := hrel
    obtain ⟨Ax, cx, rfl, _, _⟩ := (Sl.of_own hown).form
    have HO := hid hown
    clear hown
    by_cases hlt : k < n
    · obtain ⟨b, o, ac, wd, md, ln, rfl, hbB, hx1, c0, c1, c2, c3⟩ := rucells_at (HV.out.1.1.below HB.out hB) hlt
      have hfit := rucells_fit HV.out.1.2 hx1
      have HX := hid hx1
      have HB0 := hid (HB.out.alloc HB.out.size (.cells #[.int .i64 ac, .string wd, .string md, .int .i64 ln] 33))
      have HO0 := hid (HO.out.alloc (.cells #[.int .i64 ac, .string wd, .string md, .int .i64 ln] 33))
      have K0 := Blk.new wr #[.int .i64 ac, .string wd, .string md, .int .i64 ln] 33
      have CCk := hid (CC.out k hk wr.heap.size ac ln wd md _ HB0.out hfit.2 ⟨(K0.2 0 _ rfl).1, (K0.2 1 _ rfl).1, (K0.2 2 _ rfl).1, (K0.2 3 _ rfl).1⟩)
      have HC := hid (Below.refl (wr.alloc (.cells #[.int .i64 ac, .string wd, .string md, .int .i64 ln] 33)).heap.size (wr.alloc (.cells #[.int .i64 ac, .string wd, .string md, .int .i64 ln] 33)))
      have s0 : (0 : Int) ≤ (k : Int) := by omega
      have s2 : ((k : Int)).toNat = k := by simp
      have s3 : (k : Int) ≤ (c : Int) := by omega
      have HFr := hid (show freeC l k ⟨ac, wd.data.toList, md.data.toList, ln⟩ = !((l.take k).any fun x => covB x ⟨ac, wd.data.toList, md.data.toList, ln⟩) from rfl)
      clear hx1 hfit K0
      generalize ((l.take k).any fun x => covB x ⟨ac, wd.data.toList, md.data.toList, ln⟩) = z at CCk HFr
      cases z with
      | false =>
        have HS := hid (show x ++ [(⟨ac, wd.data.toList, md.data.toList, ln⟩ : Rul)] = rounds (pickIf l (freeC l)) (k + 1) by
          rw [rounds_hit (pickIf_hit HX.out HFr.out), HE.out])
        go_wp2_with fail
        refine (CCk.out).mono ?_
        rintro e w3 ⟨rfl, hb⟩
        have HB3 := hid (HB0.out.trans (hb.mono HB0.out.size))
        have HO3 := hid (own_below HO0.out hb)
        replace HC := hid (HC.out.trans (hb.mono HC.out.size))
        clear hb
        have d0 := box_cell HC.out 0
        have d1 := box_cell HC.out 1
        have d2 := box_cell HC.out 2
        have d3 := box_cell HC.out 3
        go_wp2_with (at_builtin; refine appRule _ rfl (.tmp 22) (.tmp 24) rfl w.heap.size _ x (by rfl) HO3.out ac wd md ln _ _ _ (by rfl) (by simp) (by omega) HB3.out.size ?_)
        intro v' w4 ho4 hb4
        have HO4 := hid (And.intro (own_snoc ho4) (HB3.out.trans hb4))
        clear ho4 hb4
        go_wp2_with fail
        go_roundw
        case rel => exact ⟨k + 1, _, by go_num, by omega, HS, by rw [List.length_append]; show x.length + 1 ≤ _; omega, HO4.out.1, HO4.out.2⟩
        case measure => simp [intOf]; omega
      | true =>
        have HS := hid (show x = rounds (pickIf l (freeC l)) (k + 1) by
          rw [rounds_miss (pickIf_miss HX.out HFr.out), HE.out])
        go_wp2_with fail
        refine (CCk.out).mono ?_
        rintro e w3 ⟨rfl, hb⟩
        have HB3 := hid (HB0.out.trans (hb.mono HB0.out.size))
        have HO3 := hid (own_below HO0.out hb)
        clear hb HC
        go_wp2_with fail
        go_roundw
        case rel => exact ⟨k + 1, x, by go_num, by omega, HS, by omega, HO3.out, HB3.out⟩
        case measure => simp [intOf]; omega
    · have HF := hid (show x = dropCov l by rw [HE.out, HD.out, show l.length = k by have := HV.out.2; omega])
      go_wp2_with fail
      go_ret
      exact ⟨_, rfl, by rw [← HF.out]; exact HO.out, HB.out⟩
end Go.Proofs.YtochbjockoenpaaDoor
