/-
  RULES ADDED: the program's parts: a fresh list, the closure, slices.IndexFunc and slices.DeleteFunc by it.
-/
import Derived.Test.YthggedmgjehfiaaAR0
import Derived.Test.YthggedmgjehfiaaR13
namespace Go.Proofs.Ythggedmgjehfiaa
open Go.RowKit Nm
set_option linter.unusedSimpArgs false
set_option linter.unusedVariables false

theorem takeR_snoc {α : Type} {l : List α} {j : Nat} {x : α} (h : l[j]? = some x) : l.take (j + 1) = l.take j ++ [x] := by rw [List.take_add_one, h]; rfl
theorem filtR_keep {α : Type} {f : α → Bool} {l : List α} {j : Nat} {x : α} (h : l[j]? = some x) (hf : f x = true) : (l.take (j + 1)).filter f = (l.take j).filter f ++ [x] := by
  rw [takeR_snoc h, List.filter_append, List.filter_cons, if_pos hf]; rfl
theorem filtR_drop {α : Type} {f : α → Bool} {l : List α} {j : Nat} {x : α} (h : l[j]? = some x) (hf : f x = false) : (l.take (j + 1)).filter f = (l.take j).filter f := by
  rw [takeR_snoc h, List.filter_append, List.filter_cons, hf]; simp
theorem dropR_next {α : Type} {a b : List α} {j : Nat} (h : a.drop j = b.drop j) : a.drop (j + 1) = b.drop (j + 1) := by
  rw [← List.drop_drop, ← List.drop_drop, h]
theorem atR_drop {α : Type} {a b : List α} {j : Nat} (h : a.drop j = b.drop j) : a[j]? = b[j]? := by
  have := congrArg (fun l => l[0]?) h
  simpa using this
theorem takeR_set {α : Type} {l : List α} {k : Nat} {x : α} (h : l[k]? = some x) (y : α) : (l.set k y).take (k + 1) = l.take k ++ [y] := by
  rw [List.take_add_one, List.getElem?_set_self (List.getElem?_eq_some_iff.1 h).1, List.take_set_of_le (Nat.le_refl _)]; rfl
theorem zeroRul (w : World) : (zeroValue 31).run Try.prog w = .ok (.agg #[.int .i64 0, .string ByteArray.empty, .string ByteArray.empty, .int .i64 0]) w := by kernel_rfl

set_option maxHeartbeats 1000000 in
set_option maxRecDepth 100000 in
theorem freshRul_c (v : Value) (n B : Nat) (l : List Rul) (w : World) (hv : Sl w B 4 n v (l.flatMap rucells)) (hn : n ≤ 1048576) :
    Calls Try.prog 19 #[v] w (RowPost w 31 4 n (l.flatMap rucells)) := by
  obtain ⟨A, c, rfl, hnc, hcm⟩ := hv.form
  obtain ⟨i0, hi, hz0, hz1, hz2⟩ := info_parts Try.infoRule
  have HV := hid hv
  clear hv
  go_enter Try.func19, Try.ntmps19
  go_wp2_with (at_builtin; refine wpList_appSl _ rfl _ _ 27 rfl w.heap.size 31 i0 _ 4 48 Try.underlying27 hi hz0 hz1 hz2 rfl (by decide) (.slice none 0 0) 0 [] (by rfl) (World.ownsRow_nil _ _ _ _) B n _ _ (by rfl) HV.out (rucells_one l) (by unfold maxLen; omega) (by omega) (Nat.le_refl _) ?_)
  intro v' w' ho hb
  have HO := hid (show w'.ownsRow w.heap.size 31 4 v' n (l.flatMap rucells) by simpa using ho)
  have HB := hid hb
  clear ho hb
  go_wp2_with fail
  go_ret
  exact ⟨v', rfl, HO.out, HB.out⟩

set_option maxHeartbeats 2000000 in
set_option maxRecDepth 100000 in
theorem addFn_c (ra rl xa xl : Int) (rw_ rm xw xm : ByteArray) (bx : Nat) (w : World) (hc : RuleAt w bx xa xw xm xl) :
    Calls Try.prog 20 #[.agg #[.int .i64 ra, .string rw_, .string rm, .int .i64 rl], .pointer (some ⟨bx, 0, none⟩)] w (BoolPost w (!notR ⟨xa, xw.data.toList, xm.data.toList, xl⟩ ⟨ra, rw_.data.toList, rm.data.toList, rl⟩)) := by
  have hlt : bx < w.heap.size := World.block_lt_of_cell? w _ hc.1
  have hb0 : Below w.heap.size w (w.alloc (.cells #[.int .i64 ra, .string rw_, .string rm, .int .i64 rl] 31)) := (Below.refl _ _).alloc (Nat.le_refl _) _
  obtain ⟨y0, y1, y2, y3⟩ := hc.below hb0 hlt
  have HB0 := hid hb0
  have HD := hid (show (!notR ⟨xa, xw.data.toList, xm.data.toList, xl⟩ ⟨ra, rw_.data.toList, rm.data.toList, rl⟩) = decide (ra = xa ∧ rw_ = xw ∧ rm = xm ∧ rl = xl) by
    unfold notR
    rw [Bool.not_not]
    refine decide_eq_decide.2 ?_
    simp only [Rul.mk.injEq, bytes_eq_iff])
  generalize (!notR ⟨xa, xw.data.toList, xm.data.toList, xl⟩ ⟨ra, rw_.data.toList, rm.data.toList, rl⟩) = z at HD ⊢
  clear hb0 hc
  by_cases e1 : ra = xa
  · subst e1
    by_cases e2 : rw_ = xw
    · subst e2
      by_cases e3 : rm = xm
      · subst e3
        by_cases e4 : rl = xl
        · subst e4
          go_enter Try.func20, Try.ntmps20
          go_wp2_with fail
          go_ret
          exact ⟨ret_bool (by rw [HD.out]; simp), HB0.out⟩
        · have f4 : (rl == xl) = false := by simpa using e4
          go_enter Try.func20, Try.ntmps20
          go_wp2_with fail
          go_ret
          exact ⟨ret_bool (by rw [HD.out]; simp [e4]), HB0.out⟩
      · have f3 := eq_false_of (fun h => e3 ((bytes_eq_iff _ _).1 h))
        go_enter Try.func20, Try.ntmps20
        go_wp2_with fail
        go_ret
        exact ⟨ret_bool (by rw [HD.out]; simp [e3]), HB0.out⟩
    · have f2 := eq_false_of (fun h => e2 ((bytes_eq_iff _ _).1 h))
      go_enter Try.func20, Try.ntmps20
      go_wp2_with fail
      go_ret
      exact ⟨ret_bool (by rw [HD.out]; simp [e2]), HB0.out⟩
  · have f1 : (ra == xa) = false := by simpa using e1
    go_enter Try.func20, Try.ntmps20
    go_wp2_with fail
    go_ret
    exact ⟨ret_bool (by rw [HD.out]; simp [e1]), HB0.out⟩

/-- the first that is the rule -/
def FirstR (l : List Rul) (x : Rul) (r : Int) : Prop := (r = -1 ∧ ∀ y ∈ l, notR x y = true) ∨ (∃ (k : Nat) (y : Rul), r = (k : Int) ∧ l[k]? = some y ∧ notR x y = false ∧ ∀ y ∈ l.take k, notR x y = true)
set_option maxHeartbeats 4000000 in
set_option maxRecDepth 100000 in
theorem indexRul_c (v : Value) (n B bx : Nat) (l : List Rul) (xa xl : Int) (xw xm : ByteArray) (w : World) (hv : Sl w B 4 n v (l.flatMap rucells)) (hB : B ≤ w.heap.size) (hc : RuleAt w bx xa xw xm xl) :
    Calls Try.prog 32 #[v, .func (.func 20) #[] #[.pointer (some ⟨bx, 0, none⟩)]] w
      (fun e w' => ∃ r : Int, e = .returned (.int .i64 r) ∧ FirstR l ⟨xa, xw.data.toList, xm.data.toList, xl⟩ r ∧ Below w.heap.size w w') := by
  have hlt0 : bx < w.heap.size := World.block_lt_of_cell? w _ hc.1
  have hln := Sl.count rucells_len hv (by omega)
  obtain ⟨A, c, rfl, hnc, hcm⟩ := hv.form
  unfold maxLen at hcm
  have HV := hid (And.intro hv hln)
  have HC := hid (And.intro hc hlt0)
  clear hv hln hc hlt0
  go_enter Try.func32, Try.ntmps32
  go_wp2_with fail
  go_loopw [8] (fun iv wr => ∃ (k : Nat), iv = .int .i64 k ∧ k ≤ n ∧ Hid (∀ y ∈ l.take k, notR ⟨xa, xw.data.toList, xm.data.toList, xl⟩ y = true) ∧ Hid (Below w.heap.size w wr)) (fun iv _ => n - (intOf iv).toNat)
  case atStart => exact ⟨0, rfl, by omega, by simp [Hid], Below.refl _ _⟩
  case round =>
    obtain ⟨k, rfl, hk, HN, HB⟩ := hrel
    by_cases hlt : k < n
    · obtain ⟨b, o, ac, wd, md, ln, rfl, hbB, hx, c0, c1, c2, c3⟩ := rucells_at (HV.out.1.below HB.out hB) hlt
      have E := hid (addFn_c ac ln xa xl wd md xw xm bx wr (HC.out.1.below HB.out HC.out.2))
      have HX := hid hx
      clear hx
      cases hz : notR ⟨xa, xw.data.toList, xm.data.toList, xl⟩ ⟨ac, wd.data.toList, md.data.toList, ln⟩ with
      | false =>
        rw [hz] at E
        have HZ := hid hz
        clear hz
        go_wp2_with (go_at_call 20; refine (E.out).mono ?_; rintro e w2 ⟨rfl, hb⟩)
        go_ret
        exact ⟨k, rfl, .inr ⟨k, _, rfl, HX.out, HZ.out, HN.out⟩, HB.out.trans (hb.mono HB.out.size)⟩
      | true =>
        rw [hz] at E
        have HZ := hid hz
        clear hz
        go_wp2_with (go_at_call 20; refine (E.out).mono ?_; rintro e w2 ⟨rfl, hb⟩)
        go_roundw
        case rel =>
          refine ⟨k + 1, by go_num, by omega, fun y hy => ?_, HB.out.trans (hb.mono HB.out.size)⟩
          rw [takeR_snoc HX.out] at hy
          rcases List.mem_append.1 hy with hy | hy
          · exact HN.out y hy
          · rw [List.mem_singleton] at hy; rw [hy]; exact HZ.out
        case measure => simp [intOf]; omega
    · have HE := hid (show ∀ y ∈ l, notR ⟨xa, xw.data.toList, xm.data.toList, xl⟩ y = true by
        have h := HN.out
        rwa [List.take_of_length_le (by have := HV.out.2; omega)] at h)
      go_wp2_with fail
      go_ret
      exact ⟨-1, rfl, .inl ⟨rfl, HE.out⟩, HB.out⟩

theorem own_rcell {w : World} {lo n c g : Nat} {cur : List Rul} (ho : w.ownsRow lo 31 4 (.slice (some ⟨g, 0, none⟩) n c) n (cur.flatMap rucells)) {k d : Nat} {x : Rul} {u : Value} (hx : cur[k]? = some x) (hu : (rucells x)[d]? = some u) :
    w.cell? ⟨g, k * 4 + d, none⟩ = some u ∧ w.frozen? ⟨g, k * 4 + d, none⟩ = false := by
  have hj := (List.getElem?_eq_some_iff.1 hu).1
  rw [rucells_len] at hj
  have e := flat_at rucells 4 rucells_len cur k d x hx hj
  rw [hu] at e
  have hlt := (List.getElem?_eq_some_iff.1 e).1
  exact ⟨(ho.cellAt (k * 4 + d) (by have := ho.1; omega)).trans e, ho.frozenAt _⟩
theorem flat_setR {α β : Type} {f : α → List β} (hf : ∀ x, (f x).length = 4) (l : List α) (i : Nat) (x y : α) {a0 a1 a2 a3 : β} (hx : f x = [a0, a1, a2, a3]) (hy : l[i]? = some y) :
    ((((l.flatMap f).set (i * 4) a0).set (i * 4 + 1) a1).set (i * 4 + 2) a2).set (i * 4 + 3) a3 = (l.set i x).flatMap f := by
  induction l generalizing i with
  | nil => simp at hy
  | cons b l ih =>
    obtain ⟨b0, b1, b2, b3, e⟩ : ∃ b0 b1 b2 b3, f b = [b0, b1, b2, b3] := by
      have h := hf b
      match f b, h with
      | [b0, b1, b2, b3], _ => exact ⟨_, _, _, _, rfl⟩
    cases i with
    | zero => simp [e, hx]
    | succ k =>
      have h := ih k (by simpa using hy)
      have e6 : (k + 1) * 4 = k * 4 + 4 := by omega
      rw [e6, List.flatMap_cons, e, List.set_cons_succ, List.flatMap_cons, e, ← h]
      rfl
theorem own_rset {w : World} {lo n c g : Nat} {cur : List Rul} (ho : w.ownsRow lo 31 4 (.slice (some ⟨g, 0, none⟩) n c) n (cur.flatMap rucells)) {i : Nat} {x y : Rul} {a0 a1 a2 a3 : Value} (hx : rucells x = [a0, a1, a2, a3]) (hy : cur[i]? = some y) :
    ((((w.setCell ⟨g, i * 4, none⟩ a0).setCell ⟨g, i * 4 + 1, none⟩ a1).setCell ⟨g, i * 4 + 2, none⟩ a2).setCell ⟨g, i * 4 + 3, none⟩ a3).ownsRow lo 31 4 (.slice (some ⟨g, 0, none⟩) n c) n ((cur.set i x).flatMap rucells)
      ∧ w.grownBy ((((w.setCell ⟨g, i * 4, none⟩ a0).setCell ⟨g, i * 4 + 1, none⟩ a1).setCell ⟨g, i * 4 + 2, none⟩ a2).setCell ⟨g, i * 4 + 3, none⟩ a3) (some g) := by
  obtain ⟨s0, g0⟩ := ho.stored (i * 4) a0
  obtain ⟨s1, g1⟩ := s0.stored (i * 4 + 1) a1
  obtain ⟨s2, g2⟩ := s1.stored (i * 4 + 2) a2
  obtain ⟨s3, g3⟩ := s2.stored (i * 4 + 3) a3
  refine ⟨?_, grown2 (grown2 (grown2 g0 g1) g2) g3⟩
  rw [← flat_setR rucells_len cur i x y hx hy]
  exact s3

set_option maxHeartbeats 8000000 in
set_option maxRecDepth 100000 in
theorem deleteRul_c {W : World} {lo n bx : Nat} {ls : List Rul} {v : Value} (xa xl : Int) (xw xm : ByteArray) (hown : W.ownsRow lo 31 4 v n (ls.flatMap rucells)) (hn : n ≤ 64) (hlo : lo ≤ W.heap.size) (hc : RuleAt W bx xa xw xm xl) (hbx : v.ownBlock ≠ some bx) :
    Calls Try.prog 18 #[v, .func (.func 20) #[] #[.pointer (some ⟨bx, 0, none⟩)]] W
      (fun e w' => ∃ v', e = .returned v' ∧ w'.ownsRow lo 31 4 v' (ls.filter (notR ⟨xa, xw.data.toList, xm.data.toList, xl⟩)).length ((ls.filter (notR ⟨xa, xw.data.toList, xm.data.toList, xl⟩)).flatMap rucells) ∧ W.grownBy w' v.ownBlock ∧ v'.ownBlock = v.ownBlock) := by
  have hln := Sl.count rucells_len (Sl.of_own hown) (by omega)
  have C := hid (indexRul_c v n W.heap.size bx ls xa xl xw xm W (Sl.of_own hown) (Nat.le_refl _) hc)
  have hbxl : bx < W.heap.size := World.block_lt_of_cell? _ _ hc.1
  have EX := hid (fun (ra rl : Int) (rw_ rm : ByteArray) (w : World) (hc' : RuleAt w bx xa xw xm xl) => addFn_c ra rl xa xl rw_ rm xw xm bx w hc')
  obtain ⟨A, c, rfl, hnc, hcm⟩ := (Sl.of_own hown).form
  unfold maxLen at hcm
  have HO := hid hown
  have HLn := hid hln
  have HC := hid hc
  have hzero := zeroRul
  generalize hX : (⟨xa, xw.data.toList, xm.data.toList, xl⟩ : Rul) = X at *
  clear hX hown hln hc
  go_enter Try.func18, Try.ntmps18
  go_wp2_with (go_at_call 32; refine (C.out).mono ?_; rintro e w1 ⟨r, rfl, hr, hb⟩; rcases hr with ⟨rfl, hall⟩ | ⟨k0, x0, rfl, hx0, hk0, hnot⟩)
  · have HALL := hid hall
    have HB := hid hb
    clear hall hb
    go_wp2_with fail
    go_ret
    have hf : ls.filter (notR X) = ls := List.filter_eq_self.2 HALL.out
    refine ⟨_, rfl, ?_, grown_of HB.out _, rfl⟩
    rw [hf, HLn.out]
    exact own_below HO.out HB.out
  have hk0n : k0 < n := by have := (List.getElem?_eq_some_iff.1 hx0).1; have := HLn.out; omega
  obtain ⟨g, rfl, hgl⟩ := own_some HO.out (by omega)
  have hgx : g ≠ bx := fun e => hbx (by rw [← e]; rfl)
  have s0 : IntKind.i64.wrap ((k0 : Int) + 1) = (k0 : Int) + 1 := by rw [IntKind.wrap_i64]; omega
  have s0w : wrap64 ((k0 : Int) + 1) = (k0 : Int) + 1 := by have h := s0; rw [IntKind.wrap_i64] at h; unfold wrap64; omega
  have s1 : ((k0 : Int) == -1) = false := by simp
  have HX0 := hid (And.intro hx0 (And.intro hk0 hnot))
  have HO1 := hid (own_below HO.out hb)
  have HG1 := hid (grown_of hb (some g))
  clear hx0 hk0 hnot hb hbx
  simp only [s0w, s1]
  go_wp2_with fail
  go_loopw [5, 6] (fun iv jv wr => ∃ (i j : Nat) (cur : List Rul), iv = .int .i64 i ∧ jv = .int .i64 j ∧ i < j ∧ j ≤ n ∧ Hid (cur.take i = (ls.take j).filter (notR X)) ∧ Hid (cur.drop j = ls.drop j) ∧ Hid (cur.length = n) ∧ Hid (wr.ownsRow lo 31 4 (.slice (some ⟨g, 0, none⟩) n c) n (cur.flatMap rucells)) ∧ Hid (W.grownBy wr (some g))) (fun _ jv _ => n - (intOf jv).toNat)
  case atStart =>
    refine ⟨k0, k0 + 1, ls, rfl, by go_num, by omega, by omega, ?_, rfl, HLn.out, HO1.out, HG1.out⟩
    show _ = _
    rw [filtR_drop HX0.out.1 HX0.out.2.1, List.filter_eq_self.2 HX0.out.2.2]
  case round =>
    obtain ⟨i, j, cur, rfl, rfl, hij, hj, HT, HD, HLc, HOr, HGr⟩ := hrel
    by_cases hlt : j < n
    · obtain ⟨y, hy⟩ : ∃ y, cur[i]? = some y := ⟨_, List.getElem?_eq_getElem (by have := HLc.out; omega)⟩
      obtain ⟨b, o, ac, wd, md, ln, eA, hbB, hx, c0, c1, c2, c3⟩ := rucells_at (Sl.of_own HOr.out) hlt
      have eA' : g = b ∧ o = 0 := by simp at eA; exact ⟨eA.1, eA.2.symm⟩
      obtain ⟨rfl, rfl⟩ := eA'
      simp only [Nat.zero_add] at c0 c1 c2 c3
      have hlx : ls[j]? = some ⟨ac, wd.data.toList, md.data.toList, ln⟩ := by rw [← atR_drop HD.out]; exact hx
      have HX := hid (And.intro hlx hx)
      have HY := hid hy
      have s0 : (0 : Int) ≤ (j : Int) := by omega
      have s1 : (j : Int) < (n : Int) := by omega
      have s2 : ((j : Int)).toNat = j := by simp
      have HKX := hid (Blk.new wr #[.int .i64 ac, .string wd, .string md, .int .i64 ln] 31)
      have HXB := hid (show Below wr.heap.size wr (wr.alloc (.cells #[.int .i64 ac, .string wd, .string md, .int .i64 ln] 31)) from (Below.refl _ _).alloc (Nat.le_refl _) _)
      have hcw : RuleAt wr bx xa xw xm xl := by
        have hbk := fun q => World.cell?_of_block (a := ⟨bx, q, none⟩) (HGr.out.block bx hbxl (fun e => hgx (Option.some.inj e).symm))
        exact ⟨(hbk 0).trans HC.out.1, (hbk 1).trans HC.out.2.1, (hbk 2).trans HC.out.2.2.1, (hbk 3).trans HC.out.2.2.2⟩
      have HCw := hid (hcw.below HXB.out (World.block_lt_of_cell? _ _ hcw.1))
      have E := hid (EX.out ac ln wd md _ HCw.out)
      clear hx hlx hy hcw eA
      cases hz : notR X ⟨ac, wd.data.toList, md.data.toList, ln⟩ with
      | false =>
        rw [hz] at E
        have HZ := hid hz
        clear hz
        go_wp2_with (go_at_call 20; refine (E.out).mono ?_; rintro e w2 ⟨rfl, hb⟩)
        have HO2 := hid (own_below HOr.out (HXB.out.trans (hb.mono HXB.out.size)))
        have HG2 := hid (grown2 HGr.out (grown_of (HXB.out.trans (hb.mono HXB.out.size)) (some g)))
        clear hb c0 c1 c2 c3
        go_roundw
        case rel =>
          refine ⟨i, j + 1, cur, rfl, by go_num, by omega, by omega, ?_, dropR_next HD.out, HLc.out, HO2.out, HG2.out⟩
          show _ = _
          rw [filtR_drop HX.out.1 HZ.out]; exact HT.out
        case measure => simp [intOf]; omega
      | true =>
        rw [hz] at E
        have HZ := hid hz
        clear hz
        have t2 : (0 : Int) ≤ (i : Int) := by omega
        have t3 : (i : Int) < (n : Int) := by omega
        have t4 : ((i : Int)).toNat = i := by simp
        obtain ⟨ya, yw, ym, yl, hcsy⟩ : ∃ ya yw ym yl, rucells y = [.int .i64 ya, .string yw, .string ym, .int .i64 yl] := by
          obtain ⟨pw, hpw, _⟩ := txt_mk y.wd
          obtain ⟨pm, hpm, _⟩ := txt_mk y.md
          exact ⟨_, pw, pm, _, by unfold rucells; rw [hpw, hpm]⟩
        have hcsx : rucells ⟨ac, wd.data.toList, md.data.toList, ln⟩ = [.int .i64 ac, .string wd, .string md, .int .i64 ln] := by simp [rucells, txt_data]
        have HCS := hid (And.intro hcsx hcsy)
        clear hcsx hcsy
        go_wp2_with (go_at_call 20; refine (E.out).mono ?_; rintro e w2 ⟨rfl, hb⟩; have ho2 := own_below HOr.out (HXB.out.trans (hb.mono HXB.out.size)); have hg2 := grown2 HGr.out (grown_of (HXB.out.trans (hb.mono HXB.out.size)) (some g)); have hst := own_rset ho2 HCS.out.1 HY.out; have HO3 := hid hst.1; have HG3 := hid (grown2 hg2 hst.2); have KX2 := HKX.out.to hb; have b0 := (KX2.2 0 _ rfl).1; have b1 := (KX2.2 1 _ rfl).1; have b2 := (KX2.2 2 _ rfl).1; have b3 := (KX2.2 3 _ rfl).1; obtain ⟨y0, z0⟩ := own_rcell ho2 HY.out (d := 0) (u := .int .i64 ya) (by rw [HCS.out.2]; rfl); obtain ⟨y1, z1⟩ := own_rcell ho2 HY.out (d := 1) (u := .string yw) (by rw [HCS.out.2]; rfl); obtain ⟨y2, z2⟩ := own_rcell ho2 HY.out (d := 2) (u := .string ym) (by rw [HCS.out.2]; rfl); obtain ⟨y3, z3⟩ := own_rcell ho2 HY.out (d := 3) (u := .int .i64 yl) (by rw [HCS.out.2]; rfl); simp only [Nat.add_zero] at y0 z0; clear ho2 hg2 hst KX2 hb c0 c1 c2 c3)
        go_roundw
        case rel =>
          refine ⟨i + 1, j + 1, cur.set i ⟨ac, wd.data.toList, md.data.toList, ln⟩, by go_num, by go_num, by omega, by omega, ?_, ?_, by show (cur.set i _).length = n; rw [List.length_set]; exact HLc.out, HO3.out, HG3.out⟩
          · show _ = _
            rw [takeR_set HY.out, HT.out, filtR_keep HX.out.1 HZ.out]
          · show _ = _
            rw [List.drop_set_of_lt (by omega)]; exact dropR_next HD.out
        case measure => simp [intOf]; omega
    · obtain rfl : j = n := by omega
      have hfin : cur.take i = ls.filter (notR X) := by
        have h := HT.out
        rwa [List.take_of_length_le (l := ls) (by have := HLn.out; omega)] at h
      have hcut := own_cut HOr.out (k := i) (by omega)
      obtain ⟨w9, hcl, ho9, hg9⟩ := run_clear_own (P := Try.prog) (ty := 0) (c := c - i) Try.underlying27 (hzero wr) (size := 4) rfl (by decide) hcut (o := i * 4) (q := j - i) (by omega) (by omega) (by omega)
      have hcl' : ∀ ty, (Builtin.clear_ #[27] ty #[.slice (some ⟨g, i * 4, none⟩) (j - i) (c - i)]).run Try.prog wr = .ok (.tuple #[]) w9 := fun ty => hcl
      have hlen : (ls.filter (notR X)).length = i := by rw [← hfin, List.length_take]; have := HLc.out; omega
      have HO9 := hid (show w9.ownsRow lo 31 4 (.slice (some ⟨g, 0, none⟩) i c) i ((ls.filter (notR X)).flatMap rucells) by
        rw [← hfin, ← flat_takeK rucells 4 rucells_len]; exact ho9)
      have HG9 := hid (grown2 HGr.out hg9)
      have HLN := hid hlen
      have t2 : (0 : Int) ≤ (i : Int) := by omega
      have t3 : (i : Int) ≤ (j : Int) := by omega
      have t4 : ((i : Int)).toNat = i := by simp
      have t5 : (i : Int) ≤ (c : Int) := by omega
      have t6 : ¬ c = i := by omega
      have t7 : i ≤ j := by omega
      have t8 : i ≤ c := by omega
      clear hfin hcut hcl ho9 hg9 hlen
      go_wp2_with fail
      go_ret
      refine ⟨_, rfl, ?_, HG9.out, rfl⟩
      rw [HLN.out]
      exact HO9.out
end Go.Proofs.Ythggedmgjehfiaa
