/-
  BUFFERS: RunBuffer of the program. By gen_rb.py.
-/
import Derived.Test.YtfjpfdmlcgkfeaaRB0
namespace Go.Proofs.Ytfjpfdmlcgkfeaa
open Go.RowKit Nm
set_option linter.unusedSimpArgs false
set_option linter.unusedVariables false

theorem two_boxesB (w : World) (rm lv : Int) (A : Option Addr) (n c : Nat) : Rows ((w.alloc (.cells #[.int .i64 rm, .int .i64 lv, .slice A n c] 29)).alloc (.cells #[.int .i64 0, .int .i64 0, .slice none 0 0] 29)) w.heap.size
    ([bxRow 29 3 (w.heap.size + 1) [.int .i64 0, .int .i64 0, .slice none 0 0]] ++ [bxRow 29 3 w.heap.size [.int .i64 rm, .int .i64 lv, .slice A n c]]) := by
  have R2 := (((Rows.nil w w.heap.size).bx (Nat.le_refl _) #[.int .i64 rm, .int .i64 lv, .slice A n c] 29 3 rfl).bx (by simp) #[.int .i64 0, .int .i64 0, .slice none 0 0] 29 3 rfl)
  simp only [World.size_alloc] at R2
  exact R2
theorem two_belowB (w : World) (rm lv : Int) (A : Option Addr) (n c : Nat) : Below w.heap.size w ((w.alloc (.cells #[.int .i64 rm, .int .i64 lv, .slice A n c] 29)).alloc (.cells #[.int .i64 0, .int .i64 0, .slice none 0 0] 29)) :=
  ((Below.refl w.heap.size w).alloc (Nat.le_refl _) (.cells #[.int .i64 rm, .int .i64 lv, .slice A n c] 29)).alloc (by simp) (.cells #[.int .i64 0, .int .i64 0, .slice none 0 0] 29)
theorem run_none {w w2 : World} {e : Ending} (he : e = .returned (.tuple #[.agg #[.int .i64 0, .int .i64 0, .slice none 0 0], .slice none 0 0, .bool false])) (hb : Below w.heap.size w w2) : RunPost w ⟨0, 0, []⟩ [] false e w2 :=
  ⟨_, _, _, _, he, ⟨_, rfl, rfl⟩, NE.nil.toR, Rows.cons_nil (Rows.one (World.ownsRow_nil _ _ _ _)), hb⟩
theorem rb_step {d : Buf} {l : List Rec} {k : Nat} {x : List Rec} {r : Rec} (h : runBd d (l.take k) = ⟨d.rm, d.lv, x⟩) (hx : l[k]? = some r) :
    runBd d (l.take (k + 1)) = pushB ⟨d.rm, d.lv, x⟩ r ∧ runOd d (l.take (k + 1)) = runOd d (l.take k) ++ outsR ⟨d.rm, d.lv, x⟩ r := by
  rw [List.take_add_one, hx]
  show runBd d (l.take k ++ [r]) = _ ∧ runOd d (l.take k ++ [r]) = _
  rw [runBd_snoc, runOd_snoc, h]; exact ⟨rfl, rfl⟩
theorem RecsR_count {rs : List Row} {A : Option Addr} {n c lo : Nat} {l : List Rec} {w : World} (h : RecsR rs (.slice A n c) l) (hr : Rows w lo rs) : n = l.length := by
  subst h
  obtain ⟨A', c', e, _⟩ := (Sl.of_own (show w.ownsRow _ _ 4 (.slice A n c) _ _ from hr.head)).form
  injection e with _ h2 _
theorem outsR_of {d : Buf} {r : Rec} : outsR d r = if (pushR d r).length = 0 then [] else [pushR d r] := rfl

set_option maxHeartbeats 16000000 in
set_option maxRecDepth 100000 in
theorem implRunBuffer_c {v v2 : Value} {B : Nat} {d : Buf} {l : List Rec} {w : World} (h : BufIn w B v d) (h2 : RecsIn w B v2 l) (hB : B ≤ w.heap.size) :
    Calls Try.prog 10 #[v, v2] w (RunPost w (rbB d l) (rbO d l) (rbOk d l)) := by
  have C1 := hid (fun (w1 : World) (hb : Below w.heap.size w w1) => implValidBuffer_c (h.below hb hB) (Nat.le_trans hB hb.size))
  have C2 := hid (fun (w1 : World) (hb : Below w.heap.size w w1) => implValidRecords_c _ l.length B l w1 (h2.below hb hB).rs (Nat.le_trans hB hb.size))
  have HL2 := hid h2
  obtain ⟨rm, lv, rc⟩ := d
  obtain ⟨u, hu, hin⟩ := h
  obtain ⟨A, c, hAc, hnc, hcm⟩ := hin.1.1.form
  subst hAc
  subst hu
  obtain ⟨Al, cl, rfl, hlc, hlm⟩ := h2.1.1.form
  unfold maxLen at hlm hcm
  have HIN := hid hin
  have HRS := hid h2.1.2
  dsimp only at *
  have hl20 := h2.2
  unfold maxTxt at hl20
  have hX : rbOk ⟨rm, lv, rc⟩ l = (bufOk ⟨rm, lv, rc⟩ && recsOk l) := rfl
  have HX0 := hid (show rbB ⟨rm, lv, rc⟩ l = if rbOk ⟨rm, lv, rc⟩ l then runBd ⟨rm, lv, rc⟩ l else ⟨0, 0, []⟩ from rfl)
  have HX1 := hid (show rbO ⟨rm, lv, rc⟩ l = if rbOk ⟨rm, lv, rc⟩ l then runOd ⟨rm, lv, rc⟩ l else [] from rfl)
  rw [hX] at HX0 HX1 ⊢
  generalize rbB ⟨rm, lv, rc⟩ l = X0 at *
  generalize rbO ⟨rm, lv, rc⟩ l = X1 at *
  generalize hll : l.length = nl at *
  generalize hnn : rc.length = n at *
  replace hll := hid hll
  replace hnn := hid hnn
  have HR2 := hid (two_boxesB w rm lv A n c)
  have HB2 := hid (two_belowB w rm lv A n c)
  have hbr : w.heap.size ≤ w.heap.size + 1 := by omega
  clear h2 hX hin
  cases hz : bufOk ⟨rm, lv, rc⟩ with
  | false =>
    rw [hz] at C1 HX0 HX1
    clear C2 hz
    obtain rfl : X0 = ⟨0, 0, []⟩ := HX0.out
    obtain rfl : X1 = [] := HX1.out
    clear HX0 HX1
    go_enter Try.func10, Try.ntmps10
    go_wp2_with fail
    refine (C1.out _ HB2.out).mono ?_
    rintro e w1 ⟨rfl, hb⟩
    replace HR2 := hid (HR2.out.below hb)
    replace HB2 := hid (HB2.out.trans (hb.mono HB2.out.size))
    clear hb C1
    obtain ⟨r0, x0, _⟩ := Rows.bcell2 (pre := []) (q := 0) HR2.out rfl
    obtain ⟨r1, x1, _⟩ := Rows.bcell2 (pre := []) (q := 1) HR2.out rfl
    obtain ⟨r2, x2, _⟩ := Rows.bcell2 (pre := []) (q := 2) HR2.out rfl
    go_wp2_with fail
    have Y2 := Rows.boxset (pre := []) (j := 0) (u := .int .i64 0) HR2.out
    have Y3 := Rows.boxset (pre := []) (j := 1) (u := .int .i64 0) Y2
    have Y4 := Rows.boxset (pre := []) (j := 2) (u := .slice none 0 0) Y3
    have f0 := (Rows.bcell2 (pre := []) (q := 0) Y4 rfl).1
    have f1 := (Rows.bcell2 (pre := []) (q := 1) Y4 rfl).1
    have f2 := (Rows.bcell2 (pre := []) (q := 2) Y4 rfl).1
    refine bodyPost_ret (v := .tuple #[.agg #[.int .i64 0, .int .i64 0, .slice none 0 0], .slice none 0 0, .bool false]) (by simp [results, Try.results10, go_sem, f0, f1, f2]) rfl ?_
    exact run_none rfl (((HB2.out.setCell (p := ⟨w.heap.size + 1, 0, none⟩) hbr (.int .i64 0)).setCell (p := ⟨w.heap.size + 1, 1, none⟩) hbr (.int .i64 0)).setCell (p := ⟨w.heap.size + 1, 2, none⟩) hbr (.slice none 0 0))
  | true =>
    rw [hz] at C1 HX0 HX1
    cases hq : recsOk l with
    | false =>
      rw [hq] at C2 HX0 HX1
      clear hz hq
      obtain rfl : X0 = ⟨0, 0, []⟩ := HX0.out
      obtain rfl : X1 = [] := HX1.out
      clear HX0 HX1
      go_enter Try.func10, Try.ntmps10
      go_wp2_with fail
      refine (C1.out _ HB2.out).mono ?_
      rintro e w1 ⟨rfl, hb⟩
      replace HR2 := hid (HR2.out.below hb)
      replace HB2 := hid (HB2.out.trans (hb.mono HB2.out.size))
      clear hb C1
      go_wp2_with fail
      refine (C2.out _ HB2.out).mono ?_
      rintro e w1 ⟨rfl, hb⟩
      replace HR2 := hid (HR2.out.below hb)
      replace HB2 := hid (HB2.out.trans (hb.mono HB2.out.size))
      clear hb C2
      obtain ⟨r0, x0, _⟩ := Rows.bcell2 (pre := []) (q := 0) HR2.out rfl
      obtain ⟨r1, x1, _⟩ := Rows.bcell2 (pre := []) (q := 1) HR2.out rfl
      obtain ⟨r2, x2, _⟩ := Rows.bcell2 (pre := []) (q := 2) HR2.out rfl
      go_wp2_with fail
      have Y2 := Rows.boxset (pre := []) (j := 0) (u := .int .i64 0) HR2.out
      have Y3 := Rows.boxset (pre := []) (j := 1) (u := .int .i64 0) Y2
      have Y4 := Rows.boxset (pre := []) (j := 2) (u := .slice none 0 0) Y3
      have f0 := (Rows.bcell2 (pre := []) (q := 0) Y4 rfl).1
      have f1 := (Rows.bcell2 (pre := []) (q := 1) Y4 rfl).1
      have f2 := (Rows.bcell2 (pre := []) (q := 2) Y4 rfl).1
      refine bodyPost_ret (v := .tuple #[.agg #[.int .i64 0, .int .i64 0, .slice none 0 0], .slice none 0 0, .bool false]) (by simp [results, Try.results10, go_sem, f0, f1, f2]) rfl ?_
      exact run_none rfl (((HB2.out.setCell (p := ⟨w.heap.size + 1, 0, none⟩) hbr (.int .i64 0)).setCell (p := ⟨w.heap.size + 1, 1, none⟩) hbr (.int .i64 0)).setCell (p := ⟨w.heap.size + 1, 2, none⟩) hbr (.slice none 0 0))
    | true =>
      rw [hq] at C2 HX0 HX1
      replace HX0 := hid (show X0 = runBd ⟨rm, lv, rc⟩ l from HX0.out)
      replace HX1 := hid (show X1 = runOd ⟨rm, lv, rc⟩ l from HX1.out)
      have HOK := hid hz
      have HQL := hid hq
      have hnl : nl ≤ 12 := by have h9 := rcsOk_len hq; have := hll.out; omega
      have hn12 : n ≤ 12 := by have h9 := (bufOk_len hz).1; have := hnn.out; dsimp only at h9; omega
      have HRL := hid (fun k => runBd_rl (l.take k) ⟨rm, lv, rc⟩)
      have HFIT := hid (fun (k : Nat) => (run_fit (l.take k) ⟨rm, lv, rc⟩ hz (show RecsFit rc from ⟨HIN.out.2, HIN.out.1.2⟩) fun x hx => ⟨recs_atB hq (List.mem_of_mem_take hx), HRS.out x (List.mem_of_mem_take hx)⟩).1)
      have HBOK := hid (fun (k : Nat) => runBd_ok (l.take k) ⟨rm, lv, rc⟩ hz fun x hx => recs_atB hq (List.mem_of_mem_take hx))
      clear hz hq
      have C3 := hid (fun (w1 : World) (hb : Below w.heap.size w w1) => freshRecs_c (HIN.out.below hb hB))
      go_enter Try.func10, Try.ntmps10
      go_wp2_with fail
      refine (C1.out _ HB2.out).mono ?_
      rintro e w1 ⟨rfl, hb⟩
      replace HR2 := hid (HR2.out.below hb)
      replace HB2 := hid (HB2.out.trans (hb.mono HB2.out.size))
      clear hb C1
      go_wp2_with fail
      refine (C2.out _ HB2.out).mono ?_
      rintro e w2 ⟨rfl, hb⟩
      replace HR2 := hid (HR2.out.below hb)
      replace HB2 := hid (HB2.out.trans (hb.mono HB2.out.size))
      clear hb C2
      have p2 := (Rows.bc HR2.out.right 2 rfl).1
      go_wp2_with fail
      refine (C3.out _ HB2.out).mono ?_
      rintro e w4 ⟨u4, rfl, ho4, hb4⟩
      obtain ⟨A2, c2, rfl, _, _⟩ := (Sl.of_own ho4).form
      rw [hnn.out] at ho4 ⊢
      have HR4 := hid (show Rows w4 w.heap.size ([bxRow 29 3 w.heap.size [.int .i64 rm, .int .i64 lv, .slice A n c]] ++ ([bxRow 29 3 (w.heap.size + 1) [.int .i64 0, .int .i64 0, .slice none 0 0]] ++ [⟨46, 4, n, .slice A2 n c2, rc.flatMap rcells⟩])) from (HR2.out.newer hb4 (Rows.one (r := ⟨46, 4, n, .slice A2 n c2, rc.flatMap rcells⟩) ho4) HB2.out.size).re3 [2, 1, 0] rfl)
      have HB4 := hid (HB2.out.trans (hb4.mono HB2.out.size))
      clear ho4 hb4 p2 C3 HR2 HB2
      obtain ⟨d2, x2, _⟩ := Rows.bcell2 (pre := []) (q := 2) HR4.out rfl
      go_wp2_with fail
      have HRw := hid (show Rows (w4.setCell ⟨w.heap.size, 2, none⟩ (.slice A2 n c2)) w.heap.size ([bxRow 29 3 w.heap.size [.int .i64 rm, .int .i64 lv, .slice A2 n c2]] ++ ([bxRow 29 3 (w.heap.size + 1) [.int .i64 0, .int .i64 0, .slice none 0 0]] ++ [⟨46, 4, n, .slice A2 n c2, rc.flatMap rcells⟩])) from Rows.boxset (pre := []) (j := 2) (u := .slice A2 n c2) HR4.out)
      have HBw := hid (HB4.out.setCell (p := ⟨w.heap.size, 2, none⟩) (Nat.le_refl _) (.slice A2 n c2))
      generalize w4.setCell ⟨w.heap.size, 2, none⟩ (.slice A2 n c2) = wd at *
      clear HR4 HB4 d2 x2
      go_loopw [7, 26] (fun bv iv wr => ∃ (k m n2 : Nat) (A2 : Option Addr) (c2 : Nat) (A5 : Option Addr) (c5 : Nat) (es : List Cell2) (rs : List Row) (x : List Rec), iv = .int .i64 k ∧ bv = .slice A5 m c5 ∧ k ≤ nl ∧ Hid (runBd ⟨rm, lv, rc⟩ (l.take k) = ⟨rm, lv, x⟩) ∧ Hid (es.length = m ∧ NE RecsR es (runOd ⟨rm, lv, rc⟩ (l.take k))) ∧ Hid (RecsR rs (.slice A2 n2 c2) x) ∧ Hid (Rows wr w.heap.size ([bxRow 29 3 w.heap.size [.int .i64 rm, .int .i64 lv, .slice A2 n2 c2]] ++ ([bxRow 29 3 (w.heap.size + 1) [.int .i64 0, .int .i64 0, .slice none 0 0]] ++ (rs ++ nestRows 27 (.slice A5 m c5) es)))) ∧ Hid (Below w.heap.size w wr)) (fun _ iv _ => nl - (intOf iv).toNat)
      case atStart => exact ⟨0, 0, n, A2, c2, none, 0, [], _, rc, rfl, rfl, Nat.zero_le _, by rw [List.take_zero]; rfl, ⟨rfl, by rw [List.take_zero]; exact NE.nil⟩, (show RecsR [⟨46, 4, n, .slice A2 n c2, rc.flatMap rcells⟩] (.slice A2 n c2) rc by unfold RecsR; rw [hnn.out]), (HRw.out.more (Below.refl _ _) (Rows.one (r := ⟨27, 1, 0, .slice none 0 0, []⟩) (World.ownsRow_nil _ _ _ _)) HBw.out.size), HBw.out⟩
      case round =>
        clear HRw HBw
        rename World => wr
        obtain ⟨k, m, n3, A3, c3, A5, c5, es, rs3, x, rfl, rfl, hk, HG, HN, HE, HR, HB⟩ := hrel
        by_cases hlt : k < nl
        · obtain ⟨b, ob, nm, rl, tx, sq, rfl, hbB, hx, c0, c1, c2, c3'⟩ := rcells_at (show Sl wr B 4 nl (.slice Al nl cl) (l.flatMap rcells) by have := (HL2.out.below HB.out hB).1.1; rwa [hll.out] at this) hlt
          have hfr := HRS.out _ (List.mem_of_getElem? hx)
          have hok := recs_atB HQL.out (List.mem_of_getElem? hx)
          have hrl := HFIT.out k
          have hbo := HBOK.out k
          rw [HG.out] at hrl hbo
          have hm12 : m ≤ 12 := by
            have h1 := HN.out.1; have h2 := HN.out.2.1; have h3 := runOd_len (l.take k) ⟨rm, lv, rc⟩
            rw [List.length_take] at h3; omega
          have hz1 : nm.size ≤ maxTxt := by rw [Lib.size_eq]; exact hfr.1
          have hz2 : tx.size ≤ maxTxt := by rw [Lib.size_eq]; exact hfr.2
          have C5 := hid (fun (W : World) (v : Value) (h : BufIn W W.heap.size v ⟨rm, lv, x⟩) => (show Calls Try.prog 32 #[v, .agg #[.string nm, .int .i64 rl, .string tx, .int .i64 sq]] W (PushPost W (pushB ⟨rm, lv, x⟩ (⟨nm.data.toList, rl, tx.data.toList, sq⟩ : Rec)) (pushR ⟨rm, lv, x⟩ (⟨nm.data.toList, rl, tx.data.toList, sq⟩ : Rec)) true) by
            have h9 := implPushRecord_c nm tx rl sq h (Nat.le_refl _) hz1 hz2
            unfold pushXB pushXR pushOk at h9
            rw [hbo, hok] at h9
            exact h9))
          have hst := rb_step (d := ⟨rm, lv, rc⟩) HG.out hx
          rw [outsR_of] at hst
          dsimp only at hst
          have HST1 := hid hst.1
          have HST2 := hid hst.2
          have HEF := hid (show BufFit ⟨rm, lv, x⟩ from hrl)
          have hwm := (pushB_rl ⟨rm, lv, x⟩ (⟨nm.data.toList, rl, tx.data.toList, sq⟩ : Rec)).1
          have hwk := (pushB_rl ⟨rm, lv, x⟩ (⟨nm.data.toList, rl, tx.data.toList, sq⟩ : Rec)).2
          have hlt' : (k : Int) < (nl : Int) := by omega
          generalize pushB ⟨rm, lv, x⟩ (⟨nm.data.toList, rl, tx.data.toList, sq⟩ : Rec) = E at *
          generalize pushR ⟨rm, lv, x⟩ (⟨nm.data.toList, rl, tx.data.toList, sq⟩ : Rec) = Y at *
          obtain ⟨em, ek, el⟩ := E
          obtain rfl : em = rm := hwm
          obtain rfl : ek = lv := hwk
          have hgt : w.heap.size < wr.heap.size := (Rows.bc HR.out.left 0 rfl).2
          have HR' := hid (HR.out.below ((Below.refl wr.heap.size wr).alloc (Nat.le_refl _) (.cells #[.string nm, .int .i64 rl, .string tx, .int .i64 sq] 46)))
          have HB' := hid (HB.out.alloc HB.out.size (.cells #[.string nm, .int .i64 rl, .string tx, .int .i64 sq] 46))
          clear hx hfr hok hrl hbo hst hz1 hz2 HR HB
          obtain ⟨o0, y0, _⟩ := Rows.bcell2 (pre := []) (q := 0) HR'.out rfl
          obtain ⟨o1, y1, _⟩ := Rows.bcell2 (pre := []) (q := 1) HR'.out rfl
          obtain ⟨o2, y2, _⟩ := Rows.bcell2 (pre := []) (q := 2) HR'.out rfl
          go_wp2_with fail
          refine (C5.out _ _ (BufR.at_ ⟨_, rfl, HE.out⟩ HR'.out.right.right.left HEF.out)).mono ?_
          rintro e w5 ⟨u5, rs5, u6, rs6, rfl, hs5, hs6, hr5, hb5⟩
          obtain ⟨A6, n6, c6, rfl⟩ := hs5.form hr5.left
          obtain ⟨A7, n7, c7, rfl⟩ := hs6.form hr5.right
          obtain ⟨uu, huu, hs5'⟩ := hs5
          have huu' : uu = .slice A6 n6 c6 := by simp at huu; exact huu.symm
          subst huu'
          clear huu
          have hn7 : n7 = Y.length := RecsR_count hs6 hr5.right
          have h9 := (HR'.out.newer hb5 hr5 HB'.out.size)
          rw [List.append_assoc] at h9
          have HR5 := hid (show Rows w5 w.heap.size ([bxRow 29 3 w.heap.size [.int .i64 em, .int .i64 ek, .slice A3 n3 c3]] ++ ([bxRow 29 3 (w.heap.size + 1) [.int .i64 0, .int .i64 0, .slice none 0 0]] ++ (rs5 ++ (rs6 ++ nestRows 27 (.slice A5 m c5) es)))) from h9.re6 [2, 3, 0, 1, 5] rfl)
          have HB5 := hid (HB'.out.trans (hb5.mono HB'.out.size))
          have HS5 := hid hs5'
          have HS6 := hid hs6
          replace hn7 := hid hn7
          clear h9 hs5' hs6 hr5 hb5 o0 o1 o2 y0 y1 y2 HR' HE C5 HB' c0 c1 c2 c3'
          obtain ⟨o0, y0, _⟩ := Rows.bcell2 (pre := []) (q := 0) HR5.out rfl
          obtain ⟨o1, y1, _⟩ := Rows.bcell2 (pre := []) (q := 1) HR5.out rfl
          obtain ⟨o2, y2, _⟩ := Rows.bcell2 (pre := []) (q := 2) HR5.out rfl
          have Y0 := Rows.boxset (pre := []) (j := 0) (u := .int .i64 em) HR5.out
          have Y1 := Rows.boxset (pre := []) (j := 1) (u := .int .i64 ek) Y0
          have Y2 := hid (show Rows _ w.heap.size ([bxRow 29 3 w.heap.size [.int .i64 em, .int .i64 ek, .slice A6 n6 c6]] ++ ([bxRow 29 3 (w.heap.size + 1) [.int .i64 0, .int .i64 0, .slice none 0 0]] ++ (rs5 ++ (rs6 ++ nestRows 27 (.slice A5 m c5) es)))) from Rows.boxset (pre := []) (j := 2) (u := .slice A6 n6 c6) Y1)
          have HB7 := hid (((HB5.out.setCell (p := ⟨w.heap.size, 0, none⟩) (Nat.le_refl _) (.int .i64 em)).setCell (p := ⟨w.heap.size, 1, none⟩) (Nat.le_refl _) (.int .i64 ek)).setCell (p := ⟨w.heap.size, 2, none⟩) (Nat.le_refl _) (.slice A6 n6 c6))
          clear Y0 Y1 HR5 HB5
          rcases Nat.eq_zero_or_pos n7 with h0 | h0
          · subst h0
            have HSO := hid (show runOd ⟨em, ek, rc⟩ (l.take (k + 1)) = runOd ⟨em, ek, rc⟩ (l.take k) by rw [HST2.out, if_pos hn7.out.symm, List.append_nil])
            clear HST2
            go_wp2_with fail
            go_roundw
            case rel => exact ⟨k + 1, m, n6, A6, c6, A5, c5, es, rs5, el, by go_num, rfl, by omega, HST1.out, ⟨HN.out.1, by rw [HSO.out]; exact HN.out.2⟩, HS5.out, Y2.out.re5 [0, 1, 2, 4] rfl, HB7.out⟩
            case measure => simp [intOf]; omega
          · have hpos : (0 : Int) < (n7 : Int) := by omega
            have HSO := hid (show runOd ⟨em, ek, rc⟩ (l.take (k + 1)) = runOd ⟨em, ek, rc⟩ (l.take k) ++ [Y] by rw [HST2.out, if_neg (by have := hn7.out; omega)])
            clear HST2 h0
            obtain ⟨A8, c8, w8, hrun, hb8, hR8, _⟩ := batch_app1 (u := .slice A7 n7 c7) (rs := rs6) (rest := [bxRow 29 3 w.heap.size [.int .i64 em, .int .i64 ek, .slice A6 n6 c6]] ++ ([bxRow 29 3 (w.heap.size + 1) [.int .i64 0, .int .i64 0, .slice none 0 0]] ++ rs5)) (Y2.out.re5 [4, 3, 0, 1, 2] rfl) HN.out.1 rfl HB7.out.size (by omega) 27
            simp only [World.size_setCell] at hrun
            have HRun := hid hrun
            have HR8 := hid hR8
            have HB8 := hid (HB7.out.trans hb8)
            clear hrun hb8 hR8 Y2 HB7
            go_wp2_with (at_builtin; refine wpList_runB rfl rfl (by rfl) (by rfl) HRun.out ?_)
            go_roundw
            case rel => exact ⟨k + 1, m + 1, n6, A6, c6, A8, c8, _, rs5, el, by go_num, rfl, by omega, HST1.out, ⟨by rw [List.length_append, HN.out.1]; rfl, by rw [HSO.out]; exact HN.out.2.snoc HS6.out⟩, HS5.out, HR8.out.re4 [1, 2, 3, 0] rfl, HB8.out⟩
            case measure => simp [intOf]; omega
        · obtain rfl : k = nl := by omega
          have ht : l.take k = l := List.take_of_length_le (by rw [hll.out]; exact Nat.le_refl _)
          have HGO := HG.out
          have HNO := HN.out
          rw [ht] at HGO HNO
          obtain rfl : X0 = ⟨rm, lv, x⟩ := HX0.out.trans HGO
          have hX1 := HX1.out
          subst hX1
          have HN2 := hid HNO
          clear ht HGO HNO
          obtain ⟨o0, _, _⟩ := Rows.bcell2 (pre := []) (q := 0) HR.out rfl
          obtain ⟨o1, _, _⟩ := Rows.bcell2 (pre := []) (q := 1) HR.out rfl
          obtain ⟨o2, _, _⟩ := Rows.bcell2 (pre := []) (q := 2) HR.out rfl
          obtain ⟨r0, x0, _⟩ := Rows.bcell2 (pre := [_]) (q := 0) HR.out rfl
          obtain ⟨r1, x1, _⟩ := Rows.bcell2 (pre := [_]) (q := 1) HR.out rfl
          obtain ⟨r2, x2, _⟩ := Rows.bcell2 (pre := [_]) (q := 2) HR.out rfl
          go_wp2_with fail
          have Y2 := Rows.boxset (pre := [_]) (j := 0) (u := .int .i64 rm) HR.out
          have Y3 := Rows.boxset (pre := [_]) (j := 1) (u := .int .i64 lv) Y2
          have Y4 := Rows.boxset (pre := [_]) (j := 2) (u := .slice A3 n3 c3) Y3
          have f0 := (Rows.bcell2 (pre := [_]) (q := 0) Y4 rfl).1
          have f1 := (Rows.bcell2 (pre := [_]) (q := 1) Y4 rfl).1
          have f2 := (Rows.bcell2 (pre := [_]) (q := 2) Y4 rfl).1
          refine bodyPost_ret (v := .tuple #[.agg #[.int .i64 rm, .int .i64 lv, .slice A3 n3 c3], .slice A5 m c5, .bool true]) (by simp [results, Try.results10, go_sem, f0, f1, f2]) rfl ?_
          exact ⟨_, rs3, _, _, rfl, ⟨_, rfl, HE.out⟩, HN2.out.2.toR, (Rows.right Y4), ((HB.out.setCell (p := ⟨w.heap.size + 1, 0, none⟩) hbr (.int .i64 rm)).setCell (p := ⟨w.heap.size + 1, 1, none⟩) hbr (.int .i64 lv)).setCell (p := ⟨w.heap.size + 1, 2, none⟩) hbr (.slice A3 n3 c3)⟩
end Go.Proofs.Ytfjpfdmlcgkfeaa
