/-
  RULES ADDED: AddRule of the program.
-/
import Derived.Test.YthggedmgjehfiaaAR2
namespace Go.Proofs.Ythggedmgjehfiaa
open Go.RowKit Nm
set_option linter.unusedSimpArgs false
set_option linter.unusedVariables false

def AddPost (w : World) (ok : Bool) (X : List Rul) (e : Ending) (w' : World) : Prop := ∃ v', e = .returned (.tuple #[v', .bool ok]) ∧ w'.ownsRow w.heap.size 31 4 v' X.length (X.flatMap rucells) ∧ Below w.heap.size w w'
theorem rulsOk_le {l : List Rul} (h : rulsOk l = true) : l.length ≤ 6 := by
  unfold rulsOk at h; simp only [Bool.and_eq_true, decide_eq_true_eq] at h; exact h.2
theorem addR_len (l : List Rul) (x : Rul) (fr : Bool) : (addR l x fr).length = (l.filter (notR x)).length + 1 := by
  unfold addR; split <;> simp

theorem add_none {w w1 : World} {l : List Rul} {X : Rul} {fr : Bool} (h : addROk l X fr = false) (hb : Below w.heap.size w w1) : AddPost w (addROk l X fr) (addRX l X fr) (.returned (.tuple #[.slice none 0 0, .bool false])) w1 :=
  ⟨.slice none 0 0, by rw [h], by unfold addRX; rw [h]; exact World.ownsRow_nil _ _ _ _, hb⟩
theorem add_some {w w1 : World} {l : List Rul} {X : Rul} {fr : Bool} {v : Value} (h : addROk l X fr = true) (ho : w1.ownsRow w.heap.size 31 4 v (addR l X fr).length ((addR l X fr).flatMap rucells)) (hb : Below w.heap.size w w1) : AddPost w (addROk l X fr) (addRX l X fr) (.returned (.tuple #[v, .bool true])) w1 :=
  ⟨v, by rw [h], by unfold addRX; rw [h, if_pos rfl]; exact ho, hb⟩

set_option maxHeartbeats 8000000 in
set_option maxRecDepth 100000 in
theorem implAddRule_c (v : Value) (n B : Nat) (l : List Rul) (xa xl : Int) (xw xm : ByteArray) (fr : Bool) (w : World) (hv : Ruls w B n v l) (hB : B ≤ w.heap.size) (h1 : xw.size ≤ maxTxt) (h2 : xm.size ≤ maxTxt) :
    Calls Try.prog 10 #[v, .agg #[.int .i64 xa, .string xw, .string xm, .int .i64 xl], .bool fr] w (AddPost w (addROk l ⟨xa, xw.data.toList, xm.data.toList, xl⟩ fr) (addRX l ⟨xa, xw.data.toList, xm.data.toList, xl⟩ fr)) := by
  have hln := hv.count
  have HX := hid (show rucells ⟨xa, xw.data.toList, xm.data.toList, xl⟩ = [.int .i64 xa, .string xw, .string xm, .int .i64 xl] by simp [rucells, txt_data])
  have hxf : rucellsFit ⟨xa, xw.data.toList, xm.data.toList, xl⟩ := ⟨by rw [← Lib.size_eq]; exact h1, by rw [← Lib.size_eq]; exact h2⟩
  have HFX := hid hxf
  have hb0 : Below w.heap.size w (w.alloc (.cells #[.int .i64 xa, .string xw, .string xm, .int .i64 xl] 31)) := (Below.refl _ _).alloc (Nat.le_refl _) _
  have K0 := Blk.new w #[.int .i64 xa, .string xw, .string xm, .int .i64 xl] 31
  have HK0 := hid (show RuleAt (w.alloc (.cells #[.int .i64 xa, .string xw, .string xm, .int .i64 xl] 31)) w.heap.size xa xw xm xl from ⟨(K0.2 0 _ rfl).1, (K0.2 1 _ rfl).1, (K0.2 2 _ rfl).1, (K0.2 3 _ rfl).1⟩)
  have HB0 := hid hb0
  have hs0 : w.heap.size < (w.alloc (.cells #[.int .i64 xa, .string xw, .string xm, .int .i64 xl] 31)).heap.size := by simp
  obtain ⟨A, c, rfl, hnc, hcm⟩ := hv.1.form
  have CV := hid (fun (v : Value) (m : Nat) (d : List Rul) (W : World) (h : Ruls W W.heap.size m v d) => implValidRules_c v m W.heap.size d W h (Nat.le_refl _))
  have C1 := hid (implValidRules_c _ n B l (w.alloc (.cells #[.int .i64 xa, .string xw, .string xm, .int .i64 xl] 31)) (hv.below hb0 hB) (Nat.le_trans hB hb0.size))
  have HV := hid (And.intro (hv.below hb0 hB) (And.intro hln (Nat.le_trans hB hb0.size)))
  unfold maxLen at hcm
  have hmf : ∀ (fn : Fn) (first cap : Array Value) (w : World), (Instr.makeFunc fn first cap).run Try.prog w = .ok (.func fn first cap) w := fun _ _ _ _ => rfl
  have HFl := hid hv.2
  clear hv hb0 K0 hxf
  generalize hX : (⟨xa, xw.data.toList, xm.data.toList, xl⟩ : Rul) = X at *
  cases hr : rulsOk l with
  | false =>
    rw [hr] at C1
    have HD := hid (show addROk l X fr = false by unfold addROk; rw [hr]; rfl)
    clear hr
    go_enter Try.func10, Try.ntmps10
    go_wp2_with (go_at_call 17; refine C1.out.mono ?_; rintro e w1 ⟨rfl, hb⟩)
    refine bodyPost_ret (v := .tuple #[.slice none 0 0, .bool false]) (by simp [results, Try.results10, go_sem]) rfl ?_
    exact add_none HD.out (HB0.out.trans (hb.mono HB0.out.size))
  | true =>
  rw [hr] at C1
  have hn6 : n ≤ 6 := by have := rulsOk_le hr; omega
  have HR := hid hr
  have hfl : (l.filter (notR X)).length ≤ 6 := Nat.le_trans (List.length_filter_le _ _) (rulsOk_le hr)
  have DL := hid (fun (v : Value) (lo : Nat) (W : World) (hown : W.ownsRow lo 31 4 v n (l.flatMap rucells)) (hlo : lo ≤ W.heap.size) (hc : RuleAt W w.heap.size xa xw xm xl) (hbx : v.ownBlock ≠ some w.heap.size) => deleteRul_c (ls := l) xa xl xw xm hown (by omega) hlo hc hbx)
  rw [hX] at DL
  clear hr
  generalize hd : l.filter (notR X) = d at DL hfl
  have HDD := hid hd
  clear hd
  go_enter Try.func10, Try.ntmps10
  go_wp2_with fail
  refine C1.out.mono ?_
  rintro e w1 ⟨rfl, hb⟩
  have HB1 := hid (HB0.out.trans (hb.mono HB0.out.size))
  have HK1 := hid (HK0.out.below hb hs0)
  have HV1 := hid (And.intro (HV.out.1.below hb HV.out.2.2) HV.out.2)
  have hs1 : w.heap.size < w1.heap.size := Nat.lt_of_lt_of_le hs0 hb.size
  have CF := hid (freshRul_c _ n B l w1 HV1.out.1.1 (by omega))
  clear hb C1 HB0 HK0 HV
  go_wp2_with fail
  refine CF.out.mono ?_
  rintro e w2 ⟨v2, rfl, ho, hb⟩
  have HB2 := hid (HB1.out.trans (hb.mono HB1.out.size))
  have HK2 := hid (HK1.out.below hb hs1)
  have hs2 : w1.heap.size ≤ w2.heap.size := hb.size
  have hne : v2.ownBlock ≠ some w.heap.size := fun h9 => by have := own_lt ho _ h9; omega
  have HO2 := hid ho
  have CD := hid (DL.out v2 w1.heap.size w2 ho hs2 HK2.out hne)
  clear hb ho CF
  go_wp2_with fail
  refine CD.out.mono ?_
  rintro e w3 ⟨v3, rfl, ho, hg, hob⟩
  have hb3 := below_of_grown hg hs2 (own_lt HO2.out)
  have HB3 := hid (HB2.out.trans (hb3.mono HB1.out.size))
  have HK3 := hid (HK2.out.below hb3 hs1)
  have HO3 := hid (own_base ho (Nat.le_of_lt hs1))
  have HO3' := hid ho
  have hs3 : w1.heap.size ≤ w3.heap.size := Nat.le_trans hs2 hb3.size
  obtain ⟨A3, c3, rfl, _, hcm3⟩ := (Sl.of_own ho).form
  unfold maxLen at hcm3
  have hne3 : (Value.slice A3 d.length c3).ownBlock ≠ some w3.heap.size := fun h9 => by have := (ho.lt _ h9).2; omega
  clear ho hg hob hb3 CD HO2 hne DL
  have HADD := hid (show addR l X fr = if fr then X :: d else d ++ [X] by unfold addR; rw [HDD.out])
  obtain ⟨y0, y1, y2, y3⟩ := HK3.out
  have HFd := hid (show ∀ y ∈ d, rucellsFit y from fun y hy => HFl.out y (by rw [← HDD.out] at hy; exact (List.mem_filter.1 hy).1))
  cases fr with
  | true =>
    have HADT := hid (show addR l X true = X :: d from HADD.out)
    have HFIN := hid (show ∀ (W : World) (v' : Value), W.ownsRow w.heap.size 31 4 v' (addR l X true).length ((addR l X true).flatMap rucells) → Ruls W W.heap.size (addR l X true).length v' (addR l X true) from fun W v' h => ⟨Sl.of_own h, fun y hy => by
      rw [HADT.out] at hy
      rcases List.mem_cons.1 hy with rfl | hy
      · exact HFX.out
      · exact HFd.out y hy⟩)
    have CI := hid (insertRul_c (W := w3.alloc (.cells #[.int .i64 xa, .string xw, .string xm, .int .i64 xl] 31)) (lo := w.heap.size) (n := d.length) (vb := w3.heap.size) (v := .slice A3 d.length c3) (xs := d.flatMap rucells) xa xl xw xm (HO3.out.alloc _) (rucells_one d) (by omega) (Nat.le_trans HB3.out.size (by simp)) (by unfold OneAt; exact heap_alloc_new _ _) (by simp) hne3)
    have hbA : Below w.heap.size w (w3.alloc (.cells #[.int .i64 xa, .string xw, .string xm, .int .i64 xl] 31)) := HB3.out.alloc HB3.out.size _
    have HBA := hid hbA
    clear hbA
    go_wp2_with fail
    refine CI.out.mono ?_
    rintro e w4 ⟨v4, rfl, ho, hb⟩
    have HB4 := hid (HBA.out.trans hb)
    have HO4 := hid (show w4.ownsRow w.heap.size 31 4 v4 (addR l X true).length ((addR l X true).flatMap rucells) by
      rw [HADT.out, List.flatMap_cons, HX.out]; exact ho)
    obtain ⟨A4, c4, rfl, _, _⟩ := (Sl.of_own ho).form
    have CW := hid (CV.out _ _ _ w4 (HFIN.out w4 _ HO4.out))
    have hle : (addR l X true).length = d.length + 1 := by rw [HADT.out]; rfl
    clear ho hb CI
    cases hz : rulsOk (addR l X true) with
    | false =>
      rw [hz] at CW
      have HD := hid (show addROk l X true = false by unfold addROk; rw [hz, Bool.and_false])
      clear hz
      go_wp2_with fail
      refine CW.out.mono ?_
      rintro e w5 ⟨rfl, hb⟩
      have HB5 := hid (HB4.out.trans (hb.mono HB4.out.size))
      clear hb
      go_wp2_with fail
      refine bodyPost_ret (v := .tuple #[.slice none 0 0, .bool false]) (by simp [results, Try.results10, go_sem]) rfl ?_
      exact add_none HD.out HB5.out
    | true =>
      rw [hz] at CW
      have HD := hid (show addROk l X true = true by unfold addROk; rw [hz, HR.out]; rfl)
      clear hz
      go_wp2_with fail
      refine CW.out.mono ?_
      rintro e w5 ⟨rfl, hb⟩
      have HB5 := hid (HB4.out.trans (hb.mono HB4.out.size))
      have HO5 := hid (own_below HO4.out hb)
      clear hb
      go_wp2_with fail
      refine bodyPost_ret (v := .tuple #[.slice A4 (d.length + 1) c4, .bool true]) (by simp [results, Try.results10, go_sem]) rfl ?_
      exact add_some HD.out HO5.out HB5.out
  | false =>
    have HADT := hid (show addR l X false = d ++ [X] from HADD.out)
    have HFIN := hid (show ∀ (W : World) (v' : Value), W.ownsRow w.heap.size 31 4 v' (addR l X false).length ((addR l X false).flatMap rucells) → Ruls W W.heap.size (addR l X false).length v' (addR l X false) from fun W v' h => ⟨Sl.of_own h, fun y hy => by
      rw [HADT.out] at hy
      rcases List.mem_append.1 hy with hy | hy
      · exact HFd.out y hy
      · rw [List.mem_singleton.1 hy]; exact HFX.out⟩)
    go_wp2_with (at_builtin; refine appRule _ rfl (.tmp 21) (.tmp 23) rfl w.heap.size _ d (by rfl) HO3.out xa xw xm xl _ _ _ (by rfl) (by simp) (by omega) HB3.out.size ?_)
    intro v4 w4 ho hb
    have HB4 := hid (HB3.out.trans hb)
    have HO4 := hid (show w4.ownsRow w.heap.size 31 4 v4 (addR l X false).length ((addR l X false).flatMap rucells) by
      have h9 := own_snoc ho
      rw [HADT.out]; exact h9)
    obtain ⟨A4, c4, rfl, _, _⟩ := (Sl.of_own HO4.out).form
    have CW := hid (CV.out _ _ _ w4 (HFIN.out w4 _ HO4.out))
    clear ho hb
    cases hz : rulsOk (addR l X false) with
    | false =>
      rw [hz] at CW
      have HD := hid (show addROk l X false = false by unfold addROk; rw [hz, Bool.and_false])
      clear hz
      go_wp2_with fail
      refine CW.out.mono ?_
      rintro e w5 ⟨rfl, hb⟩
      have HB5 := hid (HB4.out.trans (hb.mono HB4.out.size))
      clear hb
      go_wp2_with fail
      refine bodyPost_ret (v := .tuple #[.slice none 0 0, .bool false]) (by simp [results, Try.results10, go_sem]) rfl ?_
      exact add_none HD.out HB5.out
    | true =>
      rw [hz] at CW
      have HD := hid (show addROk l X false = true by unfold addROk; rw [hz, HR.out]; rfl)
      clear hz
      go_wp2_with fail
      refine CW.out.mono ?_
      rintro e w5 ⟨rfl, hb⟩
      have HB5 := hid (HB4.out.trans (hb.mono HB4.out.size))
      have HO5 := hid (own_below HO4.out hb)
      clear hb
      go_wp2_with fail
      refine bodyPost_ret (v := .tuple #[.slice A4 (addR l X false).length c4, .bool true]) (by simp [results, Try.results10, go_sem]) rfl ?_
      exact add_some HD.out HO5.out HB5.out
end Go.Proofs.Ythggedmgjehfiaa
