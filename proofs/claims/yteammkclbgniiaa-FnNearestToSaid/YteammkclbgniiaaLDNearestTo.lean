/-
  WALK: the law FnNearestTo. By gen_t.py.
-/
import Derived.Test.YteammkclbgniiaaE7
namespace Go.Proofs.Yteammkclbgniiaa
open Go.RowKit Nm
set_option linter.unusedSimpArgs false
set_option linter.unusedVariables false
def NearC (L : List Lgr) (x y : Name) : Prop := y.length ≤ 1048576 ∧ (∃ k : Nat, idxL (namesOf L) y = (k : Int)) ∧ isB x y = true ∧ (¬ idxL (namesOf L) x < 0 → y = x) ∧ ∀ (k : Nat) (l : Lgr), L[k]? = some l → isB x l.nm = true → isB y l.nm = true
theorem near_casesL {L : List Lgr} {H : List Hnd} {q : Int} {x : Name} (h : treeOk L H q = true) (hx : nameOk x = true) : NearC L x (nearestT L H q x) := by
  obtain ⟨n1, n2, n3, n4, n5⟩ := near_facts h hx
  refine ⟨by have := name_size _ n1; omega, ⟨(namesOf L).idxOf (nearestT L H q x), by unfold idxL; rw [if_pos n2]⟩, ?_, fun hi => ?_, fun k l hl hb => ?_⟩
  · unfold isB; rw [hx, n1, n3]; rfl
  · rw [idx_neg, Decidable.not_not] at hi; exact n4 hi
  · unfold isB at hb ⊢
    simp only [Bool.and_eq_true] at hb ⊢
    exact ⟨n1, hb.2.1, n5 _ (by unfold namesOf; exact List.mem_map.2 ⟨l, List.mem_of_getElem? hl, rfl⟩) hb.2.2⟩
theorem near_cases {L : List Lgr} {H : List Hnd} {q : Int} {x : Name} {nr : ByteArray} (h : treeOk L H q = true) (hx : nameOk x = true) (hr : nr.data.toList = nearestT L H q x) :
    nr.size ≤ 1048576 ∧ (∃ k : Nat, idxL (namesOf L) nr.data.toList = (k : Int)) ∧ isB x nr.data.toList = true ∧ (¬ idxL (namesOf L) x < 0 → nr.data.toList = x) ∧ ∀ (k : Nat) (l : Lgr), L[k]? = some l → ∀ s : ByteArray, s.data.toList = l.nm → isB x s.data.toList = true → isB nr.data.toList s.data.toList = true := by
  obtain ⟨a, b, c, d, e⟩ := near_casesL h hx
  rw [← hr] at a b c d e
  exact ⟨by rw [Lib.size_eq]; exact a, b, c, d, fun k l hl s hs hb => by rw [hs] at hb ⊢; exact e k l hl hb⟩
set_option maxHeartbeats 8000000 in
set_option maxRecDepth 100000 in
theorem walk_FnNearestTo (a0 : Option Addr) (len0 cap0 : Nat) (z0 : List Int) (w : World) (w0 : IsRow .u8 w a0 len0 cap0 z0) :
    Calls Try.prog 5 #[.slice a0 len0 cap0] w (BoolPost w true) := by
  have hb0 := w0.leT
  by_cases h1 : (1048576 : Int) < (len0 : Int)
  · go_enter Try.func5, Try.ntmps5
    go_wp2_with fail
    go_ret
    exact ⟨rfl, Below.refl _ _⟩
  have DR := hid (drawNearestTo_c a0 len0 cap0 z0 w w0)
  clear w0
  go_enter Try.func5, Try.ntmps5
  go_wp2_with fail
  refine DR.out.mono ?_
  rintro e w1 ⟨v, rs, L, H, q, nm, rfl, hs, hsm, hnm, hr, hb⟩
  obtain ⟨A1, n1, k1, A2, n2, k2, rfl, hn1, hn2⟩ := hs.form_ hr
  have hd := sm_fit hsm (by omega)
  have TI0 := hs.at_ hr hd
  have hbx : Below w1.heap.size w1 (w1.alloc (.cells #[.slice A1 n1 k1, .slice A2 n2 k2, .int .i64 q] 26)) := (Below.refl _ _).alloc (Nat.le_refl _) _
  have TI := hid (TI0.below hbx (Nat.le_refl _))
  have KB := hid (Blk.new w1 #[.slice A1 n1 k1, .slice A2 n2 k2, .int .i64 q] 26)
  have HB := hid (hb.trans (hbx.mono hb.size))
  have hl1 : w1.heap.size < (w1.alloc (.cells #[.slice A1 n1 k1, .slice A2 n2 k2, .int .i64 q] 26)).heap.size := by simp
  have HL := hid (And.intro hn1 (And.intro hsm.1 hsm.2.1.1))
  replace hd := hid hd
  clear hs hr hb hn1 hn2 hsm TI0 hbx DR
  go_wp2_with fail
  generalize hbb : w1.heap.size = bb at *
  generalize w1.alloc (.cells #[.slice A1 n1 k1, .slice A2 n2 k2, .int .i64 q] 26) = w2 at *
  clear hbb
  have d0 := (KB.out.2 0 _ rfl).1
  have d1 := (KB.out.2 1 _ rfl).1
  have d2 := (KB.out.2 2 _ rfl).1
  have HW := hid (Below.refl w2.heap.size w2)
  have TT := hid (fun (W : World) (hW : Below w2.heap.size w2 W) => (And.intro (TI.out.below hW (Nat.le_of_lt hl1)) (Nat.le_trans (Nat.le_of_lt hl1) hW.size)))
  have CI := hid (fun (W : World) (hW : Below w2.heap.size w2 W) => implNearestTo_c nm (TT.out W hW).1 (TT.out W hW).2 (by unfold maxLen; omega))
  have CS := hid (fun (W : World) (hW : Below w2.heap.size w2 W) => specNearestTo_c nm (TT.out W hW).1 (TT.out W hW).2 (by unfold maxTxt; omega))
  have CT := hid (fun (W : World) (hW : Below w2.heap.size w2 W) => implValidTreeX_c (TT.out W hW).1 (TT.out W hW).2)
  have CN := hid (fun (W : World) (hW : Below w2.heap.size w2 W) => implValidName_c nm W (by unfold maxLen; omega))
  have CL := hid (fun (W : World) (hW : Below w2.heap.size w2 W) => implLoggerAtX_c nm (TT.out W hW).1 (TT.out W hW).2)
  obtain ⟨nr, hnr1, hnr2⟩ : ∃ nr : ByteArray, txt (nearestT L H q nm.data.toList) = .string nr ∧ nr.data.toList = nearestT L H q nm.data.toList := ⟨⟨(nearestT L H q nm.data.toList).toArray⟩, rfl, by simp⟩
  rw [hnr1] at CI CS
  have FX := hid (fun (h : treeOk L H q = true) (hn : nameOk nm.data.toList = true) => near_cases h hn hnr2)
  clear hnr1 hnr2
  have CR := hid (fun (W : World) (hW : Below w2.heap.size w2 W) => implLoggerAtX_c nr (TT.out W hW).1 (TT.out W hW).2)
  have hn8 : n1 ≤ 8 := by rw [HL.out.1]; exact HL.out.2.2
  have hN1 := HL.out.1
  replace hN1 := hid hN1
  generalize hok : treeOk L H q = ok at *
  generalize hnok : nameOk nm.data.toList = nok at *
  replace hok := hid hok
  replace hnok := hid hnok
  have ee := eq_true_of (a := nr) (b := nr) rfl
  go_wp2_with fail
  refine (CI.out _ HW.out).mono ?_
  rintro e w3 ⟨rfl, hb⟩
  replace HW := hid (HW.out.trans (hb.mono HW.out.size))
  clear hb d0 d1 d2
  obtain ⟨⟨d0, _⟩, ⟨d1, _⟩, ⟨d2, _⟩⟩ := (And.intro ((KB.out.to HW.out).2 0 _ rfl) (And.intro ((KB.out.to HW.out).2 1 _ rfl) ((KB.out.to HW.out).2 2 _ rfl)))
  go_wp2_with fail
  refine (CS.out _ HW.out).mono ?_
  rintro e w4 ⟨rfl, hb⟩
  replace HW := hid (HW.out.trans (hb.mono HW.out.size))
  clear hb d0 d1 d2
  obtain ⟨⟨d0, _⟩, ⟨d1, _⟩, ⟨d2, _⟩⟩ := (And.intro ((KB.out.to HW.out).2 0 _ rfl) (And.intro ((KB.out.to HW.out).2 1 _ rfl) ((KB.out.to HW.out).2 2 _ rfl)))
  go_wp2_with fail
  refine (CT.out _ HW.out).mono ?_
  rintro e w5 ⟨rfl, hb⟩
  replace HW := hid (HW.out.trans (hb.mono HW.out.size))
  clear hb d0 d1 d2
  obtain ⟨⟨d0, _⟩, ⟨d1, _⟩, ⟨d2, _⟩⟩ := (And.intro ((KB.out.to HW.out).2 0 _ rfl) (And.intro ((KB.out.to HW.out).2 1 _ rfl) ((KB.out.to HW.out).2 2 _ rfl)))
  cases ok with
  | false =>
    go_wp2_with fail
    refine (CS.out _ HW.out).mono ?_
    rintro e w6 ⟨rfl, hb⟩
    replace HW := hid (HW.out.trans (hb.mono HW.out.size))
    clear hb d0 d1 d2
    obtain ⟨⟨d0, _⟩, ⟨d1, _⟩, ⟨d2, _⟩⟩ := (And.intro ((KB.out.to HW.out).2 0 _ rfl) (And.intro ((KB.out.to HW.out).2 1 _ rfl) ((KB.out.to HW.out).2 2 _ rfl)))
    go_wp2_with fail
    go_ret
    exact ⟨rfl, HB.out.trans (HW.out.mono HB.out.size)⟩
  | true =>
    go_wp2_with fail
    refine (CN.out _ HW.out).mono ?_
    rintro e w6 ⟨rfl, hb⟩
    replace HW := hid (HW.out.trans (hb.mono HW.out.size))
    clear hb d0 d1 d2
    obtain ⟨⟨d0, _⟩, ⟨d1, _⟩, ⟨d2, _⟩⟩ := (And.intro ((KB.out.to HW.out).2 0 _ rfl) (And.intro ((KB.out.to HW.out).2 1 _ rfl) ((KB.out.to HW.out).2 2 _ rfl)))
    cases nok with
    | false =>
      go_wp2_with fail
      refine (CS.out _ HW.out).mono ?_
      rintro e w7 ⟨rfl, hb⟩
      replace HW := hid (HW.out.trans (hb.mono HW.out.size))
      clear hb d0 d1 d2
      obtain ⟨⟨d0, _⟩, ⟨d1, _⟩, ⟨d2, _⟩⟩ := (And.intro ((KB.out.to HW.out).2 0 _ rfl) (And.intro ((KB.out.to HW.out).2 1 _ rfl) ((KB.out.to HW.out).2 2 _ rfl)))
      go_wp2_with fail
      go_ret
      exact ⟨rfl, HB.out.trans (HW.out.mono HB.out.size)⟩
    | true =>
      obtain ⟨hrz, ⟨k9, hk9⟩, hrb, hrn, hall⟩ := FX.out (by trivial) (by trivial)
      replace hall := hid hall
      replace CR := hid (show ∀ (W : World), Below w2.heap.size w2 W → Calls Try.prog 14 #[.agg #[.slice A1 n1 k1, .slice A2 n2 k2, .int .i64 q], .string nr] W (fun e w' => e = .returned (.int .i64 (k9 : Int)) ∧ Below W.heap.size W w') by have h9 := CR.out; simp only [if_true, hk9] at h9; exact h9)
      obtain ⟨ix, hix⟩ : ∃ ix, idxL (namesOf L) nm.data.toList = ix := ⟨_, rfl⟩
      replace CL := hid (show ∀ (W : World), Below w2.heap.size w2 W → Calls Try.prog 14 #[.agg #[.slice A1 n1 k1, .slice A2 n2 k2, .int .i64 q], .string nm] W (fun e w' => e = .returned (.int .i64 ix) ∧ Below W.heap.size W w') by have h9 := CL.out; simp only [if_true, hix] at h9; exact h9)
      rw [hix] at hrn
      have KB1 := hid (fun (W : World) => (show Calls Try.prog 21 #[.string nm, .string nr] W (BoolPost W true) by have h9 := implIsBelow_c nm nr W (by omega) hrz; rw [hrb] at h9; exact h9))
      replace hrn := hid hrn
      clear hk9 hrb hix
      clear d0 d1 d2
      have d0 := ((KB.out.to HW.out).2 0 _ rfl).1
      go_wp2_with fail
      go_loopw [6] (fun iv wr => ∃ k : Nat, iv = .int .i64 k ∧ k ≤ n1 ∧ Hid (Below w2.heap.size w2 wr)) (fun iv _ => n1 - (intOf iv).toNat)
      case atStart => exact ⟨0, rfl, Nat.zero_le _, HW.out⟩
      case round =>
        obtain ⟨k, rfl, hk, HWr⟩ := hrel
        clear d0
        have d0 := ((KB.out.to HWr.out).2 0 _ rfl).1
        by_cases hkn : k < n1
        · obtain ⟨b, o, x, s, rfl, hbB, hx, hsx, hsz, c0, _⟩ := (TT.out _ HWr.out).1.name hkn
          have hsz2 : s.size ≤ 1048576 := hsz
          have C3 := hid (implIsBelow_c nm s wr (by omega) hsz2)
          have C4 := hid (fun (hb : isB nm.data.toList s.data.toList = true) (W : World) => (show Calls Try.prog 21 #[.string nr, .string s] W (BoolPost W true) by have h9 := implIsBelow_c nr s W hrz hsz2; rw [hall.out k x hx s hsx hb] at h9; exact h9))
          have s0 : (0 : Int) ≤ (k : Int) := by omega
          have s1 : (k : Int) < (n1 : Int) := by omega
          have s2 : ((k : Int)).toNat = k := by simp
          clear hx hsx
          generalize isB nm.data.toList s.data.toList = bl at *
          go_wp2_with fail
          refine C3.out.mono ?_
          rintro e w7 ⟨rfl, hb⟩
          have HW7 := hid (HWr.out.trans (hb.mono HWr.out.size))
          have c7 : w7.cell? ⟨b, o + k * 6, none⟩ = some (.string s) := (hb.cell (p := ⟨b, o + k * 6, none⟩) (World.block_lt_of_cell? _ _ c0)).trans c0
          have e0 := ((KB.out.to HW7.out).2 0 _ rfl).1
          clear hb d0 c0
          cases bl with
          | false =>
            go_wp2_with fail
            go_roundw
            case rel => exact ⟨k + 1, by go_num, by omega, HW7.out⟩
            case measure => simp [intOf]; omega
          | true =>
            replace C4 := hid (C4.out rfl)
            go_wp2_with fail
            refine (C4.out _).mono ?_
            rintro e w8 ⟨rfl, hb⟩
            have HW8 := hid (HW7.out.trans (hb.mono HW7.out.size))
            clear hb e0 c7
            go_wp2_with fail
            go_roundw
            case rel => exact ⟨k + 1, by go_num, by omega, HW8.out⟩
            case measure => simp [intOf]; omega
        · have d1 := ((KB.out.to HWr.out).2 1 _ rfl).1
          have d2 := ((KB.out.to HWr.out).2 2 _ rfl).1
          go_wp2_with fail
          refine (CR.out _ HWr.out).mono ?_
          rintro e w7 ⟨rfl, hb⟩
          have HW7 := hid (HWr.out.trans (hb.mono HWr.out.size))
          clear hb d0 d1 d2
          have d0 := ((KB.out.to HW7.out).2 0 _ rfl).1
          have s3 : (0 : Int) ≤ (k9 : Int) := by omega
          go_wp2_with fail
          refine (KB1.out _).mono ?_
          rintro e w8 ⟨rfl, hb⟩
          have HW8 := hid (HW7.out.trans (hb.mono HW7.out.size))
          clear hb d0
          have d0 := ((KB.out.to HW8.out).2 0 _ rfl).1
          have d1 := ((KB.out.to HW8.out).2 1 _ rfl).1
          have d2 := ((KB.out.to HW8.out).2 2 _ rfl).1
          go_wp2_with fail
          refine (CL.out _ HW8.out).mono ?_
          rintro e w9 ⟨rfl, hb⟩
          have HW9 := hid (HW8.out.trans (hb.mono HW8.out.size))
          clear hb d0 d1 d2
          by_cases hneg : ix < 0
          · go_wp2_with fail
            go_ret
            exact ⟨rfl, HB.out.trans (HW9.out.mono HB.out.size)⟩
          · have e1 := eq_true_of (hrn.out (by omega))
            go_wp2_with fail
            go_ret
            exact ⟨rfl, HB.out.trans (HW9.out.mono HB.out.size)⟩
end Go.Proofs.Yteammkclbgniiaa
