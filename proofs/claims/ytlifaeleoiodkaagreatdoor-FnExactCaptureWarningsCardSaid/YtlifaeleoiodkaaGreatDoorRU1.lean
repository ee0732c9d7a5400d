/-
  THE RULE OF A WARNING: RuleOf of the model.
-/
import Derived.Test.YtlifaeleoiodkaaGreatDoorRU0
namespace Go.Proofs.YtlifaeleoiodkaaGreatDoor
open Go.RowKit Go.Proofs.YtlifaeleoiodkaaGreatDoor.Nm
set_option linter.unusedSimpArgs false
set_option linter.unusedVariables false

theorem wrn_lit (W : World) (tx md : ByteArray) (ln : Int) : (W.alloc (.cells #[.string tx, .string md, .int .i64 ln] 59)).ownsRow W.heap.size 59 3 (.slice (some ⟨W.heap.size, 0, none⟩) 1 1) 1 (([⟨tx.data.toList, md.data.toList, ln⟩] : List Wrn).flatMap wncells) := by
  have h := World.ownsRow_lit (e := 59) (size := 3) (base := W.heap.size) W #[.string tx, .string md, .int .i64 ln] 1 (Nat.le_refl _) (by unfold maxLen; omega) rfl
  simpa [wncells, txt_data] using h
theorem wrns_one (r : Wrn) : wrnsOk [r] = wrnOk r := by unfold wrnsOk; simp
theorem wrnLit_c (W : World) (tx md : ByteArray) (ln : Int) (h1 : tx.size ≤ maxTxt) (h2 : md.size ≤ maxTxt) :
    Calls Tryz.prog 34 #[.slice (some ⟨W.heap.size, 0, none⟩) 1 1] (W.alloc (.cells #[.string tx, .string md, .int .i64 ln] 59)) (BoolPost (W.alloc (.cells #[.string tx, .string md, .int .i64 ln] 59)) (wrnOk ⟨tx.data.toList, md.data.toList, ln⟩)) := by
  have h9 := specValidWarnings_c (.slice (some ⟨W.heap.size, 0, none⟩) 1 1) 1 (W.alloc (.cells #[.string tx, .string md, .int .i64 ln] 59)).heap.size [⟨tx.data.toList, md.data.toList, ln⟩] _ ⟨Sl.of_own (wrn_lit W tx md ln), fun x hx => by
    rw [List.mem_singleton] at hx; subst hx
    exact ⟨by show tx.data.toList.length ≤ _; rw [← Lib.size_eq]; exact h1, by show md.data.toList.length ≤ _; rw [← Lib.size_eq]; exact h2⟩⟩ (Nat.le_refl _)
  rw [wrns_one] at h9
  exact h9

set_option maxHeartbeats 16000000 in
set_option maxRecDepth 100000 in
theorem specRuleIx_c (v : Value) (n B : Nat) (l : List Rul) (tx wm : ByteArray) (wl : Int) (w : World) (hv : Ruls w B n v l) (hB : B ≤ w.heap.size) (h1 : tx.size ≤ 1048576) (h2 : wm.size ≤ 1048576) :
    Calls Tryz.prog 109 #[v, .agg #[.string tx, .string wm, .int .i64 wl]] w (fun e w' => e = .returned (.int .i64 (ruleIx l ⟨tx.data.toList, wm.data.toList, wl⟩)) ∧ Below w.heap.size w w') := by
  have hln := hv.count
  obtain ⟨A, c, rfl, hnc, hcm⟩ := hv.1.form
  unfold maxLen at hcm
  have HV := hid (And.intro hv hln)
  have HB0 := hid (show Below w.heap.size w (w.alloc (.cells #[.string tx, .string wm, .int .i64 wl] 59)) from (Below.refl _ _).alloc (Nat.le_refl _) _)
  have KW0 := hid (Blk.new w #[.string tx, .string wm, .int .i64 wl] 59)
  have CB9 := hid (fun (rm : ByteArray) (h : rm.size ≤ 1048576) W => specBelow_c wm rm W (by unfold maxLen; omega) (by unfold maxLen; omega))
  have CH9 := hid (fun (wd : ByteArray) W => specHasWord_c tx wd W h1)
  clear hv hln
  go_enter Tryz.func109, Tryz.ntmps109
  go_wp2_with fail
  go_loopw [5] (fun iv wr => ∃ (k : Nat), iv = .int .i64 k ∧ k ≤ n ∧ Hid ((l.take k).any (fallsB ⟨tx.data.toList, wm.data.toList, wl⟩) = false) ∧ Hid (Below w.heap.size w wr) ∧ Hid (Blk wr w.heap.size [.string tx, .string wm, .int .i64 wl])) (fun iv _ => n - (intOf iv).toNat)
  case atStart => exact ⟨0, rfl, by omega, by simp [Hid], HB0.out, KW0.out⟩
  case round =>
    obtain ⟨k, rfl, hk, HN, HB, KW⟩ := hrel
    by_cases hlt : k < n
    · obtain ⟨b, o, ac, wd, rm, rl, rfl, hbB, hx, c0, c1, c2, c3⟩ := rucells_at (HV.out.1.1.below HB.out hB) hlt
      have hfit := rucells_fit HV.out.1.2 hx
      have HX := hid hx
      have CB := hid (CB9.out rm hfit.2)
      have CH := hid (CH9.out wd)
      obtain ⟨e1, i1, g1⟩ := empty_bool wd
      obtain ⟨e3, i3, g3⟩ := eq_boolRi rl 0
      obtain ⟨e4, i4, g4⟩ := eq_boolRi rl wl
      have HE := hid (show fallsB ⟨tx.data.toList, wm.data.toList, wl⟩ ⟨ac, wd.data.toList, rm.data.toList, rl⟩ = ((e1 || hasW tx.data.toList wd.data.toList) && (belowL wm.data.toList rm.data.toList && (e3 || e4))) by unfold fallsB; rw [g1, g3, g4])
      have hbx : Below wr.heap.size wr (wr.alloc (.cells #[.int .i64 ac, .string wd, .string rm, .int .i64 rl] 63)) := (Below.refl _ _).alloc (Nat.le_refl _) _
      have HBx := hid (HB.out.trans (hbx.mono HB.out.size))
      have KWx := hid (KW.out.to hbx)
      have KX := hid (Blk.new wr #[.int .i64 ac, .string wd, .string rm, .int .i64 rl] 63)
      have HT := hid (fun (h : fallsB ⟨tx.data.toList, wm.data.toList, wl⟩ ⟨ac, wd.data.toList, rm.data.toList, rl⟩ = true) => ruleIx_hit HN.out HX.out h)
      have HF := hid (fun (h : fallsB ⟨tx.data.toList, wm.data.toList, wl⟩ ⟨ac, wd.data.toList, rm.data.toList, rl⟩ = false) => (show (l.take (k + 1)).any (fallsB ⟨tx.data.toList, wm.data.toList, wl⟩) = false by rw [any_next HN.out HX.out, h]; rfl))
      generalize fallsB ⟨tx.data.toList, wm.data.toList, wl⟩ ⟨ac, wd.data.toList, rm.data.toList, rl⟩ = z at HE HT HF
      generalize belowL wm.data.toList rm.data.toList = b9 at CB HE
      generalize hasW tx.data.toList wd.data.toList = hw at CH HE
      have s0 : (0 : Int) ≤ (k : Int) := by omega
      have s1 : (k : Int) < (n : Int) := by omega
      have s2 : ((k : Int)).toNat = k := by simp
      clear hx hfit g1 g3 g4 hbx
      have y0 := (KW.out.2 0 _ rfl).1
      have y1 := (KW.out.2 1 _ rfl).1
      have y2 := (KW.out.2 2 _ rfl).1
      have hwl := KW.out.1
      cases e1 with
      | true =>
        cases b9 <;> cases e3 <;> cases e4
        all_goals
          go_wp2_with (go_at_call 111; refine (CB.out _).mono ?_; rintro e w2 ⟨rfl, rfl⟩)
          first
          | (go_roundw
             case rel => exact ⟨k + 1, by go_num, by omega, HF.out (by rw [HE.out]; simp), HBx.out, KWx.out⟩
             case measure => simp [intOf]; omega)
          | (go_ret
             exact ⟨by rw [HT.out (by rw [HE.out]; simp)]; rfl, HBx.out⟩)
      | false =>
        cases hw with
        | false =>
          go_wp2_with fail
          refine (CH.out _).mono ?_
          rintro e w1 ⟨rfl, hb⟩
          have HB1 := hid (HBx.out.trans (hb.mono HBx.out.size))
          have KW1 := hid (KWx.out.to hb)
          clear hb y0 y1 y2
          go_wp2_with fail
          go_roundw
          case rel => exact ⟨k + 1, by go_num, by omega, HF.out (by rw [HE.out]; simp), HB1.out, KW1.out⟩
          case measure => simp [intOf]; omega
        | true =>
          go_wp2_with fail
          refine (CH.out _).mono ?_
          rintro e w1 ⟨rfl, hb⟩
          have HB1 := hid (HBx.out.trans (hb.mono HBx.out.size))
          have KW1 := hid (KWx.out.to hb)
          have KX1 := hid (KX.out.to hb)
          clear hb y0 y1 y2
          have y1 := (KW1.out.2 1 _ rfl).1
          have y2 := (KW1.out.2 2 _ rfl).1
          have x2 := (KX1.out.2 2 _ rfl).1
          have x3 := (KX1.out.2 3 _ rfl).1
          cases b9 <;> cases e3 <;> cases e4
          all_goals
            go_wp2_with (go_at_call 111; refine (CB.out _).mono ?_; rintro e w2 ⟨rfl, rfl⟩)
            first
            | (go_roundw
               case rel => exact ⟨k + 1, by go_num, by omega, HF.out (by rw [HE.out]; simp), HB1.out, KW1.out⟩
               case measure => simp [intOf]; omega)
            | (go_ret
               exact ⟨by rw [HT.out (by rw [HE.out]; simp)]; rfl, HB1.out⟩)
    · have HE := hid (show l.any (fallsB ⟨tx.data.toList, wm.data.toList, wl⟩) = false by
        have h := HN.out
        rwa [List.take_of_length_le (by have := HV.out.2; omega)] at h)
      go_wp2_with fail
      go_ret
      exact ⟨by rw [ruleIx_none HE.out]; rfl, HB.out⟩

end Go.Proofs.YtlifaeleoiodkaaGreatDoor
