/-
  WARNINGS SHOWN: seen, shown, ShowWarnings of the model. By gen_sw4.py.
-/
import Derived.Test.YtlifaeleoiodkaaGreatDoorSW3
import Derived.Test.YtlifaeleoiodkaaGreatDoorNE0
namespace Go.Proofs.YtlifaeleoiodkaaGreatDoor
open Go.RowKit Go.Proofs.YtlifaeleoiodkaaGreatDoor.Nm
set_option linter.unusedSimpArgs false
set_option linter.unusedVariables false

/-- a number more -/
theorem ints_app1 {w : World} {lo : Nat} {A : Option Addr} {n c : Nat} {out : List Int} {rest : List Row} (h : Rows w lo ([⟨3, 1, n, .slice A n c, out.map vint⟩] ++ rest)) (hlo : lo ≤ w.heap.size) (hm : n ≤ 1048576) (k : Int) (te : TypeId) :
    ∃ A' c' w', (Builtin.append_ #[72, 72] 72 #[.slice A n c, .slice (some ⟨w.heap.size, 0, none⟩) 1 1]).run Tryz.prog (w.alloc (.cells #[.int .i64 k] te)) = .ok (.slice A' (n + 1) c') w' ∧
      Below lo w w' ∧ Rows w' lo ([⟨3, 1, n + 1, .slice A' (n + 1) c', (out ++ [k]).map vint⟩] ++ rest) ∧ lo ≤ w'.heap.size := by
  obtain ⟨i0, hi, hz0, hz1, hz2⟩ := info_parts Tryz.infoInt
  have htop : w.ownsRow lo 3 1 (.slice A n c) n (out.map vint) := h.head
  obtain ⟨v5, w4, hrun, ho4, hg4, hloc⟩ := run_app1P (P := Tryz.prog) w 72 lo 3 i0 _ 1 8 Tryz.underlying72 hi hz0 hz1 hz2 rfl (by decide) _ n _ htop [.int .i64 k] te rfl (fun x hx => by rw [List.mem_singleton.1 hx]; rfl) (by unfold maxLen; omega) (by omega) hlo
  obtain ⟨A5, c5, rfl, _, _⟩ := (Sl.of_own ho4).form
  refine ⟨A5, c5, w4, hrun, (Below.refl lo w).grown hg4 hlo (own_lt htop), ?_, Nat.le_trans hlo hg4.size⟩
  have h1 := Rows.app4 (pre := []) (post := rest) (r := ⟨3, 1, n, .slice A n c, out.map vint⟩) (r' := ⟨3, 1, n + 1, .slice A5 (n + 1) c5, out.map vint ++ ([Value.int .i64 k] : List Value)⟩) (by simpa using h) hg4 ho4 (fun z hz => by
    rcases hloc with e | e
    · left; rw [← e]; exact hz
    · right; have hz' : (Value.slice A5 (n + 1) c5).ownBlock = some z := hz; rw [e] at hz'; have : w.heap.size + 1 = z := Option.some.inj hz'; omega)
  rw [List.map_append]
  simpa [vint] using h1
/-- a warning more -/
theorem wrns_app1 {w : World} {lo : Nat} {A : Option Addr} {n c : Nat} {old : List Wrn} {rest : List Row} (h : Rows w lo ([⟨59, 3, n, .slice A n c, old.flatMap wncells⟩] ++ rest)) (hlo : lo ≤ w.heap.size) (hm : n ≤ 1048576) (tx md : ByteArray) (ln : Int) (te : TypeId) :
    ∃ A' c' w', (Builtin.append_ #[40, 40] 40 #[.slice A n c, .slice (some ⟨w.heap.size, 0, none⟩) 1 1]).run Tryz.prog (w.alloc (.cells #[.string tx, .string md, .int .i64 ln] te)) = .ok (.slice A' (n + 1) c') w' ∧
      Below lo w w' ∧ Rows w' lo ([⟨59, 3, n + 1, .slice A' (n + 1) c', (old ++ [(⟨tx.data.toList, md.data.toList, ln⟩ : Wrn)]).flatMap wncells⟩] ++ rest) ∧ lo ≤ w'.heap.size := by
  obtain ⟨i0, hi, hz0, hz1, hz2⟩ := info_parts Tryz.infoWarning
  have htop : w.ownsRow lo 59 3 (.slice A n c) n (old.flatMap wncells) := h.head
  obtain ⟨v5, w4, hrun, ho4, hg4, hloc⟩ := run_app1P (P := Tryz.prog) w 40 lo 59 i0 _ 3 40 Tryz.underlying40 hi hz0 hz1 hz2 rfl (by decide) _ n _ htop [.string tx, .string md, .int .i64 ln] te rfl (List.all_eq_true.1 rfl) (by unfold maxLen; omega) (by omega) hlo
  obtain ⟨A5, c5, rfl, _, _⟩ := (Sl.of_own ho4).form
  refine ⟨A5, c5, w4, hrun, (Below.refl lo w).grown hg4 hlo (own_lt htop), ?_, Nat.le_trans hlo hg4.size⟩
  have h1 := Rows.app4 (pre := []) (post := rest) (r := ⟨59, 3, n, .slice A n c, old.flatMap wncells⟩) (r' := ⟨59, 3, n + 1, .slice A5 (n + 1) c5, old.flatMap wncells ++ ([Value.string tx, Value.string md, Value.int .i64 ln] : List Value)⟩) (by simpa using h) hg4 ho4 (fun z hz => by
    rcases hloc with e | e
    · left; rw [← e]; exact hz
    · right; have hz' : (Value.slice A5 (n + 1) c5).ownBlock = some z := hz; rw [e] at hz'; have : w.heap.size + 1 = z := Option.some.inj hz'; omega)
  rw [List.flatMap_append]
  simpa [wncells, txt_data] using h1

def sawB (a : Int) (w x : Wrn) : Bool := decide (x.tx = w.tx) && (decide (a = 2) || (decide (x.md = w.md) && (decide (a = 3) || decide (x.ln = w.ln))))
theorem sawL_any (old : List Wrn) (w : Wrn) (a : Int) : sawL old w a = old.any (sawB a w) := rfl

set_option maxHeartbeats 8000000 in
set_option maxRecDepth 100000 in
theorem specSeen_c (v : Value) (n B : Nat) (old : List Wrn) (tx md : ByteArray) (ln a : Int) (w : World) (hv : Sl w B 3 n v (old.flatMap wncells)) (hB : B ≤ w.heap.size) (ha : a = 2 ∨ a = 3 ∨ a = 4) :
    Calls Tryz.prog 72 #[v, .agg #[.string tx, .string md, .int .i64 ln], .int .i64 a] w (BoolPost w (sawL old ⟨tx.data.toList, md.data.toList, ln⟩ a)) := by
  have hln : old.length = n := Sl.count wncells_len hv (by omega)
  obtain ⟨A, c, rfl, hnc, hcm⟩ := hv.form
  unfold maxLen at hcm
  have HV := hid (And.intro hv hln)
  have HB0 := hid (show Below w.heap.size w (w.alloc (.cells #[.string tx, .string md, .int .i64 ln] 59)) from (Below.refl _ _).alloc (Nat.le_refl _) _)
  have KW0 := hid (Blk.new w #[.string tx, .string md, .int .i64 ln] 59)
  rw [sawL_any]
  clear hv hln
  go_enter Tryz.func72, Tryz.ntmps72
  go_wp2_with fail
  go_loopw [7] (fun iv wr => ∃ (k : Nat), iv = .int .i64 k ∧ k ≤ n ∧ Hid ((old.take k).any (sawB a ⟨tx.data.toList, md.data.toList, ln⟩) = false) ∧ Hid (Below w.heap.size w wr) ∧ Hid (Blk wr w.heap.size [.string tx, .string md, .int .i64 ln])) (fun iv _ => n - (intOf iv).toNat)
  case atStart => exact ⟨0, rfl, by omega, by simp [Hid], HB0.out, KW0.out⟩
  case round =>
    obtain ⟨k, rfl, hk, HN, HB, KW⟩ := hrel
    by_cases hlt : k < n
    · obtain ⟨b, o, tx', md', ln', rfl, hbB, hx, c0, c1, c2⟩ := wncells_at (HV.out.1.below HB.out hB) hlt
      have HX := hid hx
      obtain ⟨e1, i1, g1⟩ := eq_boolR tx' tx
      obtain ⟨e2, i2, g2⟩ := eq_boolR md' md
      obtain ⟨e3, i3, g3⟩ := eq_boolRi ln' ln
      have hbx : Below wr.heap.size wr (wr.alloc (.cells #[.string tx', .string md', .int .i64 ln'] 59)) := (Below.refl _ _).alloc (Nat.le_refl _) _
      have HBx := hid (HB.out.trans (hbx.mono HB.out.size))
      have KWx := hid (KW.out.to hbx)
      have HE := hid (show sawB a ⟨tx.data.toList, md.data.toList, ln⟩ ⟨tx'.data.toList, md'.data.toList, ln'⟩ = (e1 && (decide (a = 2) || (e2 && (decide (a = 3) || e3)))) by unfold sawB; rw [g1, g2, g3])
      have HT := hid (fun (h : sawB a ⟨tx.data.toList, md.data.toList, ln⟩ ⟨tx'.data.toList, md'.data.toList, ln'⟩ = true) => (show old.any (sawB a ⟨tx.data.toList, md.data.toList, ln⟩) = true from List.any_eq_true.2 ⟨_, List.mem_of_getElem? HX.out, h⟩))
      have HF := hid (fun (h : sawB a ⟨tx.data.toList, md.data.toList, ln⟩ ⟨tx'.data.toList, md'.data.toList, ln'⟩ = false) => (show (old.take (k + 1)).any (sawB a ⟨tx.data.toList, md.data.toList, ln⟩) = false by rw [any_next HN.out HX.out, h]; rfl))
      generalize sawB a ⟨tx.data.toList, md.data.toList, ln⟩ ⟨tx'.data.toList, md'.data.toList, ln'⟩ = z at HE HT HF
      obtain ⟨y0, y1, y2⟩ : wr.cell? ⟨w.heap.size, 0, none⟩ = some (.string tx) ∧ wr.cell? ⟨w.heap.size, 1, none⟩ = some (.string md) ∧ wr.cell? ⟨w.heap.size, 2, none⟩ = some (.int .i64 ln) := ⟨(KW.out.2 0 _ rfl).1, (KW.out.2 1 _ rfl).1, (KW.out.2 2 _ rfl).1⟩
      have hwl := KW.out.1
      clear hx g1 g2 g3 hbx
      rcases ha with rfl | rfl | rfl
      all_goals
        cases e1 <;> cases e2 <;> cases e3
        all_goals
          go_wp2_with fail
          first
          | (go_roundw
             case rel => exact ⟨k + 1, by go_num, by omega, HF.out (by rw [HE.out]; rfl), HBx.out, KWx.out⟩
             case measure => simp [intOf]; omega)
          | (go_ret
             exact ⟨by rw [HT.out (by rw [HE.out]; rfl)]; rfl, HBx.out⟩)
    · have HE := hid (show old.any (sawB a ⟨tx.data.toList, md.data.toList, ln⟩) = false by
        have h := HN.out
        rwa [List.take_of_length_le (by have := HV.out.2; omega)] at h)
      go_wp2_with fail
      go_ret
      exact ⟨by rw [HE.out]; rfl, HB.out⟩

set_option maxHeartbeats 16000000 in
set_option maxRecDepth 100000 in
theorem specShown_c {v v2 : Value} {B : Nat} {rs : List Rul} {l : List Wrn} {w : World} (h : RulesIn w B v rs) (h2 : WrnsIn w B v2 l) (hB : B ≤ w.heap.size) (hz : rulsOk rs = true) (hq : wrnsOk l = true) :
    Calls Tryz.prog 35 #[v, v2] w (ShowPost w (shG rs 0 l [] [])) := by
  have HR := hid h.1
  have HL := hid h2.1
  obtain ⟨A, c, rfl, hnc, hcm⟩ := h.1.1.form
  obtain ⟨Al, cl, rfl, hlc, hlm⟩ := h2.1.1.form
  unfold maxLen at hcm hlm
  have HZ := hid hz
  obtain ⟨X, hX⟩ : ∃ X, shG rs 0 l [] [] = X := ⟨_, rfl⟩
  rw [hX]
  have HX := hid hX
  clear hX
  have hn12 := wrns_len hq
  generalize hnl : l.length = n at *
  replace hnl := hid hnl
  generalize hnr : rs.length = nr at *
  replace hnr := hid hnr
  clear h h2 hz hq
  have R2 := (((Rows.nil w w.heap.size).lit (Nat.le_refl _) #[] 3 0 rfl (by omega)))
  have HB1 : Below w.heap.size w (w.alloc (.cells #[] 3)) := (Below.refl _ _).alloc (Nat.le_refl _) _
  have R3 := R2.newer ((Below.refl (w.alloc (.cells #[] 3)).heap.size _).alloc (Nat.le_refl _) (.cells #[] 59)) (Rows.one (r := ⟨59, 3, 0, .slice (some ⟨(w.alloc (.cells #[] 3)).heap.size, 0, none⟩) 0 0, []⟩) (World.ownsRow_lit (w.alloc (.cells #[] 3)) #[] 0 (Nat.le_refl _) (by unfold maxLen; omega) (by simp))) HB1.size
  have HB2 := hid (HB1.alloc HB1.size (.cells #[] 59))
  simp only [World.size_alloc] at R3
  have HR0 := hid (show Rows _ w.heap.size ([⟨3, 1, 0, .slice (some ⟨w.heap.size, 0, none⟩) 0 0, ([] : List Int).map vint⟩] ++ [⟨59, 3, 0, .slice (some ⟨w.heap.size + 1, 0, none⟩) 0 0, ([] : List Wrn).flatMap wncells⟩]) from R3.perm (List.Perm.swap _ _ _))
  clear R2 R3 HB1
  go_enter Tryz.func35, Tryz.ntmps35
  go_wp2_with fail
  generalize (w.alloc (.cells #[] 3)).alloc (.cells #[] 59) = w0 at *
  go_loopw [6, 7, 8] (fun av ov iv wr => ∃ (k q p : Nat) (out : List Int) (old : List Wrn) (A9 : Option Addr) (c9 : Nat) (Ao : Option Addr) (co : Nat), iv = .int .i64 k ∧ av = .slice A9 q c9 ∧ ov = .slice Ao p co ∧ k ≤ n ∧ q ≤ k ∧ p ≤ k ∧ Hid (out.length = q) ∧ Hid (shG rs k (l.drop k) out old = X) ∧ Hid (Rows wr w.heap.size ([⟨3, 1, q, .slice A9 q c9, out.map vint⟩] ++ [⟨59, 3, p, .slice Ao p co, old.flatMap wncells⟩])) ∧ Hid (Below w.heap.size w wr)) (fun _ _ iv _ => n - (intOf iv).toNat)
  case atStart => exact ⟨0, 0, 0, [], [], _, _, _, _, rfl, rfl, rfl, Nat.zero_le _, Nat.le_refl _, Nat.le_refl _, rfl, HX.out, HR0.out, HB2.out⟩
  case round =>
    clear HR0 HB2 HX
    rename World => wr
    obtain ⟨k, q, p, out, old, A9, c9, Ao, co, rfl, rfl, rfl, hk, hqk, hpk, HQL, HG, HO, HB⟩ := hrel
    by_cases hlt : k < n
    · obtain ⟨b, ob, tx, md, ln, rfl, hbB, hx, c0, c1, c2⟩ := wncells_at (show Sl wr B 3 n (.slice Al n cl) (l.flatMap wncells) from (HL.out.below HB.out hB).1) hlt
      have hfit := HL.out.2 _ (List.mem_of_getElem? hx)
      have ht1 : tx.size ≤ maxTxt := by rw [Lib.size_eq]; exact hfit.1
      have ht2 : md.size ≤ maxTxt := by rw [Lib.size_eq]; exact hfit.2
      have C := hid (fun (W : World) (hW : Below w.heap.size w W) => specAction_c (.slice A nr c) nr B rs tx md ln W (HR.out.below hW hB) (Nat.le_trans hB hW.size) ht1 ht2)
      have hkind := act_kinds HZ.out (⟨tx.data.toList, md.data.toList, ln⟩ : Wrn)
      have G0 := hid (fun (ha : actX rs ⟨tx.data.toList, md.data.toList, ln⟩ = 0) => (shG_0 (out := out) (old := old) hx ha).symm.trans HG.out)
      have G5 := hid (fun (ha : actX rs ⟨tx.data.toList, md.data.toList, ln⟩ = 5) => (shG_5 (out := out) (old := old) hx ha).symm.trans HG.out)
      have G1 := hid (fun (ha : actX rs ⟨tx.data.toList, md.data.toList, ln⟩ = 1) => (shG_1 (out := out) (old := old) hx ha).symm.trans HG.out)
      have GS := hid (fun (ha : actX rs ⟨tx.data.toList, md.data.toList, ln⟩ = 2 ∨ actX rs ⟨tx.data.toList, md.data.toList, ln⟩ = 3 ∨ actX rs ⟨tx.data.toList, md.data.toList, ln⟩ = 4) (hs : sawL old ⟨tx.data.toList, md.data.toList, ln⟩ (actX rs ⟨tx.data.toList, md.data.toList, ln⟩) = true) => (shG_saw (out := out) hx ha hs).symm.trans HG.out)
      have GN := hid (fun (ha : actX rs ⟨tx.data.toList, md.data.toList, ln⟩ = 2 ∨ actX rs ⟨tx.data.toList, md.data.toList, ln⟩ = 3 ∨ actX rs ⟨tx.data.toList, md.data.toList, ln⟩ = 4) (hs : sawL old ⟨tx.data.toList, md.data.toList, ln⟩ (actX rs ⟨tx.data.toList, md.data.toList, ln⟩) = false) => (shG_new (out := out) hx ha hs).symm.trans HG.out)
      have HCELL := hid (fun (W : World) (hW : Below w.heap.size wr W) => And.intro ((hW.cell (p := ⟨b, ob + k * 3, none⟩) (show b < w.heap.size by omega)).trans c0) (And.intro ((hW.cell (p := ⟨b, ob + k * 3 + 1, none⟩) (show b < w.heap.size by omega)).trans c1) ((hW.cell (p := ⟨b, ob + k * 3 + 2, none⟩) (show b < w.heap.size by omega)).trans c2)))
      generalize hact : actX rs ⟨tx.data.toList, md.data.toList, ln⟩ = a at *
      clear hx hfit hact
      rcases hkind with rfl | rfl | rfl | hkind
      · go_wp2_with fail
        refine (C.out _ HB.out).mono ?_
        rintro e w4 ⟨rfl, hb⟩
        have HB4 := hid (HB.out.trans (hb.mono HB.out.size))
        have HO4 := hid (HO.out.below hb)
        have hb4 : Below w.heap.size wr w4 := hb.mono HB.out.size
        obtain ⟨y0, y1, y2⟩ := HCELL.out _ hb4
        clear hb C HB HO c0 c1 c2
        have G := hid (G0.out (by trivial))
        clear G0 G1 G5 GS GN
        go_wp2_with fail
        go_roundw
        case rel => exact ⟨k + 1, q, p, out, old, A9, c9, Ao, co, by go_num, rfl, rfl, by omega, by omega, by omega, HQL.out, G.out, HO4.out, HB4.out⟩
        case measure => simp [intOf]; omega
      · go_wp2_with fail
        refine (C.out _ HB.out).mono ?_
        rintro e w4 ⟨rfl, hb⟩
        have HB4 := hid (HB.out.trans (hb.mono HB.out.size))
        have HO4 := hid (HO.out.below hb)
        have hb4 : Below w.heap.size wr w4 := hb.mono HB.out.size
        obtain ⟨y0, y1, y2⟩ := HCELL.out _ hb4
        clear hb C HB HO c0 c1 c2
        have G := hid (G5.out (by trivial))
        clear G0 G1 G5 GS GN
        obtain ⟨A5, c5, w5, hrun, hb5, hr5, _⟩ := ints_app1 HO4.out HB4.out.size (by omega) (k : Int) 3
        have HRun := hid hrun
        have HL5 := hid (show (out ++ [(k : Int)]).length = q + 1 by rw [List.length_append, HQL.out]; rfl)
        have HO5 := hid hr5
        have HB5 := hid (HB4.out.trans hb5)
        clear hrun hb5 hr5 hb4 y0 y1 y2
        go_wp2_with (at_builtin; refine wpList_runB rfl rfl (by rfl) (by rfl) HRun.out ?_)
        refine bodyPost_ret (v := .tuple #[.slice A5 (q + 1) c5, .bool true]) (by simp [results, Tryz.results35, go_sem]) rfl ?_
        rw [← G.out]
        exact ⟨_, _, rfl, rfl, (show Rows w5 w.heap.size [⟨3, 1, (out ++ [(k : Int)]).length, .slice A5 (q + 1) c5, (out ++ [(k : Int)]).map vint⟩] by rw [HL5.out]; exact HO5.out.left), HB5.out⟩
      · go_wp2_with fail
        refine (C.out _ HB.out).mono ?_
        rintro e w4 ⟨rfl, hb⟩
        have HB4 := hid (HB.out.trans (hb.mono HB.out.size))
        have HO4 := hid (HO.out.below hb)
        have hb4 : Below w.heap.size wr w4 := hb.mono HB.out.size
        obtain ⟨y0, y1, y2⟩ := HCELL.out _ hb4
        clear hb C HB HO c0 c1 c2
        have G := hid (G1.out (by trivial))
        clear G0 G1 G5 GS GN
        obtain ⟨A5, c5, w5, hrun, hb5, hr5, _⟩ := ints_app1 HO4.out HB4.out.size (by omega) (k : Int) 3
        have HRun := hid hrun
        have HL5 := hid (show (out ++ [(k : Int)]).length = q + 1 by rw [List.length_append, HQL.out]; rfl)
        have HO5 := hid hr5
        have HB5 := hid (HB4.out.trans hb5)
        clear hrun hb5 hr5 hb4 y0 y1 y2
        go_wp2_with (at_builtin; refine wpList_runB rfl rfl (by rfl) (by rfl) HRun.out ?_)
        go_roundw
        case rel => exact ⟨k + 1, q + 1, p, out ++ [(k : Int)], old, A5, c5, Ao, co, by go_num, rfl, rfl, by omega, by omega, by omega, HL5.out, G.out, HO5.out, HB5.out⟩
        case measure => simp [intOf]; omega
      · go_wp2_with fail
        refine (C.out _ HB.out).mono ?_
        rintro e w4 ⟨rfl, hb⟩
        have HB4 := hid (HB.out.trans (hb.mono HB.out.size))
        have HO4 := hid (HO.out.below hb)
        have hb4 : Below w.heap.size wr w4 := hb.mono HB.out.size
        obtain ⟨y0, y1, y2⟩ := HCELL.out _ hb4
        clear hb C HB HO
        have CS := hid (specSeen_c (.slice Ao p co) p w4.heap.size old tx md ln a w4 (Sl.of_own (show w4.ownsRow w.heap.size 59 3 (.slice Ao p co) p (old.flatMap wncells) from (Rows.right HO4.out).head)) (Nat.le_refl _) hkind)
        have e0 : (a == 0) = false := by simp; omega
        have e5 : (a == 5) = false := by simp; omega
        have e1 : (a == 1) = false := by simp; omega
        have HK := hid hkind
        clear hkind
        cases hsw : sawL old (⟨tx.data.toList, md.data.toList, ln⟩ : Wrn) a with
        | true =>
          rw [hsw] at CS
          have G := hid (GS.out HK.out hsw)
          clear G0 G1 G5 GS GN hsw
          go_wp2_with fail
          refine CS.out.mono ?_
          rintro e w6 ⟨rfl, hb⟩
          have HB6 := hid (HB4.out.trans (hb.mono HB4.out.size))
          have HO6 := hid (HO4.out.below hb)
          clear hb
          go_wp2_with fail
          go_roundw
          case rel => exact ⟨k + 1, q, p, out, old, A9, c9, Ao, co, by go_num, rfl, rfl, by omega, by omega, by omega, HQL.out, G.out, HO6.out, HB6.out⟩
          case measure => simp [intOf]; omega
        | false =>
          rw [hsw] at CS
          have G := hid (GN.out HK.out hsw)
          clear G0 G1 G5 GS GN hsw
          have hbw4 := hb4
          go_wp2_with fail
          refine CS.out.mono ?_
          rintro e w6 ⟨rfl, hb⟩
          have HB6 := hid (HB4.out.trans (hb.mono HB4.out.size))
          have HO6 := hid (HO4.out.below hb)
          have HW6 := hid (hb4.trans (hb.mono (show w.heap.size ≤ w4.heap.size from HB4.out.size)))
          obtain ⟨A5, c5, w5, hrun, hb5, hr5, hs5⟩ := ints_app1 HO6.out HB6.out.size (by omega) (k : Int) 3
          have HW5 := hid (HW6.out.trans hb5)
          obtain ⟨z0, z1, z2⟩ := HCELL.out _ HW5.out
          have HL5 := hid (show (out ++ [(k : Int)]).length = q + 1 by rw [List.length_append, HQL.out]; rfl)
          have HRun := hid hrun
          have hr5' := hr5.perm (List.perm_append_comm)
          have HB5 := hid (HB6.out.trans hb5)
          obtain ⟨A7, c7, w7, hrun7, hb7, hr7, hs7⟩ := wrns_app1 hr5' hs5 (by omega) tx md ln 59
          have HRun7 := hid hrun7
          have HO7 := hid (hr7.perm (List.perm_append_comm))
          have HB7 := hid (HB5.out.trans hb7)
          clear hb hrun hb5 hr5 hr5' hrun7 hb7 hr7 hs5 hs7 hb4 hbw4 y0 y1 y2
          go_wp2_with (first | (at_builtin; refine wpList_runB rfl rfl (by rfl) (by rfl) HRun.out ?_) | (at_builtin; refine wpList_runB rfl rfl (by rfl) (by rfl) HRun7.out ?_))
          go_roundw
          case rel => exact ⟨k + 1, q + 1, p + 1, out ++ [(k : Int)], _, A5, c5, A7, c7, by go_num, rfl, rfl, by omega, by omega, by omega, HL5.out, G.out, HO7.out, HB7.out⟩
          case measure => simp [intOf]; omega
    · obtain rfl : k = n := by omega
      have G := HG.out
      rw [shG_end (by rw [hnl.out]; exact Nat.le_refl _)] at G
      have HO9 := hid (show Rows wr w.heap.size [⟨3, 1, out.length, .slice A9 q c9, out.map vint⟩] by rw [HQL.out]; exact HO.out.left)
      go_wp2_with fail
      refine bodyPost_ret (v := .tuple #[.slice A9 q c9, .bool false]) (by simp [results, Tryz.results35, go_sem]) rfl ?_
      rw [← G]
      exact ⟨_, _, rfl, rfl, HO9.out, HB.out⟩

end Go.Proofs.YtlifaeleoiodkaaGreatDoor
