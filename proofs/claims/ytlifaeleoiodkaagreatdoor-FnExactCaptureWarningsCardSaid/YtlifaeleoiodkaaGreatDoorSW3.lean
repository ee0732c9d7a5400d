/-
  WARNINGS SHOWN: ShowWarnings of the program. By gen_sw3.py.
-/
import Derived.Test.YtlifaeleoiodkaaGreatDoorSW2
import Derived.Test.YtlifaeleoiodkaaGreatDoorKInts
import Derived.Test.YtlifaeleoiodkaaGreatDoorKRules
import Derived.Test.YtlifaeleoiodkaaGreatDoorKWrns
import Derived.Deep.RegionHeld3
import Derived.WalkMore
import Derived.ScopeJumps
namespace Go.Proofs.YtlifaeleoiodkaaGreatDoor
open Go.RowKit Go.Proofs.YtlifaeleoiodkaaGreatDoor.Nm
open Go.WideMaps
set_option linter.unusedSimpArgs false
set_option linter.unusedVariables false

theorem SetK.under {w w' : World} {b n B : Nat} {f : Sgt → Bool} (h : SetK w b n f) (hb : Below B w w') (hlt : b < B) : SetK w' b n f := by
  obtain ⟨D, h1, ⟨es, clock, h2, h4⟩, h3⟩ := h
  exact ⟨D, h1, ⟨es, clock, (hb.block b hlt).trans h2, h4⟩, h3⟩
def ShowPost (w : World) (X : List Int × Bool) (e : Ending) (w2 : World) : Prop := ∃ (u0 : Value) (rs0 : List Row), e = .returned (.tuple #[u0, .bool X.2]) ∧ IntsR rs0 u0 X.1 ∧ Rows w2 w.heap.size rs0 ∧ Below w.heap.size w w2
theorem show_none {w w2 : World} (hb : Below w.heap.size w w2) : ShowPost w ([], false) (.returned (.tuple #[.slice none 0 0, .bool false])) w2 := ⟨_, _, rfl, rfl, Rows.one (World.ownsRow_nil _ _ _ _), hb⟩
theorem ints_snoc {w : World} {base n : Nat} {v : Value} {out : List Int} {k : Int} (h : w.ownsRow base 3 1 v (n + 1) (out.map vint ++ [.int .i64 k])) (hn : out.length = n) : w.ownsRow base 3 1 v (out ++ [k]).length ((out ++ [k]).map vint) := by
  have e : (out ++ [k]).length = n + 1 := by rw [List.length_append, hn]; rfl
  rw [e]; simpa [vint] using h
theorem sgt_fit {a : Int} {x : Wrn} (ha : a = 2 ∨ a = 3 ∨ a = 4) (h1 : x.tx.length ≤ maxTxt) (h2 : x.md.length ≤ maxTxt) (h3 : 1 ≤ x.ln ∧ x.ln ≤ 999) : sgFit (sgt a x) := by
  refine ⟨by show _ ≤ a ∧ a ≤ _; omega, h1, ?_, ?_⟩
  · show (if a = 2 then [] else x.md).length ≤ maxTxt
    split
    · simp
    · exact h2
  · show _ ≤ (if a = 2 ∨ a = 3 then (0 : Int) else x.ln) ∧ (if a = 2 ∨ a = 3 then (0 : Int) else x.ln) ≤ _
    split <;> omega
theorem sights_lit (w8 : World) (tx md : ByteArray) (ln : Int) : (w8.alloc (.cells #[.int .i64 2, .string tx, .string ⟨#[]⟩, .int .i64 0, .int .i64 3, .string tx, .string md, .int .i64 0, .int .i64 4, .string tx, .string md, .int .i64 ln] 133)).ownsRow w8.heap.size 133 4 (.slice (some ⟨w8.heap.size, 0, none⟩) 3 3) 3 (([sgt 2 (⟨tx.data.toList, md.data.toList, ln⟩ : Wrn), sgt 3 (⟨tx.data.toList, md.data.toList, ln⟩ : Wrn), sgt 4 (⟨tx.data.toList, md.data.toList, ln⟩ : Wrn)] : List Sgt).flatMap sgcells) := by
  have h9 := World.ownsRow_lit (e := 133) (size := 4) (base := w8.heap.size) w8 #[.int .i64 2, .string tx, .string ⟨#[]⟩, .int .i64 0, .int .i64 3, .string tx, .string md, .int .i64 0, .int .i64 4, .string tx, .string md, .int .i64 ln] 3 (Nat.le_refl _) (by unfold maxLen; omega) (by simp)
  have e : (([sgt 2 (⟨tx.data.toList, md.data.toList, ln⟩ : Wrn), sgt 3 (⟨tx.data.toList, md.data.toList, ln⟩ : Wrn), sgt 4 (⟨tx.data.toList, md.data.toList, ln⟩ : Wrn)] : List Sgt).flatMap sgcells) = (#[.int .i64 2, .string tx, .string ⟨#[]⟩, .int .i64 0, .int .i64 3, .string tx, .string md, .int .i64 0, .int .i64 4, .string tx, .string md, .int .i64 ln] : Array Value).toList := by simp [sgcells, sgt, txt_data]; rfl
  rw [e]; exact h9
theorem sightOf2_c (ln : Int) (tx md : ByteArray) (w : World) : Calls Tryz.prog 81 #[.int .i64 2, .agg #[.string tx, .string md, .int .i64 ln]] w (fun e w' => e = .returned (.agg #[.int .i64 2, .string tx, .string ⟨#[]⟩, .int .i64 0]) ∧ Below w.heap.size w w') := by
  refine (sightOf_c 2 ln tx md w (.inl rfl)).mono ?_
  rintro e w' ⟨rfl, hb⟩
  exact ⟨by simp [sgV, sgt, txt_data]; try rfl, hb⟩
theorem sightOf3_c (ln : Int) (tx md : ByteArray) (w : World) : Calls Tryz.prog 81 #[.int .i64 3, .agg #[.string tx, .string md, .int .i64 ln]] w (fun e w' => e = .returned (.agg #[.int .i64 3, .string tx, .string md, .int .i64 0]) ∧ Below w.heap.size w w') := by
  refine (sightOf_c 3 ln tx md w (.inr (.inl rfl))).mono ?_
  rintro e w' ⟨rfl, hb⟩
  exact ⟨by simp [sgV, sgt, txt_data]; try rfl, hb⟩
theorem sightOf4_c (ln : Int) (tx md : ByteArray) (w : World) : Calls Tryz.prog 81 #[.int .i64 4, .agg #[.string tx, .string md, .int .i64 ln]] w (fun e w' => e = .returned (.agg #[.int .i64 4, .string tx, .string md, .int .i64 ln]) ∧ Below w.heap.size w w') := by
  refine (sightOf_c 4 ln tx md w (.inr (.inr rfl))).mono ?_
  rintro e w' ⟨rfl, hb⟩
  exact ⟨by simp [sgV, sgt, txt_data]; try rfl, hb⟩
theorem wrn_ln {x : Wrn} (h : wrnOk x = true) : 1 ≤ x.ln ∧ x.ln ≤ 999 := by
  unfold wrnOk at h
  simp only [Bool.and_eq_true, decide_eq_true_eq] at h
  exact h.2.2
theorem wrns_at {l : List Wrn} (h : wrnsOk l = true) {x : Wrn} (hx : x ∈ l) : wrnOk x = true := by
  unfold wrnsOk at h; simp only [Bool.and_eq_true, List.all_eq_true] at h; exact h.1 x hx

set_option maxHeartbeats 16000000 in
set_option maxRecDepth 100000 in
theorem implShow_c {v v2 : Value} {B : Nat} {rs : List Rul} {l : List Wrn} {w : World} (h : RulesIn w B v rs) (h2 : WrnsIn w B v2 l) (hB : B ≤ w.heap.size) :
    Calls Tryz.prog 42 #[v, v2] w (ShowPost w (shX rs l)) := by
  obtain ⟨i0, hi, hz0, hz1, hz2⟩ := info_parts Tryz.infoInt
  have C1 := hid (fun (w1 : World) (hb : Below w.heap.size w w1) => implValidRules_c v rs.length B rs w1 (h.1.below hb hB) (Nat.le_trans hB hb.size))
  have C2 := hid (fun (w1 : World) (hb : Below w.heap.size w w1) => implValidWarnings_c v2 l.length B l w1 (h2.1.below hb hB) (Nat.le_trans hB hb.size))
  have HR := hid h.1
  have HL := hid h2.1
  obtain ⟨A, c, rfl, hnc, hcm⟩ := h.1.1.form
  obtain ⟨Al, cl, rfl, hlc, hlm⟩ := h2.1.1.form
  unfold maxLen at hcm hlm
  have hX : shX rs l = if rulsOk rs && wrnsOk l then shG rs 0 l [] [] else ([], false) := rfl
  generalize shX rs l = X at *
  clear h h2
  cases hz : rulsOk rs with
  | false =>
    rw [hz] at C1 hX
    obtain rfl : X = ([], false) := hX
    clear hz C2
    go_enter Tryz.func42, Tryz.ntmps42
    go_wp2_with fail
    refine wp_scope_jumps 0 (fun _ _ => False) (fun _ _ => 0) (by rfl) ?_ (fun _ _ h => h.elim)
    go_wp2_with fail
    refine (C1.out _ (Below.refl _ _)).mono ?_
    rintro e w1 ⟨rfl, hb⟩
    have HB1 := hid hb
    clear hb
    go_wp2_with fail
    simp only [Exit.jump]
    refine bodyPost_ret (v := .tuple #[.slice none 0 0, .bool false]) (by simp [results, Tryz.results42, go_sem]) rfl ?_
    exact show_none HB1.out
  | true =>
    cases hq : wrnsOk l with
    | false =>
      rw [hz] at C1 hX
      rw [hq] at C2 hX
      obtain rfl : X = ([], false) := hX
      clear hz hq
      go_enter Tryz.func42, Tryz.ntmps42
      go_wp2_with fail
      refine wp_scope_jumps 0 (fun _ _ => False) (fun _ _ => 0) (by rfl) ?_ (fun _ _ h => h.elim)
      go_wp2_with fail
      refine (C1.out _ (Below.refl _ _)).mono ?_
      rintro e w1 ⟨rfl, hb⟩
      have HB1 := hid hb
      clear hb
      go_wp2_with fail
      refine (C2.out _ HB1.out).mono ?_
      rintro e w2 ⟨rfl, hb⟩
      have HB2 := hid (HB1.out.trans (hb.mono HB1.out.size))
      clear hb
      go_wp2_with fail
      simp only [Exit.jump]
      refine bodyPost_ret (v := .tuple #[.slice none 0 0, .bool false]) (by simp [results, Tryz.results42, go_sem]) rfl ?_
      exact show_none HB2.out
    | true =>
      rw [hz] at C1 hX
      rw [hq] at C2 hX
      have HX := hid (show shG rs 0 l [] [] = X from hX.symm)
      have HZ := hid hz
      have HQ := hid hq
      have hn12 := wrns_len hq
      have hlm2 := hlm
      generalize hnl : l.length = n at *
      replace hnl := hid hnl
      generalize hnr : rs.length = nr at *
      replace hnr := hid hnr
      clear hX hz hq
      go_enter Tryz.func42, Tryz.ntmps42
      go_wp2_with fail
      refine wp_scope_jumps 0 (fun a9 w9 => ∃ (A5 : Option Addr) (q c5 : Nat) (out : List Int) (u0 u1 u2 u3 u4 u5 u8 u9 u10 u11 u12 u13 u14 u15 u16 u17 u18 u19 u20 u21 u22 u23 u24 u25 u26 u27 u28 u29 u30 u31 u32 u33 u34 u35 u36 u37 u38 u39 u40 u41 u42 u43 u44 u45 u46 u47 u48 u49 u50 u51 u52 u53 u54 u55 u56 u57 u58 u59 u60 u61 u62 u63 u64 : Value), a9 = { tmps := #[u0, u1, u2, u3, u4, u5, .slice A5 q c5, .bool true, u8, u9, u10, u11, u12, u13, u14, u15, u16, u17, u18, u19, u20, u21, u22, u23, u24, u25, u26, u27, u28, u29, u30, u31, u32, u33, u34, u35, u36, u37, u38, u39, u40, u41, u42, u43, u44, u45, u46, u47, u48, u49, u50, u51, u52, u53, u54, u55, u56, u57, u58, u59, u60, u61, u62, u63, u64], defers := [] } ∧ Hid (X = (out, true)) ∧ Hid (w9.ownsRow w.heap.size 3 1 (.slice A5 q c5) out.length (out.map vint)) ∧ Hid (Below w.heap.size w w9)) (fun _ _ => 0) (by rfl) ?first ?pass
      case pass =>
        rintro a9 w9 ⟨A5, q, c5, out, u0, u1, u2, u3, u4, u5, u8, u9, u10, u11, u12, u13, u14, u15, u16, u17, u18, u19, u20, u21, u22, u23, u24, u25, u26, u27, u28, u29, u30, u31, u32, u33, u34, u35, u36, u37, u38, u39, u40, u41, u42, u43, u44, u45, u46, u47, u48, u49, u50, u51, u52, u53, u54, u55, u56, u57, u58, u59, u60, u61, u62, u63, u64, rfl, HXE, HO, HB⟩
        clear C1 C2
        go_wp2_with fail
        simp only [Exit.jump]
        refine bodyPost_ret (v := .tuple #[.slice A5 q c5, .bool true]) (by simp [results, Tryz.results42, go_sem]) rfl ?_
        rw [HXE.out]
        exact ⟨_, _, rfl, rfl, Rows.one HO.out, HB.out⟩
      case first =>
      go_wp2_with fail
      refine (C1.out _ (Below.refl _ _)).mono ?_
      rintro e w1 ⟨rfl, hb⟩
      have HB1 := hid hb
      clear hb C1
      go_wp2_with fail
      refine (C2.out _ HB1.out).mono ?_
      rintro e w2 ⟨rfl, hb⟩
      have HB2 := hid (HB1.out.trans (hb.mono HB1.out.size))
      clear hb C2
      have hmm := @run_makeMap Tryz.prog
      have HM0 := hid (SetK.made w2)
      have HB3 := hid (HB2.out.alloc HB2.out.size (.map #[] 0))
      have hs3 : w2.heap.size + 1 ≤ (w2.alloc (.map #[] 0)).heap.size := by simp
      have hs2 : w.heap.size ≤ w2.heap.size := HB2.out.size
      go_wp2_with fail
      generalize w2.alloc (.map #[] 0) = w3 at *
      generalize w2.heap.size = M at *
      clear hmm
      have HS3 := hid hs3
      clear hs3 HB1 HB2
      go_loopw [6, 7, 23] (fun av rv iv wr => ∃ (k m q : Nat) (out : List Int) (old : List Wrn) (A9 : Option Addr) (c9 : Nat), iv = .int .i64 k ∧ av = .slice A9 q c9 ∧ rv = .bool false ∧ k ≤ n ∧ q ≤ k ∧ m ≤ 3 * k ∧ Hid (out.length = q) ∧ Hid (shG rs k (l.drop k) out old = X) ∧ Hid (SetK wr M m (sgIn old)) ∧ Hid (wr.ownsRow (M + 1) 3 1 (.slice A9 q c9) q (out.map vint)) ∧ Hid (Below w.heap.size w wr) ∧ Hid (M + 1 ≤ wr.heap.size)) (fun _ _ iv _ => n - (intOf iv).toNat)
      case atStart => exact ⟨0, 0, 0, [], [], none, 0, rfl, rfl, rfl, Nat.zero_le _, Nat.le_refl _, Nat.zero_le _, rfl, HX.out, HM0.out.congr (fun s => rfl), World.ownsRow_nil _ _ _ _, HB3.out, HS3.out⟩
      case round =>
        clear HM0 HB3 HS3 HX
        rename World => wr
        obtain ⟨k, m, q, out, old, A9, c9, rfl, rfl, rfl, hk, hqk, hm, HQL, HG, HM, HO, HB, HS⟩ := hrel
        by_cases hlt : k < n
        · obtain ⟨b, ob, tx, md, ln, rfl, hbB, hx, c0, c1, c2⟩ := wncells_at (show Sl wr B 3 n (.slice Al n cl) (l.flatMap wncells) from (HL.out.below HB.out hB).1) hlt
          have hfit := HL.out.2 _ (List.mem_of_getElem? hx)
          have hwok := wrns_at HQ.out (List.mem_of_getElem? hx)
          have hln := wrn_ln hwok
          have ht1 : tx.size ≤ maxTxt := by rw [Lib.size_eq]; exact hfit.1
          have ht2 : md.size ≤ maxTxt := by rw [Lib.size_eq]; exact hfit.2
          have C := hid (fun (W : World) (hW : Below w.heap.size w W) => implAction_c (.slice A nr c) nr B rs tx md ln W (HR.out.below hW hB) (Nat.le_trans hB hW.size) ht1 ht2 HZ.out hwok)
          have hkind := act_kinds HZ.out (⟨tx.data.toList, md.data.toList, ln⟩ : Wrn)
          have HXX := hid hx
          have HFIT := hid (fun (a : Int) (ha : a = 2 ∨ a = 3 ∨ a = 4) => sgt_fit (x := ⟨tx.data.toList, md.data.toList, ln⟩) ha hfit.1 hfit.2 hln)
          have G0 := hid (fun (ha : actX rs ⟨tx.data.toList, md.data.toList, ln⟩ = 0) => (shG_0 (out := out) (old := old) hx ha).symm.trans HG.out)
          have G5 := hid (fun (ha : actX rs ⟨tx.data.toList, md.data.toList, ln⟩ = 5) => (shG_5 (out := out) (old := old) hx ha).symm.trans HG.out)
          have G1 := hid (fun (ha : actX rs ⟨tx.data.toList, md.data.toList, ln⟩ = 1) => (shG_1 (out := out) (old := old) hx ha).symm.trans HG.out)
          have GS := hid (fun (ha : actX rs ⟨tx.data.toList, md.data.toList, ln⟩ = 2 ∨ actX rs ⟨tx.data.toList, md.data.toList, ln⟩ = 3 ∨ actX rs ⟨tx.data.toList, md.data.toList, ln⟩ = 4) (hs : sawL old ⟨tx.data.toList, md.data.toList, ln⟩ (actX rs ⟨tx.data.toList, md.data.toList, ln⟩) = true) => (shG_saw (out := out) hx ha hs).symm.trans HG.out)
          have GN := hid (fun (ha : actX rs ⟨tx.data.toList, md.data.toList, ln⟩ = 2 ∨ actX rs ⟨tx.data.toList, md.data.toList, ln⟩ = 3 ∨ actX rs ⟨tx.data.toList, md.data.toList, ln⟩ = 4) (hs : sawL old ⟨tx.data.toList, md.data.toList, ln⟩ (actX rs ⟨tx.data.toList, md.data.toList, ln⟩) = false) => (shG_new (out := out) hx ha hs).symm.trans HG.out)
          have HBb := hid (HB.out.alloc HB.out.size (.cells #[.string tx, .string md, .int .i64 ln] 59))
          have KW := hid (Blk.new wr #[.string tx, .string md, .int .i64 ln] 59)
          have HMb := hid (HM.out.alloc' (.cells #[.string tx, .string md, .int .i64 ln] 59))
          have HOb := hid (HO.out.alloc (.cells #[.string tx, .string md, .int .i64 ln] 59))
          have HSb := hid (show M + 1 ≤ (wr.alloc (.cells #[.string tx, .string md, .int .i64 ln] 59)).heap.size by have := HS.out; simp; omega)
          have hMw : M < wr.heap.size := by have := HS.out; omega
          generalize hact : actX rs ⟨tx.data.toList, md.data.toList, ln⟩ = a at *
          clear hx hfit hwok hln hact
          rcases hkind with rfl | rfl | rfl | hkind
          · go_wp2_with fail
            refine (C.out _ HBb.out).mono ?_
            rintro e w4 ⟨rfl, hb⟩
            have HB4 := hid (HBb.out.trans (hb.mono HBb.out.size))
            have KW4 := hid (KW.out.to hb)
            have HM4 := hid (HMb.out.below hb)
            have HO4 := hid (own_below HOb.out hb)
            have HS4 := hid (Nat.le_trans HSb.out hb.size)
            clear hb C HBb KW HMb HOb HSb HB HM HO HS c0 c1 c2
            have G := hid (G0.out (by trivial))
            clear G0 G1 G5 GS GN
            go_wp2_with fail
            go_roundw
            case rel => exact ⟨k + 1, m, q, out, old, A9, c9, by go_num, rfl, rfl, by omega, by omega, by omega, HQL.out, G.out, HM4.out, HO4.out, HB4.out, HS4.out⟩
            case measure => simp [intOf]; omega
          · go_wp2_with fail
            refine (C.out _ HBb.out).mono ?_
            rintro e w4 ⟨rfl, hb⟩
            have HB4 := hid (HBb.out.trans (hb.mono HBb.out.size))
            have KW4 := hid (KW.out.to hb)
            have HM4 := hid (HMb.out.below hb)
            have HO4 := hid (own_below HOb.out hb)
            have HS4 := hid (Nat.le_trans HSb.out hb.size)
            clear hb C HBb KW HMb HOb HSb HB HM HO HS c0 c1 c2
            have G := hid (G5.out (by trivial))
            clear G0 G1 G5 GS GN
            go_wp2_with (at_builtin; refine wpList_app1 w4 rfl (.tmp 36) (.tmp 38) 72 rfl (M + 1) 3 i0 (.int .i64 0) 1 8 Tryz.underlying72 hi hz0 hz1 hz2 rfl (by decide) _ q _ (by rfl) HO4.out [.int .i64 (k : Int)] 1 3 (by rfl) rfl (one_cell rfl) (by unfold maxLen; omega) (by omega) HS4.out ?_)
            intro v5 w5 ho5 hb5
            obtain ⟨A5, c5, rfl, -, -⟩ := (Sl.of_own ho5).form
            have HO5 := hid (own_base (ints_snoc ho5 HQL.out) (show w.heap.size ≤ M + 1 by omega))
            have HB5 := hid (HB4.out.trans (hb5.mono (show w.heap.size ≤ M + 1 by omega)))
            clear ho5 hb5
            go_wp2_with fail
            go_step3
            exact ⟨rfl, A5, q + 1, c5, out ++ [(k : Int)], _, _, _, _, _, _, _, _, _, _, _, _, _, _, _, _, _, _, _, _, _, _, _, _, _, _, _, _, _, _, _, _, _, _, _, _, _, _, _, _, _, _, _, _, _, _, _, _, _, _, _, _, _, _, _, _, _, _, _, _, _, _, _, rfl, G.out.symm, HO5.out, HB5.out⟩
          · go_wp2_with fail
            refine (C.out _ HBb.out).mono ?_
            rintro e w4 ⟨rfl, hb⟩
            have HB4 := hid (HBb.out.trans (hb.mono HBb.out.size))
            have KW4 := hid (KW.out.to hb)
            have HM4 := hid (HMb.out.below hb)
            have HO4 := hid (own_below HOb.out hb)
            have HS4 := hid (Nat.le_trans HSb.out hb.size)
            clear hb C HBb KW HMb HOb HSb HB HM HO HS c0 c1 c2
            have G := hid (G1.out (by trivial))
            clear G0 G1 G5 GS GN
            go_wp2_with (at_builtin; refine wpList_app1 w4 rfl (.tmp 58) (.tmp 60) 72 rfl (M + 1) 3 i0 (.int .i64 0) 1 8 Tryz.underlying72 hi hz0 hz1 hz2 rfl (by decide) _ q _ (by rfl) HO4.out [.int .i64 (k : Int)] 1 3 (by rfl) rfl (one_cell rfl) (by unfold maxLen; omega) (by omega) HS4.out ?_)
            intro v5 w5 ho5 hb5
            obtain ⟨A5, c5, rfl, -, -⟩ := (Sl.of_own ho5).form
            have HL5 := hid (show (out ++ [(k : Int)]).length = q + 1 by rw [List.length_append, HQL.out]; rfl)
            have HO5 := hid (show w5.ownsRow (M + 1) 3 1 (.slice A5 (q + 1) c5) (q + 1) ((out ++ [(k : Int)]).map vint) by have h9 := ints_snoc ho5 HQL.out; rwa [HL5.out] at h9)
            have HB5 := hid (HB4.out.trans (hb5.mono (show w.heap.size ≤ M + 1 by omega)))
            have HM5 := hid (HM4.out.under hb5 (by omega))
            have HS5 := hid (Nat.le_trans HS4.out hb5.size)
            clear ho5 hb5
            go_wp2_with fail
            go_roundw
            case rel => exact ⟨k + 1, m, q + 1, out ++ [(k : Int)], old, A5, c5, by go_num, rfl, rfl, by omega, by omega, by omega, HL5.out, G.out, HM5.out, HO5.out, HB5.out, HS5.out⟩
            case measure => simp [intOf]; omega
          · have HSAW := hid (sgIn_saw (old := old) (w := ⟨tx.data.toList, md.data.toList, ln⟩) hkind)
            rcases hkind with rfl | rfl | rfl
            · go_wp2_with fail
              refine (C.out _ HBb.out).mono ?_
              rintro e w4 ⟨rfl, hb⟩
              have HB4 := hid (HBb.out.trans (hb.mono HBb.out.size))
              have KW4 := hid (KW.out.to hb)
              have HM4 := hid (HMb.out.below hb)
              have HO4 := hid (own_below HOb.out hb)
              have HS4 := hid (Nat.le_trans HSb.out hb.size)
              clear hb C HBb KW HMb HOb HSb HB HM HO HS c0 c1 c2
              have HF := hid (HFIT.out 2 (.inl rfl))
              have CS := hid (fun (W : World) => sightOf_c 2 ln tx md W (.inl rfl))
              have y0 := (KW4.out.2 0 _ rfl).1
              have y1 := (KW4.out.2 1 _ rfl).1
              have y2 := (KW4.out.2 2 _ rfl).1
              go_wp2_with fail
              refine (CS.out _).mono ?_
              rintro e w5 ⟨rfl, hb⟩
              have HB5 := hid (HB4.out.trans (hb.mono HB4.out.size))
              have KW5 := hid (KW4.out.to hb)
              have HM5 := hid (HM4.out.below hb)
              have HO5 := hid (own_below HO4.out hb)
              have HS5 := hid (Nat.le_trans HS4.out hb.size)
              have hlook := HM5.out.look HF.out
              rw [HSAW.out] at hlook
              clear hb y0 y1 y2 CS HB4 KW4 HM4 HO4 HS4
              cases hsw : sawL old (⟨tx.data.toList, md.data.toList, ln⟩ : Wrn) 2 with
              | true =>
                rw [hsw] at hlook
                have G := hid (GS.out (by first | trivial | simp | exact (.inl rfl)) hsw)
                clear G0 G1 G5 GS GN hsw
                go_wp2_with fail
                go_roundw
                case rel => exact ⟨k + 1, m, q, out, old, A9, c9, by go_num, rfl, rfl, by omega, by omega, by omega, HQL.out, G.out, HM5.out, HO5.out, HB5.out, HS5.out⟩
                case measure => simp [intOf]; omega
              | false =>
                rw [hsw] at hlook
                have G := hid (GN.out (by first | trivial | simp | exact (.inl rfl)) hsw)
                clear G0 G1 G5 GS GN hsw
                have C2 := hid (fun (W : World) => sightOf2_c ln tx md W)
                have C3 := hid (fun (W : World) => sightOf3_c ln tx md W)
                have C4 := hid (fun (W : World) => sightOf4_c ln tx md W)
                have y0 := (KW5.out.2 0 _ rfl).1
                have y1 := (KW5.out.2 1 _ rfl).1
                have y2 := (KW5.out.2 2 _ rfl).1
                have hbx : wr.heap.size < w5.heap.size := KW5.out.1
                go_wp2_with fail
                refine wp_region_held_drew (S := (fun w' : World => w'.cell? ⟨wr.heap.size, 0, none⟩ = some (.string tx) ∧ w'.cell? ⟨wr.heap.size, 1, none⟩ = some (.string md) ∧ w'.cell? ⟨wr.heap.size, 2, none⟩ = some (.int .i64 ln))) (by kernel_rfl) ⟨y0, y1, y2⟩ (fun hS => ?_)
                refine wpAnyH_take (i := 0) (oi := ?oi101) (v := ?v101) ?hi101 (by kernel_rfl) ?hf101 ?hr101 ?hQ101 (Or.inl ⟨?hw101, ?hy101⟩) (by assumption) ?rest101
                case hi101 => simp only [List.getElem?_toArray, List.getElem?_cons_succ, List.getElem?_cons_zero]; rfl
                case hf101 => kernel_rfl
                case hr101 => kernel_rfl
                case hw101 => rfl
                case hy101 => (intro w hSw; (try dsimp only at hSw); go_simp; all_goals (first | done | with_reducible rfl))
                case hQ101 => exact fun _ _ _ h => h
                simp only [Act.put, List.setIfInBounds_toArray, List.set_cons_zero, List.set_cons_succ]
                refine wpAnyH_take (i := 1) (oi := ?oi102) (v := ?v102) ?hi102 (by kernel_rfl) ?hf102 ?hr102 ?hQ102 (Or.inl ⟨?hw102, ?hy102⟩) (by assumption) ?rest102
                case hi102 => simp only [List.getElem?_toArray, List.getElem?_cons_succ, List.getElem?_cons_zero]; rfl
                case hf102 => kernel_rfl
                case hr102 => kernel_rfl
                case hw102 => rfl
                case hy102 => (intro w hSw; (try dsimp only at hSw); go_simp; all_goals (first | done | with_reducible rfl))
                case hQ102 => exact fun _ _ _ h => h
                simp only [Act.put, List.setIfInBounds_toArray, List.set_cons_zero, List.set_cons_succ]
                refine wpAnyH_take (i := 3) (oi := ?oi103) (v := ?v103) ?hi103 (by kernel_rfl) ?hf103 ?hr103 ?hQ103 (Or.inl ⟨?hw103, ?hy103⟩) (by assumption) ?rest103
                case hi103 => simp only [List.getElem?_toArray, List.getElem?_cons_succ, List.getElem?_cons_zero]; rfl
                case hf103 => kernel_rfl
                case hr103 => kernel_rfl
                case hw103 => rfl
                case hy103 => (intro w hSw; (try dsimp only at hSw); go_simp; all_goals (first | done | with_reducible rfl))
                case hQ103 => exact fun _ _ _ h => h
                simp only [Act.put, List.setIfInBounds_toArray, List.set_cons_zero, List.set_cons_succ]
                refine wpAnyH_take (i := 5) (oi := ?oi104) (v := ?v104) ?hi104 (by kernel_rfl) ?hf104 ?hr104 ?hQ104 (Or.inl ⟨?hw104, ?hy104⟩) (by assumption) ?rest104
                case hi104 => simp only [List.getElem?_toArray, List.getElem?_cons_succ, List.getElem?_cons_zero]; rfl
                case hf104 => kernel_rfl
                case hr104 => kernel_rfl
                case hw104 => rfl
                case hy104 => (intro w hSw; (try dsimp only at hSw); go_simp; all_goals (first | done | with_reducible rfl))
                case hQ104 => exact fun _ _ _ h => h
                simp only [Act.put, List.setIfInBounds_toArray, List.set_cons_zero, List.set_cons_succ]
                have HW := hid ((Below.refl w5.heap.size w5).drew)
                have HY := hid (fun (W : World) (hW : Below w5.heap.size w5 W) => And.intro ((KW5.out.to hW).2 0 _ rfl).1 (And.intro ((KW5.out.to hW).2 1 _ rfl).1 ((KW5.out.to hW).2 2 _ rfl).1))
                refine wpAnyH_ready (rs := [2]) (by kernel_rfl) (by simp) ?_
                refine AllReadyH.cons (o := ?oi105) ?hi105 (fun K hK => ?step105) AllReadyH.nil
                case hi105 => simp only [List.getElem?_toArray, List.getElem?_cons_succ, List.getElem?_cons_zero]; rfl
                rw [if_pos (by rfl)]
                go_simp
                go_at_call 81
                refine (C2.out _).mono ?_
                rintro e w6 ⟨rfl, hb⟩
                have HW6 := hid (HW.out.trans hb)
                clear hb
                refine hK.out _ _ (HY.out _ HW6.out) (fun hS9 => ?_)
                refine wpAnyH_ready (rs := [4]) (by kernel_rfl) (by simp) ?_
                refine AllReadyH.cons (o := ?oi106) ?hi106 (fun K hK => ?step106) AllReadyH.nil
                case hi106 => simp only [List.getElem?_toArray, List.getElem?_cons_succ, List.getElem?_cons_zero]; rfl
                rw [if_pos (by rfl)]
                go_simp
                go_at_call 81
                refine (C3.out _).mono ?_
                rintro e w7 ⟨rfl, hb⟩
                have HW7 := hid (HW6.out.trans (hb.mono HW6.out.size))
                clear hb
                refine hK.out _ _ (HY.out _ HW7.out) (fun hS9 => ?_)
                refine wpAnyH_ready (rs := [6]) (by kernel_rfl) (by simp) ?_
                refine AllReadyH.cons (o := ?oi107) ?hi107 (fun K hK => ?step107) AllReadyH.nil
                case hi107 => simp only [List.getElem?_toArray, List.getElem?_cons_succ, List.getElem?_cons_zero]; rfl
                rw [if_pos (by rfl)]
                go_simp
                go_at_call 81
                refine (C4.out _).mono ?_
                rintro e w8 ⟨rfl, hb⟩
                have HW8 := hid (HW7.out.trans (hb.mono HW7.out.size))
                clear hb
                refine hK.out _ _ (HY.out _ HW8.out) (fun hS9 => ?_)
                have HW9 := hid (HW8.out.alloc HW8.out.size (.cells #[.int .i64 2, .string tx, .string ⟨#[]⟩, .int .i64 0, .int .i64 3, .string tx, .string md, .int .i64 0, .int .i64 4, .string tx, .string md, .int .i64 ln] 133))
                have HLIT := hid (sights_lit w8 tx md ln)
                refine wpAnyH_ready (rs := [7]) (by kernel_rfl) (by simp) ?_
                refine AllReadyH.cons (o := ?oi108) ?hi108 (fun K hK => ?step108) AllReadyH.nil
                case hi108 => simp only [List.getElem?_toArray, List.getElem?_cons_succ, List.getElem?_cons_zero]; rfl
                rw [if_pos (by rfl)]
                go_simp
                refine hK.out _ _ (HY.out _ HW9.out) (fun hS9 => ?_)
                have HP := hid (putAll_c ([sgt 2 (⟨tx.data.toList, md.data.toList, ln⟩ : Wrn), sgt 3 (⟨tx.data.toList, md.data.toList, ln⟩ : Wrn), sgt 4 (⟨tx.data.toList, md.data.toList, ln⟩ : Wrn)] : List Sgt) M m 3 w8.heap.size 3 w8.heap.size (sgIn old) _ (HM5.out.below HW9.out) HLIT.out (by have := HW8.out.size; have := HS5.out; omega) (by omega) (by
                  intro s hs
                  simp only [List.mem_cons, List.not_mem_nil, or_false] at hs
                  rcases hs with rfl | rfl | rfl
                  · exact HFIT.out 2 (.inl rfl)
                  · exact HFIT.out 3 (.inr (.inl rfl))
                  · exact HFIT.out 4 (.inr (.inr rfl))))
                refine wpAnyH_ready (rs := [8]) (by kernel_rfl) (by simp) ?_
                refine AllReadyH.cons (o := ?oi109) ?hi109 (fun K hK => ?step109) AllReadyH.nil
                case hi109 => simp only [List.getElem?_toArray, List.getElem?_cons_succ, List.getElem?_cons_zero]; rfl
                rw [if_pos (by rfl)]
                go_simp
                go_at_call 82
                refine HP.out.mono ?_
                rintro e w10 ⟨rfl, hM10, hg10⟩
                have HM6 := hid (hM10.congr (g := sgIn (old ++ [(⟨tx.data.toList, md.data.toList, ln⟩ : Wrn)])) (fun s => by rw [sgIn_snoc]; by_cases h4 : s = sgt 4 (⟨tx.data.toList, md.data.toList, ln⟩ : Wrn) <;> by_cases h3 : s = sgt 3 (⟨tx.data.toList, md.data.toList, ln⟩ : Wrn) <;> by_cases h2 : s = sgt 2 (⟨tx.data.toList, md.data.toList, ln⟩ : Wrn) <;> simp [h4, h3, h2]))
                have hbM : Below M w5 w10 := (HW9.out.mono (show M ≤ w5.heap.size by have := HS5.out; omega)).trans (below_of_grown hg10 (by have := HW9.out.size; have := HS5.out; omega) (fun z hz => by cases hz; exact Nat.le_refl _))
                have HO6 := hid ((own_below HO5.out HW9.out).kept hg10 (by
                  cases hq9 : (Value.slice A9 q c9).ownBlock with
                  | none => exact .inl rfl
                  | some z => right; intro e9; have h8 := own_lt HO5.out z hq9; have h7 : z = M := Option.some.inj e9; omega))
                have HB6 := hid (HB5.out.trans (hbM.mono (by omega)))
                have HS6 := hid (Nat.le_trans HS5.out hbM.size)
                have hY := HY.out _ HW9.out
                have hMne : wr.heap.size ≠ M := by omega
                have hY2 : w10.cell? ⟨wr.heap.size, 0, none⟩ = some (.string tx) ∧ w10.cell? ⟨wr.heap.size, 1, none⟩ = some (.string md) ∧ w10.cell? ⟨wr.heap.size, 2, none⟩ = some (.int .i64 ln) := by
                  have hb9 := hg10.block wr.heap.size (by have := HW9.out.size; omega) (by intro e9; exact hMne (Option.some.inj e9))
                  exact ⟨(World.cell?_of_block hb9).trans hY.1, (World.cell?_of_block hb9).trans hY.2.1, (World.cell?_of_block hb9).trans hY.2.2⟩
                clear hM10 hg10 hbM HP HLIT hY
                refine hK.out _ _ hY2 (fun hS9 => ?_)
                refine wpAnyH_done (by kernel_rfl) ?_ _
                clear hS hY2 y0 y1 y2 HW HW6 HW7 HW8 HW9 HY HM5 HO5 HB5 HS5
                go_wp2_with (at_builtin; refine wpList_app1 w10 rfl (.tmp 58) (.tmp 60) 72 rfl (M + 1) 3 i0 (.int .i64 0) 1 8 Tryz.underlying72 hi hz0 hz1 hz2 rfl (by decide) _ q _ (by rfl) HO6.out [.int .i64 (k : Int)] 1 3 (by rfl) rfl (one_cell rfl) (by unfold maxLen; omega) (by omega) HS6.out ?_)
                intro v5 w5 ho5 hb5
                obtain ⟨A5, c5, rfl, -, -⟩ := (Sl.of_own ho5).form
                have HL5 := hid (show (out ++ [(k : Int)]).length = q + 1 by rw [List.length_append, HQL.out]; rfl)
                have HO5 := hid (show w5.ownsRow (M + 1) 3 1 (.slice A5 (q + 1) c5) (q + 1) ((out ++ [(k : Int)]).map vint) by have h9 := ints_snoc ho5 HQL.out; rwa [HL5.out] at h9)
                have HB5 := hid (HB6.out.trans (hb5.mono (show w.heap.size ≤ M + 1 by omega)))
                have HM5 := hid (HM6.out.under hb5 (by omega))
                have HS5 := hid (Nat.le_trans HS6.out hb5.size)
                clear ho5 hb5
                go_wp2_with fail
                go_roundw
                case rel => exact ⟨k + 1, m + 3, q + 1, out ++ [(k : Int)], old ++ [(⟨tx.data.toList, md.data.toList, ln⟩ : Wrn)], A5, c5, by go_num, rfl, rfl, by omega, by omega, by omega, HL5.out, G.out, HM5.out, HO5.out, HB5.out, HS5.out⟩
                case measure => simp [intOf]; omega
            · go_wp2_with fail
              refine (C.out _ HBb.out).mono ?_
              rintro e w4 ⟨rfl, hb⟩
              have HB4 := hid (HBb.out.trans (hb.mono HBb.out.size))
              have KW4 := hid (KW.out.to hb)
              have HM4 := hid (HMb.out.below hb)
              have HO4 := hid (own_below HOb.out hb)
              have HS4 := hid (Nat.le_trans HSb.out hb.size)
              clear hb C HBb KW HMb HOb HSb HB HM HO HS c0 c1 c2
              have HF := hid (HFIT.out 3 (.inr (.inl rfl)))
              have CS := hid (fun (W : World) => sightOf_c 3 ln tx md W (.inr (.inl rfl)))
              have y0 := (KW4.out.2 0 _ rfl).1
              have y1 := (KW4.out.2 1 _ rfl).1
              have y2 := (KW4.out.2 2 _ rfl).1
              go_wp2_with fail
              refine (CS.out _).mono ?_
              rintro e w5 ⟨rfl, hb⟩
              have HB5 := hid (HB4.out.trans (hb.mono HB4.out.size))
              have KW5 := hid (KW4.out.to hb)
              have HM5 := hid (HM4.out.below hb)
              have HO5 := hid (own_below HO4.out hb)
              have HS5 := hid (Nat.le_trans HS4.out hb.size)
              have hlook := HM5.out.look HF.out
              rw [HSAW.out] at hlook
              clear hb y0 y1 y2 CS HB4 KW4 HM4 HO4 HS4
              cases hsw : sawL old (⟨tx.data.toList, md.data.toList, ln⟩ : Wrn) 3 with
              | true =>
                rw [hsw] at hlook
                have G := hid (GS.out (by first | trivial | simp | exact (.inr (.inl rfl))) hsw)
                clear G0 G1 G5 GS GN hsw
                go_wp2_with fail
                go_roundw
                case rel => exact ⟨k + 1, m, q, out, old, A9, c9, by go_num, rfl, rfl, by omega, by omega, by omega, HQL.out, G.out, HM5.out, HO5.out, HB5.out, HS5.out⟩
                case measure => simp [intOf]; omega
              | false =>
                rw [hsw] at hlook
                have G := hid (GN.out (by first | trivial | simp | exact (.inr (.inl rfl))) hsw)
                clear G0 G1 G5 GS GN hsw
                have C2 := hid (fun (W : World) => sightOf2_c ln tx md W)
                have C3 := hid (fun (W : World) => sightOf3_c ln tx md W)
                have C4 := hid (fun (W : World) => sightOf4_c ln tx md W)
                have y0 := (KW5.out.2 0 _ rfl).1
                have y1 := (KW5.out.2 1 _ rfl).1
                have y2 := (KW5.out.2 2 _ rfl).1
                have hbx : wr.heap.size < w5.heap.size := KW5.out.1
                go_wp2_with fail
                refine wp_region_held_drew (S := (fun w' : World => w'.cell? ⟨wr.heap.size, 0, none⟩ = some (.string tx) ∧ w'.cell? ⟨wr.heap.size, 1, none⟩ = some (.string md) ∧ w'.cell? ⟨wr.heap.size, 2, none⟩ = some (.int .i64 ln))) (by kernel_rfl) ⟨y0, y1, y2⟩ (fun hS => ?_)
                refine wpAnyH_take (i := 0) (oi := ?oi110) (v := ?v110) ?hi110 (by kernel_rfl) ?hf110 ?hr110 ?hQ110 (Or.inl ⟨?hw110, ?hy110⟩) (by assumption) ?rest110
                case hi110 => simp only [List.getElem?_toArray, List.getElem?_cons_succ, List.getElem?_cons_zero]; rfl
                case hf110 => kernel_rfl
                case hr110 => kernel_rfl
                case hw110 => rfl
                case hy110 => (intro w hSw; (try dsimp only at hSw); go_simp; all_goals (first | done | with_reducible rfl))
                case hQ110 => exact fun _ _ _ h => h
                simp only [Act.put, List.setIfInBounds_toArray, List.set_cons_zero, List.set_cons_succ]
                refine wpAnyH_take (i := 1) (oi := ?oi111) (v := ?v111) ?hi111 (by kernel_rfl) ?hf111 ?hr111 ?hQ111 (Or.inl ⟨?hw111, ?hy111⟩) (by assumption) ?rest111
                case hi111 => simp only [List.getElem?_toArray, List.getElem?_cons_succ, List.getElem?_cons_zero]; rfl
                case hf111 => kernel_rfl
                case hr111 => kernel_rfl
                case hw111 => rfl
                case hy111 => (intro w hSw; (try dsimp only at hSw); go_simp; all_goals (first | done | with_reducible rfl))
                case hQ111 => exact fun _ _ _ h => h
                simp only [Act.put, List.setIfInBounds_toArray, List.set_cons_zero, List.set_cons_succ]
                refine wpAnyH_take (i := 3) (oi := ?oi112) (v := ?v112) ?hi112 (by kernel_rfl) ?hf112 ?hr112 ?hQ112 (Or.inl ⟨?hw112, ?hy112⟩) (by assumption) ?rest112
                case hi112 => simp only [List.getElem?_toArray, List.getElem?_cons_succ, List.getElem?_cons_zero]; rfl
                case hf112 => kernel_rfl
                case hr112 => kernel_rfl
                case hw112 => rfl
                case hy112 => (intro w hSw; (try dsimp only at hSw); go_simp; all_goals (first | done | with_reducible rfl))
                case hQ112 => exact fun _ _ _ h => h
                simp only [Act.put, List.setIfInBounds_toArray, List.set_cons_zero, List.set_cons_succ]
                refine wpAnyH_take (i := 5) (oi := ?oi113) (v := ?v113) ?hi113 (by kernel_rfl) ?hf113 ?hr113 ?hQ113 (Or.inl ⟨?hw113, ?hy113⟩) (by assumption) ?rest113
                case hi113 => simp only [List.getElem?_toArray, List.getElem?_cons_succ, List.getElem?_cons_zero]; rfl
                case hf113 => kernel_rfl
                case hr113 => kernel_rfl
                case hw113 => rfl
                case hy113 => (intro w hSw; (try dsimp only at hSw); go_simp; all_goals (first | done | with_reducible rfl))
                case hQ113 => exact fun _ _ _ h => h
                simp only [Act.put, List.setIfInBounds_toArray, List.set_cons_zero, List.set_cons_succ]
                have HW := hid ((Below.refl w5.heap.size w5).drew)
                have HY := hid (fun (W : World) (hW : Below w5.heap.size w5 W) => And.intro ((KW5.out.to hW).2 0 _ rfl).1 (And.intro ((KW5.out.to hW).2 1 _ rfl).1 ((KW5.out.to hW).2 2 _ rfl).1))
                refine wpAnyH_ready (rs := [2]) (by kernel_rfl) (by simp) ?_
                refine AllReadyH.cons (o := ?oi114) ?hi114 (fun K hK => ?step114) AllReadyH.nil
                case hi114 => simp only [List.getElem?_toArray, List.getElem?_cons_succ, List.getElem?_cons_zero]; rfl
                rw [if_pos (by rfl)]
                go_simp
                go_at_call 81
                refine (C2.out _).mono ?_
                rintro e w6 ⟨rfl, hb⟩
                have HW6 := hid (HW.out.trans hb)
                clear hb
                refine hK.out _ _ (HY.out _ HW6.out) (fun hS9 => ?_)
                refine wpAnyH_ready (rs := [4]) (by kernel_rfl) (by simp) ?_
                refine AllReadyH.cons (o := ?oi115) ?hi115 (fun K hK => ?step115) AllReadyH.nil
                case hi115 => simp only [List.getElem?_toArray, List.getElem?_cons_succ, List.getElem?_cons_zero]; rfl
                rw [if_pos (by rfl)]
                go_simp
                go_at_call 81
                refine (C3.out _).mono ?_
                rintro e w7 ⟨rfl, hb⟩
                have HW7 := hid (HW6.out.trans (hb.mono HW6.out.size))
                clear hb
                refine hK.out _ _ (HY.out _ HW7.out) (fun hS9 => ?_)
                refine wpAnyH_ready (rs := [6]) (by kernel_rfl) (by simp) ?_
                refine AllReadyH.cons (o := ?oi116) ?hi116 (fun K hK => ?step116) AllReadyH.nil
                case hi116 => simp only [List.getElem?_toArray, List.getElem?_cons_succ, List.getElem?_cons_zero]; rfl
                rw [if_pos (by rfl)]
                go_simp
                go_at_call 81
                refine (C4.out _).mono ?_
                rintro e w8 ⟨rfl, hb⟩
                have HW8 := hid (HW7.out.trans (hb.mono HW7.out.size))
                clear hb
                refine hK.out _ _ (HY.out _ HW8.out) (fun hS9 => ?_)
                have HW9 := hid (HW8.out.alloc HW8.out.size (.cells #[.int .i64 2, .string tx, .string ⟨#[]⟩, .int .i64 0, .int .i64 3, .string tx, .string md, .int .i64 0, .int .i64 4, .string tx, .string md, .int .i64 ln] 133))
                have HLIT := hid (sights_lit w8 tx md ln)
                refine wpAnyH_ready (rs := [7]) (by kernel_rfl) (by simp) ?_
                refine AllReadyH.cons (o := ?oi117) ?hi117 (fun K hK => ?step117) AllReadyH.nil
                case hi117 => simp only [List.getElem?_toArray, List.getElem?_cons_succ, List.getElem?_cons_zero]; rfl
                rw [if_pos (by rfl)]
                go_simp
                refine hK.out _ _ (HY.out _ HW9.out) (fun hS9 => ?_)
                have HP := hid (putAll_c ([sgt 2 (⟨tx.data.toList, md.data.toList, ln⟩ : Wrn), sgt 3 (⟨tx.data.toList, md.data.toList, ln⟩ : Wrn), sgt 4 (⟨tx.data.toList, md.data.toList, ln⟩ : Wrn)] : List Sgt) M m 3 w8.heap.size 3 w8.heap.size (sgIn old) _ (HM5.out.below HW9.out) HLIT.out (by have := HW8.out.size; have := HS5.out; omega) (by omega) (by
                  intro s hs
                  simp only [List.mem_cons, List.not_mem_nil, or_false] at hs
                  rcases hs with rfl | rfl | rfl
                  · exact HFIT.out 2 (.inl rfl)
                  · exact HFIT.out 3 (.inr (.inl rfl))
                  · exact HFIT.out 4 (.inr (.inr rfl))))
                refine wpAnyH_ready (rs := [8]) (by kernel_rfl) (by simp) ?_
                refine AllReadyH.cons (o := ?oi118) ?hi118 (fun K hK => ?step118) AllReadyH.nil
                case hi118 => simp only [List.getElem?_toArray, List.getElem?_cons_succ, List.getElem?_cons_zero]; rfl
                rw [if_pos (by rfl)]
                go_simp
                go_at_call 82
                refine HP.out.mono ?_
                rintro e w10 ⟨rfl, hM10, hg10⟩
                have HM6 := hid (hM10.congr (g := sgIn (old ++ [(⟨tx.data.toList, md.data.toList, ln⟩ : Wrn)])) (fun s => by rw [sgIn_snoc]; by_cases h4 : s = sgt 4 (⟨tx.data.toList, md.data.toList, ln⟩ : Wrn) <;> by_cases h3 : s = sgt 3 (⟨tx.data.toList, md.data.toList, ln⟩ : Wrn) <;> by_cases h2 : s = sgt 2 (⟨tx.data.toList, md.data.toList, ln⟩ : Wrn) <;> simp [h4, h3, h2]))
                have hbM : Below M w5 w10 := (HW9.out.mono (show M ≤ w5.heap.size by have := HS5.out; omega)).trans (below_of_grown hg10 (by have := HW9.out.size; have := HS5.out; omega) (fun z hz => by cases hz; exact Nat.le_refl _))
                have HO6 := hid ((own_below HO5.out HW9.out).kept hg10 (by
                  cases hq9 : (Value.slice A9 q c9).ownBlock with
                  | none => exact .inl rfl
                  | some z => right; intro e9; have h8 := own_lt HO5.out z hq9; have h7 : z = M := Option.some.inj e9; omega))
                have HB6 := hid (HB5.out.trans (hbM.mono (by omega)))
                have HS6 := hid (Nat.le_trans HS5.out hbM.size)
                have hY := HY.out _ HW9.out
                have hMne : wr.heap.size ≠ M := by omega
                have hY2 : w10.cell? ⟨wr.heap.size, 0, none⟩ = some (.string tx) ∧ w10.cell? ⟨wr.heap.size, 1, none⟩ = some (.string md) ∧ w10.cell? ⟨wr.heap.size, 2, none⟩ = some (.int .i64 ln) := by
                  have hb9 := hg10.block wr.heap.size (by have := HW9.out.size; omega) (by intro e9; exact hMne (Option.some.inj e9))
                  exact ⟨(World.cell?_of_block hb9).trans hY.1, (World.cell?_of_block hb9).trans hY.2.1, (World.cell?_of_block hb9).trans hY.2.2⟩
                clear hM10 hg10 hbM HP HLIT hY
                refine hK.out _ _ hY2 (fun hS9 => ?_)
                refine wpAnyH_done (by kernel_rfl) ?_ _
                clear hS hY2 y0 y1 y2 HW HW6 HW7 HW8 HW9 HY HM5 HO5 HB5 HS5
                go_wp2_with (at_builtin; refine wpList_app1 w10 rfl (.tmp 58) (.tmp 60) 72 rfl (M + 1) 3 i0 (.int .i64 0) 1 8 Tryz.underlying72 hi hz0 hz1 hz2 rfl (by decide) _ q _ (by rfl) HO6.out [.int .i64 (k : Int)] 1 3 (by rfl) rfl (one_cell rfl) (by unfold maxLen; omega) (by omega) HS6.out ?_)
                intro v5 w5 ho5 hb5
                obtain ⟨A5, c5, rfl, -, -⟩ := (Sl.of_own ho5).form
                have HL5 := hid (show (out ++ [(k : Int)]).length = q + 1 by rw [List.length_append, HQL.out]; rfl)
                have HO5 := hid (show w5.ownsRow (M + 1) 3 1 (.slice A5 (q + 1) c5) (q + 1) ((out ++ [(k : Int)]).map vint) by have h9 := ints_snoc ho5 HQL.out; rwa [HL5.out] at h9)
                have HB5 := hid (HB6.out.trans (hb5.mono (show w.heap.size ≤ M + 1 by omega)))
                have HM5 := hid (HM6.out.under hb5 (by omega))
                have HS5 := hid (Nat.le_trans HS6.out hb5.size)
                clear ho5 hb5
                go_wp2_with fail
                go_roundw
                case rel => exact ⟨k + 1, m + 3, q + 1, out ++ [(k : Int)], old ++ [(⟨tx.data.toList, md.data.toList, ln⟩ : Wrn)], A5, c5, by go_num, rfl, rfl, by omega, by omega, by omega, HL5.out, G.out, HM5.out, HO5.out, HB5.out, HS5.out⟩
                case measure => simp [intOf]; omega
            · go_wp2_with fail
              refine (C.out _ HBb.out).mono ?_
              rintro e w4 ⟨rfl, hb⟩
              have HB4 := hid (HBb.out.trans (hb.mono HBb.out.size))
              have KW4 := hid (KW.out.to hb)
              have HM4 := hid (HMb.out.below hb)
              have HO4 := hid (own_below HOb.out hb)
              have HS4 := hid (Nat.le_trans HSb.out hb.size)
              clear hb C HBb KW HMb HOb HSb HB HM HO HS c0 c1 c2
              have HF := hid (HFIT.out 4 (.inr (.inr rfl)))
              have CS := hid (fun (W : World) => sightOf_c 4 ln tx md W (.inr (.inr rfl)))
              have y0 := (KW4.out.2 0 _ rfl).1
              have y1 := (KW4.out.2 1 _ rfl).1
              have y2 := (KW4.out.2 2 _ rfl).1
              go_wp2_with fail
              refine (CS.out _).mono ?_
              rintro e w5 ⟨rfl, hb⟩
              have HB5 := hid (HB4.out.trans (hb.mono HB4.out.size))
              have KW5 := hid (KW4.out.to hb)
              have HM5 := hid (HM4.out.below hb)
              have HO5 := hid (own_below HO4.out hb)
              have HS5 := hid (Nat.le_trans HS4.out hb.size)
              have hlook := HM5.out.look HF.out
              rw [HSAW.out] at hlook
              clear hb y0 y1 y2 CS HB4 KW4 HM4 HO4 HS4
              cases hsw : sawL old (⟨tx.data.toList, md.data.toList, ln⟩ : Wrn) 4 with
              | true =>
                rw [hsw] at hlook
                have G := hid (GS.out (by first | trivial | simp | exact (.inr (.inr rfl))) hsw)
                clear G0 G1 G5 GS GN hsw
                go_wp2_with fail
                go_roundw
                case rel => exact ⟨k + 1, m, q, out, old, A9, c9, by go_num, rfl, rfl, by omega, by omega, by omega, HQL.out, G.out, HM5.out, HO5.out, HB5.out, HS5.out⟩
                case measure => simp [intOf]; omega
              | false =>
                rw [hsw] at hlook
                have G := hid (GN.out (by first | trivial | simp | exact (.inr (.inr rfl))) hsw)
                clear G0 G1 G5 GS GN hsw
                have C2 := hid (fun (W : World) => sightOf2_c ln tx md W)
                have C3 := hid (fun (W : World) => sightOf3_c ln tx md W)
                have C4 := hid (fun (W : World) => sightOf4_c ln tx md W)
                have y0 := (KW5.out.2 0 _ rfl).1
                have y1 := (KW5.out.2 1 _ rfl).1
                have y2 := (KW5.out.2 2 _ rfl).1
                have hbx : wr.heap.size < w5.heap.size := KW5.out.1
                go_wp2_with fail
                refine wp_region_held_drew (S := (fun w' : World => w'.cell? ⟨wr.heap.size, 0, none⟩ = some (.string tx) ∧ w'.cell? ⟨wr.heap.size, 1, none⟩ = some (.string md) ∧ w'.cell? ⟨wr.heap.size, 2, none⟩ = some (.int .i64 ln))) (by kernel_rfl) ⟨y0, y1, y2⟩ (fun hS => ?_)
                refine wpAnyH_take (i := 0) (oi := ?oi119) (v := ?v119) ?hi119 (by kernel_rfl) ?hf119 ?hr119 ?hQ119 (Or.inl ⟨?hw119, ?hy119⟩) (by assumption) ?rest119
                case hi119 => simp only [List.getElem?_toArray, List.getElem?_cons_succ, List.getElem?_cons_zero]; rfl
                case hf119 => kernel_rfl
                case hr119 => kernel_rfl
                case hw119 => rfl
                case hy119 => (intro w hSw; (try dsimp only at hSw); go_simp; all_goals (first | done | with_reducible rfl))
                case hQ119 => exact fun _ _ _ h => h
                simp only [Act.put, List.setIfInBounds_toArray, List.set_cons_zero, List.set_cons_succ]
                refine wpAnyH_take (i := 1) (oi := ?oi120) (v := ?v120) ?hi120 (by kernel_rfl) ?hf120 ?hr120 ?hQ120 (Or.inl ⟨?hw120, ?hy120⟩) (by assumption) ?rest120
                case hi120 => simp only [List.getElem?_toArray, List.getElem?_cons_succ, List.getElem?_cons_zero]; rfl
                case hf120 => kernel_rfl
                case hr120 => kernel_rfl
                case hw120 => rfl
                case hy120 => (intro w hSw; (try dsimp only at hSw); go_simp; all_goals (first | done | with_reducible rfl))
                case hQ120 => exact fun _ _ _ h => h
                simp only [Act.put, List.setIfInBounds_toArray, List.set_cons_zero, List.set_cons_succ]
                refine wpAnyH_take (i := 3) (oi := ?oi121) (v := ?v121) ?hi121 (by kernel_rfl) ?hf121 ?hr121 ?hQ121 (Or.inl ⟨?hw121, ?hy121⟩) (by assumption) ?rest121
                case hi121 => simp only [List.getElem?_toArray, List.getElem?_cons_succ, List.getElem?_cons_zero]; rfl
                case hf121 => kernel_rfl
                case hr121 => kernel_rfl
                case hw121 => rfl
                case hy121 => (intro w hSw; (try dsimp only at hSw); go_simp; all_goals (first | done | with_reducible rfl))
                case hQ121 => exact fun _ _ _ h => h
                simp only [Act.put, List.setIfInBounds_toArray, List.set_cons_zero, List.set_cons_succ]
                refine wpAnyH_take (i := 5) (oi := ?oi122) (v := ?v122) ?hi122 (by kernel_rfl) ?hf122 ?hr122 ?hQ122 (Or.inl ⟨?hw122, ?hy122⟩) (by assumption) ?rest122
                case hi122 => simp only [List.getElem?_toArray, List.getElem?_cons_succ, List.getElem?_cons_zero]; rfl
                case hf122 => kernel_rfl
                case hr122 => kernel_rfl
                case hw122 => rfl
                case hy122 => (intro w hSw; (try dsimp only at hSw); go_simp; all_goals (first | done | with_reducible rfl))
                case hQ122 => exact fun _ _ _ h => h
                simp only [Act.put, List.setIfInBounds_toArray, List.set_cons_zero, List.set_cons_succ]
                have HW := hid ((Below.refl w5.heap.size w5).drew)
                have HY := hid (fun (W : World) (hW : Below w5.heap.size w5 W) => And.intro ((KW5.out.to hW).2 0 _ rfl).1 (And.intro ((KW5.out.to hW).2 1 _ rfl).1 ((KW5.out.to hW).2 2 _ rfl).1))
                refine wpAnyH_ready (rs := [2]) (by kernel_rfl) (by simp) ?_
                refine AllReadyH.cons (o := ?oi123) ?hi123 (fun K hK => ?step123) AllReadyH.nil
                case hi123 => simp only [List.getElem?_toArray, List.getElem?_cons_succ, List.getElem?_cons_zero]; rfl
                rw [if_pos (by rfl)]
                go_simp
                go_at_call 81
                refine (C2.out _).mono ?_
                rintro e w6 ⟨rfl, hb⟩
                have HW6 := hid (HW.out.trans hb)
                clear hb
                refine hK.out _ _ (HY.out _ HW6.out) (fun hS9 => ?_)
                refine wpAnyH_ready (rs := [4]) (by kernel_rfl) (by simp) ?_
                refine AllReadyH.cons (o := ?oi124) ?hi124 (fun K hK => ?step124) AllReadyH.nil
                case hi124 => simp only [List.getElem?_toArray, List.getElem?_cons_succ, List.getElem?_cons_zero]; rfl
                rw [if_pos (by rfl)]
                go_simp
                go_at_call 81
                refine (C3.out _).mono ?_
                rintro e w7 ⟨rfl, hb⟩
                have HW7 := hid (HW6.out.trans (hb.mono HW6.out.size))
                clear hb
                refine hK.out _ _ (HY.out _ HW7.out) (fun hS9 => ?_)
                refine wpAnyH_ready (rs := [6]) (by kernel_rfl) (by simp) ?_
                refine AllReadyH.cons (o := ?oi125) ?hi125 (fun K hK => ?step125) AllReadyH.nil
                case hi125 => simp only [List.getElem?_toArray, List.getElem?_cons_succ, List.getElem?_cons_zero]; rfl
                rw [if_pos (by rfl)]
                go_simp
                go_at_call 81
                refine (C4.out _).mono ?_
                rintro e w8 ⟨rfl, hb⟩
                have HW8 := hid (HW7.out.trans (hb.mono HW7.out.size))
                clear hb
                refine hK.out _ _ (HY.out _ HW8.out) (fun hS9 => ?_)
                have HW9 := hid (HW8.out.alloc HW8.out.size (.cells #[.int .i64 2, .string tx, .string ⟨#[]⟩, .int .i64 0, .int .i64 3, .string tx, .string md, .int .i64 0, .int .i64 4, .string tx, .string md, .int .i64 ln] 133))
                have HLIT := hid (sights_lit w8 tx md ln)
                refine wpAnyH_ready (rs := [7]) (by kernel_rfl) (by simp) ?_
                refine AllReadyH.cons (o := ?oi126) ?hi126 (fun K hK => ?step126) AllReadyH.nil
                case hi126 => simp only [List.getElem?_toArray, List.getElem?_cons_succ, List.getElem?_cons_zero]; rfl
                rw [if_pos (by rfl)]
                go_simp
                refine hK.out _ _ (HY.out _ HW9.out) (fun hS9 => ?_)
                have HP := hid (putAll_c ([sgt 2 (⟨tx.data.toList, md.data.toList, ln⟩ : Wrn), sgt 3 (⟨tx.data.toList, md.data.toList, ln⟩ : Wrn), sgt 4 (⟨tx.data.toList, md.data.toList, ln⟩ : Wrn)] : List Sgt) M m 3 w8.heap.size 3 w8.heap.size (sgIn old) _ (HM5.out.below HW9.out) HLIT.out (by have := HW8.out.size; have := HS5.out; omega) (by omega) (by
                  intro s hs
                  simp only [List.mem_cons, List.not_mem_nil, or_false] at hs
                  rcases hs with rfl | rfl | rfl
                  · exact HFIT.out 2 (.inl rfl)
                  · exact HFIT.out 3 (.inr (.inl rfl))
                  · exact HFIT.out 4 (.inr (.inr rfl))))
                refine wpAnyH_ready (rs := [8]) (by kernel_rfl) (by simp) ?_
                refine AllReadyH.cons (o := ?oi127) ?hi127 (fun K hK => ?step127) AllReadyH.nil
                case hi127 => simp only [List.getElem?_toArray, List.getElem?_cons_succ, List.getElem?_cons_zero]; rfl
                rw [if_pos (by rfl)]
                go_simp
                go_at_call 82
                refine HP.out.mono ?_
                rintro e w10 ⟨rfl, hM10, hg10⟩
                have HM6 := hid (hM10.congr (g := sgIn (old ++ [(⟨tx.data.toList, md.data.toList, ln⟩ : Wrn)])) (fun s => by rw [sgIn_snoc]; by_cases h4 : s = sgt 4 (⟨tx.data.toList, md.data.toList, ln⟩ : Wrn) <;> by_cases h3 : s = sgt 3 (⟨tx.data.toList, md.data.toList, ln⟩ : Wrn) <;> by_cases h2 : s = sgt 2 (⟨tx.data.toList, md.data.toList, ln⟩ : Wrn) <;> simp [h4, h3, h2]))
                have hbM : Below M w5 w10 := (HW9.out.mono (show M ≤ w5.heap.size by have := HS5.out; omega)).trans (below_of_grown hg10 (by have := HW9.out.size; have := HS5.out; omega) (fun z hz => by cases hz; exact Nat.le_refl _))
                have HO6 := hid ((own_below HO5.out HW9.out).kept hg10 (by
                  cases hq9 : (Value.slice A9 q c9).ownBlock with
                  | none => exact .inl rfl
                  | some z => right; intro e9; have h8 := own_lt HO5.out z hq9; have h7 : z = M := Option.some.inj e9; omega))
                have HB6 := hid (HB5.out.trans (hbM.mono (by omega)))
                have HS6 := hid (Nat.le_trans HS5.out hbM.size)
                have hY := HY.out _ HW9.out
                have hMne : wr.heap.size ≠ M := by omega
                have hY2 : w10.cell? ⟨wr.heap.size, 0, none⟩ = some (.string tx) ∧ w10.cell? ⟨wr.heap.size, 1, none⟩ = some (.string md) ∧ w10.cell? ⟨wr.heap.size, 2, none⟩ = some (.int .i64 ln) := by
                  have hb9 := hg10.block wr.heap.size (by have := HW9.out.size; omega) (by intro e9; exact hMne (Option.some.inj e9))
                  exact ⟨(World.cell?_of_block hb9).trans hY.1, (World.cell?_of_block hb9).trans hY.2.1, (World.cell?_of_block hb9).trans hY.2.2⟩
                clear hM10 hg10 hbM HP HLIT hY
                refine hK.out _ _ hY2 (fun hS9 => ?_)
                refine wpAnyH_done (by kernel_rfl) ?_ _
                clear hS hY2 y0 y1 y2 HW HW6 HW7 HW8 HW9 HY HM5 HO5 HB5 HS5
                go_wp2_with (at_builtin; refine wpList_app1 w10 rfl (.tmp 58) (.tmp 60) 72 rfl (M + 1) 3 i0 (.int .i64 0) 1 8 Tryz.underlying72 hi hz0 hz1 hz2 rfl (by decide) _ q _ (by rfl) HO6.out [.int .i64 (k : Int)] 1 3 (by rfl) rfl (one_cell rfl) (by unfold maxLen; omega) (by omega) HS6.out ?_)
                intro v5 w5 ho5 hb5
                obtain ⟨A5, c5, rfl, -, -⟩ := (Sl.of_own ho5).form
                have HL5 := hid (show (out ++ [(k : Int)]).length = q + 1 by rw [List.length_append, HQL.out]; rfl)
                have HO5 := hid (show w5.ownsRow (M + 1) 3 1 (.slice A5 (q + 1) c5) (q + 1) ((out ++ [(k : Int)]).map vint) by have h9 := ints_snoc ho5 HQL.out; rwa [HL5.out] at h9)
                have HB5 := hid (HB6.out.trans (hb5.mono (show w.heap.size ≤ M + 1 by omega)))
                have HM5 := hid (HM6.out.under hb5 (by omega))
                have HS5 := hid (Nat.le_trans HS6.out hb5.size)
                clear ho5 hb5
                go_wp2_with fail
                go_roundw
                case rel => exact ⟨k + 1, m + 3, q + 1, out ++ [(k : Int)], old ++ [(⟨tx.data.toList, md.data.toList, ln⟩ : Wrn)], A5, c5, by go_num, rfl, rfl, by omega, by omega, by omega, HL5.out, G.out, HM5.out, HO5.out, HB5.out, HS5.out⟩
                case measure => simp [intOf]; omega
        · obtain rfl : k = n := by omega
          have G := HG.out
          rw [shG_end (by rw [hnl.out]; exact Nat.le_refl _)] at G
          have HO9 := hid (show wr.ownsRow (M + 1) 3 1 (.slice A9 q c9) out.length (out.map vint) by rw [HQL.out]; exact HO.out)
          go_wp2_with fail
          go_step3
          go_wp2_with fail
          simp only [Exit.jump]
          refine bodyPost_ret (v := .tuple #[.slice A9 q c9, .bool false]) (by simp [results, Tryz.results42, go_sem]) rfl ?_
          rw [← G]
          exact ⟨_, _, rfl, rfl, Rows.one (own_base HO9.out (show w.heap.size ≤ M + 1 by omega)), HB.out⟩
end Go.Proofs.YtlifaeleoiodkaaGreatDoor
