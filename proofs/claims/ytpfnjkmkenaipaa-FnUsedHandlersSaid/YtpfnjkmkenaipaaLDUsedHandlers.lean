/-
  WALK: the law FnUsedHandlers. By gen_t.py.
-/
import Derived.Test.YtpfnjkmkenaipaaE20
import Derived.Test.YtpfnjkmkenaipaaE19
import Derived.Test.YtpfnjkmkenaipaaE13
namespace Go.Proofs.Ytpfnjkmkenaipaa
open Go.RowKit Nm
set_option linter.unusedSimpArgs false
set_option linter.unusedVariables false

set_option maxHeartbeats 8000000 in
set_option maxRecDepth 100000 in
theorem walk_FnUsedHandlers (a0 : Option Addr) (len0 cap0 : Nat) (z0 : List Int) (w : World) (w0 : IsRow .u8 w a0 len0 cap0 z0) :
    Calls Try.prog 5 #[.slice a0 len0 cap0] w (BoolPost w true) := by
  have hb0 := w0.leT
  by_cases h1 : (1048576 : Int) < (len0 : Int)
  · go_enter Try.func5, Try.ntmps5
    go_wp2_with fail
    go_ret
    exact ⟨rfl, Below.refl _ _⟩
  have DR := hid (drawUsedHandlers_c a0 len0 cap0 z0 w w0)
  clear w0
  go_enter Try.func5, Try.ntmps5
  go_wp2_with fail
  refine DR.out.mono ?_
  rintro e w1 ⟨v, rs, L, H, q, rfl, hs, hsm, hr, hb⟩
  obtain ⟨A1, n1, k1, A2, n2, k2, rfl, hn1, hn2⟩ := hs.form_ hr
  have hd := sm_fit hsm (by omega)
  have TI0 := hs.at_ hr hd
  have hbx : Below w1.heap.size w1 (w1.alloc (.cells #[.slice A1 n1 k1, .slice A2 n2 k2, .int .i64 q] 32)) := (Below.refl _ _).alloc (Nat.le_refl _) _
  have TI := hid (TI0.below hbx (Nat.le_refl _))
  have KB := hid (Blk.new w1 #[.slice A1 n1 k1, .slice A2 n2 k2, .int .i64 q] 32)
  have HB := hid (hb.trans (hbx.mono hb.size))
  have hl1 : w1.heap.size < (w1.alloc (.cells #[.slice A1 n1 k1, .slice A2 n2 k2, .int .i64 q] 32)).heap.size := by simp
  have HL := hid (And.intro hn1 (And.intro hsm.1 hsm.2.1.1))
  replace hd := hid hd
  clear hs hr hb hn1 hn2 hsm TI0 hbx DR
  go_wp2_with fail
  generalize hbb : w1.heap.size = bb at *
  generalize w1.alloc (.cells #[.slice A1 n1 k1, .slice A2 n2 k2, .int .i64 q] 32) = w2 at *
  clear hbb
  have d0 := (KB.out.2 0 _ rfl).1
  have d1 := (KB.out.2 1 _ rfl).1
  have d2 := (KB.out.2 2 _ rfl).1
  have HW := hid (Below.refl w2.heap.size w2)
  have TT := hid (fun (W : World) (hW : Below w2.heap.size w2 W) => (And.intro (TI.out.below hW (Nat.le_of_lt hl1)) (Nat.le_trans (Nat.le_of_lt hl1) hW.size)))
  have CI := hid (fun (W : World) (hW : Below w2.heap.size w2 W) => implUsedHandlers_c (TT.out W hW).1 (TT.out W hW).2)
  have CS := hid (fun (W : World) (hW : Below w2.heap.size w2 W) => specUsedHandlers_c (TT.out W hW).1 (TT.out W hW).2)
  have CT := hid (fun (W : World) (hW : Below w2.heap.size w2 W) => implValidTreeX_c (TT.out W hW).1 (TT.out W hW).2)
  have CP := hid (fun (W : World) (hW : Below w2.heap.size w2 W) => implSpotsOf_c ⟨#[97, 46, 98, 46, 99]⟩ (TT.out W hW).1 (TT.out W hW).2 (by unfold maxLen; decide))
  have CU := hid (fun (s : ByteArray) (W : World) (hW : Below w2.heap.size w2 W) => implUsersOf_c s (TT.out W hW).1 (TT.out W hW).2)
  have FM := hid (fun (h : treeOk L H q = true) (k : Nat) (y : Hnd) (hk : H[k]? = some y) => used_mem h hk)
  have FS := hid (fun (h : treeOk L H q = true) (s : Spt) (hs : s ∈ spotsT L H q ((⟨#[97, 46, 98, 46, 99]⟩ : ByteArray).data.toList)) => spots_used h hs)
  have hn6 := HL.out.2.2
  have hQ30 := spotsT_len L H q ((⟨#[97, 46, 98, 46, 99]⟩ : ByteArray).data.toList)
  have hU8 := hid (fun x => usersT_len L H q x)
  have hP6 := usedT_len L H q
  generalize hQ : spotsT L H q ((⟨#[97, 46, 98, 46, 99]⟩ : ByteArray).data.toList) = Q at *
  generalize hP : usedT L H q = P at *
  generalize hok : treeOk L H q = ok at *
  replace hok := hid hok
  clear hP hQ
  go_wp2_with fail
  refine (CI.out _ HW.out).mono ?_
  rintro e w3 ⟨v3, rfl, ho3, hb⟩
  obtain ⟨A3, c3, rfl, hc3, hm3⟩ := (Sl.of_own ho3).form
  have HW3 := hid (HW.out.trans (hb.mono HW.out.size))
  generalize hn3 : P.length = n3 at *
  have O3 := hid ho3
  have HV3 := hid (Below.refl w3.heap.size w3)
  replace hn3 := hid hn3
  clear hb ho3 d0 d1 d2
  obtain ⟨⟨d0, _⟩, ⟨d1, _⟩, ⟨d2, _⟩⟩ := (And.intro ((KB.out.to HW3.out).2 0 _ rfl) (And.intro ((KB.out.to HW3.out).2 1 _ rfl) ((KB.out.to HW3.out).2 2 _ rfl)))
  go_wp2_with fail
  refine (CS.out _ HW3.out).mono ?_
  rintro e w4 ⟨v4, rfl, ho4, hb⟩
  obtain ⟨A4, c4, rfl, hc4, hm4⟩ := (Sl.of_own ho4).form
  have CQ := hid (equalTexts_c _ _ _ _ w4.heap.size P P w4 (((Sl.of_own O3.out).below hb (Nat.le_refl _)).more hb.size) (Sl.of_own ho4) (Nat.le_refl _))
  clear ho4
  clear d0 d1 d2
  have HW4 := hid (HW3.out.trans (hb.mono HW3.out.size))
  have HV4 := hid (HV3.out.trans (hb.mono HV3.out.size))
  clear hb
  obtain ⟨⟨d0, _⟩, ⟨d1, _⟩, ⟨d2, _⟩⟩ := (And.intro ((KB.out.to HW4.out).2 0 _ rfl) (And.intro ((KB.out.to HW4.out).2 1 _ rfl) ((KB.out.to HW4.out).2 2 _ rfl)))
  go_wp2_with fail
  refine CQ.out.mono ?_
  rintro e w5 ⟨rfl, hb⟩
  simp only [decide_true]
  clear d0 d1 d2
  have HW5 := hid (HW4.out.trans (hb.mono HW4.out.size))
  have HV5 := hid (HV4.out.trans (hb.mono HV4.out.size))
  clear hb
  obtain ⟨⟨d0, _⟩, ⟨d1, _⟩, ⟨d2, _⟩⟩ := (And.intro ((KB.out.to HW5.out).2 0 _ rfl) (And.intro ((KB.out.to HW5.out).2 1 _ rfl) ((KB.out.to HW5.out).2 2 _ rfl)))
  go_wp2_with fail
  refine (CT.out _ HW5.out).mono ?_
  rintro e w6 ⟨rfl, hb⟩
  clear d0 d1 d2
  have HW6 := hid (HW5.out.trans (hb.mono HW5.out.size))
  have HV6 := hid (HV5.out.trans (hb.mono HV5.out.size))
  clear hb
  obtain ⟨⟨d0, _⟩, ⟨d1, _⟩, ⟨d2, _⟩⟩ := (And.intro ((KB.out.to HW6.out).2 0 _ rfl) (And.intro ((KB.out.to HW6.out).2 1 _ rfl) ((KB.out.to HW6.out).2 2 _ rfl)))
  cases ok with
  | false =>
    go_wp2_with fail
    refine (CS.out _ HW6.out).mono ?_
    rintro e w7 ⟨v7, rfl, ho7, hb⟩
    obtain ⟨A7, c7, rfl, hc7, hm7⟩ := (Sl.of_own ho7).form
    have CQ7 := hid (equalTexts_c _ _ _ _ w7.heap.size P P w7 ((((Sl.of_own O3.out).below HV6.out (Nat.le_refl _)).more HV6.out.size).below hb (Nat.le_refl _) |>.more hb.size) (Sl.of_own ho7) (Nat.le_refl _))
    clear ho7
    clear d0 d1 d2
    have HW7 := hid (HW6.out.trans (hb.mono HW6.out.size))
    have HV7 := hid (HV6.out.trans (hb.mono HV6.out.size))
    clear hb
    obtain ⟨⟨d0, _⟩, ⟨d1, _⟩, ⟨d2, _⟩⟩ := (And.intro ((KB.out.to HW7.out).2 0 _ rfl) (And.intro ((KB.out.to HW7.out).2 1 _ rfl) ((KB.out.to HW7.out).2 2 _ rfl)))
    go_wp2_with fail
    refine CQ7.out.mono ?_
    rintro e w8 ⟨rfl, hb⟩
    simp only [decide_true]
    clear d0 d1 d2
    have HW8 := hid (HW7.out.trans (hb.mono HW7.out.size))
    have HV8 := hid (HV7.out.trans (hb.mono HV7.out.size))
    clear hb
    obtain ⟨⟨d0, _⟩, ⟨d1, _⟩, ⟨d2, _⟩⟩ := (And.intro ((KB.out.to HW8.out).2 0 _ rfl) (And.intro ((KB.out.to HW8.out).2 1 _ rfl) ((KB.out.to HW8.out).2 2 _ rfl)))
    go_wp2_with fail
    go_ret
    exact ⟨rfl, HB.out.trans (HW8.out.mono HB.out.size)⟩
  | true =>
    replace FM := hid (FM.out (by trivial))
    replace FS := hid (FS.out (by trivial))
    clear d0 d1 d2 CQ
    have d1 := ((KB.out.to HW6.out).2 1 _ rfl).1
    go_wp2_with fail
    go_loopw [5] (fun kv wr => ∃ k : Nat, kv = .int .i64 k ∧ k ≤ n2 ∧ Hid (Below w2.heap.size w2 wr) ∧ Hid (Below w3.heap.size w3 wr)) (fun kv _ => n2 - (intOf kv).toNat)
    case atStart => exact ⟨0, rfl, Nat.zero_le _, HW6.out, HV6.out⟩
    case round =>
      obtain ⟨k, rfl, hk, HWr, HVr⟩ := hrel
      clear d1
      have d1 := ((KB.out.to HWr.out).2 1 _ rfl).1
      by_cases hkn : k < n2
      · have d0 := ((KB.out.to HWr.out).2 0 _ rfl).1
        have d2 := ((KB.out.to HWr.out).2 2 _ rfl).1
        obtain ⟨hs, hh, hH⟩ := (TT.out _ HWr.out).1.handsE
        obtain ⟨b, o, p, y, A5, fn5, k5, rfl, hbB, hy, hp, hps, _, c0, _, _⟩ := handler_at hh hH hkn
        have hcn2 := hh.1.cap
        unfold maxLen at hcn2
        have hF := FM.out k y hy
        rw [← hp] at hF
        have HWd := hid (HWr.out.drew)
        have HVd := hid (HVr.out.drew)
        have C7 := hid (lawHasText_c (.slice A3 n3 c3) n3 wr.drew.heap.size P p wr.drew (((Sl.of_own O3.out).below HVd.out (Nat.le_refl _)).more HVd.out.size))
        have C3 := hid (CU.out p wr.drew HWd.out)
        have hu8 := hU8.out p.data.toList
        have s0 : (0 : Int) ≤ (k : Int) := by omega
        have s1 : (k : Int) < (n2 : Int) := by omega
        have s2 : ((k : Int)).toNat = k := by simp
        clear hy hp hps hh hH
        generalize hcu : usersT L H q p.data.toList = us at *
        clear hcu
        rw [hF] at C7
        clear hF
        go_wp2_with fail
        refine wp_region_held_drew (S := (fun w' : World => (w'.cell? ⟨bb, 0, none⟩ = some (.slice A1 n1 k1) ∧ w'.cell? ⟨bb, 1, none⟩ = some (.slice (some ⟨b, o, none⟩) n2 k2) ∧ w'.cell? ⟨bb, 2, none⟩ = some (.int .i64 q)) ∧ w'.cell? ⟨b, o + k * 3, none⟩ = some (.string p))) (by kernel_rfl) ⟨⟨d0, d1, d2⟩, c0⟩ (fun hS => ?_)
        refine wpAnyH_take (i := 0) (oi := ?oi101) (v := ?v101) ?hi101 (by kernel_rfl) ?hf101 ?hr101 ?hQ101 (Or.inl ⟨?hw101, ?hy101⟩) (by assumption) ?rest101
        case hi101 => simp only [List.getElem?_toArray, List.getElem?_cons_succ, List.getElem?_cons_zero]; rfl
        case hf101 => kernel_rfl
        case hr101 => kernel_rfl
        case hw101 => rfl
        case hy101 => (intro w hSw; (try dsimp only at hSw); go_simp; all_goals (first | done | with_reducible rfl))
        case hQ101 => exact fun _ _ _ h => h
        simp only [Act.put, List.setIfInBounds_toArray, List.set_cons_zero, List.set_cons_succ]
        refine wpAnyH_take (i := 1) (oi := ?oi102) (v := ?v102) ?hi102 (by kernel_rfl) ?hf102 ?hr102 ?hQ102 (Or.inl ⟨?hw102, ?hy102⟩) (by assumption) ?rest102
        case hi102 => simp only [List.getElem?_toArray, List.getElem?_cons_succ, List.getElem?_cons_zero]; rfl
        case hf102 => kernel_rfl
        case hr102 => kernel_rfl
        case hw102 => rfl
        case hy102 => (intro w hSw; (try dsimp only at hSw); go_simp; all_goals (first | done | with_reducible rfl))
        case hQ102 => exact fun _ _ _ h => h
        simp only [Act.put, List.setIfInBounds_toArray, List.set_cons_zero, List.set_cons_succ]
        refine wpAnyH_take (i := 2) (oi := ?oi103) (v := ?v103) ?hi103 (by kernel_rfl) ?hf103 ?hr103 ?hQ103 (Or.inl ⟨?hw103, ?hy103⟩) (by assumption) ?rest103
        case hi103 => simp only [List.getElem?_toArray, List.getElem?_cons_succ, List.getElem?_cons_zero]; rfl
        case hf103 => kernel_rfl
        case hr103 => kernel_rfl
        case hw103 => rfl
        case hy103 => (intro w hSw; (try dsimp only at hSw); go_simp; all_goals (first | done | with_reducible rfl))
        case hQ103 => exact fun _ _ _ h => h
        simp only [Act.put, List.setIfInBounds_toArray, List.set_cons_zero, List.set_cons_succ]
        refine wpAnyH_take (i := 3) (oi := ?oi104) (v := ?v104) ?hi104 (by kernel_rfl) ?hf104 ?hr104 ?hQ104 (Or.inl ⟨?hw104, ?hy104⟩) (by assumption) ?rest104
        case hi104 => simp only [List.getElem?_toArray, List.getElem?_cons_succ, List.getElem?_cons_zero]; rfl
        case hf104 => kernel_rfl
        case hr104 => kernel_rfl
        case hw104 => rfl
        case hy104 => (intro w hSw; (try dsimp only at hSw); go_simp; all_goals (first | done | with_reducible rfl))
        case hQ104 => exact fun _ _ _ h => h
        simp only [Act.put, List.setIfInBounds_toArray, List.set_cons_zero, List.set_cons_succ]
        refine wpAnyH_take (i := 4) (oi := ?oi105) (v := ?v105) ?hi105 (by kernel_rfl) ?hf105 ?hr105 ?hQ105 (Or.inl ⟨?hw105, ?hy105⟩) (by assumption) ?rest105
        case hi105 => simp only [List.getElem?_toArray, List.getElem?_cons_succ, List.getElem?_cons_zero]; rfl
        case hf105 => kernel_rfl
        case hr105 => kernel_rfl
        case hw105 => rfl
        case hy105 => (intro w hSw; (try dsimp only at hSw); go_simp; all_goals (first | done | with_reducible rfl))
        case hQ105 => exact fun _ _ _ h => h
        simp only [Act.put, List.setIfInBounds_toArray, List.set_cons_zero, List.set_cons_succ]
        refine wpAnyH_take (i := 5) (oi := ?oi106) (v := ?v106) ?hi106 (by kernel_rfl) ?hf106 ?hr106 ?hQ106 (Or.inl ⟨?hw106, ?hy106⟩) (by assumption) ?rest106
        case hi106 => simp only [List.getElem?_toArray, List.getElem?_cons_succ, List.getElem?_cons_zero]; rfl
        case hf106 => kernel_rfl
        case hr106 => kernel_rfl
        case hw106 => rfl
        case hy106 => (intro w hSw; (try dsimp only at hSw); go_simp; all_goals (first | done | with_reducible rfl))
        case hQ106 => exact fun _ _ _ h => h
        simp only [Act.put, List.setIfInBounds_toArray, List.set_cons_zero, List.set_cons_succ]
        refine wpAnyH_take (i := 6) (oi := ?oi107) (v := ?v107) ?hi107 (by kernel_rfl) ?hf107 ?hr107 ?hQ107 (Or.inl ⟨?hw107, ?hy107⟩) (by assumption) ?rest107
        case hi107 => simp only [List.getElem?_toArray, List.getElem?_cons_succ, List.getElem?_cons_zero]; rfl
        case hf107 => kernel_rfl
        case hr107 => kernel_rfl
        case hw107 => rfl
        case hy107 => (intro w hSw; (try dsimp only at hSw); go_simp; all_goals (first | done | with_reducible rfl))
        case hQ107 => exact fun _ _ _ h => h
        simp only [Act.put, List.setIfInBounds_toArray, List.set_cons_zero, List.set_cons_succ]
        refine wpAnyH_take (i := 8) (oi := ?oi108) (v := ?v108) ?hi108 (by kernel_rfl) ?hf108 ?hr108 ?hQ108 (Or.inl ⟨?hw108, ?hy108⟩) (by assumption) ?rest108
        case hi108 => simp only [List.getElem?_toArray, List.getElem?_cons_succ, List.getElem?_cons_zero]; rfl
        case hf108 => kernel_rfl
        case hr108 => kernel_rfl
        case hw108 => rfl
        case hy108 => (intro w hSw; (try dsimp only at hSw); go_simp; all_goals (first | done | with_reducible rfl))
        case hQ108 => exact fun _ _ _ h => h
        simp only [Act.put, List.setIfInBounds_toArray, List.set_cons_zero, List.set_cons_succ]
        refine wpAnyH_take (i := 9) (oi := ?oi109) (v := ?v109) ?hi109 (by kernel_rfl) ?hf109 ?hr109 ?hQ109 (Or.inl ⟨?hw109, ?hy109⟩) (by assumption) ?rest109
        case hi109 => simp only [List.getElem?_toArray, List.getElem?_cons_succ, List.getElem?_cons_zero]; rfl
        case hf109 => kernel_rfl
        case hr109 => kernel_rfl
        case hw109 => rfl
        case hy109 => (intro w hSw; (try dsimp only at hSw); go_simp; all_goals (first | done | with_reducible rfl))
        case hQ109 => exact fun _ _ _ h => h
        simp only [Act.put, List.setIfInBounds_toArray, List.set_cons_zero, List.set_cons_succ]
        refine wpAnyH_take (i := 10) (oi := ?oi110) (v := ?v110) ?hi110 (by kernel_rfl) ?hf110 ?hr110 ?hQ110 (Or.inl ⟨?hw110, ?hy110⟩) (by assumption) ?rest110
        case hi110 => simp only [List.getElem?_toArray, List.getElem?_cons_succ, List.getElem?_cons_zero]; rfl
        case hf110 => kernel_rfl
        case hr110 => kernel_rfl
        case hw110 => rfl
        case hy110 => (intro w hSw; (try dsimp only at hSw); go_simp; all_goals (first | done | with_reducible rfl))
        case hQ110 => exact fun _ _ _ h => h
        simp only [Act.put, List.setIfInBounds_toArray, List.set_cons_zero, List.set_cons_succ]
        refine wpAnyH_take (i := 11) (oi := ?oi111) (v := ?v111) ?hi111 (by kernel_rfl) ?hf111 ?hr111 ?hQ111 (Or.inl ⟨?hw111, ?hy111⟩) (by assumption) ?rest111
        case hi111 => simp only [List.getElem?_toArray, List.getElem?_cons_succ, List.getElem?_cons_zero]; rfl
        case hf111 => kernel_rfl
        case hr111 => kernel_rfl
        case hw111 => rfl
        case hy111 => (intro w hSw; (try dsimp only at hSw); go_simp; all_goals (first | done | with_reducible rfl))
        case hQ111 => exact fun _ _ _ h => h
        simp only [Act.put, List.setIfInBounds_toArray, List.set_cons_zero, List.set_cons_succ]
        refine wpAnyH_take (i := 12) (oi := ?oi112) (v := ?v112) ?hi112 (by kernel_rfl) ?hf112 ?hr112 ?hQ112 (Or.inl ⟨?hw112, ?hy112⟩) (by assumption) ?rest112
        case hi112 => simp only [List.getElem?_toArray, List.getElem?_cons_succ, List.getElem?_cons_zero]; rfl
        case hf112 => kernel_rfl
        case hr112 => kernel_rfl
        case hw112 => rfl
        case hy112 => (intro w hSw; (try dsimp only at hSw); go_simp; all_goals (first | done | with_reducible rfl))
        case hQ112 => exact fun _ _ _ h => h
        simp only [Act.put, List.setIfInBounds_toArray, List.set_cons_zero, List.set_cons_succ]
        refine wpAnyH_take (i := 13) (oi := ?oi113) (v := ?v113) ?hi113 (by kernel_rfl) ?hf113 ?hr113 ?hQ113 (Or.inl ⟨?hw113, ?hy113⟩) (by assumption) ?rest113
        case hi113 => simp only [List.getElem?_toArray, List.getElem?_cons_succ, List.getElem?_cons_zero]; rfl
        case hf113 => kernel_rfl
        case hr113 => kernel_rfl
        case hw113 => rfl
        case hy113 => (intro w hSw; (try dsimp only at hSw); go_simp; all_goals (first | done | with_reducible rfl))
        case hQ113 => exact fun _ _ _ h => h
        simp only [Act.put, List.setIfInBounds_toArray, List.set_cons_zero, List.set_cons_succ]
        refine wpAnyH_take (i := 14) (oi := ?oi114) (v := ?v114) ?hi114 (by kernel_rfl) ?hf114 ?hr114 ?hQ114 (Or.inl ⟨?hw114, ?hy114⟩) (by assumption) ?rest114
        case hi114 => simp only [List.getElem?_toArray, List.getElem?_cons_succ, List.getElem?_cons_zero]; rfl
        case hf114 => kernel_rfl
        case hr114 => kernel_rfl
        case hw114 => rfl
        case hy114 => (intro w hSw; (try dsimp only at hSw); go_simp; all_goals (first | done | with_reducible rfl))
        case hQ114 => exact fun _ _ _ h => h
        simp only [Act.put, List.setIfInBounds_toArray, List.set_cons_zero, List.set_cons_succ]
        refine wpAnyH_ready (rs := [7]) (by kernel_rfl) (by simp) ?_
        refine AllReadyH.cons (o := ?oi115) ?hi115 (fun K hK => ?step115) AllReadyH.nil
        case hi115 => simp only [List.getElem?_toArray, List.getElem?_cons_succ, List.getElem?_cons_zero]; rfl
        rw [if_pos (by rfl)]
        go_simp
        go_at_call 29
        refine (C7.out).mono ?_
        rintro e w27 ⟨rfl, rfl⟩
        refine hK.out _ _ ⟨⟨d0, d1, d2⟩, c0⟩ (fun hS => ?_)
        refine wpAnyH_ready (rs := [15]) (by kernel_rfl) (by simp) ?_
        refine AllReadyH.cons (o := ?oi116) ?hi116 (fun K hK => ?step116) AllReadyH.nil
        case hi116 => simp only [List.getElem?_toArray, List.getElem?_cons_succ, List.getElem?_cons_zero]; rfl
        rw [if_pos (by rfl)]
        go_simp
        go_at_call 30
        refine (C3.out).mono ?_
        rintro e w28 ⟨v28, rfl, ho28, hb⟩
        obtain ⟨A28, c28, rfl, hc28, hm28⟩ := (Sl.of_own ho28).form
        have HW28 := hid (HWd.out.trans (hb.mono HWd.out.size))
        have HV28 := hid (HVd.out.trans (hb.mono HVd.out.size))
        have s7 : w28.cell? ⟨bb, 0, none⟩ = some (.slice A1 n1 k1) ∧ w28.cell? ⟨bb, 1, none⟩ = some (.slice (some ⟨b, o, none⟩) n2 k2) ∧ w28.cell? ⟨bb, 2, none⟩ = some (.int .i64 q) := ⟨((KB.out.to HW28.out).2 0 _ rfl).1, ((KB.out.to HW28.out).2 1 _ rfl).1, ((KB.out.to HW28.out).2 2 _ rfl).1⟩
        have c7 : w28.cell? ⟨b, o + k * 3, none⟩ = some (.string p) := (hb.cell (p := ⟨b, o + k * 3, none⟩) (World.block_lt_of_cell? _ _ c0)).trans c0
        clear hb ho28
        generalize us.length = un at *
        refine hK.out _ _ ⟨s7, c7⟩ (fun hS => ?_)
        generalize qi : decide (0 < un) = bq at *
        have b0 : (bq != bq) = false := by simp
        have b1 : (bq == bq) = true := by simp
        refine wpAnyH_take (i := 16) (oi := ?oi117) (v := ?v117) ?hi117 (by kernel_rfl) ?hf117 ?hr117 ?hQ117 (Or.inl ⟨?hw117, ?hy117⟩) (by assumption) ?rest117
        case hi117 => simp only [List.getElem?_toArray, List.getElem?_cons_succ, List.getElem?_cons_zero]; rfl
        case hf117 => kernel_rfl
        case hr117 => kernel_rfl
        case hw117 => rfl
        case hy117 => (intro w hSw; (try dsimp only at hSw); go_simp; all_goals (first | done | with_reducible rfl))
        case hQ117 => exact fun _ _ _ h => h
        simp only [Act.put, List.setIfInBounds_toArray, List.set_cons_zero, List.set_cons_succ]
        refine wpAnyH_take (i := 17) (oi := ?oi118) (v := ?v118) ?hi118 (by kernel_rfl) ?hf118 ?hr118 ?hQ118 (Or.inl ⟨?hw118, ?hy118⟩) (by assumption) ?rest118
        case hi118 => simp only [List.getElem?_toArray, List.getElem?_cons_succ, List.getElem?_cons_zero]; rfl
        case hf118 => kernel_rfl
        case hr118 => kernel_rfl
        case hw118 => rfl
        case hy118 => (intro w hSw; (try dsimp only at hSw); go_simp; all_goals (first | done | with_reducible rfl))
        case hQ118 => exact fun _ _ _ h => h
        simp only [Act.put, List.setIfInBounds_toArray, List.set_cons_zero, List.set_cons_succ]
        refine wpAnyH_take (i := 18) (oi := ?oi119) (v := ?v119) ?hi119 (by kernel_rfl) ?hf119 ?hr119 ?hQ119 (Or.inl ⟨?hw119, ?hy119⟩) (by assumption) ?rest119
        case hi119 => simp only [List.getElem?_toArray, List.getElem?_cons_succ, List.getElem?_cons_zero]; rfl
        case hf119 => kernel_rfl
        case hr119 => kernel_rfl
        case hw119 => rfl
        case hy119 => (intro w hSw; (try dsimp only at hSw); go_simp; all_goals (first | done | with_reducible rfl))
        case hQ119 => exact fun _ _ _ h => h
        simp only [Act.put, List.setIfInBounds_toArray, List.set_cons_zero, List.set_cons_succ]
        refine wpAnyH_done (by kernel_rfl) ?_ _
        clear d0 d1 d2 c0 c7 s7
        go_wp2_with fail
        go_roundw
        case rel => exact ⟨k + 1, by go_num, by omega, HW28.out, HV28.out⟩
        case measure => simp [intOf]; omega
      · have d0 := ((KB.out.to HWr.out).2 0 _ rfl).1
        have d2 := ((KB.out.to HWr.out).2 2 _ rfl).1
        go_wp2_with fail
        refine (CP.out _ HWr.out).mono ?_
        rintro e w8 ⟨v8, rfl, ho8, hb⟩
        obtain ⟨A8, c8, rfl, hc8, hm8⟩ := (Sl.of_own ho8).form
        have HW8 := hid (HWr.out.trans (hb.mono HWr.out.size))
        have HV8 := hid (HVr.out.trans (hb.mono HVr.out.size))
        have O8 := hid (Sl.of_own ho8)
        unfold maxLen at hm8
        generalize hn8 : Q.length = n8 at *
        replace hn8 := hid hn8
        clear hb ho8 d0 d1 d2
        go_wp2_with fail
        go_loopw [7] (fun jv wr => ∃ j : Nat, jv = .int .i64 j ∧ j ≤ n8 ∧ wr = w8) (fun jv _ => n8 - (intOf jv).toNat)
        case atStart => exact ⟨0, rfl, Nat.zero_le _, rfl⟩
        case round =>
          obtain ⟨j, rfl, hj, rfl⟩ := hrel
          by_cases hjn : j < n8
          · obtain ⟨b, o, lg, hd', rfl, hbB, hx, _, c1⟩ := spcells_at O8.out hjn
            have hF := FS.out _ (List.mem_of_getElem? hx)
            have C9 := hid (lawHasText_c (.slice A3 n3 c3) n3 wr.heap.size P hd' wr (((Sl.of_own O3.out).below HV8.out (Nat.le_refl _)).more HV8.out.size))
            rw [decide_eq_true (show hd'.data.toList ∈ P from hF)] at C9
            clear hx hF
            go_wp2_with fail
            refine (C9.out).mono ?_
            rintro e w29 ⟨rfl, rfl⟩
            go_wp2_with fail
            go_roundw
            case rel => exact ⟨j + 1, by go_num, by omega, (by trivial)⟩
            case measure => simp [intOf]; omega
          · go_wp2_with fail
            go_ret
            exact ⟨rfl, HB.out.trans (HW8.out.mono HB.out.size)⟩
end Go.Proofs.Ytpfnjkmkenaipaa
