/-
  WALK: the law FnRuleOf. By gen_ruleof.py.
-/
import Derived.Test.YthggedmgjehfiaaDoorE29
namespace Go.Proofs.YthggedmgjehfiaaDoor
open Go.RowKit Go.Proofs.YthggedmgjehfiaaDoor.Nm
set_option linter.unusedSimpArgs false
set_option linter.unusedVariables false
set_option maxHeartbeats 8000000 in
set_option maxRecDepth 100000 in
theorem walk_FnRuleOf (a0 : Option Addr) (len0 cap0 : Nat) (z0 : List Int) (w : World) (w0 : IsRow .u8 w a0 len0 cap0 z0) :
    Calls Tryd.prog 3 #[.slice a0 len0 cap0] w (BoolPost w true) := by
  have hb0 := w0.leW
  by_cases h1 : (1048576 : Int) < (len0 : Int)
  · go_enter Tryd.func3, Tryd.ntmps3
    go_wp2_with fail
    go_ret
    exact ⟨rfl, Below.refl _ _⟩
  have DR := hid (drawRuleOf_c a0 len0 cap0 z0 w w0)
  clear w0
  go_enter Tryd.func3, Tryd.ntmps3
  go_wp2_with fail
  refine DR.out.mono ?_
  rintro e w1 ⟨A, n, c, l, tx, md, ln, rfl, hln, hn6, hrf, hof, ⟨htx, hmd⟩, hb⟩
  have hcap := (Sl.of_own hof).form
  obtain ⟨A', c', he', hcc, hcm⟩ := hcap
  injection he' with e1 e2 e3
  subst e1 e3
  clear e2
  unfold maxLen at hcm
  have hbx : Below w1.heap.size w1 (w1.alloc (.cells #[.string tx, .string md, .int .i64 ln] 25)) := (Below.refl _ _).alloc (Nat.le_refl _) _
  have FI := hid (show Ruls (w1.alloc (.cells #[.string tx, .string md, .int .i64 ln] 25)) w1.heap.size n (.slice A n c) l from ⟨(Sl.of_own hof).below hbx (Nat.le_refl _), fun f hf => by have := hrf f hf; unfold rucellsFit maxTxt; omega⟩)
  have KR := hid (Blk.new w1 #[.string tx, .string md, .int .i64 ln] 25)
  have HB := hid (hb.trans (hbx.mono hb.size))
  have hl1 : w1.heap.size < (w1.alloc (.cells #[.string tx, .string md, .int .i64 ln] 25)).heap.size := by simp
  replace hln := hid hln
  clear hb hbx DR hof hrf
  go_wp2_with fail
  generalize hrb : w1.heap.size = rb at *
  generalize w1.alloc (.cells #[.string tx, .string md, .int .i64 ln] 25) = w2 at *
  clear hrb
  have HW := hid (Below.refl w2.heap.size w2)
  have FF := hid (fun (W : World) (hW : Below w2.heap.size w2 W) => (show Ruls W rb n (.slice A n c) l ∧ rb ≤ W.heap.size from ⟨FI.out.below hW (Nat.le_of_lt hl1), Nat.le_trans (Nat.le_of_lt hl1) hW.size⟩))
  have hz1 : tx.size ≤ maxTxt := by unfold maxTxt; omega
  have hz2 : md.size ≤ maxTxt := by unfold maxTxt; omega
  have CI := hid (fun (W : World) (hW : Below w2.heap.size w2 W) => implRuleOf_c (.slice A n c) n rb l tx md ln W (FF.out W hW).1 (FF.out W hW).2 hz1 hz2)
  have CS := hid (fun (W : World) (hW : Below w2.heap.size w2 W) => specRuleOf_c (.slice A n c) n rb l tx md ln W (FF.out W hW).1 (FF.out W hW).2 hz1 hz2)
  have CT := hid (fun (W : World) (hW : Below w2.heap.size w2 W) => implValidRules_c (.slice A n c) n rb l W (FF.out W hW).1 (FF.out W hW).2)
  have CV := hid (fun (W : World) => wrnLitI_c W tx md ln hz1 hz2)
  have CJ := hid (fun (n : Nat) (A : Option Addr) (c : Nat) (m : List Rul) (W : World) (hW : Below w2.heap.size w2 W) (h : Ruls W rb n (.slice A n c) m) => implRuleOf_c (.slice A n c) n rb m tx md ln W h (FF.out W hW).2 hz1 hz2)
  have F1 := hid (fun (h : rulsOk l = true) (hw : wrnOk ⟨tx.data.toList, md.data.toList, ln⟩ = true) (k : Nat) (x : Rul) (hx : l[k]? = some x) => (show ruleX [x] ⟨tx.data.toList, md.data.toList, ln⟩ = (if fallsB ⟨tx.data.toList, md.data.toList, ln⟩ x then 0 else -1) ∧ (fallsB ⟨tx.data.toList, md.data.toList, ln⟩ x = true → 0 ≤ ruleX l ⟨tx.data.toList, md.data.toList, ln⟩ ∧ ruleX l ⟨tx.data.toList, md.data.toList, ln⟩ ≤ (k : Int)) ∧ (fallsB ⟨tx.data.toList, md.data.toList, ln⟩ x = false → ruleX l ⟨tx.data.toList, md.data.toList, ln⟩ ≠ (k : Int)) from by
    have e : ruleX l ⟨tx.data.toList, md.data.toList, ln⟩ = ruleIx l ⟨tx.data.toList, md.data.toList, ln⟩ := by unfold ruleX; rw [h, hw]; rfl
    rw [e]; exact ⟨ruleX_one h hw hx, ruleIx_at hx⟩))
  have F2 := hid (fun (h : rulsOk l = true) (hw : wrnOk ⟨tx.data.toList, md.data.toList, ln⟩ = true) => (show ruleX l ⟨tx.data.toList, md.data.toList, ln⟩ < 0 ∨ ∃ k : Nat, ruleX l ⟨tx.data.toList, md.data.toList, ln⟩ = (k : Int) ∧ k < l.length ∧ ruleX (l.take (k + 1)) ⟨tx.data.toList, md.data.toList, ln⟩ = (k : Int) from by
    have e : ruleX l ⟨tx.data.toList, md.data.toList, ln⟩ = ruleIx l ⟨tx.data.toList, md.data.toList, ln⟩ := by unfold ruleX; rw [h, hw]; rfl
    rw [e]
    rcases ruleIx_end l ⟨tx.data.toList, md.data.toList, ln⟩ with h9 | ⟨k, h1, h2, h3⟩
    · exact .inl h9
    · exact .inr ⟨k, h1, h2, by rw [ruleX_take h hw]; exact h3⟩))
  generalize ruleX l ⟨tx.data.toList, md.data.toList, ln⟩ = z at *
  generalize hok : rulsOk l = ok at *
  generalize hrok : wrnOk ⟨tx.data.toList, md.data.toList, ln⟩ = rok at *
  replace hok := hid hok
  replace hrok := hid hrok
  have b0 : (z != z) = false := by simp
  have b1 : (z == z) = true := by simp
  obtain ⟨⟨r0, _⟩, ⟨r1, _⟩, ⟨r2, _⟩⟩ := (And.intro ((KR.out.to HW.out).2 0 _ rfl) (And.intro ((KR.out.to HW.out).2 1 _ rfl) ((KR.out.to HW.out).2 2 _ rfl)))
  go_wp2_with fail
  refine (CI.out _ HW.out).mono ?_
  rintro e w3 ⟨rfl, hb⟩
  replace HW := hid (HW.out.trans (hb.mono HW.out.size))
  clear hb r0 r1 r2
  obtain ⟨⟨r0, _⟩, ⟨r1, _⟩, ⟨r2, _⟩⟩ := (And.intro ((KR.out.to HW.out).2 0 _ rfl) (And.intro ((KR.out.to HW.out).2 1 _ rfl) ((KR.out.to HW.out).2 2 _ rfl)))
  go_wp2_with fail
  refine (CS.out _ HW.out).mono ?_
  rintro e w4 ⟨rfl, hb⟩
  replace HW := hid (HW.out.trans (hb.mono HW.out.size))
  clear hb r0 r1 r2
  obtain ⟨⟨r0, _⟩, ⟨r1, _⟩, ⟨r2, _⟩⟩ := (And.intro ((KR.out.to HW.out).2 0 _ rfl) (And.intro ((KR.out.to HW.out).2 1 _ rfl) ((KR.out.to HW.out).2 2 _ rfl)))
  go_wp2_with fail
  refine (CT.out _ HW.out).mono ?_
  rintro e w5 ⟨rfl, hb⟩
  replace HW := hid (HW.out.trans (hb.mono HW.out.size))
  clear hb r0 r1 r2
  obtain ⟨⟨r0, _⟩, ⟨r1, _⟩, ⟨r2, _⟩⟩ := (And.intro ((KR.out.to HW.out).2 0 _ rfl) (And.intro ((KR.out.to HW.out).2 1 _ rfl) ((KR.out.to HW.out).2 2 _ rfl)))
  cases ok with
  | false =>
    go_wp2_with fail
    refine (CS.out _ HW.out).mono ?_
    rintro e w6 ⟨rfl, hb⟩
    replace HW := hid (HW.out.trans (hb.mono HW.out.size))
    clear hb r0 r1 r2
    obtain ⟨⟨r0, _⟩, ⟨r1, _⟩, ⟨r2, _⟩⟩ := (And.intro ((KR.out.to HW.out).2 0 _ rfl) (And.intro ((KR.out.to HW.out).2 1 _ rfl) ((KR.out.to HW.out).2 2 _ rfl)))
    go_wp2_with fail
    go_ret
    exact ⟨rfl, HB.out.trans (HW.out.mono HB.out.size)⟩
  | true =>
    go_wp2_with fail
    refine (CV.out _).mono ?_
    rintro e w6 ⟨rfl, hb9⟩
    have hb := (show Below w5.heap.size w5 w6 from ((Below.refl _ _).alloc (Nat.le_refl _) _).trans (hb9.mono (by simp)))
    clear hb9
    replace HW := hid (HW.out.trans (hb.mono HW.out.size))
    clear hb r0 r1 r2
    obtain ⟨⟨r0, _⟩, ⟨r1, _⟩, ⟨r2, _⟩⟩ := (And.intro ((KR.out.to HW.out).2 0 _ rfl) (And.intro ((KR.out.to HW.out).2 1 _ rfl) ((KR.out.to HW.out).2 2 _ rfl)))
    cases rok with
    | false =>
      go_wp2_with fail
      refine (CS.out _ HW.out).mono ?_
      rintro e w7 ⟨rfl, hb⟩
      replace HW := hid (HW.out.trans (hb.mono HW.out.size))
      clear hb r0 r1 r2
      obtain ⟨⟨r0, _⟩, ⟨r1, _⟩, ⟨r2, _⟩⟩ := (And.intro ((KR.out.to HW.out).2 0 _ rfl) (And.intro ((KR.out.to HW.out).2 1 _ rfl) ((KR.out.to HW.out).2 2 _ rfl)))
      go_wp2_with fail
      go_ret
      exact ⟨rfl, HB.out.trans (HW.out.mono HB.out.size)⟩
    | true =>
      replace F1 := hid (F1.out (by trivial) (by trivial))
      replace F2 := hid (F2.out (by trivial) (by trivial))
      clear CI CS CT CV
      go_wp2_with fail
      go_loopw [6] (fun kv wr => ∃ k : Nat, kv = .int .i64 k ∧ k ≤ n ∧ Hid (Below w2.heap.size w2 wr)) (fun kv _ => n - (intOf kv).toNat)
      case atStart => exact ⟨0, rfl, Nat.zero_le _, HW.out⟩
      case round =>
        obtain ⟨k, rfl, hk, HWr⟩ := hrel
        clear r0 r1 r2
        obtain ⟨⟨r0, _⟩, ⟨r1, _⟩, ⟨r2, _⟩⟩ := (And.intro ((KR.out.to HWr.out).2 0 _ rfl) (And.intro ((KR.out.to HWr.out).2 1 _ rfl) ((KR.out.to HWr.out).2 2 _ rfl)))
        have SF := hid (fun (W : World) (hW : Below wr.heap.size wr W) => (show W.cell? ⟨rb, 0, none⟩ = some (.string tx) ∧ W.cell? ⟨rb, 1, none⟩ = some (.string md) ∧ W.cell? ⟨rb, 2, none⟩ = some (.int .i64 ln) from ⟨((KR.out.to (HWr.out.trans (hW.mono HWr.out.size))).2 0 _ rfl).1, ((KR.out.to (HWr.out.trans (hW.mono HWr.out.size))).2 1 _ rfl).1, ((KR.out.to (HWr.out.trans (hW.mono HWr.out.size))).2 2 _ rfl).1⟩))
        have HNd := hid ((Below.refl wr.heap.size wr).drew)
        by_cases hkn : k < n
        · obtain ⟨b, o, ac, wd, rm, rl, rfl, hbB, hx, c0, c1, c2, c3⟩ := rucells_at (FF.out _ HWr.out).1.1 hkn
          obtain ⟨g1, g2, g3⟩ := F1.out k _ hx
          have HT := hid (fun (W : World) (hW : Below wr.heap.size wr W) => CJ.out 1 (some ⟨b, o + k * 4, none⟩) (c - k) _ W (HWr.out.trans (hW.mono HWr.out.size)) ((FF.out W (HWr.out.trans (hW.mono HWr.out.size))).1.oneR hkn hx))
          rw [g1] at HT
          have u0 : IntKind.i64.wrap ((k : Int) + 1) = (k : Int) + 1 := by rw [IntKind.wrap_i64]; omega
          have u1 : (0 : Int) ≤ (k : Int) := by omega
          have u2 : ((k : Int)).toNat = k := by simp
          have u3 : (0 : Int) ≤ (k : Int) + 1 := by omega
          have u4 : ((k : Int) + 1).toNat = k + 1 := by omega
          have u5 : (k : Int) + 1 ≤ (c : Int) := by omega
          have u6 : (k : Int) ≤ (k : Int) + 1 := by omega
          have u7 : k + 1 - k = 1 := by omega
          have u8 : ¬ c = k := by omega
          clear hx c0 c1 c2 c3 g1
          generalize fallsB ⟨tx.data.toList, md.data.toList, ln⟩ ⟨ac, wd.data.toList, rm.data.toList, rl⟩ = fl at *
          replace g2 := hid g2
          replace g3 := hid g3
          cases fl with
          | true =>
            obtain ⟨g4, g5⟩ := g2.out (by trivial)
            have q1 : ¬ z < 0 := by omega
            have q2 : ¬ (k : Int) < z := by omega
            clear g2 g3
            obtain ⟨kz, hkz⟩ : ∃ b : Bool, ((k : Int) == z) = b := ⟨_, rfl⟩
            cases kz with
            | false =>
              go_wp2_with fail
              refine wp_region_held_drew (S := fun w' : World => w'.cell? ⟨rb, 0, none⟩ = some (.string tx) ∧ w'.cell? ⟨rb, 1, none⟩ = some (.string md) ∧ w'.cell? ⟨rb, 2, none⟩ = some (.int .i64 ln)) (by kernel_rfl) (SF.out _ HNd.out) (fun hS => ?_)
              refine wpAnyH_take (i := 0) (oi := ?oi101) (v := ?v101) ?hi101 (by kernel_rfl) ?hf101 ?hr101 ?hQ101 (Or.inl ⟨?hw101, ?hy101⟩) (by assumption) ?rest101
              case hi101 => simp only [List.getElem?_toArray, List.getElem?_cons_succ, List.getElem?_cons_zero]; rfl
              case hf101 => kernel_rfl
              case hr101 => kernel_rfl
              case hw101 => rfl
              case hy101 => (intro w hSw; (try dsimp only at hSw); go_simp; all_goals (first | done | with_reducible rfl))
              case hQ101 => exact fun _ _ _ h => h
              simp only [Act.put, List.setIfInBounds_toArray, List.set_cons_zero, List.set_cons_succ]
              refine wpAnyH_take (i := 1) (oi := ?oi102) (v := ?v102) ?hi102 (by kernel_rfl) ?hf102 ?hr102 ?hQ102 (Or.inl ⟨?hw102, ?hy102⟩) (by assumption) ?rest102
              case hi102 => simp only [List.getElem?_toArray, List.getElem?_cons_succ, List.getElem?_cons_zero]; rfl
              case hf102 => kernel_rfl
              case hr102 => kernel_rfl
              case hw102 => rfl
              case hy102 => (intro w hSw; (try dsimp only at hSw); go_simp; all_goals (first | done | with_reducible rfl))
              case hQ102 => exact fun _ _ _ h => h
              simp only [Act.put, List.setIfInBounds_toArray, List.set_cons_zero, List.set_cons_succ]
              refine wpAnyH_take (i := 2) (oi := ?oi103) (v := ?v103) ?hi103 (by kernel_rfl) ?hf103 ?hr103 ?hQ103 (Or.inl ⟨?hw103, ?hy103⟩) (by assumption) ?rest103
              case hi103 => simp only [List.getElem?_toArray, List.getElem?_cons_succ, List.getElem?_cons_zero]; rfl
              case hf103 => kernel_rfl
              case hr103 => kernel_rfl
              case hw103 => rfl
              case hy103 => (intro w hSw; (try dsimp only at hSw); go_simp; all_goals (first | done | with_reducible rfl))
              case hQ103 => exact fun _ _ _ h => h
              simp only [Act.put, List.setIfInBounds_toArray, List.set_cons_zero, List.set_cons_succ]
              refine wpAnyH_take (i := 3) (oi := ?oi104) (v := ?v104) ?hi104 (by kernel_rfl) ?hf104 ?hr104 ?hQ104 (Or.inl ⟨?hw104, ?hy104⟩) (by assumption) ?rest104
              case hi104 => simp only [List.getElem?_toArray, List.getElem?_cons_succ, List.getElem?_cons_zero]; rfl
              case hf104 => kernel_rfl
              case hr104 => kernel_rfl
              case hw104 => rfl
              case hy104 => (intro w hSw; (try dsimp only at hSw); go_simp; all_goals (first | done | with_reducible rfl))
              case hQ104 => exact fun _ _ _ h => h
              simp only [Act.put, List.setIfInBounds_toArray, List.set_cons_zero, List.set_cons_succ]
              refine wpAnyH_take (i := 4) (oi := ?oi105) (v := ?v105) ?hi105 (by kernel_rfl) ?hf105 ?hr105 ?hQ105 (Or.inl ⟨?hw105, ?hy105⟩) (by assumption) ?rest105
              case hi105 => simp only [List.getElem?_toArray, List.getElem?_cons_succ, List.getElem?_cons_zero]; rfl
              case hf105 => kernel_rfl
              case hr105 => kernel_rfl
              case hw105 => rfl
              case hy105 => (intro w hSw; (try dsimp only at hSw); go_simp; all_goals (first | done | with_reducible rfl))
              case hQ105 => exact fun _ _ _ h => h
              simp only [Act.put, List.setIfInBounds_toArray, List.set_cons_zero, List.set_cons_succ]
              refine wpAnyH_take (i := 5) (oi := ?oi106) (v := ?v106) ?hi106 (by kernel_rfl) ?hf106 ?hr106 ?hQ106 (Or.inl ⟨?hw106, ?hy106⟩) (by assumption) ?rest106
              case hi106 => simp only [List.getElem?_toArray, List.getElem?_cons_succ, List.getElem?_cons_zero]; rfl
              case hf106 => kernel_rfl
              case hr106 => kernel_rfl
              case hw106 => rfl
              case hy106 => (intro w hSw; (try dsimp only at hSw); go_simp; all_goals (first | done | with_reducible rfl))
              case hQ106 => exact fun _ _ _ h => h
              simp only [Act.put, List.setIfInBounds_toArray, List.set_cons_zero, List.set_cons_succ]
              refine wpAnyH_ready (rs := [6]) (by kernel_rfl) (by simp) ?_
              refine AllReadyH.cons (o := ?oi107) ?hi107 (fun K hK => ?step107) AllReadyH.nil
              case hi107 => simp only [List.getElem?_toArray, List.getElem?_cons_succ, List.getElem?_cons_zero]; rfl
              rw [if_pos (by rfl)]
              go_simp
              go_at_call 5
              refine (HT.out _ HNd.out).mono ?_
              rintro e w30 ⟨he30, hb⟩
              simp only [if_true] at he30
              subst he30
              have HN := hid (HNd.out.trans (hb.mono HNd.out.size))
              clear hb
              refine hK.out _ _ (SF.out _ HN.out) (fun hS => ?_)
              refine wpAnyH_take (i := 7) (oi := ?oi108) (v := ?v108) ?hi108 (by kernel_rfl) ?hf108 ?hr108 ?hQ108 (Or.inl ⟨?hw108, ?hy108⟩) (by assumption) ?rest108
              case hi108 => simp only [List.getElem?_toArray, List.getElem?_cons_succ, List.getElem?_cons_zero]; rfl
              case hf108 => kernel_rfl
              case hr108 => kernel_rfl
              case hw108 => rfl
              case hy108 => (intro w hSw; (try dsimp only at hSw); go_simp; all_goals (first | done | with_reducible rfl))
              case hQ108 => exact fun _ _ _ h => h
              simp only [Act.put, List.setIfInBounds_toArray, List.set_cons_zero, List.set_cons_succ]
              refine wpAnyH_take (i := 8) (oi := ?oi109) (v := ?v109) ?hi109 (by kernel_rfl) ?hf109 ?hr109 ?hQ109 (Or.inl ⟨?hw109, ?hy109⟩) (by assumption) ?rest109
              case hi109 => simp only [List.getElem?_toArray, List.getElem?_cons_succ, List.getElem?_cons_zero]; rfl
              case hf109 => kernel_rfl
              case hr109 => kernel_rfl
              case hw109 => rfl
              case hy109 => (intro w hSw; (try dsimp only at hSw); go_simp; all_goals (first | done | with_reducible rfl))
              case hQ109 => exact fun _ _ _ h => h
              simp only [Act.put, List.setIfInBounds_toArray, List.set_cons_zero, List.set_cons_succ]
              refine wpAnyH_done (by kernel_rfl) ?_ _
              clear hS r0 r1 r2
              go_wp2_with fail
              go_roundw
              case rel => exact ⟨k + 1, by go_num, by omega, HWr.out.trans (HN.out.mono HWr.out.size)⟩
              case measure => simp [intOf]; omega
            | true =>
              go_wp2_with fail
              refine wp_region_held_drew (S := fun w' : World => w'.cell? ⟨rb, 0, none⟩ = some (.string tx) ∧ w'.cell? ⟨rb, 1, none⟩ = some (.string md) ∧ w'.cell? ⟨rb, 2, none⟩ = some (.int .i64 ln)) (by kernel_rfl) (SF.out _ HNd.out) (fun hS => ?_)
              refine wpAnyH_take (i := 0) (oi := ?oi110) (v := ?v110) ?hi110 (by kernel_rfl) ?hf110 ?hr110 ?hQ110 (Or.inl ⟨?hw110, ?hy110⟩) (by assumption) ?rest110
              case hi110 => simp only [List.getElem?_toArray, List.getElem?_cons_succ, List.getElem?_cons_zero]; rfl
              case hf110 => kernel_rfl
              case hr110 => kernel_rfl
              case hw110 => rfl
              case hy110 => (intro w hSw; (try dsimp only at hSw); go_simp; all_goals (first | done | with_reducible rfl))
              case hQ110 => exact fun _ _ _ h => h
              simp only [Act.put, List.setIfInBounds_toArray, List.set_cons_zero, List.set_cons_succ]
              refine wpAnyH_take (i := 1) (oi := ?oi111) (v := ?v111) ?hi111 (by kernel_rfl) ?hf111 ?hr111 ?hQ111 (Or.inl ⟨?hw111, ?hy111⟩) (by assumption) ?rest111
              case hi111 => simp only [List.getElem?_toArray, List.getElem?_cons_succ, List.getElem?_cons_zero]; rfl
              case hf111 => kernel_rfl
              case hr111 => kernel_rfl
              case hw111 => rfl
              case hy111 => (intro w hSw; (try dsimp only at hSw); go_simp; all_goals (first | done | with_reducible rfl))
              case hQ111 => exact fun _ _ _ h => h
              simp only [Act.put, List.setIfInBounds_toArray, List.set_cons_zero, List.set_cons_succ]
              refine wpAnyH_take (i := 2) (oi := ?oi112) (v := ?v112) ?hi112 (by kernel_rfl) ?hf112 ?hr112 ?hQ112 (Or.inl ⟨?hw112, ?hy112⟩) (by assumption) ?rest112
              case hi112 => simp only [List.getElem?_toArray, List.getElem?_cons_succ, List.getElem?_cons_zero]; rfl
              case hf112 => kernel_rfl
              case hr112 => kernel_rfl
              case hw112 => rfl
              case hy112 => (intro w hSw; (try dsimp only at hSw); go_simp; all_goals (first | done | with_reducible rfl))
              case hQ112 => exact fun _ _ _ h => h
              simp only [Act.put, List.setIfInBounds_toArray, List.set_cons_zero, List.set_cons_succ]
              refine wpAnyH_take (i := 3) (oi := ?oi113) (v := ?v113) ?hi113 (by kernel_rfl) ?hf113 ?hr113 ?hQ113 (Or.inl ⟨?hw113, ?hy113⟩) (by assumption) ?rest113
              case hi113 => simp only [List.getElem?_toArray, List.getElem?_cons_succ, List.getElem?_cons_zero]; rfl
              case hf113 => kernel_rfl
              case hr113 => kernel_rfl
              case hw113 => rfl
              case hy113 => (intro w hSw; (try dsimp only at hSw); go_simp; all_goals (first | done | with_reducible rfl))
              case hQ113 => exact fun _ _ _ h => h
              simp only [Act.put, List.setIfInBounds_toArray, List.set_cons_zero, List.set_cons_succ]
              refine wpAnyH_take (i := 4) (oi := ?oi114) (v := ?v114) ?hi114 (by kernel_rfl) ?hf114 ?hr114 ?hQ114 (Or.inl ⟨?hw114, ?hy114⟩) (by assumption) ?rest114
              case hi114 => simp only [List.getElem?_toArray, List.getElem?_cons_succ, List.getElem?_cons_zero]; rfl
              case hf114 => kernel_rfl
              case hr114 => kernel_rfl
              case hw114 => rfl
              case hy114 => (intro w hSw; (try dsimp only at hSw); go_simp; all_goals (first | done | with_reducible rfl))
              case hQ114 => exact fun _ _ _ h => h
              simp only [Act.put, List.setIfInBounds_toArray, List.set_cons_zero, List.set_cons_succ]
              refine wpAnyH_take (i := 5) (oi := ?oi115) (v := ?v115) ?hi115 (by kernel_rfl) ?hf115 ?hr115 ?hQ115 (Or.inl ⟨?hw115, ?hy115⟩) (by assumption) ?rest115
              case hi115 => simp only [List.getElem?_toArray, List.getElem?_cons_succ, List.getElem?_cons_zero]; rfl
              case hf115 => kernel_rfl
              case hr115 => kernel_rfl
              case hw115 => rfl
              case hy115 => (intro w hSw; (try dsimp only at hSw); go_simp; all_goals (first | done | with_reducible rfl))
              case hQ115 => exact fun _ _ _ h => h
              simp only [Act.put, List.setIfInBounds_toArray, List.set_cons_zero, List.set_cons_succ]
              refine wpAnyH_ready (rs := [6]) (by kernel_rfl) (by simp) ?_
              refine AllReadyH.cons (o := ?oi116) ?hi116 (fun K hK => ?step116) AllReadyH.nil
              case hi116 => simp only [List.getElem?_toArray, List.getElem?_cons_succ, List.getElem?_cons_zero]; rfl
              rw [if_pos (by rfl)]
              go_simp
              go_at_call 5
              refine (HT.out _ HNd.out).mono ?_
              rintro e w30 ⟨he30, hb⟩
              simp only [if_true] at he30
              subst he30
              have HN := hid (HNd.out.trans (hb.mono HNd.out.size))
              clear hb
              refine hK.out _ _ (SF.out _ HN.out) (fun hS => ?_)
              refine wpAnyH_take (i := 7) (oi := ?oi117) (v := ?v117) ?hi117 (by kernel_rfl) ?hf117 ?hr117 ?hQ117 (Or.inl ⟨?hw117, ?hy117⟩) (by assumption) ?rest117
              case hi117 => simp only [List.getElem?_toArray, List.getElem?_cons_succ, List.getElem?_cons_zero]; rfl
              case hf117 => kernel_rfl
              case hr117 => kernel_rfl
              case hw117 => rfl
              case hy117 => (intro w hSw; (try dsimp only at hSw); go_simp; all_goals (first | done | with_reducible rfl))
              case hQ117 => exact fun _ _ _ h => h
              simp only [Act.put, List.setIfInBounds_toArray, List.set_cons_zero, List.set_cons_succ]
              refine wpAnyH_take (i := 8) (oi := ?oi118) (v := ?v118) ?hi118 (by kernel_rfl) ?hf118 ?hr118 ?hQ118 (Or.inl ⟨?hw118, ?hy118⟩) (by assumption) ?rest118
              case hi118 => simp only [List.getElem?_toArray, List.getElem?_cons_succ, List.getElem?_cons_zero]; rfl
              case hf118 => kernel_rfl
              case hr118 => kernel_rfl
              case hw118 => rfl
              case hy118 => (intro w hSw; (try dsimp only at hSw); go_simp; all_goals (first | done | with_reducible rfl))
              case hQ118 => exact fun _ _ _ h => h
              simp only [Act.put, List.setIfInBounds_toArray, List.set_cons_zero, List.set_cons_succ]
              refine wpAnyH_done (by kernel_rfl) ?_ _
              clear hS r0 r1 r2
              go_wp2_with fail
              go_roundw
              case rel => exact ⟨k + 1, by go_num, by omega, HWr.out.trans (HN.out.mono HWr.out.size)⟩
              case measure => simp [intOf]; omega
          | false =>
            have g4 := g3.out (by trivial)
            have q1 : ((k : Int) == z) = false := by simp; omega
            clear g2 g3
            go_wp2_with fail
            refine wp_region_held_drew (S := fun w' : World => w'.cell? ⟨rb, 0, none⟩ = some (.string tx) ∧ w'.cell? ⟨rb, 1, none⟩ = some (.string md) ∧ w'.cell? ⟨rb, 2, none⟩ = some (.int .i64 ln)) (by kernel_rfl) (SF.out _ HNd.out) (fun hS => ?_)
            refine wpAnyH_take (i := 0) (oi := ?oi119) (v := ?v119) ?hi119 (by kernel_rfl) ?hf119 ?hr119 ?hQ119 (Or.inl ⟨?hw119, ?hy119⟩) (by assumption) ?rest119
            case hi119 => simp only [List.getElem?_toArray, List.getElem?_cons_succ, List.getElem?_cons_zero]; rfl
            case hf119 => kernel_rfl
            case hr119 => kernel_rfl
            case hw119 => rfl
            case hy119 => (intro w hSw; (try dsimp only at hSw); go_simp; all_goals (first | done | with_reducible rfl))
            case hQ119 => exact fun _ _ _ h => h
            simp only [Act.put, List.setIfInBounds_toArray, List.set_cons_zero, List.set_cons_succ]
            refine wpAnyH_take (i := 1) (oi := ?oi120) (v := ?v120) ?hi120 (by kernel_rfl) ?hf120 ?hr120 ?hQ120 (Or.inl ⟨?hw120, ?hy120⟩) (by assumption) ?rest120
            case hi120 => simp only [List.getElem?_toArray, List.getElem?_cons_succ, List.getElem?_cons_zero]; rfl
            case hf120 => kernel_rfl
            case hr120 => kernel_rfl
            case hw120 => rfl
            case hy120 => (intro w hSw; (try dsimp only at hSw); go_simp; all_goals (first | done | with_reducible rfl))
            case hQ120 => exact fun _ _ _ h => h
            simp only [Act.put, List.setIfInBounds_toArray, List.set_cons_zero, List.set_cons_succ]
            refine wpAnyH_take (i := 2) (oi := ?oi121) (v := ?v121) ?hi121 (by kernel_rfl) ?hf121 ?hr121 ?hQ121 (Or.inl ⟨?hw121, ?hy121⟩) (by assumption) ?rest121
            case hi121 => simp only [List.getElem?_toArray, List.getElem?_cons_succ, List.getElem?_cons_zero]; rfl
            case hf121 => kernel_rfl
            case hr121 => kernel_rfl
            case hw121 => rfl
            case hy121 => (intro w hSw; (try dsimp only at hSw); go_simp; all_goals (first | done | with_reducible rfl))
            case hQ121 => exact fun _ _ _ h => h
            simp only [Act.put, List.setIfInBounds_toArray, List.set_cons_zero, List.set_cons_succ]
            refine wpAnyH_take (i := 3) (oi := ?oi122) (v := ?v122) ?hi122 (by kernel_rfl) ?hf122 ?hr122 ?hQ122 (Or.inl ⟨?hw122, ?hy122⟩) (by assumption) ?rest122
            case hi122 => simp only [List.getElem?_toArray, List.getElem?_cons_succ, List.getElem?_cons_zero]; rfl
            case hf122 => kernel_rfl
            case hr122 => kernel_rfl
            case hw122 => rfl
            case hy122 => (intro w hSw; (try dsimp only at hSw); go_simp; all_goals (first | done | with_reducible rfl))
            case hQ122 => exact fun _ _ _ h => h
            simp only [Act.put, List.setIfInBounds_toArray, List.set_cons_zero, List.set_cons_succ]
            refine wpAnyH_take (i := 4) (oi := ?oi123) (v := ?v123) ?hi123 (by kernel_rfl) ?hf123 ?hr123 ?hQ123 (Or.inl ⟨?hw123, ?hy123⟩) (by assumption) ?rest123
            case hi123 => simp only [List.getElem?_toArray, List.getElem?_cons_succ, List.getElem?_cons_zero]; rfl
            case hf123 => kernel_rfl
            case hr123 => kernel_rfl
            case hw123 => rfl
            case hy123 => (intro w hSw; (try dsimp only at hSw); go_simp; all_goals (first | done | with_reducible rfl))
            case hQ123 => exact fun _ _ _ h => h
            simp only [Act.put, List.setIfInBounds_toArray, List.set_cons_zero, List.set_cons_succ]
            refine wpAnyH_take (i := 5) (oi := ?oi124) (v := ?v124) ?hi124 (by kernel_rfl) ?hf124 ?hr124 ?hQ124 (Or.inl ⟨?hw124, ?hy124⟩) (by assumption) ?rest124
            case hi124 => simp only [List.getElem?_toArray, List.getElem?_cons_succ, List.getElem?_cons_zero]; rfl
            case hf124 => kernel_rfl
            case hr124 => kernel_rfl
            case hw124 => rfl
            case hy124 => (intro w hSw; (try dsimp only at hSw); go_simp; all_goals (first | done | with_reducible rfl))
            case hQ124 => exact fun _ _ _ h => h
            simp only [Act.put, List.setIfInBounds_toArray, List.set_cons_zero, List.set_cons_succ]
            refine wpAnyH_ready (rs := [6]) (by kernel_rfl) (by simp) ?_
            refine AllReadyH.cons (o := ?oi125) ?hi125 (fun K hK => ?step125) AllReadyH.nil
            case hi125 => simp only [List.getElem?_toArray, List.getElem?_cons_succ, List.getElem?_cons_zero]; rfl
            rw [if_pos (by rfl)]
            go_simp
            go_at_call 5
            refine (HT.out _ HNd.out).mono ?_
            rintro e w30 ⟨he30, hb⟩
            simp only [Bool.false_eq_true, if_false] at he30
            subst he30
            have HN := hid (HNd.out.trans (hb.mono HNd.out.size))
            clear hb
            refine hK.out _ _ (SF.out _ HN.out) (fun hS => ?_)
            refine wpAnyH_take (i := 7) (oi := ?oi126) (v := ?v126) ?hi126 (by kernel_rfl) ?hf126 ?hr126 ?hQ126 (Or.inl ⟨?hw126, ?hy126⟩) (by assumption) ?rest126
            case hi126 => simp only [List.getElem?_toArray, List.getElem?_cons_succ, List.getElem?_cons_zero]; rfl
            case hf126 => kernel_rfl
            case hr126 => kernel_rfl
            case hw126 => rfl
            case hy126 => (intro w hSw; (try dsimp only at hSw); go_simp; all_goals (first | done | with_reducible rfl))
            case hQ126 => exact fun _ _ _ h => h
            simp only [Act.put, List.setIfInBounds_toArray, List.set_cons_zero, List.set_cons_succ]
            refine wpAnyH_take (i := 8) (oi := ?oi127) (v := ?v127) ?hi127 (by kernel_rfl) ?hf127 ?hr127 ?hQ127 (Or.inl ⟨?hw127, ?hy127⟩) (by assumption) ?rest127
            case hi127 => simp only [List.getElem?_toArray, List.getElem?_cons_succ, List.getElem?_cons_zero]; rfl
            case hf127 => kernel_rfl
            case hr127 => kernel_rfl
            case hw127 => rfl
            case hy127 => (intro w hSw; (try dsimp only at hSw); go_simp; all_goals (first | done | with_reducible rfl))
            case hQ127 => exact fun _ _ _ h => h
            simp only [Act.put, List.setIfInBounds_toArray, List.set_cons_zero, List.set_cons_succ]
            refine wpAnyH_done (by kernel_rfl) ?_ _
            clear hS r0 r1 r2
            go_wp2_with fail
            go_roundw
            case rel => exact ⟨k + 1, by go_num, by omega, HWr.out.trans (HN.out.mono HWr.out.size)⟩
            case measure => simp [intOf]; omega
        · rcases F2.out with hz | ⟨k9, rfl, hk9, hk8⟩
          · go_wp2_with fail
            refine wp_region_held_drew (S := fun w' : World => w'.cell? ⟨rb, 0, none⟩ = some (.string tx) ∧ w'.cell? ⟨rb, 1, none⟩ = some (.string md) ∧ w'.cell? ⟨rb, 2, none⟩ = some (.int .i64 ln)) (by kernel_rfl) (SF.out _ HNd.out) (fun hS => ?_)
            refine wpAnyH_take (i := 0) (oi := ?oi128) (v := ?v128) ?hi128 (by kernel_rfl) ?hf128 ?hr128 ?hQ128 (Or.inl ⟨?hw128, ?hy128⟩) (by assumption) ?rest128
            case hi128 => simp only [List.getElem?_toArray, List.getElem?_cons_succ, List.getElem?_cons_zero]; rfl
            case hf128 => kernel_rfl
            case hr128 => kernel_rfl
            case hw128 => rfl
            case hy128 => (intro w hSw; (try dsimp only at hSw); go_simp; all_goals (first | done | with_reducible rfl))
            case hQ128 => exact fun _ _ _ h => h
            simp only [Act.put, List.setIfInBounds_toArray, List.set_cons_zero, List.set_cons_succ]
            refine wpAnyH_take (i := 1) (oi := ?oi129) (v := ?v129) ?hi129 (by kernel_rfl) ?hf129 ?hr129 ?hQ129 (Or.inl ⟨?hw129, ?hy129⟩) (by assumption) ?rest129
            case hi129 => simp only [List.getElem?_toArray, List.getElem?_cons_succ, List.getElem?_cons_zero]; rfl
            case hf129 => kernel_rfl
            case hr129 => kernel_rfl
            case hw129 => rfl
            case hy129 => (intro w hSw; (try dsimp only at hSw); go_simp; all_goals (first | done | with_reducible rfl))
            case hQ129 => exact fun _ _ _ h => h
            simp only [Act.put, List.setIfInBounds_toArray, List.set_cons_zero, List.set_cons_succ]
            refine wpAnyH_take (i := 2) (oi := ?oi130) (v := ?v130) ?hi130 (by kernel_rfl) ?hf130 ?hr130 ?hQ130 (Or.inl ⟨?hw130, ?hy130⟩) (by assumption) ?rest130
            case hi130 => simp only [List.getElem?_toArray, List.getElem?_cons_succ, List.getElem?_cons_zero]; rfl
            case hf130 => kernel_rfl
            case hr130 => kernel_rfl
            case hw130 => rfl
            case hy130 => (intro w hSw; (try dsimp only at hSw); go_simp; all_goals (first | done | with_reducible rfl))
            case hQ130 => exact fun _ _ _ h => h
            simp only [Act.put, List.setIfInBounds_toArray, List.set_cons_zero, List.set_cons_succ]
            refine wpAnyH_take (i := 3) (oi := ?oi131) (v := undef) ?hi131 (by kernel_rfl) ?hf131 ?hr131 ?hQ131 (Or.inr ⟨?hw131, rfl⟩) (by assumption) ?rest131
            case hi131 => simp only [List.getElem?_toArray, List.getElem?_cons_succ, List.getElem?_cons_zero]; rfl
            case hf131 => kernel_rfl
            case hr131 => kernel_rfl
            case hw131 => rfl
            case hQ131 => exact fun _ _ _ h => h
            simp only [Act.put, List.setIfInBounds_toArray, List.set_cons_zero, List.set_cons_succ]
            refine wpAnyH_take (i := 4) (oi := ?oi132) (v := undef) ?hi132 (by kernel_rfl) ?hf132 ?hr132 ?hQ132 (Or.inr ⟨?hw132, rfl⟩) (by assumption) ?rest132
            case hi132 => simp only [List.getElem?_toArray, List.getElem?_cons_succ, List.getElem?_cons_zero]; rfl
            case hf132 => kernel_rfl
            case hr132 => kernel_rfl
            case hw132 => rfl
            case hQ132 => exact fun _ _ _ h => h
            simp only [Act.put, List.setIfInBounds_toArray, List.set_cons_zero, List.set_cons_succ]
            refine wpAnyH_take (i := 5) (oi := ?oi133) (v := undef) ?hi133 (by kernel_rfl) ?hf133 ?hr133 ?hQ133 (Or.inr ⟨?hw133, rfl⟩) (by assumption) ?rest133
            case hi133 => simp only [List.getElem?_toArray, List.getElem?_cons_succ, List.getElem?_cons_zero]; rfl
            case hf133 => kernel_rfl
            case hr133 => kernel_rfl
            case hw133 => rfl
            case hQ133 => exact fun _ _ _ h => h
            simp only [Act.put, List.setIfInBounds_toArray, List.set_cons_zero, List.set_cons_succ]
            refine wpAnyH_take (i := 6) (oi := ?oi134) (v := undef) ?hi134 (by kernel_rfl) ?hf134 ?hr134 ?hQ134 (Or.inr ⟨?hw134, rfl⟩) (by assumption) ?rest134
            case hi134 => simp only [List.getElem?_toArray, List.getElem?_cons_succ, List.getElem?_cons_zero]; rfl
            case hf134 => kernel_rfl
            case hr134 => kernel_rfl
            case hw134 => rfl
            case hQ134 => exact fun _ _ _ h => h
            simp only [Act.put, List.setIfInBounds_toArray, List.set_cons_zero, List.set_cons_succ]
            refine wpAnyH_take (i := 7) (oi := ?oi135) (v := undef) ?hi135 (by kernel_rfl) ?hf135 ?hr135 ?hQ135 (Or.inr ⟨?hw135, rfl⟩) (by assumption) ?rest135
            case hi135 => simp only [List.getElem?_toArray, List.getElem?_cons_succ, List.getElem?_cons_zero]; rfl
            case hf135 => kernel_rfl
            case hr135 => kernel_rfl
            case hw135 => rfl
            case hQ135 => exact fun _ _ _ h => h
            simp only [Act.put, List.setIfInBounds_toArray, List.set_cons_zero, List.set_cons_succ]
            refine wpAnyH_take (i := 8) (oi := ?oi136) (v := undef) ?hi136 (by kernel_rfl) ?hf136 ?hr136 ?hQ136 (Or.inr ⟨?hw136, rfl⟩) (by assumption) ?rest136
            case hi136 => simp only [List.getElem?_toArray, List.getElem?_cons_succ, List.getElem?_cons_zero]; rfl
            case hf136 => kernel_rfl
            case hr136 => kernel_rfl
            case hw136 => rfl
            case hQ136 => exact fun _ _ _ h => h
            simp only [Act.put, List.setIfInBounds_toArray, List.set_cons_zero, List.set_cons_succ]
            refine wpAnyH_take (i := 9) (oi := ?oi137) (v := undef) ?hi137 (by kernel_rfl) ?hf137 ?hr137 ?hQ137 (Or.inr ⟨?hw137, rfl⟩) (by assumption) ?rest137
            case hi137 => simp only [List.getElem?_toArray, List.getElem?_cons_succ, List.getElem?_cons_zero]; rfl
            case hf137 => kernel_rfl
            case hr137 => kernel_rfl
            case hw137 => rfl
            case hQ137 => exact fun _ _ _ h => h
            simp only [Act.put, List.setIfInBounds_toArray, List.set_cons_zero, List.set_cons_succ]
            refine wpAnyH_take (i := 10) (oi := ?oi138) (v := undef) ?hi138 (by kernel_rfl) ?hf138 ?hr138 ?hQ138 (Or.inr ⟨?hw138, rfl⟩) (by assumption) ?rest138
            case hi138 => simp only [List.getElem?_toArray, List.getElem?_cons_succ, List.getElem?_cons_zero]; rfl
            case hf138 => kernel_rfl
            case hr138 => kernel_rfl
            case hw138 => rfl
            case hQ138 => exact fun _ _ _ h => h
            simp only [Act.put, List.setIfInBounds_toArray, List.set_cons_zero, List.set_cons_succ]
            refine wpAnyH_take (i := 11) (oi := ?oi139) (v := ?v139) ?hi139 (by kernel_rfl) ?hf139 ?hr139 ?hQ139 (Or.inl ⟨?hw139, ?hy139⟩) (by assumption) ?rest139
            case hi139 => simp only [List.getElem?_toArray, List.getElem?_cons_succ, List.getElem?_cons_zero]; rfl
            case hf139 => kernel_rfl
            case hr139 => kernel_rfl
            case hw139 => rfl
            case hy139 => (intro w hSw; (try dsimp only at hSw); go_simp; all_goals (first | done | with_reducible rfl))
            case hQ139 => exact fun _ _ _ h => h
            simp only [Act.put, List.setIfInBounds_toArray, List.set_cons_zero, List.set_cons_succ]
            refine wpAnyH_take (i := 12) (oi := ?oi140) (v := ?v140) ?hi140 (by kernel_rfl) ?hf140 ?hr140 ?hQ140 (Or.inl ⟨?hw140, ?hy140⟩) (by assumption) ?rest140
            case hi140 => simp only [List.getElem?_toArray, List.getElem?_cons_succ, List.getElem?_cons_zero]; rfl
            case hf140 => kernel_rfl
            case hr140 => kernel_rfl
            case hw140 => rfl
            case hy140 => (intro w hSw; (try dsimp only at hSw); go_simp; all_goals (first | done | with_reducible rfl))
            case hQ140 => exact fun _ _ _ h => h
            simp only [Act.put, List.setIfInBounds_toArray, List.set_cons_zero, List.set_cons_succ]
            refine wpAnyH_done (by kernel_rfl) ?_ _
            clear hS r0 r1 r2
            go_wp2_with fail
            go_ret
            exact ⟨rfl, HB.out.trans ((HWr.out.trans (HNd.out.mono HWr.out.size)).mono HB.out.size)⟩
          · have hk7 : k9 < n := by rw [← hln.out]; exact hk9
            obtain ⟨b, o, e9, _⟩ := sl_elem (FF.out _ HWr.out).1.1 hk7
            subst e9
            have HT := hid (fun (W : World) (hW : Below wr.heap.size wr W) => (show Calls Tryd.prog 5 #[.slice (some ⟨b, o, none⟩) (k9 + 1) c, .agg #[.string tx, .string md, .int .i64 ln]] W (fun e w' => e = .returned (.int .i64 (k9 : Int)) ∧ Below W.heap.size W w') from by
              have h9 := CJ.out (k9 + 1) (some ⟨b, o, none⟩) c (l.take (k9 + 1)) W (HWr.out.trans (hW.mono HWr.out.size)) ((FF.out W (HWr.out.trans (hW.mono HWr.out.size))).1.cutR (by omega))
              rw [hk8] at h9; exact h9))
            have u0 : IntKind.i64.wrap ((k9 : Int) + 1) = (k9 : Int) + 1 := by rw [IntKind.wrap_i64]; omega
            have u3 : (0 : Int) ≤ (k9 : Int) + 1 := by omega
            have u4 : ((k9 : Int) + 1).toNat = k9 + 1 := by omega
            have u5 : (k9 : Int) + 1 ≤ (c : Int) := by omega
            have q1 : ¬ (k9 : Int) < 0 := by omega
            clear hk8 hk9 F1 F2
            go_wp2_with fail
            refine wp_region_held_drew (S := fun w' : World => w'.cell? ⟨rb, 0, none⟩ = some (.string tx) ∧ w'.cell? ⟨rb, 1, none⟩ = some (.string md) ∧ w'.cell? ⟨rb, 2, none⟩ = some (.int .i64 ln)) (by kernel_rfl) (SF.out _ HNd.out) (fun hS => ?_)
            refine wpAnyH_take (i := 0) (oi := ?oi141) (v := ?v141) ?hi141 (by kernel_rfl) ?hf141 ?hr141 ?hQ141 (Or.inl ⟨?hw141, ?hy141⟩) (by assumption) ?rest141
            case hi141 => simp only [List.getElem?_toArray, List.getElem?_cons_succ, List.getElem?_cons_zero]; rfl
            case hf141 => kernel_rfl
            case hr141 => kernel_rfl
            case hw141 => rfl
            case hy141 => (intro w hSw; (try dsimp only at hSw); go_simp; all_goals (first | done | with_reducible rfl))
            case hQ141 => exact fun _ _ _ h => h
            simp only [Act.put, List.setIfInBounds_toArray, List.set_cons_zero, List.set_cons_succ]
            refine wpAnyH_take (i := 1) (oi := ?oi142) (v := ?v142) ?hi142 (by kernel_rfl) ?hf142 ?hr142 ?hQ142 (Or.inl ⟨?hw142, ?hy142⟩) (by assumption) ?rest142
            case hi142 => simp only [List.getElem?_toArray, List.getElem?_cons_succ, List.getElem?_cons_zero]; rfl
            case hf142 => kernel_rfl
            case hr142 => kernel_rfl
            case hw142 => rfl
            case hy142 => (intro w hSw; (try dsimp only at hSw); go_simp; all_goals (first | done | with_reducible rfl))
            case hQ142 => exact fun _ _ _ h => h
            simp only [Act.put, List.setIfInBounds_toArray, List.set_cons_zero, List.set_cons_succ]
            refine wpAnyH_take (i := 2) (oi := ?oi143) (v := ?v143) ?hi143 (by kernel_rfl) ?hf143 ?hr143 ?hQ143 (Or.inl ⟨?hw143, ?hy143⟩) (by assumption) ?rest143
            case hi143 => simp only [List.getElem?_toArray, List.getElem?_cons_succ, List.getElem?_cons_zero]; rfl
            case hf143 => kernel_rfl
            case hr143 => kernel_rfl
            case hw143 => rfl
            case hy143 => (intro w hSw; (try dsimp only at hSw); go_simp; all_goals (first | done | with_reducible rfl))
            case hQ143 => exact fun _ _ _ h => h
            simp only [Act.put, List.setIfInBounds_toArray, List.set_cons_zero, List.set_cons_succ]
            refine wpAnyH_take (i := 3) (oi := ?oi144) (v := ?v144) ?hi144 (by kernel_rfl) ?hf144 ?hr144 ?hQ144 (Or.inl ⟨?hw144, ?hy144⟩) (by assumption) ?rest144
            case hi144 => simp only [List.getElem?_toArray, List.getElem?_cons_succ, List.getElem?_cons_zero]; rfl
            case hf144 => kernel_rfl
            case hr144 => kernel_rfl
            case hw144 => rfl
            case hy144 => (intro w hSw; (try dsimp only at hSw); go_simp; all_goals (first | done | with_reducible rfl))
            case hQ144 => exact fun _ _ _ h => h
            simp only [Act.put, List.setIfInBounds_toArray, List.set_cons_zero, List.set_cons_succ]
            refine wpAnyH_take (i := 4) (oi := ?oi145) (v := ?v145) ?hi145 (by kernel_rfl) ?hf145 ?hr145 ?hQ145 (Or.inl ⟨?hw145, ?hy145⟩) (by assumption) ?rest145
            case hi145 => simp only [List.getElem?_toArray, List.getElem?_cons_succ, List.getElem?_cons_zero]; rfl
            case hf145 => kernel_rfl
            case hr145 => kernel_rfl
            case hw145 => rfl
            case hy145 => (intro w hSw; (try dsimp only at hSw); go_simp; all_goals (first | done | with_reducible rfl))
            case hQ145 => exact fun _ _ _ h => h
            simp only [Act.put, List.setIfInBounds_toArray, List.set_cons_zero, List.set_cons_succ]
            refine wpAnyH_take (i := 5) (oi := ?oi146) (v := ?v146) ?hi146 (by kernel_rfl) ?hf146 ?hr146 ?hQ146 (Or.inl ⟨?hw146, ?hy146⟩) (by assumption) ?rest146
            case hi146 => simp only [List.getElem?_toArray, List.getElem?_cons_succ, List.getElem?_cons_zero]; rfl
            case hf146 => kernel_rfl
            case hr146 => kernel_rfl
            case hw146 => rfl
            case hy146 => (intro w hSw; (try dsimp only at hSw); go_simp; all_goals (first | done | with_reducible rfl))
            case hQ146 => exact fun _ _ _ h => h
            simp only [Act.put, List.setIfInBounds_toArray, List.set_cons_zero, List.set_cons_succ]
            refine wpAnyH_take (i := 6) (oi := ?oi147) (v := ?v147) ?hi147 (by kernel_rfl) ?hf147 ?hr147 ?hQ147 (Or.inl ⟨?hw147, ?hy147⟩) (by assumption) ?rest147
            case hi147 => simp only [List.getElem?_toArray, List.getElem?_cons_succ, List.getElem?_cons_zero]; rfl
            case hf147 => kernel_rfl
            case hr147 => kernel_rfl
            case hw147 => rfl
            case hy147 => (intro w hSw; (try dsimp only at hSw); go_simp; all_goals (first | done | with_reducible rfl))
            case hQ147 => exact fun _ _ _ h => h
            simp only [Act.put, List.setIfInBounds_toArray, List.set_cons_zero, List.set_cons_succ]
            refine wpAnyH_take (i := 7) (oi := ?oi148) (v := ?v148) ?hi148 (by kernel_rfl) ?hf148 ?hr148 ?hQ148 (Or.inl ⟨?hw148, ?hy148⟩) (by assumption) ?rest148
            case hi148 => simp only [List.getElem?_toArray, List.getElem?_cons_succ, List.getElem?_cons_zero]; rfl
            case hf148 => kernel_rfl
            case hr148 => kernel_rfl
            case hw148 => rfl
            case hy148 => (intro w hSw; (try dsimp only at hSw); go_simp; all_goals (first | done | with_reducible rfl))
            case hQ148 => exact fun _ _ _ h => h
            simp only [Act.put, List.setIfInBounds_toArray, List.set_cons_zero, List.set_cons_succ]
            refine wpAnyH_take (i := 9) (oi := ?oi149) (v := ?v149) ?hi149 (by kernel_rfl) ?hf149 ?hr149 ?hQ149 (Or.inl ⟨?hw149, ?hy149⟩) (by assumption) ?rest149
            case hi149 => simp only [List.getElem?_toArray, List.getElem?_cons_succ, List.getElem?_cons_zero]; rfl
            case hf149 => kernel_rfl
            case hr149 => kernel_rfl
            case hw149 => rfl
            case hy149 => (intro w hSw; (try dsimp only at hSw); go_simp; all_goals (first | done | with_reducible rfl))
            case hQ149 => exact fun _ _ _ h => h
            simp only [Act.put, List.setIfInBounds_toArray, List.set_cons_zero, List.set_cons_succ]
            refine wpAnyH_ready (rs := [8]) (by kernel_rfl) (by simp) ?_
            refine AllReadyH.cons (o := ?oi150) ?hi150 (fun K hK => ?step150) AllReadyH.nil
            case hi150 => simp only [List.getElem?_toArray, List.getElem?_cons_succ, List.getElem?_cons_zero]; rfl
            rw [if_pos (by rfl)]
            go_simp
            go_at_call 5
            refine (HT.out _ HNd.out).mono ?_
            rintro e w30 ⟨rfl, hb⟩
            have HN := hid (HNd.out.trans (hb.mono HNd.out.size))
            clear hb
            refine hK.out _ _ (SF.out _ HN.out) (fun hS => ?_)
            refine wpAnyH_take (i := 10) (oi := ?oi151) (v := ?v151) ?hi151 (by kernel_rfl) ?hf151 ?hr151 ?hQ151 (Or.inl ⟨?hw151, ?hy151⟩) (by assumption) ?rest151
            case hi151 => simp only [List.getElem?_toArray, List.getElem?_cons_succ, List.getElem?_cons_zero]; rfl
            case hf151 => kernel_rfl
            case hr151 => kernel_rfl
            case hw151 => rfl
            case hy151 => (intro w hSw; (try dsimp only at hSw); go_simp; all_goals (first | done | with_reducible rfl))
            case hQ151 => exact fun _ _ _ h => h
            simp only [Act.put, List.setIfInBounds_toArray, List.set_cons_zero, List.set_cons_succ]
            refine wpAnyH_take (i := 11) (oi := ?oi152) (v := ?v152) ?hi152 (by kernel_rfl) ?hf152 ?hr152 ?hQ152 (Or.inl ⟨?hw152, ?hy152⟩) (by assumption) ?rest152
            case hi152 => simp only [List.getElem?_toArray, List.getElem?_cons_succ, List.getElem?_cons_zero]; rfl
            case hf152 => kernel_rfl
            case hr152 => kernel_rfl
            case hw152 => rfl
            case hy152 => (intro w hSw; (try dsimp only at hSw); go_simp; all_goals (first | done | with_reducible rfl))
            case hQ152 => exact fun _ _ _ h => h
            simp only [Act.put, List.setIfInBounds_toArray, List.set_cons_zero, List.set_cons_succ]
            refine wpAnyH_take (i := 12) (oi := ?oi153) (v := ?v153) ?hi153 (by kernel_rfl) ?hf153 ?hr153 ?hQ153 (Or.inl ⟨?hw153, ?hy153⟩) (by assumption) ?rest153
            case hi153 => simp only [List.getElem?_toArray, List.getElem?_cons_succ, List.getElem?_cons_zero]; rfl
            case hf153 => kernel_rfl
            case hr153 => kernel_rfl
            case hw153 => rfl
            case hy153 => (intro w hSw; (try dsimp only at hSw); go_simp; all_goals (first | done | with_reducible rfl))
            case hQ153 => exact fun _ _ _ h => h
            simp only [Act.put, List.setIfInBounds_toArray, List.set_cons_zero, List.set_cons_succ]
            refine wpAnyH_done (by kernel_rfl) ?_ _
            clear hS r0 r1 r2
            go_wp2_with fail
            go_ret
            exact ⟨ret_bool (by simp), HB.out.trans ((HWr.out.trans (HN.out.mono HWr.out.size)).mono HB.out.size)⟩
end Go.Proofs.YthggedmgjehfiaaDoor
