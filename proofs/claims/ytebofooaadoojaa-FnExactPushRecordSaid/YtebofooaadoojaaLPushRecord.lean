/-
  WALK: the law FnExactPushRecord. By gen_any.py.
-/
import Derived.Deep.Cut
import Derived.Test.YtebofooaadoojaaS7
import Derived.Test.YtebofooaadoojaaApp
import Derived.Test.YtebofooaadoojaaKBuf
import Derived.Test.YtebofooaadoojaaKRecs
namespace Go.Proofs.Ytebofooaadoojaa
open Go.RowKit Nm
set_option linter.unusedSimpArgs false
set_option linter.unusedVariables false

set_option maxHeartbeats 16000000 in
set_option maxRecDepth 100000 in
theorem walk_FnExactPushRecord (A0 : Option Addr) (n0 c0 : Nat) (d0 : Buf) (nm1 : ByteArray) (lv1 : Int) (tx1 : ByteArray) (sq1 : Int) (w : World) (t0 : BufRaw w w.heap.size A0 n0 c0 d0) (mnm1 : nm1.size ≤ maxLen) (mtx1 : tx1.size ≤ maxLen) :
    Calls Try.prog 5 #[.agg #[.int .i64 d0.rm, .int .i64 d0.lv, .slice A0 n0 c0], .agg #[.string nm1, .int .i64 lv1, .string tx1, .int .i64 sq1]] w (BoolPost w true) := by
  have T0 := hid t0
  clear t0
  have HB := hid (Below.refl w.heap.size w)
  have hr : Rows (w.alloc (.cells #[.int .i64 d0.rm, .int .i64 d0.lv, .slice A0 n0 c0] 24)) w.heap.size [bxRow 24 3 (w.heap.size) [.int .i64 d0.rm, .int .i64 d0.lv, .slice A0 n0 c0]] := by have h := Rows.box w #[.int .i64 d0.rm, .int .i64 d0.lv, .slice A0 n0 c0] 24 3 rfl; simpa using h
  have hb : Below w.heap.size w (w.alloc (.cells #[.int .i64 d0.rm, .int .i64 d0.lv, .slice A0 n0 c0] 24)) := (Below.refl _ _).alloc (Nat.le_refl _) _
  have HR := hid hr
  replace HB := hid (HB.out.trans (hb.mono HB.out.size))
  clear hb hr
  have hr : Rows ((w.alloc (.cells #[.int .i64 d0.rm, .int .i64 d0.lv, .slice A0 n0 c0] 24)).alloc (.cells #[.string nm1, .int .i64 lv1, .string tx1, .int .i64 sq1] 40)) (w.alloc (.cells #[.int .i64 d0.rm, .int .i64 d0.lv, .slice A0 n0 c0] 24)).heap.size [bxRow 40 4 (w.heap.size + 1) [.string nm1, .int .i64 lv1, .string tx1, .int .i64 sq1]] := by have h := Rows.box (w.alloc (.cells #[.int .i64 d0.rm, .int .i64 d0.lv, .slice A0 n0 c0] 24)) #[.string nm1, .int .i64 lv1, .string tx1, .int .i64 sq1] 40 4 rfl; simpa using h
  have hb : Below (w.alloc (.cells #[.int .i64 d0.rm, .int .i64 d0.lv, .slice A0 n0 c0] 24)).heap.size (w.alloc (.cells #[.int .i64 d0.rm, .int .i64 d0.lv, .slice A0 n0 c0] 24)) ((w.alloc (.cells #[.int .i64 d0.rm, .int .i64 d0.lv, .slice A0 n0 c0] 24)).alloc (.cells #[.string nm1, .int .i64 lv1, .string tx1, .int .i64 sq1] 40)) := (Below.refl _ _).alloc (Nat.le_refl _) _
  replace HR := hid (HR.out.newer hb hr HB.out.size)
  replace HB := hid (HB.out.trans (hb.mono HB.out.size))
  clear hb hr
  have da10 := (Rows.bc (HR.out.left) 0 rfl).1
  have da11 := (Rows.bc (HR.out.left) 1 rfl).1
  have da12 := (Rows.bc (HR.out.left) 2 rfl).1
  have da13 := (Rows.bc (HR.out.left) 3 rfl).1
  have ta1 := (Rows.bc (HR.out.left) 0 rfl).2
  have da00 := (Rows.bc (HR.out.right) 0 rfl).1
  have da01 := (Rows.bc (HR.out.right) 1 rfl).1
  have da02 := (Rows.bc (HR.out.right) 2 rfl).1
  have ta0 := (Rows.bc (HR.out.right) 0 rfl).2
  go_enter Try.func5, Try.ntmps5
  go_wp2_with fail
  refine (szBufferY_c A0 n0 c0 d0 w.heap.size _ _ (T0.out.below HB.out (Nat.le_refl _)) HB.out.size (by omega) (by omega)).mono ?_
  rintro e w1 ⟨r0, rfl, hb, hr⟩
  replace HR := hid (HR.out.below hb)
  replace HB := hid (HB.out.trans (hb.mono HB.out.size))
  clear hb
  clear da10 da11 da12 da13 ta1 da00 da01 da02 ta0
  have da10 := (Rows.bc (HR.out.left) 0 rfl).1
  have da11 := (Rows.bc (HR.out.left) 1 rfl).1
  have da12 := (Rows.bc (HR.out.left) 2 rfl).1
  have da13 := (Rows.bc (HR.out.left) 3 rfl).1
  have ta1 := (Rows.bc (HR.out.left) 0 rfl).2
  have da00 := (Rows.bc (HR.out.right) 0 rfl).1
  have da01 := (Rows.bc (HR.out.right) 1 rfl).1
  have da02 := (Rows.bc (HR.out.right) 2 rfl).1
  have ta0 := (Rows.bc (HR.out.right) 0 rfl).2
  rcases hr with hr | ⟨hr0, hr1, hfit⟩
  · go_wp2_with fail
    go_ret
    exact ⟨rfl, HB.out⟩
  have F0 := hid hfit
  clear hfit
  go_wp2_with fail
  refine (szRecord_c nm1 lv1 tx1 sq1 _ _ mnm1 mtx1 (by omega) (by omega)).mono ?_
  rintro e w2 ⟨r1, rfl, hb, hr⟩
  replace HR := hid (HR.out.below hb)
  replace HB := hid (HB.out.trans (hb.mono HB.out.size))
  clear hb
  clear da10 da11 da12 da13 ta1 da00 da01 da02 ta0
  have da10 := (Rows.bc (HR.out.left) 0 rfl).1
  have da11 := (Rows.bc (HR.out.left) 1 rfl).1
  have da12 := (Rows.bc (HR.out.left) 2 rfl).1
  have da13 := (Rows.bc (HR.out.left) 3 rfl).1
  have ta1 := (Rows.bc (HR.out.left) 0 rfl).2
  have da00 := (Rows.bc (HR.out.right) 0 rfl).1
  have da01 := (Rows.bc (HR.out.right) 1 rfl).1
  have da02 := (Rows.bc (HR.out.right) 2 rfl).1
  have ta0 := (Rows.bc (HR.out.right) 0 rfl).2
  rcases hr with hr | ⟨hr0, hr1, znm1, ztx1⟩
  · go_wp2_with fail
    go_ret
    exact ⟨rfl, HB.out⟩
  have cS : ∀ (W : World) (v0 : Value) (h0 : BufIn W W.heap.size v0 d0), Calls Try.prog 24 #[v0, .agg #[.string nm1, .int .i64 lv1, .string tx1, .int .i64 sq1]] W (fun e w2 => ∃ (u0 : Value) (rs0 : List Row), ∃ (u1 : Value) (rs1 : List Row), e = .returned (.tuple #[u0, u1, .bool (pushOk d0 ⟨nm1.data.toList, lv1, tx1.data.toList, sq1⟩)]) ∧ BufR rs0 u0 (pushXB d0 ⟨nm1.data.toList, lv1, tx1.data.toList, sq1⟩) ∧ RecsR rs1 u1 (pushXR d0 ⟨nm1.data.toList, lv1, tx1.data.toList, sq1⟩) ∧ Rows w2 W.heap.size (rs0 ++ (rs1)) ∧ Below W.heap.size W w2) := fun W v0 h0 => specPushRecord_c nm1 tx1 lv1 sq1 h0 (Nat.le_refl _) znm1 ztx1
  have cI : ∀ (W : World) (v0 : Value) (h0 : BufIn W W.heap.size v0 d0), Calls Try.prog 26 #[v0, .agg #[.string nm1, .int .i64 lv1, .string tx1, .int .i64 sq1]] W (fun e w2 => ∃ (u0 : Value) (rs0 : List Row), ∃ (u1 : Value) (rs1 : List Row), e = .returned (.tuple #[u0, u1, .bool (pushOk d0 ⟨nm1.data.toList, lv1, tx1.data.toList, sq1⟩)]) ∧ BufR rs0 u0 (pushXB d0 ⟨nm1.data.toList, lv1, tx1.data.toList, sq1⟩) ∧ RecsR rs1 u1 (pushXR d0 ⟨nm1.data.toList, lv1, tx1.data.toList, sq1⟩) ∧ Rows w2 W.heap.size (rs0 ++ (rs1)) ∧ Below W.heap.size W w2) := fun W v0 h0 => implPushRecord_c nm1 tx1 lv1 sq1 h0 (Nat.le_refl _) znm1 ztx1
  have DX0 : BufFit (pushXB d0 ⟨nm1.data.toList, lv1, tx1.data.toList, sq1⟩) := pushXB_fit F0.out (show rcellsFit ⟨nm1.data.toList, lv1, tx1.data.toList, sq1⟩ from ⟨by rw [← Lib.size_eq]; exact znm1, by rw [← Lib.size_eq]; exact ztx1⟩)
  generalize pushXB d0 ⟨nm1.data.toList, lv1, tx1.data.toList, sq1⟩ = X0 at cS cI DX0
  replace DX0 := hid DX0
  have DX1 : RecsFit (pushXR d0 ⟨nm1.data.toList, lv1, tx1.data.toList, sq1⟩) := pushXR_fit F0.out (show rcellsFit ⟨nm1.data.toList, lv1, tx1.data.toList, sq1⟩ from ⟨by rw [← Lib.size_eq]; exact znm1, by rw [← Lib.size_eq]; exact ztx1⟩)
  generalize pushXR d0 ⟨nm1.data.toList, lv1, tx1.data.toList, sq1⟩ = X1 at cS cI DX1
  replace DX1 := hid DX1
  generalize pushOk d0 ⟨nm1.data.toList, lv1, tx1.data.toList, sq1⟩ = X2 at cS cI
  have hX2 : (X2 == X2) = true := by simp
  replace cS := hid cS
  replace cI := hid cI
  go_wp2_with fail
  go_cut [6, 7, 8] from 19 (fun s6 s7 s8 wc => ∃ (bb : Nat) (fW00 : Option Addr) (fW01 : Nat) (fW02 : Nat) (rsW0 : List Row) (fW10 : Option Addr) (fW11 : Nat) (fW12 : Nat) (rsW1 : List Row) (rss0 : List Row) (vs0 : Value), s6 = .pointer (some ⟨bb, 0, none⟩) ∧ s7 = .slice fW10 fW11 fW12 ∧ s8 = .bool X2 ∧ BufR rsW0 (.agg #[.int .i64 X0.rm, .int .i64 X0.lv, .slice fW00 fW01 fW02]) X0 ∧ RecsR rsW1 (.slice fW10 fW11 fW12) X1 ∧ BufR rss0 vs0 d0 ∧ Rows wc w.heap.size ([bxRow 29 3 (bb) [.int .i64 X0.rm, .int .i64 X0.lv, .slice fW00 fW01 fW02]] ++ (rsW0 ++ (rsW1 ++ (rss0 ++ ([bxRow 40 4 (w.heap.size + 1) [.string nm1, .int .i64 lv1, .string tx1, .int .i64 sq1]] ++ ([bxRow 24 3 (w.heap.size) [.int .i64 d0.rm, .int .i64 d0.lv, .slice A0 n0 c0]])))))) ∧ Below w.heap.size w wc)
  case first =>
    refine wp_region_held_drew (S := (fun w' : World => w'.cell? ⟨w.heap.size, 0, none⟩ = some (.int .i64 d0.rm) ∧ w'.cell? ⟨w.heap.size, 1, none⟩ = some (.int .i64 d0.lv) ∧ w'.cell? ⟨w.heap.size, 2, none⟩ = some (.slice A0 n0 c0) ∧ w'.cell? ⟨w.heap.size + 1, 0, none⟩ = some (.string nm1) ∧ w'.cell? ⟨w.heap.size + 1, 1, none⟩ = some (.int .i64 lv1) ∧ w'.cell? ⟨w.heap.size + 1, 2, none⟩ = some (.string tx1) ∧ w'.cell? ⟨w.heap.size + 1, 3, none⟩ = some (.int .i64 sq1))) (by kernel_rfl) ⟨da00, da01, da02, da10, da11, da12, da13⟩ (fun hS => ?_)
    refine wpAnyH_take (i := 0) (oi := ?oi101) (v := ?v101) ?hi101 (by kernel_rfl) ?hf101 ?hr101 ?hQ101 (Or.inl ⟨?hw101, ?hy101⟩) (by assumption) ?rest101
    case hi101 => simp only [List.getElem?_toArray, List.getElem?_cons_succ, List.getElem?_cons_zero]; rfl
    case hf101 => kernel_rfl
    case hr101 => kernel_rfl
    case hw101 => rfl
    case hy101 => (intro w hSw; (try dsimp only at hSw); go_simp; all_goals (first | done | with_reducible rfl))
    case hQ101 => exact fun _ _ _ h => h
    simp only [Act.put, List.setIfInBounds_toArray, List.set_cons_zero, List.set_cons_succ]
    refine wpAnyH_take (i := 2) (oi := ?oi102) (v := ?v102) ?hi102 (by kernel_rfl) ?hf102 ?hr102 ?hQ102 (Or.inl ⟨?hw102, ?hy102⟩) (by assumption) ?rest102
    case hi102 => simp only [List.getElem?_toArray, List.getElem?_cons_succ, List.getElem?_cons_zero]; rfl
    case hf102 => kernel_rfl
    case hr102 => kernel_rfl
    case hw102 => rfl
    case hy102 => (intro w hSw; (try dsimp only at hSw); go_simp; all_goals (first | done | with_reducible rfl))
    case hQ102 => exact fun _ _ _ h => h
    simp only [Act.put, List.setIfInBounds_toArray, List.set_cons_zero, List.set_cons_succ]
    replace HR := hid (HR.out.below ((Below.refl w2.heap.size w2).drew))
    replace HB := hid HB.out.drew
    clear da10 da11 da12 da13 ta1 da00 da01 da02 ta0
    generalize w2.drew = w3 at *
    have da10 := (Rows.bc (HR.out.left) 0 rfl).1
    have da11 := (Rows.bc (HR.out.left) 1 rfl).1
    have da12 := (Rows.bc (HR.out.left) 2 rfl).1
    have da13 := (Rows.bc (HR.out.left) 3 rfl).1
    have ta1 := (Rows.bc (HR.out.left) 0 rfl).2
    have da00 := (Rows.bc (HR.out.right) 0 rfl).1
    have da01 := (Rows.bc (HR.out.right) 1 rfl).1
    have da02 := (Rows.bc (HR.out.right) 2 rfl).1
    have ta0 := (Rows.bc (HR.out.right) 0 rfl).2
    refine wpAnyH_ready (rs := [1, 9]) (by kernel_rfl) (by simp) ?_
    refine AllReadyH.cons (o := ?oi103) ?hi103 (fun K hK => ?stepA103) (AllReadyH.cons (o := ?oj103) ?hj103 (fun K hK => ?stepB103) AllReadyH.nil)
    case hi103 => simp only [List.getElem?_toArray, List.getElem?_cons_succ, List.getElem?_cons_zero]; rfl
    case hj103 => simp only [List.getElem?_toArray, List.getElem?_cons_succ, List.getElem?_cons_zero]; rfl
    all_goals rw [if_pos (by rfl)]
    all_goals go_simp
    · go_at_call 13
      refine (toBufferY_c A0 n0 c0 d0 w.heap.size _ (T0.out.below HB.out (Nat.le_refl _)) HB.out.size F0.out).mono ?_
      rintro e w4 ⟨v, rss0, rfl, hs, hr, hb⟩
      obtain ⟨fs00, fs01, fs02, rfl⟩ := hs.form hr
      have Ss0 := hid hs
      clear hs
      replace HR := hid (HR.out.newer hb hr HB.out.size)
      replace HB := hid (HB.out.trans (hb.mono HB.out.size))
      clear hb hr
      clear da10 da11 da12 da13 ta1 da00 da01 da02 ta0
      have da10 := (Rows.bc (HR.out.right.left) 0 rfl).1
      have da11 := (Rows.bc (HR.out.right.left) 1 rfl).1
      have da12 := (Rows.bc (HR.out.right.left) 2 rfl).1
      have da13 := (Rows.bc (HR.out.right.left) 3 rfl).1
      have ta1 := (Rows.bc (HR.out.right.left) 0 rfl).2
      have da00 := (Rows.bc (HR.out.right.right) 0 rfl).1
      have da01 := (Rows.bc (HR.out.right.right) 1 rfl).1
      have da02 := (Rows.bc (HR.out.right.right) 2 rfl).1
      have ta0 := (Rows.bc (HR.out.right.right) 0 rfl).2
      refine hK.out _ _ ⟨da00, da01, da02, da10, da11, da12, da13⟩ (fun hS9 => ?_)
      refine wpAnyH_ready (rs := [3, 9]) (by kernel_rfl) (by simp) ?_
      refine AllReadyH.cons (o := ?oi104) ?hi104 (fun K hK => ?stepA104) (AllReadyH.cons (o := ?oj104) ?hj104 (fun K hK => ?stepB104) AllReadyH.nil)
      case hi104 => simp only [List.getElem?_toArray, List.getElem?_cons_succ, List.getElem?_cons_zero]; rfl
      case hj104 => simp only [List.getElem?_toArray, List.getElem?_cons_succ, List.getElem?_cons_zero]; rfl
      all_goals rw [if_pos (by rfl)]
      all_goals go_simp
      · go_at_call 25
        refine (toRecord_c nm1 lv1 tx1 sq1 _).mono ?_
        rintro e w5 ⟨rfl, hb⟩
        replace HR := hid (HR.out.below hb)
        replace HB := hid (HB.out.trans (hb.mono HB.out.size))
        clear hb
        clear da10 da11 da12 da13 ta1 da00 da01 da02 ta0
        have da10 := (Rows.bc (HR.out.right.left) 0 rfl).1
        have da11 := (Rows.bc (HR.out.right.left) 1 rfl).1
        have da12 := (Rows.bc (HR.out.right.left) 2 rfl).1
        have da13 := (Rows.bc (HR.out.right.left) 3 rfl).1
        have ta1 := (Rows.bc (HR.out.right.left) 0 rfl).2
        have da00 := (Rows.bc (HR.out.right.right) 0 rfl).1
        have da01 := (Rows.bc (HR.out.right.right) 1 rfl).1
        have da02 := (Rows.bc (HR.out.right.right) 2 rfl).1
        have ta0 := (Rows.bc (HR.out.right.right) 0 rfl).2
        refine hK.out _ _ ⟨da00, da01, da02, da10, da11, da12, da13⟩ (fun hS9 => ?_)
        refine wpAnyH_ready (rs := [4, 9]) (by kernel_rfl) (by simp) ?_
        refine AllReadyH.cons (o := ?oi105) ?hi105 (fun K hK => ?stepA105) (AllReadyH.cons (o := ?oj105) ?hj105 (fun K hK => ?stepB105) AllReadyH.nil)
        case hi105 => simp only [List.getElem?_toArray, List.getElem?_cons_succ, List.getElem?_cons_zero]; rfl
        case hj105 => simp only [List.getElem?_toArray, List.getElem?_cons_succ, List.getElem?_cons_zero]; rfl
        all_goals rw [if_pos (by rfl)]
        all_goals go_simp
        · go_at_call 24
          refine (cS.out _ _ (Ss0.out.at_ (HR.out.left) F0.out)).mono ?_
          rintro e w6 ⟨v0, rsW0, v1, rsW1, rfl, hs0, hs1, hr, hb⟩
          obtain ⟨fW00, fW01, fW02, rfl⟩ := hs0.form hr.left
          have SW0 := hid hs0
          obtain ⟨fW10, fW11, fW12, rfl⟩ := hs1.form hr.right
          have SW1 := hid hs1
          clear hs0 hs1
          replace HR := hid (HR.out.newer hb hr HB.out.size)
          replace HR := hid (by simpa only [List.append_assoc] using HR.out)
          replace HB := hid (HB.out.trans (hb.mono HB.out.size))
          clear hb hr
          clear da10 da11 da12 da13 ta1 da00 da01 da02 ta0
          have da10 := (Rows.bc (HR.out.right.right.right.left) 0 rfl).1
          have da11 := (Rows.bc (HR.out.right.right.right.left) 1 rfl).1
          have da12 := (Rows.bc (HR.out.right.right.right.left) 2 rfl).1
          have da13 := (Rows.bc (HR.out.right.right.right.left) 3 rfl).1
          have ta1 := (Rows.bc (HR.out.right.right.right.left) 0 rfl).2
          have da00 := (Rows.bc (HR.out.right.right.right.right) 0 rfl).1
          have da01 := (Rows.bc (HR.out.right.right.right.right) 1 rfl).1
          have da02 := (Rows.bc (HR.out.right.right.right.right) 2 rfl).1
          have ta0 := (Rows.bc (HR.out.right.right.right.right) 0 rfl).2
          refine hK.out _ _ ⟨da00, da01, da02, da10, da11, da12, da13⟩ (fun hS9 => ?_)
          refine wpAnyH_take (i := 5) (oi := ?oi106) (v := ?v106) ?hi106 (by kernel_rfl) ?hf106 ?hr106 ?hQ106 (Or.inl ⟨?hw106, ?hy106⟩) (by assumption) ?rest106
          case hi106 => simp only [List.getElem?_toArray, List.getElem?_cons_succ, List.getElem?_cons_zero]; rfl
          case hf106 => kernel_rfl
          case hr106 => kernel_rfl
          case hw106 => rfl
          case hy106 => (intro w hSw; (try dsimp only at hSw); go_simp; all_goals (first | done | with_reducible rfl))
          case hQ106 => exact fun _ _ _ h => h
          simp only [Act.put, List.setIfInBounds_toArray, List.set_cons_zero, List.set_cons_succ]
          refine wpAnyH_take (i := 6) (oi := ?oi107) (v := ?v107) ?hi107 (by kernel_rfl) ?hf107 ?hr107 ?hQ107 (Or.inl ⟨?hw107, ?hy107⟩) (by assumption) ?rest107
          case hi107 => simp only [List.getElem?_toArray, List.getElem?_cons_succ, List.getElem?_cons_zero]; rfl
          case hf107 => kernel_rfl
          case hr107 => kernel_rfl
          case hw107 => rfl
          case hy107 => (intro w hSw; (try dsimp only at hSw); go_simp; all_goals (first | done | with_reducible rfl))
          case hQ107 => exact fun _ _ _ h => h
          simp only [Act.put, List.setIfInBounds_toArray, List.set_cons_zero, List.set_cons_succ]
          refine wpAnyH_take (i := 7) (oi := ?oi108) (v := ?v108) ?hi108 (by kernel_rfl) ?hf108 ?hr108 ?hQ108 (Or.inl ⟨?hw108, ?hy108⟩) (by assumption) ?rest108
          case hi108 => simp only [List.getElem?_toArray, List.getElem?_cons_succ, List.getElem?_cons_zero]; rfl
          case hf108 => kernel_rfl
          case hr108 => kernel_rfl
          case hw108 => rfl
          case hy108 => (intro w hSw; (try dsimp only at hSw); go_simp; all_goals (first | done | with_reducible rfl))
          case hQ108 => exact fun _ _ _ h => h
          simp only [Act.put, List.setIfInBounds_toArray, List.set_cons_zero, List.set_cons_succ]
          refine wpAnyH_take (i := 8) (oi := ?oi109) (v := ?v109) ?hi109 (by kernel_rfl) ?hf109 ?hr109 ?hQ109 (Or.inl ⟨?hw109, ?hy109⟩) (by assumption) ?rest109
          case hi109 => simp only [List.getElem?_toArray, List.getElem?_cons_succ, List.getElem?_cons_zero]; rfl
          case hf109 => kernel_rfl
          case hr109 => kernel_rfl
          case hw109 => rfl
          case hy109 => (intro w hSw; (try dsimp only at hSw); go_simp; all_goals (first | done | with_reducible rfl))
          case hQ109 => exact fun _ _ _ h => h
          simp only [Act.put, List.setIfInBounds_toArray, List.set_cons_zero, List.set_cons_succ]
          refine wpAnyH_ready (rs := [9]) (by kernel_rfl) (by simp) ?_
          refine AllReadyH.cons (o := ?oi110) ?hi110 (fun K hK => ?step110) AllReadyH.nil
          case hi110 => simp only [List.getElem?_toArray, List.getElem?_cons_succ, List.getElem?_cons_zero]; rfl
          rw [if_pos (by rfl)]
          go_simp
          have ne_a0 : w6.heap.size ≠ w.heap.size := Nat.ne_of_gt ta0
          have ne_a1 : w6.heap.size ≠ w.heap.size + 1 := Nat.ne_of_gt ta1
          have nle : w.heap.size ≤ w6.heap.size := HB.out.size
          have hb : Below w6.heap.size w6 (w6.alloc (.cells #[.int .i64 0, .int .i64 0, .slice none 0 0] 29)) := (Below.refl _ _).alloc (Nat.le_refl _) _
          have hr := Rows.box w6 #[.int .i64 0, .int .i64 0, .slice none 0 0] 29 3 rfl
          replace HR := hid (HR.out.newer hb hr HB.out.size)
          replace HB := hid (HB.out.trans (hb.mono HB.out.size))
          clear hb hr
          clear da10 da11 da12 da13 ta1 da00 da01 da02 ta0
          have dbW00 := (Rows.bc (HR.out.left) 0 rfl).1
          have dbW01 := (Rows.bc (HR.out.left) 1 rfl).1
          have dbW02 := (Rows.bc (HR.out.left) 2 rfl).1
          have tbW0 := (Rows.bc (HR.out.left) 0 rfl).2
          have da10 := (Rows.bc (HR.out.right.right.right.right.left) 0 rfl).1
          have da11 := (Rows.bc (HR.out.right.right.right.right.left) 1 rfl).1
          have da12 := (Rows.bc (HR.out.right.right.right.right.left) 2 rfl).1
          have da13 := (Rows.bc (HR.out.right.right.right.right.left) 3 rfl).1
          have ta1 := (Rows.bc (HR.out.right.right.right.right.left) 0 rfl).2
          have da00 := (Rows.bc (HR.out.right.right.right.right.right) 0 rfl).1
          have da01 := (Rows.bc (HR.out.right.right.right.right.right) 1 rfl).1
          have da02 := (Rows.bc (HR.out.right.right.right.right.right) 2 rfl).1
          have ta0 := (Rows.bc (HR.out.right.right.right.right.right) 0 rfl).2
          refine hK.out _ _ ⟨da00, da01, da02, da10, da11, da12, da13⟩ (fun hS9 => ?_)
          clear dbW00 dbW01 dbW02 tbW0 da10 da11 da12 da13 ta1 da00 da01 da02 ta0
          generalize (w6.alloc (.cells #[.int .i64 0, .int .i64 0, .slice none 0 0] 29)) = w7 at *
          have dbW00 := (Rows.bc (HR.out.left) 0 rfl).1
          have dbW01 := (Rows.bc (HR.out.left) 1 rfl).1
          have dbW02 := (Rows.bc (HR.out.left) 2 rfl).1
          have tbW0 := (Rows.bc (HR.out.left) 0 rfl).2
          have da10 := (Rows.bc (HR.out.right.right.right.right.left) 0 rfl).1
          have da11 := (Rows.bc (HR.out.right.right.right.right.left) 1 rfl).1
          have da12 := (Rows.bc (HR.out.right.right.right.right.left) 2 rfl).1
          have da13 := (Rows.bc (HR.out.right.right.right.right.left) 3 rfl).1
          have ta1 := (Rows.bc (HR.out.right.right.right.right.left) 0 rfl).2
          have da00 := (Rows.bc (HR.out.right.right.right.right.right) 0 rfl).1
          have da01 := (Rows.bc (HR.out.right.right.right.right.right) 1 rfl).1
          have da02 := (Rows.bc (HR.out.right.right.right.right.right) 2 rfl).1
          have ta0 := (Rows.bc (HR.out.right.right.right.right.right) 0 rfl).2
          clear dbW00 dbW01 dbW02 tbW0 da10 da11 da12 da13 ta1 da00 da01 da02 ta0
          have dbW00 := (Rows.bc (HR.out.left) 0 rfl).1
          have dbW01 := (Rows.bc (HR.out.left) 1 rfl).1
          have dbW02 := (Rows.bc (HR.out.left) 2 rfl).1
          have tbW0 := (Rows.bc (HR.out.left) 0 rfl).2
          have da10 := (Rows.bc (HR.out.right.right.right.right.left) 0 rfl).1
          have da11 := (Rows.bc (HR.out.right.right.right.right.left) 1 rfl).1
          have da12 := (Rows.bc (HR.out.right.right.right.right.left) 2 rfl).1
          have da13 := (Rows.bc (HR.out.right.right.right.right.left) 3 rfl).1
          have ta1 := (Rows.bc (HR.out.right.right.right.right.left) 0 rfl).2
          have da00 := (Rows.bc (HR.out.right.right.right.right.right) 0 rfl).1
          have da01 := (Rows.bc (HR.out.right.right.right.right.right) 1 rfl).1
          have da02 := (Rows.bc (HR.out.right.right.right.right.right) 2 rfl).1
          have ta0 := (Rows.bc (HR.out.right.right.right.right.right) 0 rfl).2
          have z0f : w7.frozen? ⟨w6.heap.size, 0, none⟩ = false := (Rows.bcell2 (T := 29) (d := 3) (cs := [.int .i64 0, .int .i64 0, .slice none 0 0]) (pre := []) (q := 0) HR.out rfl).2.1
          have z1f : w7.frozen? ⟨w6.heap.size, 1, none⟩ = false := (Rows.bcell2 (T := 29) (d := 3) (cs := [.int .i64 0, .int .i64 0, .slice none 0 0]) (pre := []) (q := 1) HR.out rfl).2.1
          have z2f : w7.frozen? ⟨w6.heap.size, 2, none⟩ = false := (Rows.bcell2 (T := 29) (d := 3) (cs := [.int .i64 0, .int .i64 0, .slice none 0 0]) (pre := []) (q := 2) HR.out rfl).2.1
          refine wpAnyH_ready (rs := [10]) (by kernel_rfl) (by simp) ?_
          refine AllReadyH.cons (o := ?oi111) ?hi111 (fun K hK => ?step111) AllReadyH.nil
          case hi111 => simp only [List.getElem?_toArray, List.getElem?_cons_succ, List.getElem?_cons_zero]; rfl
          rw [if_pos (by rfl)]
          go_simp
          refine hK.out _ _ ⟨((World.cell?_setCell_far _ _ _ _ ne_a0).trans ((World.cell?_setCell_far _ _ _ _ ne_a0).trans ((World.cell?_setCell_far _ _ _ _ ne_a0).trans da00))), ((World.cell?_setCell_far _ _ _ _ ne_a0).trans ((World.cell?_setCell_far _ _ _ _ ne_a0).trans ((World.cell?_setCell_far _ _ _ _ ne_a0).trans da01))), ((World.cell?_setCell_far _ _ _ _ ne_a0).trans ((World.cell?_setCell_far _ _ _ _ ne_a0).trans ((World.cell?_setCell_far _ _ _ _ ne_a0).trans da02))), ((World.cell?_setCell_far _ _ _ _ ne_a1).trans ((World.cell?_setCell_far _ _ _ _ ne_a1).trans ((World.cell?_setCell_far _ _ _ _ ne_a1).trans da10))), ((World.cell?_setCell_far _ _ _ _ ne_a1).trans ((World.cell?_setCell_far _ _ _ _ ne_a1).trans ((World.cell?_setCell_far _ _ _ _ ne_a1).trans da11))), ((World.cell?_setCell_far _ _ _ _ ne_a1).trans ((World.cell?_setCell_far _ _ _ _ ne_a1).trans ((World.cell?_setCell_far _ _ _ _ ne_a1).trans da12))), ((World.cell?_setCell_far _ _ _ _ ne_a1).trans ((World.cell?_setCell_far _ _ _ _ ne_a1).trans ((World.cell?_setCell_far _ _ _ _ ne_a1).trans da13)))⟩ (fun hS9 => ?_)
          refine wpAnyH_take (i := 11) (oi := ?oi112) (v := ?v112) ?hi112 (by kernel_rfl) ?hf112 ?hr112 ?hQ112 (Or.inl ⟨?hw112, ?hy112⟩) (by assumption) ?rest112
          case hi112 => simp only [List.getElem?_toArray, List.getElem?_cons_succ, List.getElem?_cons_zero]; rfl
          case hf112 => kernel_rfl
          case hr112 => kernel_rfl
          case hw112 => rfl
          case hy112 => (intro w hSw; (try dsimp only at hSw); go_simp; all_goals (first | done | with_reducible rfl))
          case hQ112 => exact fun _ _ _ h => h
          simp only [Act.put, List.setIfInBounds_toArray, List.set_cons_zero, List.set_cons_succ]
          refine wpAnyH_take (i := 12) (oi := ?oi113) (v := ?v113) ?hi113 (by kernel_rfl) ?hf113 ?hr113 ?hQ113 (Or.inl ⟨?hw113, ?hy113⟩) (by assumption) ?rest113
          case hi113 => simp only [List.getElem?_toArray, List.getElem?_cons_succ, List.getElem?_cons_zero]; rfl
          case hf113 => kernel_rfl
          case hr113 => kernel_rfl
          case hw113 => rfl
          case hy113 => (intro w hSw; (try dsimp only at hSw); go_simp; all_goals (first | done | with_reducible rfl))
          case hQ113 => exact fun _ _ _ h => h
          simp only [Act.put, List.setIfInBounds_toArray, List.set_cons_zero, List.set_cons_succ]
          refine wpAnyH_done (by kernel_rfl) ?_ _
          replace HR := hid (Rows.boxset (T := 29) (d := 3) (cs := [.int .i64 0, .int .i64 0, .slice none 0 0]) (pre := []) (j := 0) (u := .int .i64 X0.rm) HR.out)
          replace HR := hid (Rows.boxset (T := 29) (d := 3) (cs := [.int .i64 X0.rm, .int .i64 0, .slice none 0 0]) (pre := []) (j := 1) (u := .int .i64 X0.lv) HR.out)
          replace HR := hid (Rows.boxset (T := 29) (d := 3) (cs := [.int .i64 X0.rm, .int .i64 X0.lv, .slice none 0 0]) (pre := []) (j := 2) (u := .slice fW00 fW01 fW02) HR.out)
          replace HB := hid (((HB.out.setCell (p := ⟨_, 0, none⟩) nle (.int .i64 X0.rm)).setCell (p := ⟨_, 1, none⟩) nle (.int .i64 X0.lv)).setCell (p := ⟨_, 2, none⟩) nle (.slice fW00 fW01 fW02))
          go_wp2_with fail
          go_meet
          case rel => exact ⟨_, _, _, _, _, _, _, _, _, _, _, rfl, rfl, rfl, SW0.out, SW1.out, Ss0.out, HR.out, HB.out⟩
        · have ne_a0 : w5.heap.size ≠ w.heap.size := Nat.ne_of_gt ta0
          have ne_a1 : w5.heap.size ≠ w.heap.size + 1 := Nat.ne_of_gt ta1
          have nle : w.heap.size ≤ w5.heap.size := HB.out.size
          have hb : Below w5.heap.size w5 (w5.alloc (.cells #[.int .i64 0, .int .i64 0, .slice none 0 0] 29)) := (Below.refl _ _).alloc (Nat.le_refl _) _
          have hr := Rows.box w5 #[.int .i64 0, .int .i64 0, .slice none 0 0] 29 3 rfl
          replace HR := hid (HR.out.newer hb hr HB.out.size)
          replace HB := hid (HB.out.trans (hb.mono HB.out.size))
          clear hb hr
          clear da10 da11 da12 da13 ta1 da00 da01 da02 ta0
          have dbW00 := (Rows.bc (HR.out.left) 0 rfl).1
          have dbW01 := (Rows.bc (HR.out.left) 1 rfl).1
          have dbW02 := (Rows.bc (HR.out.left) 2 rfl).1
          have tbW0 := (Rows.bc (HR.out.left) 0 rfl).2
          have da10 := (Rows.bc (HR.out.right.right.left) 0 rfl).1
          have da11 := (Rows.bc (HR.out.right.right.left) 1 rfl).1
          have da12 := (Rows.bc (HR.out.right.right.left) 2 rfl).1
          have da13 := (Rows.bc (HR.out.right.right.left) 3 rfl).1
          have ta1 := (Rows.bc (HR.out.right.right.left) 0 rfl).2
          have da00 := (Rows.bc (HR.out.right.right.right) 0 rfl).1
          have da01 := (Rows.bc (HR.out.right.right.right) 1 rfl).1
          have da02 := (Rows.bc (HR.out.right.right.right) 2 rfl).1
          have ta0 := (Rows.bc (HR.out.right.right.right) 0 rfl).2
          refine hK.out _ _ ⟨da00, da01, da02, da10, da11, da12, da13⟩ (fun hS9 => ?_)
          clear dbW00 dbW01 dbW02 tbW0 da10 da11 da12 da13 ta1 da00 da01 da02 ta0
          generalize (w5.alloc (.cells #[.int .i64 0, .int .i64 0, .slice none 0 0] 29)) = w6 at *
          have dbW00 := (Rows.bc (HR.out.left) 0 rfl).1
          have dbW01 := (Rows.bc (HR.out.left) 1 rfl).1
          have dbW02 := (Rows.bc (HR.out.left) 2 rfl).1
          have tbW0 := (Rows.bc (HR.out.left) 0 rfl).2
          have da10 := (Rows.bc (HR.out.right.right.left) 0 rfl).1
          have da11 := (Rows.bc (HR.out.right.right.left) 1 rfl).1
          have da12 := (Rows.bc (HR.out.right.right.left) 2 rfl).1
          have da13 := (Rows.bc (HR.out.right.right.left) 3 rfl).1
          have ta1 := (Rows.bc (HR.out.right.right.left) 0 rfl).2
          have da00 := (Rows.bc (HR.out.right.right.right) 0 rfl).1
          have da01 := (Rows.bc (HR.out.right.right.right) 1 rfl).1
          have da02 := (Rows.bc (HR.out.right.right.right) 2 rfl).1
          have ta0 := (Rows.bc (HR.out.right.right.right) 0 rfl).2
          refine wpAnyH_ready (rs := [4]) (by kernel_rfl) (by simp) ?_
          refine AllReadyH.cons (o := ?oi114) ?hi114 (fun K hK => ?step114) AllReadyH.nil
          case hi114 => simp only [List.getElem?_toArray, List.getElem?_cons_succ, List.getElem?_cons_zero]; rfl
          rw [if_pos (by rfl)]
          go_simp
          go_at_call 24
          refine (cS.out _ _ (Ss0.out.at_ (HR.out.right.left) F0.out)).mono ?_
          rintro e w7 ⟨v0, rsW0, v1, rsW1, rfl, hs0, hs1, hr, hb⟩
          obtain ⟨fW00, fW01, fW02, rfl⟩ := hs0.form hr.left
          have SW0 := hid hs0
          obtain ⟨fW10, fW11, fW12, rfl⟩ := hs1.form hr.right
          have SW1 := hid hs1
          clear hs0 hs1
          replace HR := hid (HR.out.newer hb hr HB.out.size)
          replace HR := hid (by simpa only [List.append_assoc] using HR.out)
          replace HB := hid (HB.out.trans (hb.mono HB.out.size))
          clear hb hr
          clear dbW00 dbW01 dbW02 tbW0 da10 da11 da12 da13 ta1 da00 da01 da02 ta0
          have dbW00 := (Rows.bc (HR.out.right.right.left) 0 rfl).1
          have dbW01 := (Rows.bc (HR.out.right.right.left) 1 rfl).1
          have dbW02 := (Rows.bc (HR.out.right.right.left) 2 rfl).1
          have tbW0 := (Rows.bc (HR.out.right.right.left) 0 rfl).2
          have da10 := (Rows.bc (HR.out.right.right.right.right.left) 0 rfl).1
          have da11 := (Rows.bc (HR.out.right.right.right.right.left) 1 rfl).1
          have da12 := (Rows.bc (HR.out.right.right.right.right.left) 2 rfl).1
          have da13 := (Rows.bc (HR.out.right.right.right.right.left) 3 rfl).1
          have ta1 := (Rows.bc (HR.out.right.right.right.right.left) 0 rfl).2
          have da00 := (Rows.bc (HR.out.right.right.right.right.right) 0 rfl).1
          have da01 := (Rows.bc (HR.out.right.right.right.right.right) 1 rfl).1
          have da02 := (Rows.bc (HR.out.right.right.right.right.right) 2 rfl).1
          have ta0 := (Rows.bc (HR.out.right.right.right.right.right) 0 rfl).2
          refine hK.out _ _ ⟨da00, da01, da02, da10, da11, da12, da13⟩ (fun hS9 => ?_)
          refine wpAnyH_take (i := 5) (oi := ?oi115) (v := ?v115) ?hi115 (by kernel_rfl) ?hf115 ?hr115 ?hQ115 (Or.inl ⟨?hw115, ?hy115⟩) (by assumption) ?rest115
          case hi115 => simp only [List.getElem?_toArray, List.getElem?_cons_succ, List.getElem?_cons_zero]; rfl
          case hf115 => kernel_rfl
          case hr115 => kernel_rfl
          case hw115 => rfl
          case hy115 => (intro w hSw; (try dsimp only at hSw); go_simp; all_goals (first | done | with_reducible rfl))
          case hQ115 => exact fun _ _ _ h => h
          simp only [Act.put, List.setIfInBounds_toArray, List.set_cons_zero, List.set_cons_succ]
          refine wpAnyH_take (i := 6) (oi := ?oi116) (v := ?v116) ?hi116 (by kernel_rfl) ?hf116 ?hr116 ?hQ116 (Or.inl ⟨?hw116, ?hy116⟩) (by assumption) ?rest116
          case hi116 => simp only [List.getElem?_toArray, List.getElem?_cons_succ, List.getElem?_cons_zero]; rfl
          case hf116 => kernel_rfl
          case hr116 => kernel_rfl
          case hw116 => rfl
          case hy116 => (intro w hSw; (try dsimp only at hSw); go_simp; all_goals (first | done | with_reducible rfl))
          case hQ116 => exact fun _ _ _ h => h
          simp only [Act.put, List.setIfInBounds_toArray, List.set_cons_zero, List.set_cons_succ]
          refine wpAnyH_take (i := 7) (oi := ?oi117) (v := ?v117) ?hi117 (by kernel_rfl) ?hf117 ?hr117 ?hQ117 (Or.inl ⟨?hw117, ?hy117⟩) (by assumption) ?rest117
          case hi117 => simp only [List.getElem?_toArray, List.getElem?_cons_succ, List.getElem?_cons_zero]; rfl
          case hf117 => kernel_rfl
          case hr117 => kernel_rfl
          case hw117 => rfl
          case hy117 => (intro w hSw; (try dsimp only at hSw); go_simp; all_goals (first | done | with_reducible rfl))
          case hQ117 => exact fun _ _ _ h => h
          simp only [Act.put, List.setIfInBounds_toArray, List.set_cons_zero, List.set_cons_succ]
          refine wpAnyH_take (i := 8) (oi := ?oi118) (v := ?v118) ?hi118 (by kernel_rfl) ?hf118 ?hr118 ?hQ118 (Or.inl ⟨?hw118, ?hy118⟩) (by assumption) ?rest118
          case hi118 => simp only [List.getElem?_toArray, List.getElem?_cons_succ, List.getElem?_cons_zero]; rfl
          case hf118 => kernel_rfl
          case hr118 => kernel_rfl
          case hw118 => rfl
          case hy118 => (intro w hSw; (try dsimp only at hSw); go_simp; all_goals (first | done | with_reducible rfl))
          case hQ118 => exact fun _ _ _ h => h
          simp only [Act.put, List.setIfInBounds_toArray, List.set_cons_zero, List.set_cons_succ]
          replace HR := hid (HR.out.perm (((List.perm_append_comm_assoc _ _ _).append_left _).trans (List.perm_append_comm_assoc _ _ _)))
          clear dbW00 dbW01 dbW02 tbW0 da10 da11 da12 da13 ta1 da00 da01 da02 ta0
          have dbW00 := (Rows.bc (HR.out.left) 0 rfl).1
          have dbW01 := (Rows.bc (HR.out.left) 1 rfl).1
          have dbW02 := (Rows.bc (HR.out.left) 2 rfl).1
          have tbW0 := (Rows.bc (HR.out.left) 0 rfl).2
          have da10 := (Rows.bc (HR.out.right.right.right.right.left) 0 rfl).1
          have da11 := (Rows.bc (HR.out.right.right.right.right.left) 1 rfl).1
          have da12 := (Rows.bc (HR.out.right.right.right.right.left) 2 rfl).1
          have da13 := (Rows.bc (HR.out.right.right.right.right.left) 3 rfl).1
          have ta1 := (Rows.bc (HR.out.right.right.right.right.left) 0 rfl).2
          have da00 := (Rows.bc (HR.out.right.right.right.right.right) 0 rfl).1
          have da01 := (Rows.bc (HR.out.right.right.right.right.right) 1 rfl).1
          have da02 := (Rows.bc (HR.out.right.right.right.right.right) 2 rfl).1
          have ta0 := (Rows.bc (HR.out.right.right.right.right.right) 0 rfl).2
          have z0f : w7.frozen? ⟨w5.heap.size, 0, none⟩ = false := (Rows.bcell2 (T := 29) (d := 3) (cs := [.int .i64 0, .int .i64 0, .slice none 0 0]) (pre := []) (q := 0) HR.out rfl).2.1
          have z1f : w7.frozen? ⟨w5.heap.size, 1, none⟩ = false := (Rows.bcell2 (T := 29) (d := 3) (cs := [.int .i64 0, .int .i64 0, .slice none 0 0]) (pre := []) (q := 1) HR.out rfl).2.1
          have z2f : w7.frozen? ⟨w5.heap.size, 2, none⟩ = false := (Rows.bcell2 (T := 29) (d := 3) (cs := [.int .i64 0, .int .i64 0, .slice none 0 0]) (pre := []) (q := 2) HR.out rfl).2.1
          refine wpAnyH_ready (rs := [10]) (by kernel_rfl) (by simp) ?_
          refine AllReadyH.cons (o := ?oi119) ?hi119 (fun K hK => ?step119) AllReadyH.nil
          case hi119 => simp only [List.getElem?_toArray, List.getElem?_cons_succ, List.getElem?_cons_zero]; rfl
          rw [if_pos (by rfl)]
          go_simp
          refine hK.out _ _ ⟨((World.cell?_setCell_far _ _ _ _ ne_a0).trans ((World.cell?_setCell_far _ _ _ _ ne_a0).trans ((World.cell?_setCell_far _ _ _ _ ne_a0).trans da00))), ((World.cell?_setCell_far _ _ _ _ ne_a0).trans ((World.cell?_setCell_far _ _ _ _ ne_a0).trans ((World.cell?_setCell_far _ _ _ _ ne_a0).trans da01))), ((World.cell?_setCell_far _ _ _ _ ne_a0).trans ((World.cell?_setCell_far _ _ _ _ ne_a0).trans ((World.cell?_setCell_far _ _ _ _ ne_a0).trans da02))), ((World.cell?_setCell_far _ _ _ _ ne_a1).trans ((World.cell?_setCell_far _ _ _ _ ne_a1).trans ((World.cell?_setCell_far _ _ _ _ ne_a1).trans da10))), ((World.cell?_setCell_far _ _ _ _ ne_a1).trans ((World.cell?_setCell_far _ _ _ _ ne_a1).trans ((World.cell?_setCell_far _ _ _ _ ne_a1).trans da11))), ((World.cell?_setCell_far _ _ _ _ ne_a1).trans ((World.cell?_setCell_far _ _ _ _ ne_a1).trans ((World.cell?_setCell_far _ _ _ _ ne_a1).trans da12))), ((World.cell?_setCell_far _ _ _ _ ne_a1).trans ((World.cell?_setCell_far _ _ _ _ ne_a1).trans ((World.cell?_setCell_far _ _ _ _ ne_a1).trans da13)))⟩ (fun hS9 => ?_)
          refine wpAnyH_take (i := 11) (oi := ?oi120) (v := ?v120) ?hi120 (by kernel_rfl) ?hf120 ?hr120 ?hQ120 (Or.inl ⟨?hw120, ?hy120⟩) (by assumption) ?rest120
          case hi120 => simp only [List.getElem?_toArray, List.getElem?_cons_succ, List.getElem?_cons_zero]; rfl
          case hf120 => kernel_rfl
          case hr120 => kernel_rfl
          case hw120 => rfl
          case hy120 => (intro w hSw; (try dsimp only at hSw); go_simp; all_goals (first | done | with_reducible rfl))
          case hQ120 => exact fun _ _ _ h => h
          simp only [Act.put, List.setIfInBounds_toArray, List.set_cons_zero, List.set_cons_succ]
          refine wpAnyH_take (i := 12) (oi := ?oi121) (v := ?v121) ?hi121 (by kernel_rfl) ?hf121 ?hr121 ?hQ121 (Or.inl ⟨?hw121, ?hy121⟩) (by assumption) ?rest121
          case hi121 => simp only [List.getElem?_toArray, List.getElem?_cons_succ, List.getElem?_cons_zero]; rfl
          case hf121 => kernel_rfl
          case hr121 => kernel_rfl
          case hw121 => rfl
          case hy121 => (intro w hSw; (try dsimp only at hSw); go_simp; all_goals (first | done | with_reducible rfl))
          case hQ121 => exact fun _ _ _ h => h
          simp only [Act.put, List.setIfInBounds_toArray, List.set_cons_zero, List.set_cons_succ]
          refine wpAnyH_done (by kernel_rfl) ?_ _
          replace HR := hid (Rows.boxset (T := 29) (d := 3) (cs := [.int .i64 0, .int .i64 0, .slice none 0 0]) (pre := []) (j := 0) (u := .int .i64 X0.rm) HR.out)
          replace HR := hid (Rows.boxset (T := 29) (d := 3) (cs := [.int .i64 X0.rm, .int .i64 0, .slice none 0 0]) (pre := []) (j := 1) (u := .int .i64 X0.lv) HR.out)
          replace HR := hid (Rows.boxset (T := 29) (d := 3) (cs := [.int .i64 X0.rm, .int .i64 X0.lv, .slice none 0 0]) (pre := []) (j := 2) (u := .slice fW00 fW01 fW02) HR.out)
          replace HB := hid (((HB.out.setCell (p := ⟨_, 0, none⟩) nle (.int .i64 X0.rm)).setCell (p := ⟨_, 1, none⟩) nle (.int .i64 X0.lv)).setCell (p := ⟨_, 2, none⟩) nle (.slice fW00 fW01 fW02))
          go_wp2_with fail
          go_meet
          case rel => exact ⟨_, _, _, _, _, _, _, _, _, _, _, rfl, rfl, rfl, SW0.out, SW1.out, Ss0.out, HR.out, HB.out⟩
      · have ne_a0 : w4.heap.size ≠ w.heap.size := Nat.ne_of_gt ta0
        have ne_a1 : w4.heap.size ≠ w.heap.size + 1 := Nat.ne_of_gt ta1
        have nle : w.heap.size ≤ w4.heap.size := HB.out.size
        have hb : Below w4.heap.size w4 (w4.alloc (.cells #[.int .i64 0, .int .i64 0, .slice none 0 0] 29)) := (Below.refl _ _).alloc (Nat.le_refl _) _
        have hr := Rows.box w4 #[.int .i64 0, .int .i64 0, .slice none 0 0] 29 3 rfl
        replace HR := hid (HR.out.newer hb hr HB.out.size)
        replace HB := hid (HB.out.trans (hb.mono HB.out.size))
        clear hb hr
        clear da10 da11 da12 da13 ta1 da00 da01 da02 ta0
        have dbW00 := (Rows.bc (HR.out.left) 0 rfl).1
        have dbW01 := (Rows.bc (HR.out.left) 1 rfl).1
        have dbW02 := (Rows.bc (HR.out.left) 2 rfl).1
        have tbW0 := (Rows.bc (HR.out.left) 0 rfl).2
        have da10 := (Rows.bc (HR.out.right.right.left) 0 rfl).1
        have da11 := (Rows.bc (HR.out.right.right.left) 1 rfl).1
        have da12 := (Rows.bc (HR.out.right.right.left) 2 rfl).1
        have da13 := (Rows.bc (HR.out.right.right.left) 3 rfl).1
        have ta1 := (Rows.bc (HR.out.right.right.left) 0 rfl).2
        have da00 := (Rows.bc (HR.out.right.right.right) 0 rfl).1
        have da01 := (Rows.bc (HR.out.right.right.right) 1 rfl).1
        have da02 := (Rows.bc (HR.out.right.right.right) 2 rfl).1
        have ta0 := (Rows.bc (HR.out.right.right.right) 0 rfl).2
        refine hK.out _ _ ⟨da00, da01, da02, da10, da11, da12, da13⟩ (fun hS9 => ?_)
        clear dbW00 dbW01 dbW02 tbW0 da10 da11 da12 da13 ta1 da00 da01 da02 ta0
        generalize (w4.alloc (.cells #[.int .i64 0, .int .i64 0, .slice none 0 0] 29)) = w5 at *
        have dbW00 := (Rows.bc (HR.out.left) 0 rfl).1
        have dbW01 := (Rows.bc (HR.out.left) 1 rfl).1
        have dbW02 := (Rows.bc (HR.out.left) 2 rfl).1
        have tbW0 := (Rows.bc (HR.out.left) 0 rfl).2
        have da10 := (Rows.bc (HR.out.right.right.left) 0 rfl).1
        have da11 := (Rows.bc (HR.out.right.right.left) 1 rfl).1
        have da12 := (Rows.bc (HR.out.right.right.left) 2 rfl).1
        have da13 := (Rows.bc (HR.out.right.right.left) 3 rfl).1
        have ta1 := (Rows.bc (HR.out.right.right.left) 0 rfl).2
        have da00 := (Rows.bc (HR.out.right.right.right) 0 rfl).1
        have da01 := (Rows.bc (HR.out.right.right.right) 1 rfl).1
        have da02 := (Rows.bc (HR.out.right.right.right) 2 rfl).1
        have ta0 := (Rows.bc (HR.out.right.right.right) 0 rfl).2
        refine wpAnyH_ready (rs := [3]) (by kernel_rfl) (by simp) ?_
        refine AllReadyH.cons (o := ?oi122) ?hi122 (fun K hK => ?step122) AllReadyH.nil
        case hi122 => simp only [List.getElem?_toArray, List.getElem?_cons_succ, List.getElem?_cons_zero]; rfl
        rw [if_pos (by rfl)]
        go_simp
        go_at_call 25
        refine (toRecord_c nm1 lv1 tx1 sq1 _).mono ?_
        rintro e w6 ⟨rfl, hb⟩
        replace HR := hid (HR.out.below hb)
        replace HB := hid (HB.out.trans (hb.mono HB.out.size))
        clear hb
        clear dbW00 dbW01 dbW02 tbW0 da10 da11 da12 da13 ta1 da00 da01 da02 ta0
        have dbW00 := (Rows.bc (HR.out.left) 0 rfl).1
        have dbW01 := (Rows.bc (HR.out.left) 1 rfl).1
        have dbW02 := (Rows.bc (HR.out.left) 2 rfl).1
        have tbW0 := (Rows.bc (HR.out.left) 0 rfl).2
        have da10 := (Rows.bc (HR.out.right.right.left) 0 rfl).1
        have da11 := (Rows.bc (HR.out.right.right.left) 1 rfl).1
        have da12 := (Rows.bc (HR.out.right.right.left) 2 rfl).1
        have da13 := (Rows.bc (HR.out.right.right.left) 3 rfl).1
        have ta1 := (Rows.bc (HR.out.right.right.left) 0 rfl).2
        have da00 := (Rows.bc (HR.out.right.right.right) 0 rfl).1
        have da01 := (Rows.bc (HR.out.right.right.right) 1 rfl).1
        have da02 := (Rows.bc (HR.out.right.right.right) 2 rfl).1
        have ta0 := (Rows.bc (HR.out.right.right.right) 0 rfl).2
        refine hK.out _ _ ⟨da00, da01, da02, da10, da11, da12, da13⟩ (fun hS9 => ?_)
        refine wpAnyH_ready (rs := [4]) (by kernel_rfl) (by simp) ?_
        refine AllReadyH.cons (o := ?oi123) ?hi123 (fun K hK => ?step123) AllReadyH.nil
        case hi123 => simp only [List.getElem?_toArray, List.getElem?_cons_succ, List.getElem?_cons_zero]; rfl
        rw [if_pos (by rfl)]
        go_simp
        go_at_call 24
        refine (cS.out _ _ (Ss0.out.at_ (HR.out.right.left) F0.out)).mono ?_
        rintro e w7 ⟨v0, rsW0, v1, rsW1, rfl, hs0, hs1, hr, hb⟩
        obtain ⟨fW00, fW01, fW02, rfl⟩ := hs0.form hr.left
        have SW0 := hid hs0
        obtain ⟨fW10, fW11, fW12, rfl⟩ := hs1.form hr.right
        have SW1 := hid hs1
        clear hs0 hs1
        replace HR := hid (HR.out.newer hb hr HB.out.size)
        replace HR := hid (by simpa only [List.append_assoc] using HR.out)
        replace HB := hid (HB.out.trans (hb.mono HB.out.size))
        clear hb hr
        clear dbW00 dbW01 dbW02 tbW0 da10 da11 da12 da13 ta1 da00 da01 da02 ta0
        have dbW00 := (Rows.bc (HR.out.right.right.left) 0 rfl).1
        have dbW01 := (Rows.bc (HR.out.right.right.left) 1 rfl).1
        have dbW02 := (Rows.bc (HR.out.right.right.left) 2 rfl).1
        have tbW0 := (Rows.bc (HR.out.right.right.left) 0 rfl).2
        have da10 := (Rows.bc (HR.out.right.right.right.right.left) 0 rfl).1
        have da11 := (Rows.bc (HR.out.right.right.right.right.left) 1 rfl).1
        have da12 := (Rows.bc (HR.out.right.right.right.right.left) 2 rfl).1
        have da13 := (Rows.bc (HR.out.right.right.right.right.left) 3 rfl).1
        have ta1 := (Rows.bc (HR.out.right.right.right.right.left) 0 rfl).2
        have da00 := (Rows.bc (HR.out.right.right.right.right.right) 0 rfl).1
        have da01 := (Rows.bc (HR.out.right.right.right.right.right) 1 rfl).1
        have da02 := (Rows.bc (HR.out.right.right.right.right.right) 2 rfl).1
        have ta0 := (Rows.bc (HR.out.right.right.right.right.right) 0 rfl).2
        refine hK.out _ _ ⟨da00, da01, da02, da10, da11, da12, da13⟩ (fun hS9 => ?_)
        refine wpAnyH_take (i := 5) (oi := ?oi124) (v := ?v124) ?hi124 (by kernel_rfl) ?hf124 ?hr124 ?hQ124 (Or.inl ⟨?hw124, ?hy124⟩) (by assumption) ?rest124
        case hi124 => simp only [List.getElem?_toArray, List.getElem?_cons_succ, List.getElem?_cons_zero]; rfl
        case hf124 => kernel_rfl
        case hr124 => kernel_rfl
        case hw124 => rfl
        case hy124 => (intro w hSw; (try dsimp only at hSw); go_simp; all_goals (first | done | with_reducible rfl))
        case hQ124 => exact fun _ _ _ h => h
        simp only [Act.put, List.setIfInBounds_toArray, List.set_cons_zero, List.set_cons_succ]
        refine wpAnyH_take (i := 6) (oi := ?oi125) (v := ?v125) ?hi125 (by kernel_rfl) ?hf125 ?hr125 ?hQ125 (Or.inl ⟨?hw125, ?hy125⟩) (by assumption) ?rest125
        case hi125 => simp only [List.getElem?_toArray, List.getElem?_cons_succ, List.getElem?_cons_zero]; rfl
        case hf125 => kernel_rfl
        case hr125 => kernel_rfl
        case hw125 => rfl
        case hy125 => (intro w hSw; (try dsimp only at hSw); go_simp; all_goals (first | done | with_reducible rfl))
        case hQ125 => exact fun _ _ _ h => h
        simp only [Act.put, List.setIfInBounds_toArray, List.set_cons_zero, List.set_cons_succ]
        refine wpAnyH_take (i := 7) (oi := ?oi126) (v := ?v126) ?hi126 (by kernel_rfl) ?hf126 ?hr126 ?hQ126 (Or.inl ⟨?hw126, ?hy126⟩) (by assumption) ?rest126
        case hi126 => simp only [List.getElem?_toArray, List.getElem?_cons_succ, List.getElem?_cons_zero]; rfl
        case hf126 => kernel_rfl
        case hr126 => kernel_rfl
        case hw126 => rfl
        case hy126 => (intro w hSw; (try dsimp only at hSw); go_simp; all_goals (first | done | with_reducible rfl))
        case hQ126 => exact fun _ _ _ h => h
        simp only [Act.put, List.setIfInBounds_toArray, List.set_cons_zero, List.set_cons_succ]
        refine wpAnyH_take (i := 8) (oi := ?oi127) (v := ?v127) ?hi127 (by kernel_rfl) ?hf127 ?hr127 ?hQ127 (Or.inl ⟨?hw127, ?hy127⟩) (by assumption) ?rest127
        case hi127 => simp only [List.getElem?_toArray, List.getElem?_cons_succ, List.getElem?_cons_zero]; rfl
        case hf127 => kernel_rfl
        case hr127 => kernel_rfl
        case hw127 => rfl
        case hy127 => (intro w hSw; (try dsimp only at hSw); go_simp; all_goals (first | done | with_reducible rfl))
        case hQ127 => exact fun _ _ _ h => h
        simp only [Act.put, List.setIfInBounds_toArray, List.set_cons_zero, List.set_cons_succ]
        replace HR := hid (HR.out.perm (((List.perm_append_comm_assoc _ _ _).append_left _).trans (List.perm_append_comm_assoc _ _ _)))
        clear dbW00 dbW01 dbW02 tbW0 da10 da11 da12 da13 ta1 da00 da01 da02 ta0
        have dbW00 := (Rows.bc (HR.out.left) 0 rfl).1
        have dbW01 := (Rows.bc (HR.out.left) 1 rfl).1
        have dbW02 := (Rows.bc (HR.out.left) 2 rfl).1
        have tbW0 := (Rows.bc (HR.out.left) 0 rfl).2
        have da10 := (Rows.bc (HR.out.right.right.right.right.left) 0 rfl).1
        have da11 := (Rows.bc (HR.out.right.right.right.right.left) 1 rfl).1
        have da12 := (Rows.bc (HR.out.right.right.right.right.left) 2 rfl).1
        have da13 := (Rows.bc (HR.out.right.right.right.right.left) 3 rfl).1
        have ta1 := (Rows.bc (HR.out.right.right.right.right.left) 0 rfl).2
        have da00 := (Rows.bc (HR.out.right.right.right.right.right) 0 rfl).1
        have da01 := (Rows.bc (HR.out.right.right.right.right.right) 1 rfl).1
        have da02 := (Rows.bc (HR.out.right.right.right.right.right) 2 rfl).1
        have ta0 := (Rows.bc (HR.out.right.right.right.right.right) 0 rfl).2
        have z0f : w7.frozen? ⟨w4.heap.size, 0, none⟩ = false := (Rows.bcell2 (T := 29) (d := 3) (cs := [.int .i64 0, .int .i64 0, .slice none 0 0]) (pre := []) (q := 0) HR.out rfl).2.1
        have z1f : w7.frozen? ⟨w4.heap.size, 1, none⟩ = false := (Rows.bcell2 (T := 29) (d := 3) (cs := [.int .i64 0, .int .i64 0, .slice none 0 0]) (pre := []) (q := 1) HR.out rfl).2.1
        have z2f : w7.frozen? ⟨w4.heap.size, 2, none⟩ = false := (Rows.bcell2 (T := 29) (d := 3) (cs := [.int .i64 0, .int .i64 0, .slice none 0 0]) (pre := []) (q := 2) HR.out rfl).2.1
        refine wpAnyH_ready (rs := [10]) (by kernel_rfl) (by simp) ?_
        refine AllReadyH.cons (o := ?oi128) ?hi128 (fun K hK => ?step128) AllReadyH.nil
        case hi128 => simp only [List.getElem?_toArray, List.getElem?_cons_succ, List.getElem?_cons_zero]; rfl
        rw [if_pos (by rfl)]
        go_simp
        refine hK.out _ _ ⟨((World.cell?_setCell_far _ _ _ _ ne_a0).trans ((World.cell?_setCell_far _ _ _ _ ne_a0).trans ((World.cell?_setCell_far _ _ _ _ ne_a0).trans da00))), ((World.cell?_setCell_far _ _ _ _ ne_a0).trans ((World.cell?_setCell_far _ _ _ _ ne_a0).trans ((World.cell?_setCell_far _ _ _ _ ne_a0).trans da01))), ((World.cell?_setCell_far _ _ _ _ ne_a0).trans ((World.cell?_setCell_far _ _ _ _ ne_a0).trans ((World.cell?_setCell_far _ _ _ _ ne_a0).trans da02))), ((World.cell?_setCell_far _ _ _ _ ne_a1).trans ((World.cell?_setCell_far _ _ _ _ ne_a1).trans ((World.cell?_setCell_far _ _ _ _ ne_a1).trans da10))), ((World.cell?_setCell_far _ _ _ _ ne_a1).trans ((World.cell?_setCell_far _ _ _ _ ne_a1).trans ((World.cell?_setCell_far _ _ _ _ ne_a1).trans da11))), ((World.cell?_setCell_far _ _ _ _ ne_a1).trans ((World.cell?_setCell_far _ _ _ _ ne_a1).trans ((World.cell?_setCell_far _ _ _ _ ne_a1).trans da12))), ((World.cell?_setCell_far _ _ _ _ ne_a1).trans ((World.cell?_setCell_far _ _ _ _ ne_a1).trans ((World.cell?_setCell_far _ _ _ _ ne_a1).trans da13)))⟩ (fun hS9 => ?_)
        refine wpAnyH_take (i := 11) (oi := ?oi129) (v := ?v129) ?hi129 (by kernel_rfl) ?hf129 ?hr129 ?hQ129 (Or.inl ⟨?hw129, ?hy129⟩) (by assumption) ?rest129
        case hi129 => simp only [List.getElem?_toArray, List.getElem?_cons_succ, List.getElem?_cons_zero]; rfl
        case hf129 => kernel_rfl
        case hr129 => kernel_rfl
        case hw129 => rfl
        case hy129 => (intro w hSw; (try dsimp only at hSw); go_simp; all_goals (first | done | with_reducible rfl))
        case hQ129 => exact fun _ _ _ h => h
        simp only [Act.put, List.setIfInBounds_toArray, List.set_cons_zero, List.set_cons_succ]
        refine wpAnyH_take (i := 12) (oi := ?oi130) (v := ?v130) ?hi130 (by kernel_rfl) ?hf130 ?hr130 ?hQ130 (Or.inl ⟨?hw130, ?hy130⟩) (by assumption) ?rest130
        case hi130 => simp only [List.getElem?_toArray, List.getElem?_cons_succ, List.getElem?_cons_zero]; rfl
        case hf130 => kernel_rfl
        case hr130 => kernel_rfl
        case hw130 => rfl
        case hy130 => (intro w hSw; (try dsimp only at hSw); go_simp; all_goals (first | done | with_reducible rfl))
        case hQ130 => exact fun _ _ _ h => h
        simp only [Act.put, List.setIfInBounds_toArray, List.set_cons_zero, List.set_cons_succ]
        refine wpAnyH_done (by kernel_rfl) ?_ _
        replace HR := hid (Rows.boxset (T := 29) (d := 3) (cs := [.int .i64 0, .int .i64 0, .slice none 0 0]) (pre := []) (j := 0) (u := .int .i64 X0.rm) HR.out)
        replace HR := hid (Rows.boxset (T := 29) (d := 3) (cs := [.int .i64 X0.rm, .int .i64 0, .slice none 0 0]) (pre := []) (j := 1) (u := .int .i64 X0.lv) HR.out)
        replace HR := hid (Rows.boxset (T := 29) (d := 3) (cs := [.int .i64 X0.rm, .int .i64 X0.lv, .slice none 0 0]) (pre := []) (j := 2) (u := .slice fW00 fW01 fW02) HR.out)
        replace HB := hid (((HB.out.setCell (p := ⟨_, 0, none⟩) nle (.int .i64 X0.rm)).setCell (p := ⟨_, 1, none⟩) nle (.int .i64 X0.lv)).setCell (p := ⟨_, 2, none⟩) nle (.slice fW00 fW01 fW02))
        go_wp2_with fail
        go_meet
        case rel => exact ⟨_, _, _, _, _, _, _, _, _, _, _, rfl, rfl, rfl, SW0.out, SW1.out, Ss0.out, HR.out, HB.out⟩
    · have ne_a0 : w3.heap.size ≠ w.heap.size := Nat.ne_of_gt ta0
      have ne_a1 : w3.heap.size ≠ w.heap.size + 1 := Nat.ne_of_gt ta1
      have nle : w.heap.size ≤ w3.heap.size := HB.out.size
      have hb : Below w3.heap.size w3 (w3.alloc (.cells #[.int .i64 0, .int .i64 0, .slice none 0 0] 29)) := (Below.refl _ _).alloc (Nat.le_refl _) _
      have hr := Rows.box w3 #[.int .i64 0, .int .i64 0, .slice none 0 0] 29 3 rfl
      replace HR := hid (HR.out.newer hb hr HB.out.size)
      replace HB := hid (HB.out.trans (hb.mono HB.out.size))
      clear hb hr
      clear da10 da11 da12 da13 ta1 da00 da01 da02 ta0
      have dbW00 := (Rows.bc (HR.out.left) 0 rfl).1
      have dbW01 := (Rows.bc (HR.out.left) 1 rfl).1
      have dbW02 := (Rows.bc (HR.out.left) 2 rfl).1
      have tbW0 := (Rows.bc (HR.out.left) 0 rfl).2
      have da10 := (Rows.bc (HR.out.right.left) 0 rfl).1
      have da11 := (Rows.bc (HR.out.right.left) 1 rfl).1
      have da12 := (Rows.bc (HR.out.right.left) 2 rfl).1
      have da13 := (Rows.bc (HR.out.right.left) 3 rfl).1
      have ta1 := (Rows.bc (HR.out.right.left) 0 rfl).2
      have da00 := (Rows.bc (HR.out.right.right) 0 rfl).1
      have da01 := (Rows.bc (HR.out.right.right) 1 rfl).1
      have da02 := (Rows.bc (HR.out.right.right) 2 rfl).1
      have ta0 := (Rows.bc (HR.out.right.right) 0 rfl).2
      refine hK.out _ _ ⟨da00, da01, da02, da10, da11, da12, da13⟩ (fun hS9 => ?_)
      clear dbW00 dbW01 dbW02 tbW0 da10 da11 da12 da13 ta1 da00 da01 da02 ta0
      generalize (w3.alloc (.cells #[.int .i64 0, .int .i64 0, .slice none 0 0] 29)) = w4 at *
      have dbW00 := (Rows.bc (HR.out.left) 0 rfl).1
      have dbW01 := (Rows.bc (HR.out.left) 1 rfl).1
      have dbW02 := (Rows.bc (HR.out.left) 2 rfl).1
      have tbW0 := (Rows.bc (HR.out.left) 0 rfl).2
      have da10 := (Rows.bc (HR.out.right.left) 0 rfl).1
      have da11 := (Rows.bc (HR.out.right.left) 1 rfl).1
      have da12 := (Rows.bc (HR.out.right.left) 2 rfl).1
      have da13 := (Rows.bc (HR.out.right.left) 3 rfl).1
      have ta1 := (Rows.bc (HR.out.right.left) 0 rfl).2
      have da00 := (Rows.bc (HR.out.right.right) 0 rfl).1
      have da01 := (Rows.bc (HR.out.right.right) 1 rfl).1
      have da02 := (Rows.bc (HR.out.right.right) 2 rfl).1
      have ta0 := (Rows.bc (HR.out.right.right) 0 rfl).2
      refine wpAnyH_ready (rs := [1]) (by kernel_rfl) (by simp) ?_
      refine AllReadyH.cons (o := ?oi131) ?hi131 (fun K hK => ?step131) AllReadyH.nil
      case hi131 => simp only [List.getElem?_toArray, List.getElem?_cons_succ, List.getElem?_cons_zero]; rfl
      rw [if_pos (by rfl)]
      go_simp
      go_at_call 13
      refine (toBufferY_c A0 n0 c0 d0 w.heap.size _ (T0.out.below HB.out (Nat.le_refl _)) HB.out.size F0.out).mono ?_
      rintro e w5 ⟨v, rss0, rfl, hs, hr, hb⟩
      obtain ⟨fs00, fs01, fs02, rfl⟩ := hs.form hr
      have Ss0 := hid hs
      clear hs
      replace HR := hid (HR.out.newer hb hr HB.out.size)
      replace HB := hid (HB.out.trans (hb.mono HB.out.size))
      clear hb hr
      clear dbW00 dbW01 dbW02 tbW0 da10 da11 da12 da13 ta1 da00 da01 da02 ta0
      have dbW00 := (Rows.bc (HR.out.right.left) 0 rfl).1
      have dbW01 := (Rows.bc (HR.out.right.left) 1 rfl).1
      have dbW02 := (Rows.bc (HR.out.right.left) 2 rfl).1
      have tbW0 := (Rows.bc (HR.out.right.left) 0 rfl).2
      have da10 := (Rows.bc (HR.out.right.right.left) 0 rfl).1
      have da11 := (Rows.bc (HR.out.right.right.left) 1 rfl).1
      have da12 := (Rows.bc (HR.out.right.right.left) 2 rfl).1
      have da13 := (Rows.bc (HR.out.right.right.left) 3 rfl).1
      have ta1 := (Rows.bc (HR.out.right.right.left) 0 rfl).2
      have da00 := (Rows.bc (HR.out.right.right.right) 0 rfl).1
      have da01 := (Rows.bc (HR.out.right.right.right) 1 rfl).1
      have da02 := (Rows.bc (HR.out.right.right.right) 2 rfl).1
      have ta0 := (Rows.bc (HR.out.right.right.right) 0 rfl).2
      refine hK.out _ _ ⟨da00, da01, da02, da10, da11, da12, da13⟩ (fun hS9 => ?_)
      refine wpAnyH_ready (rs := [3]) (by kernel_rfl) (by simp) ?_
      refine AllReadyH.cons (o := ?oi132) ?hi132 (fun K hK => ?step132) AllReadyH.nil
      case hi132 => simp only [List.getElem?_toArray, List.getElem?_cons_succ, List.getElem?_cons_zero]; rfl
      rw [if_pos (by rfl)]
      go_simp
      go_at_call 25
      refine (toRecord_c nm1 lv1 tx1 sq1 _).mono ?_
      rintro e w6 ⟨rfl, hb⟩
      replace HR := hid (HR.out.below hb)
      replace HB := hid (HB.out.trans (hb.mono HB.out.size))
      clear hb
      clear dbW00 dbW01 dbW02 tbW0 da10 da11 da12 da13 ta1 da00 da01 da02 ta0
      have dbW00 := (Rows.bc (HR.out.right.left) 0 rfl).1
      have dbW01 := (Rows.bc (HR.out.right.left) 1 rfl).1
      have dbW02 := (Rows.bc (HR.out.right.left) 2 rfl).1
      have tbW0 := (Rows.bc (HR.out.right.left) 0 rfl).2
      have da10 := (Rows.bc (HR.out.right.right.left) 0 rfl).1
      have da11 := (Rows.bc (HR.out.right.right.left) 1 rfl).1
      have da12 := (Rows.bc (HR.out.right.right.left) 2 rfl).1
      have da13 := (Rows.bc (HR.out.right.right.left) 3 rfl).1
      have ta1 := (Rows.bc (HR.out.right.right.left) 0 rfl).2
      have da00 := (Rows.bc (HR.out.right.right.right) 0 rfl).1
      have da01 := (Rows.bc (HR.out.right.right.right) 1 rfl).1
      have da02 := (Rows.bc (HR.out.right.right.right) 2 rfl).1
      have ta0 := (Rows.bc (HR.out.right.right.right) 0 rfl).2
      refine hK.out _ _ ⟨da00, da01, da02, da10, da11, da12, da13⟩ (fun hS9 => ?_)
      refine wpAnyH_ready (rs := [4]) (by kernel_rfl) (by simp) ?_
      refine AllReadyH.cons (o := ?oi133) ?hi133 (fun K hK => ?step133) AllReadyH.nil
      case hi133 => simp only [List.getElem?_toArray, List.getElem?_cons_succ, List.getElem?_cons_zero]; rfl
      rw [if_pos (by rfl)]
      go_simp
      go_at_call 24
      refine (cS.out _ _ (Ss0.out.at_ (HR.out.left) F0.out)).mono ?_
      rintro e w7 ⟨v0, rsW0, v1, rsW1, rfl, hs0, hs1, hr, hb⟩
      obtain ⟨fW00, fW01, fW02, rfl⟩ := hs0.form hr.left
      have SW0 := hid hs0
      obtain ⟨fW10, fW11, fW12, rfl⟩ := hs1.form hr.right
      have SW1 := hid hs1
      clear hs0 hs1
      replace HR := hid (HR.out.newer hb hr HB.out.size)
      replace HR := hid (by simpa only [List.append_assoc] using HR.out)
      replace HB := hid (HB.out.trans (hb.mono HB.out.size))
      clear hb hr
      clear dbW00 dbW01 dbW02 tbW0 da10 da11 da12 da13 ta1 da00 da01 da02 ta0
      have dbW00 := (Rows.bc (HR.out.right.right.right.left) 0 rfl).1
      have dbW01 := (Rows.bc (HR.out.right.right.right.left) 1 rfl).1
      have dbW02 := (Rows.bc (HR.out.right.right.right.left) 2 rfl).1
      have tbW0 := (Rows.bc (HR.out.right.right.right.left) 0 rfl).2
      have da10 := (Rows.bc (HR.out.right.right.right.right.left) 0 rfl).1
      have da11 := (Rows.bc (HR.out.right.right.right.right.left) 1 rfl).1
      have da12 := (Rows.bc (HR.out.right.right.right.right.left) 2 rfl).1
      have da13 := (Rows.bc (HR.out.right.right.right.right.left) 3 rfl).1
      have ta1 := (Rows.bc (HR.out.right.right.right.right.left) 0 rfl).2
      have da00 := (Rows.bc (HR.out.right.right.right.right.right) 0 rfl).1
      have da01 := (Rows.bc (HR.out.right.right.right.right.right) 1 rfl).1
      have da02 := (Rows.bc (HR.out.right.right.right.right.right) 2 rfl).1
      have ta0 := (Rows.bc (HR.out.right.right.right.right.right) 0 rfl).2
      refine hK.out _ _ ⟨da00, da01, da02, da10, da11, da12, da13⟩ (fun hS9 => ?_)
      refine wpAnyH_take (i := 5) (oi := ?oi134) (v := ?v134) ?hi134 (by kernel_rfl) ?hf134 ?hr134 ?hQ134 (Or.inl ⟨?hw134, ?hy134⟩) (by assumption) ?rest134
      case hi134 => simp only [List.getElem?_toArray, List.getElem?_cons_succ, List.getElem?_cons_zero]; rfl
      case hf134 => kernel_rfl
      case hr134 => kernel_rfl
      case hw134 => rfl
      case hy134 => (intro w hSw; (try dsimp only at hSw); go_simp; all_goals (first | done | with_reducible rfl))
      case hQ134 => exact fun _ _ _ h => h
      simp only [Act.put, List.setIfInBounds_toArray, List.set_cons_zero, List.set_cons_succ]
      refine wpAnyH_take (i := 6) (oi := ?oi135) (v := ?v135) ?hi135 (by kernel_rfl) ?hf135 ?hr135 ?hQ135 (Or.inl ⟨?hw135, ?hy135⟩) (by assumption) ?rest135
      case hi135 => simp only [List.getElem?_toArray, List.getElem?_cons_succ, List.getElem?_cons_zero]; rfl
      case hf135 => kernel_rfl
      case hr135 => kernel_rfl
      case hw135 => rfl
      case hy135 => (intro w hSw; (try dsimp only at hSw); go_simp; all_goals (first | done | with_reducible rfl))
      case hQ135 => exact fun _ _ _ h => h
      simp only [Act.put, List.setIfInBounds_toArray, List.set_cons_zero, List.set_cons_succ]
      refine wpAnyH_take (i := 7) (oi := ?oi136) (v := ?v136) ?hi136 (by kernel_rfl) ?hf136 ?hr136 ?hQ136 (Or.inl ⟨?hw136, ?hy136⟩) (by assumption) ?rest136
      case hi136 => simp only [List.getElem?_toArray, List.getElem?_cons_succ, List.getElem?_cons_zero]; rfl
      case hf136 => kernel_rfl
      case hr136 => kernel_rfl
      case hw136 => rfl
      case hy136 => (intro w hSw; (try dsimp only at hSw); go_simp; all_goals (first | done | with_reducible rfl))
      case hQ136 => exact fun _ _ _ h => h
      simp only [Act.put, List.setIfInBounds_toArray, List.set_cons_zero, List.set_cons_succ]
      refine wpAnyH_take (i := 8) (oi := ?oi137) (v := ?v137) ?hi137 (by kernel_rfl) ?hf137 ?hr137 ?hQ137 (Or.inl ⟨?hw137, ?hy137⟩) (by assumption) ?rest137
      case hi137 => simp only [List.getElem?_toArray, List.getElem?_cons_succ, List.getElem?_cons_zero]; rfl
      case hf137 => kernel_rfl
      case hr137 => kernel_rfl
      case hw137 => rfl
      case hy137 => (intro w hSw; (try dsimp only at hSw); go_simp; all_goals (first | done | with_reducible rfl))
      case hQ137 => exact fun _ _ _ h => h
      simp only [Act.put, List.setIfInBounds_toArray, List.set_cons_zero, List.set_cons_succ]
      replace HR := hid (HR.out.perm (((((List.perm_append_comm_assoc _ _ _).append_left _).trans (List.perm_append_comm_assoc _ _ _)).append_left _).trans (List.perm_append_comm_assoc _ _ _)))
      clear dbW00 dbW01 dbW02 tbW0 da10 da11 da12 da13 ta1 da00 da01 da02 ta0
      have dbW00 := (Rows.bc (HR.out.left) 0 rfl).1
      have dbW01 := (Rows.bc (HR.out.left) 1 rfl).1
      have dbW02 := (Rows.bc (HR.out.left) 2 rfl).1
      have tbW0 := (Rows.bc (HR.out.left) 0 rfl).2
      have da10 := (Rows.bc (HR.out.right.right.right.right.left) 0 rfl).1
      have da11 := (Rows.bc (HR.out.right.right.right.right.left) 1 rfl).1
      have da12 := (Rows.bc (HR.out.right.right.right.right.left) 2 rfl).1
      have da13 := (Rows.bc (HR.out.right.right.right.right.left) 3 rfl).1
      have ta1 := (Rows.bc (HR.out.right.right.right.right.left) 0 rfl).2
      have da00 := (Rows.bc (HR.out.right.right.right.right.right) 0 rfl).1
      have da01 := (Rows.bc (HR.out.right.right.right.right.right) 1 rfl).1
      have da02 := (Rows.bc (HR.out.right.right.right.right.right) 2 rfl).1
      have ta0 := (Rows.bc (HR.out.right.right.right.right.right) 0 rfl).2
      have z0f : w7.frozen? ⟨w3.heap.size, 0, none⟩ = false := (Rows.bcell2 (T := 29) (d := 3) (cs := [.int .i64 0, .int .i64 0, .slice none 0 0]) (pre := []) (q := 0) HR.out rfl).2.1
      have z1f : w7.frozen? ⟨w3.heap.size, 1, none⟩ = false := (Rows.bcell2 (T := 29) (d := 3) (cs := [.int .i64 0, .int .i64 0, .slice none 0 0]) (pre := []) (q := 1) HR.out rfl).2.1
      have z2f : w7.frozen? ⟨w3.heap.size, 2, none⟩ = false := (Rows.bcell2 (T := 29) (d := 3) (cs := [.int .i64 0, .int .i64 0, .slice none 0 0]) (pre := []) (q := 2) HR.out rfl).2.1
      refine wpAnyH_ready (rs := [10]) (by kernel_rfl) (by simp) ?_
      refine AllReadyH.cons (o := ?oi138) ?hi138 (fun K hK => ?step138) AllReadyH.nil
      case hi138 => simp only [List.getElem?_toArray, List.getElem?_cons_succ, List.getElem?_cons_zero]; rfl
      rw [if_pos (by rfl)]
      go_simp
      refine hK.out _ _ ⟨((World.cell?_setCell_far _ _ _ _ ne_a0).trans ((World.cell?_setCell_far _ _ _ _ ne_a0).trans ((World.cell?_setCell_far _ _ _ _ ne_a0).trans da00))), ((World.cell?_setCell_far _ _ _ _ ne_a0).trans ((World.cell?_setCell_far _ _ _ _ ne_a0).trans ((World.cell?_setCell_far _ _ _ _ ne_a0).trans da01))), ((World.cell?_setCell_far _ _ _ _ ne_a0).trans ((World.cell?_setCell_far _ _ _ _ ne_a0).trans ((World.cell?_setCell_far _ _ _ _ ne_a0).trans da02))), ((World.cell?_setCell_far _ _ _ _ ne_a1).trans ((World.cell?_setCell_far _ _ _ _ ne_a1).trans ((World.cell?_setCell_far _ _ _ _ ne_a1).trans da10))), ((World.cell?_setCell_far _ _ _ _ ne_a1).trans ((World.cell?_setCell_far _ _ _ _ ne_a1).trans ((World.cell?_setCell_far _ _ _ _ ne_a1).trans da11))), ((World.cell?_setCell_far _ _ _ _ ne_a1).trans ((World.cell?_setCell_far _ _ _ _ ne_a1).trans ((World.cell?_setCell_far _ _ _ _ ne_a1).trans da12))), ((World.cell?_setCell_far _ _ _ _ ne_a1).trans ((World.cell?_setCell_far _ _ _ _ ne_a1).trans ((World.cell?_setCell_far _ _ _ _ ne_a1).trans da13)))⟩ (fun hS9 => ?_)
      refine wpAnyH_take (i := 11) (oi := ?oi139) (v := ?v139) ?hi139 (by kernel_rfl) ?hf139 ?hr139 ?hQ139 (Or.inl ⟨?hw139, ?hy139⟩) (by assumption) ?rest139
      case hi139 => simp only [List.getElem?_toArray, List.getElem?_cons_succ, List.getElem?_cons_zero]; rfl
      case hf139 => kernel_rfl
      case hr139 => kernel_rfl
      case hw139 => rfl
      case hy139 => (intro w hSw; (try dsimp only at hSw); go_simp; all_goals (first | done | with_reducible rfl))
      case hQ139 => exact fun _ _ _ h => h
      simp only [Act.put, List.setIfInBounds_toArray, List.set_cons_zero, List.set_cons_succ]
      refine wpAnyH_take (i := 12) (oi := ?oi140) (v := ?v140) ?hi140 (by kernel_rfl) ?hf140 ?hr140 ?hQ140 (Or.inl ⟨?hw140, ?hy140⟩) (by assumption) ?rest140
      case hi140 => simp only [List.getElem?_toArray, List.getElem?_cons_succ, List.getElem?_cons_zero]; rfl
      case hf140 => kernel_rfl
      case hr140 => kernel_rfl
      case hw140 => rfl
      case hy140 => (intro w hSw; (try dsimp only at hSw); go_simp; all_goals (first | done | with_reducible rfl))
      case hQ140 => exact fun _ _ _ h => h
      simp only [Act.put, List.setIfInBounds_toArray, List.set_cons_zero, List.set_cons_succ]
      refine wpAnyH_done (by kernel_rfl) ?_ _
      replace HR := hid (Rows.boxset (T := 29) (d := 3) (cs := [.int .i64 0, .int .i64 0, .slice none 0 0]) (pre := []) (j := 0) (u := .int .i64 X0.rm) HR.out)
      replace HR := hid (Rows.boxset (T := 29) (d := 3) (cs := [.int .i64 X0.rm, .int .i64 0, .slice none 0 0]) (pre := []) (j := 1) (u := .int .i64 X0.lv) HR.out)
      replace HR := hid (Rows.boxset (T := 29) (d := 3) (cs := [.int .i64 X0.rm, .int .i64 X0.lv, .slice none 0 0]) (pre := []) (j := 2) (u := .slice fW00 fW01 fW02) HR.out)
      replace HB := hid (((HB.out.setCell (p := ⟨_, 0, none⟩) nle (.int .i64 X0.rm)).setCell (p := ⟨_, 1, none⟩) nle (.int .i64 X0.lv)).setCell (p := ⟨_, 2, none⟩) nle (.slice fW00 fW01 fW02))
      go_wp2_with fail
      go_meet
      case rel => exact ⟨_, _, _, _, _, _, _, _, _, _, _, rfl, rfl, rfl, SW0.out, SW1.out, Ss0.out, HR.out, HB.out⟩
  case rest =>
    clear HR HB da10 da11 da12 da13 ta1 da00 da01 da02 ta0
    obtain ⟨bbW, fW00, fW01, fW02, rsW0, fW10, fW11, fW12, rsW1, rss0, vs0, rfl, rfl, rfl, hsW0, hsW1, hss0, hr, hb⟩ := hcut
    rename World => w50
    have HR := hid hr
    have HB := hid hb
    clear hr hb
    have SW0 := hid hsW0
    clear hsW0
    have SW1 := hid hsW1
    clear hsW1
    have Ss0 := hid hss0
    clear hss0
    have dbW00 := (Rows.bc (HR.out.left) 0 rfl).1
    have dbW01 := (Rows.bc (HR.out.left) 1 rfl).1
    have dbW02 := (Rows.bc (HR.out.left) 2 rfl).1
    have tbW0 := (Rows.bc (HR.out.left) 0 rfl).2
    have da10 := (Rows.bc (HR.out.right.right.right.right.left) 0 rfl).1
    have da11 := (Rows.bc (HR.out.right.right.right.right.left) 1 rfl).1
    have da12 := (Rows.bc (HR.out.right.right.right.right.left) 2 rfl).1
    have da13 := (Rows.bc (HR.out.right.right.right.right.left) 3 rfl).1
    have ta1 := (Rows.bc (HR.out.right.right.right.right.left) 0 rfl).2
    have da00 := (Rows.bc (HR.out.right.right.right.right.right) 0 rfl).1
    have da01 := (Rows.bc (HR.out.right.right.right.right.right) 1 rfl).1
    have da02 := (Rows.bc (HR.out.right.right.right.right.right) 2 rfl).1
    have ta0 := (Rows.bc (HR.out.right.right.right.right.right) 0 rfl).2
    replace HR := hid (HR.out.sub ((List.Sublist.refl _).append ((List.Sublist.refl _).append ((List.Sublist.refl _).append (List.sublist_append_right _ _)))))
    clear Ss0
    go_wp2_with fail
    refine (toBufferY_c A0 n0 c0 d0 w.heap.size _ (T0.out.below HB.out (Nat.le_refl _)) HB.out.size F0.out).mono ?_
    rintro e w51 ⟨v, rsx0, rfl, hs, hr, hb⟩
    obtain ⟨fx00, fx01, fx02, rfl⟩ := hs.form hr
    have Sx0 := hid hs
    clear hs
    replace HR := hid (HR.out.newer hb hr HB.out.size)
    replace HB := hid (HB.out.trans (hb.mono HB.out.size))
    clear hb hr
    clear dbW00 dbW01 dbW02 tbW0 da10 da11 da12 da13 ta1 da00 da01 da02 ta0
    have dbW00 := (Rows.bc (HR.out.right.left) 0 rfl).1
    have dbW01 := (Rows.bc (HR.out.right.left) 1 rfl).1
    have dbW02 := (Rows.bc (HR.out.right.left) 2 rfl).1
    have tbW0 := (Rows.bc (HR.out.right.left) 0 rfl).2
    have da10 := (Rows.bc (HR.out.right.right.right.right.left) 0 rfl).1
    have da11 := (Rows.bc (HR.out.right.right.right.right.left) 1 rfl).1
    have da12 := (Rows.bc (HR.out.right.right.right.right.left) 2 rfl).1
    have da13 := (Rows.bc (HR.out.right.right.right.right.left) 3 rfl).1
    have ta1 := (Rows.bc (HR.out.right.right.right.right.left) 0 rfl).2
    have da00 := (Rows.bc (HR.out.right.right.right.right.right) 0 rfl).1
    have da01 := (Rows.bc (HR.out.right.right.right.right.right) 1 rfl).1
    have da02 := (Rows.bc (HR.out.right.right.right.right.right) 2 rfl).1
    have ta0 := (Rows.bc (HR.out.right.right.right.right.right) 0 rfl).2
    have hb : Below w51.heap.size w51 (w51.alloc (.cells #[.int .i64 d0.rm, .int .i64 d0.lv, .slice fx00 fx01 fx02] 29)) := (Below.refl _ _).alloc (Nat.le_refl _) _
    have hr := Rows.box w51 #[.int .i64 d0.rm, .int .i64 d0.lv, .slice fx00 fx01 fx02] 29 3 rfl
    replace HR := hid (HR.out.newer hb hr HB.out.size)
    replace HB := hid (HB.out.trans (hb.mono HB.out.size))
    clear hb hr
    clear dbW00 dbW01 dbW02 tbW0 da10 da11 da12 da13 ta1 da00 da01 da02 ta0
    have dbx00 := (Rows.bc (HR.out.left) 0 rfl).1
    have dbx01 := (Rows.bc (HR.out.left) 1 rfl).1
    have dbx02 := (Rows.bc (HR.out.left) 2 rfl).1
    have tbx0 := (Rows.bc (HR.out.left) 0 rfl).2
    have dbW00 := (Rows.bc (HR.out.right.right.left) 0 rfl).1
    have dbW01 := (Rows.bc (HR.out.right.right.left) 1 rfl).1
    have dbW02 := (Rows.bc (HR.out.right.right.left) 2 rfl).1
    have tbW0 := (Rows.bc (HR.out.right.right.left) 0 rfl).2
    have da10 := (Rows.bc (HR.out.right.right.right.right.right.left) 0 rfl).1
    have da11 := (Rows.bc (HR.out.right.right.right.right.right.left) 1 rfl).1
    have da12 := (Rows.bc (HR.out.right.right.right.right.right.left) 2 rfl).1
    have da13 := (Rows.bc (HR.out.right.right.right.right.right.left) 3 rfl).1
    have ta1 := (Rows.bc (HR.out.right.right.right.right.right.left) 0 rfl).2
    have da00 := (Rows.bc (HR.out.right.right.right.right.right.right) 0 rfl).1
    have da01 := (Rows.bc (HR.out.right.right.right.right.right.right) 1 rfl).1
    have da02 := (Rows.bc (HR.out.right.right.right.right.right.right) 2 rfl).1
    have ta0 := (Rows.bc (HR.out.right.right.right.right.right.right) 0 rfl).2
    go_wp2_with fail
    go_cut [10, 11, 12] from 19 (fun s10 s11 s12 wc => ∃ (bb : Nat) (fG00 : Option Addr) (fG01 : Nat) (fG02 : Nat) (rsG0 : List Row) (fG10 : Option Addr) (fG11 : Nat) (fG12 : Nat) (rsG1 : List Row), s10 = .pointer (some ⟨bb, 0, none⟩) ∧ s11 = .slice fG10 fG11 fG12 ∧ s12 = .bool X2 ∧ BufR rsG0 (.agg #[.int .i64 X0.rm, .int .i64 X0.lv, .slice fG00 fG01 fG02]) X0 ∧ RecsR rsG1 (.slice fG10 fG11 fG12) X1 ∧ Rows wc w.heap.size ([bxRow 29 3 (bb) [.int .i64 X0.rm, .int .i64 X0.lv, .slice fG00 fG01 fG02]] ++ (rsG0 ++ (rsG1 ++ ([bxRow 29 3 (w51.heap.size) [.int .i64 d0.rm, .int .i64 d0.lv, .slice fx00 fx01 fx02]] ++ (rsx0 ++ ([bxRow 29 3 (bbW) [.int .i64 X0.rm, .int .i64 X0.lv, .slice fW00 fW01 fW02]] ++ (rsW0 ++ (rsW1 ++ ([bxRow 40 4 (w.heap.size + 1) [.string nm1, .int .i64 lv1, .string tx1, .int .i64 sq1]] ++ ([bxRow 24 3 (w.heap.size) [.int .i64 d0.rm, .int .i64 d0.lv, .slice A0 n0 c0]])))))))))) ∧ Below w.heap.size w wc)
    case first =>
      refine wp_region_held_drew (S := (fun w' : World => w'.cell? ⟨w51.heap.size, 0, none⟩ = some (.int .i64 d0.rm) ∧ w'.cell? ⟨w51.heap.size, 1, none⟩ = some (.int .i64 d0.lv) ∧ w'.cell? ⟨w51.heap.size, 2, none⟩ = some (.slice fx00 fx01 fx02) ∧ w'.cell? ⟨w.heap.size + 1, 0, none⟩ = some (.string nm1) ∧ w'.cell? ⟨w.heap.size + 1, 1, none⟩ = some (.int .i64 lv1) ∧ w'.cell? ⟨w.heap.size + 1, 2, none⟩ = some (.string tx1) ∧ w'.cell? ⟨w.heap.size + 1, 3, none⟩ = some (.int .i64 sq1))) (by kernel_rfl) ⟨dbx00, dbx01, dbx02, da10, da11, da12, da13⟩ (fun hS => ?_)
      refine wpAnyH_take (i := 0) (oi := ?oi141) (v := ?v141) ?hi141 (by kernel_rfl) ?hf141 ?hr141 ?hQ141 (Or.inl ⟨?hw141, ?hy141⟩) (by assumption) ?rest141
      case hi141 => simp only [List.getElem?_toArray, List.getElem?_cons_succ, List.getElem?_cons_zero]; rfl
      case hf141 => kernel_rfl
      case hr141 => kernel_rfl
      case hw141 => rfl
      case hy141 => (intro w hSw; (try dsimp only at hSw); go_simp; all_goals (first | done | with_reducible rfl))
      case hQ141 => exact fun _ _ _ h => h
      simp only [Act.put, List.setIfInBounds_toArray, List.set_cons_zero, List.set_cons_succ]
      refine wpAnyH_take (i := 1) (oi := ?oi142) (v := ?v142) ?hi142 (by kernel_rfl) ?hf142 ?hr142 ?hQ142 (Or.inl ⟨?hw142, ?hy142⟩) (by assumption) ?rest142
      case hi142 => simp only [List.getElem?_toArray, List.getElem?_cons_succ, List.getElem?_cons_zero]; rfl
      case hf142 => kernel_rfl
      case hr142 => kernel_rfl
      case hw142 => rfl
      case hy142 => (intro w hSw; (try dsimp only at hSw); go_simp; all_goals (first | done | with_reducible rfl))
      case hQ142 => exact fun _ _ _ h => h
      simp only [Act.put, List.setIfInBounds_toArray, List.set_cons_zero, List.set_cons_succ]
      replace HR := hid (HR.out.below ((Below.refl (w51.alloc (.cells #[.int .i64 d0.rm, .int .i64 d0.lv, .slice fx00 fx01 fx02] 29)).heap.size (w51.alloc (.cells #[.int .i64 d0.rm, .int .i64 d0.lv, .slice fx00 fx01 fx02] 29))).drew))
      replace HB := hid HB.out.drew
      clear dbx00 dbx01 dbx02 tbx0 dbW00 dbW01 dbW02 tbW0 da10 da11 da12 da13 ta1 da00 da01 da02 ta0
      generalize (w51.alloc (.cells #[.int .i64 d0.rm, .int .i64 d0.lv, .slice fx00 fx01 fx02] 29)).drew = w52 at *
      have dbx00 := (Rows.bc (HR.out.left) 0 rfl).1
      have dbx01 := (Rows.bc (HR.out.left) 1 rfl).1
      have dbx02 := (Rows.bc (HR.out.left) 2 rfl).1
      have tbx0 := (Rows.bc (HR.out.left) 0 rfl).2
      have dbW00 := (Rows.bc (HR.out.right.right.left) 0 rfl).1
      have dbW01 := (Rows.bc (HR.out.right.right.left) 1 rfl).1
      have dbW02 := (Rows.bc (HR.out.right.right.left) 2 rfl).1
      have tbW0 := (Rows.bc (HR.out.right.right.left) 0 rfl).2
      have da10 := (Rows.bc (HR.out.right.right.right.right.right.left) 0 rfl).1
      have da11 := (Rows.bc (HR.out.right.right.right.right.right.left) 1 rfl).1
      have da12 := (Rows.bc (HR.out.right.right.right.right.right.left) 2 rfl).1
      have da13 := (Rows.bc (HR.out.right.right.right.right.right.left) 3 rfl).1
      have ta1 := (Rows.bc (HR.out.right.right.right.right.right.left) 0 rfl).2
      have da00 := (Rows.bc (HR.out.right.right.right.right.right.right) 0 rfl).1
      have da01 := (Rows.bc (HR.out.right.right.right.right.right.right) 1 rfl).1
      have da02 := (Rows.bc (HR.out.right.right.right.right.right.right) 2 rfl).1
      have ta0 := (Rows.bc (HR.out.right.right.right.right.right.right) 0 rfl).2
      refine wpAnyH_ready (rs := [2, 8]) (by kernel_rfl) (by simp) ?_
      refine AllReadyH.cons (o := ?oi143) ?hi143 (fun K hK => ?stepA143) (AllReadyH.cons (o := ?oj143) ?hj143 (fun K hK => ?stepB143) AllReadyH.nil)
      case hi143 => simp only [List.getElem?_toArray, List.getElem?_cons_succ, List.getElem?_cons_zero]; rfl
      case hj143 => simp only [List.getElem?_toArray, List.getElem?_cons_succ, List.getElem?_cons_zero]; rfl
      all_goals rw [if_pos (by rfl)]
      all_goals go_simp
      · go_at_call 25
        refine (toRecord_c nm1 lv1 tx1 sq1 _).mono ?_
        rintro e w53 ⟨rfl, hb⟩
        replace HR := hid (HR.out.below hb)
        replace HB := hid (HB.out.trans (hb.mono HB.out.size))
        clear hb
        clear dbx00 dbx01 dbx02 tbx0 dbW00 dbW01 dbW02 tbW0 da10 da11 da12 da13 ta1 da00 da01 da02 ta0
        have dbx00 := (Rows.bc (HR.out.left) 0 rfl).1
        have dbx01 := (Rows.bc (HR.out.left) 1 rfl).1
        have dbx02 := (Rows.bc (HR.out.left) 2 rfl).1
        have tbx0 := (Rows.bc (HR.out.left) 0 rfl).2
        have dbW00 := (Rows.bc (HR.out.right.right.left) 0 rfl).1
        have dbW01 := (Rows.bc (HR.out.right.right.left) 1 rfl).1
        have dbW02 := (Rows.bc (HR.out.right.right.left) 2 rfl).1
        have tbW0 := (Rows.bc (HR.out.right.right.left) 0 rfl).2
        have da10 := (Rows.bc (HR.out.right.right.right.right.right.left) 0 rfl).1
        have da11 := (Rows.bc (HR.out.right.right.right.right.right.left) 1 rfl).1
        have da12 := (Rows.bc (HR.out.right.right.right.right.right.left) 2 rfl).1
        have da13 := (Rows.bc (HR.out.right.right.right.right.right.left) 3 rfl).1
        have ta1 := (Rows.bc (HR.out.right.right.right.right.right.left) 0 rfl).2
        have da00 := (Rows.bc (HR.out.right.right.right.right.right.right) 0 rfl).1
        have da01 := (Rows.bc (HR.out.right.right.right.right.right.right) 1 rfl).1
        have da02 := (Rows.bc (HR.out.right.right.right.right.right.right) 2 rfl).1
        have ta0 := (Rows.bc (HR.out.right.right.right.right.right.right) 0 rfl).2
        refine hK.out _ _ ⟨dbx00, dbx01, dbx02, da10, da11, da12, da13⟩ (fun hS9 => ?_)
        refine wpAnyH_ready (rs := [3, 8]) (by kernel_rfl) (by simp) ?_
        refine AllReadyH.cons (o := ?oi144) ?hi144 (fun K hK => ?stepA144) (AllReadyH.cons (o := ?oj144) ?hj144 (fun K hK => ?stepB144) AllReadyH.nil)
        case hi144 => simp only [List.getElem?_toArray, List.getElem?_cons_succ, List.getElem?_cons_zero]; rfl
        case hj144 => simp only [List.getElem?_toArray, List.getElem?_cons_succ, List.getElem?_cons_zero]; rfl
        all_goals rw [if_pos (by rfl)]
        all_goals go_simp
        · go_at_call 26
          refine (cI.out _ _ (Sx0.out.at_ (HR.out.right.left) F0.out)).mono ?_
          rintro e w54 ⟨v0, rsG0, v1, rsG1, rfl, hs0, hs1, hr, hb⟩
          obtain ⟨fG00, fG01, fG02, rfl⟩ := hs0.form hr.left
          have SG0 := hid hs0
          obtain ⟨fG10, fG11, fG12, rfl⟩ := hs1.form hr.right
          have SG1 := hid hs1
          clear hs0 hs1
          replace HR := hid (HR.out.newer hb hr HB.out.size)
          replace HR := hid (by simpa only [List.append_assoc] using HR.out)
          replace HB := hid (HB.out.trans (hb.mono HB.out.size))
          clear hb hr
          clear dbx00 dbx01 dbx02 tbx0 dbW00 dbW01 dbW02 tbW0 da10 da11 da12 da13 ta1 da00 da01 da02 ta0
          have dbx00 := (Rows.bc (HR.out.right.right.left) 0 rfl).1
          have dbx01 := (Rows.bc (HR.out.right.right.left) 1 rfl).1
          have dbx02 := (Rows.bc (HR.out.right.right.left) 2 rfl).1
          have tbx0 := (Rows.bc (HR.out.right.right.left) 0 rfl).2
          have dbW00 := (Rows.bc (HR.out.right.right.right.right.left) 0 rfl).1
          have dbW01 := (Rows.bc (HR.out.right.right.right.right.left) 1 rfl).1
          have dbW02 := (Rows.bc (HR.out.right.right.right.right.left) 2 rfl).1
          have tbW0 := (Rows.bc (HR.out.right.right.right.right.left) 0 rfl).2
          have da10 := (Rows.bc (HR.out.right.right.right.right.right.right.right.left) 0 rfl).1
          have da11 := (Rows.bc (HR.out.right.right.right.right.right.right.right.left) 1 rfl).1
          have da12 := (Rows.bc (HR.out.right.right.right.right.right.right.right.left) 2 rfl).1
          have da13 := (Rows.bc (HR.out.right.right.right.right.right.right.right.left) 3 rfl).1
          have ta1 := (Rows.bc (HR.out.right.right.right.right.right.right.right.left) 0 rfl).2
          have da00 := (Rows.bc (HR.out.right.right.right.right.right.right.right.right) 0 rfl).1
          have da01 := (Rows.bc (HR.out.right.right.right.right.right.right.right.right) 1 rfl).1
          have da02 := (Rows.bc (HR.out.right.right.right.right.right.right.right.right) 2 rfl).1
          have ta0 := (Rows.bc (HR.out.right.right.right.right.right.right.right.right) 0 rfl).2
          refine hK.out _ _ ⟨dbx00, dbx01, dbx02, da10, da11, da12, da13⟩ (fun hS9 => ?_)
          refine wpAnyH_take (i := 4) (oi := ?oi145) (v := ?v145) ?hi145 (by kernel_rfl) ?hf145 ?hr145 ?hQ145 (Or.inl ⟨?hw145, ?hy145⟩) (by assumption) ?rest145
          case hi145 => simp only [List.getElem?_toArray, List.getElem?_cons_succ, List.getElem?_cons_zero]; rfl
          case hf145 => kernel_rfl
          case hr145 => kernel_rfl
          case hw145 => rfl
          case hy145 => (intro w hSw; (try dsimp only at hSw); go_simp; all_goals (first | done | with_reducible rfl))
          case hQ145 => exact fun _ _ _ h => h
          simp only [Act.put, List.setIfInBounds_toArray, List.set_cons_zero, List.set_cons_succ]
          refine wpAnyH_take (i := 5) (oi := ?oi146) (v := ?v146) ?hi146 (by kernel_rfl) ?hf146 ?hr146 ?hQ146 (Or.inl ⟨?hw146, ?hy146⟩) (by assumption) ?rest146
          case hi146 => simp only [List.getElem?_toArray, List.getElem?_cons_succ, List.getElem?_cons_zero]; rfl
          case hf146 => kernel_rfl
          case hr146 => kernel_rfl
          case hw146 => rfl
          case hy146 => (intro w hSw; (try dsimp only at hSw); go_simp; all_goals (first | done | with_reducible rfl))
          case hQ146 => exact fun _ _ _ h => h
          simp only [Act.put, List.setIfInBounds_toArray, List.set_cons_zero, List.set_cons_succ]
          refine wpAnyH_take (i := 6) (oi := ?oi147) (v := ?v147) ?hi147 (by kernel_rfl) ?hf147 ?hr147 ?hQ147 (Or.inl ⟨?hw147, ?hy147⟩) (by assumption) ?rest147
          case hi147 => simp only [List.getElem?_toArray, List.getElem?_cons_succ, List.getElem?_cons_zero]; rfl
          case hf147 => kernel_rfl
          case hr147 => kernel_rfl
          case hw147 => rfl
          case hy147 => (intro w hSw; (try dsimp only at hSw); go_simp; all_goals (first | done | with_reducible rfl))
          case hQ147 => exact fun _ _ _ h => h
          simp only [Act.put, List.setIfInBounds_toArray, List.set_cons_zero, List.set_cons_succ]
          refine wpAnyH_take (i := 7) (oi := ?oi148) (v := ?v148) ?hi148 (by kernel_rfl) ?hf148 ?hr148 ?hQ148 (Or.inl ⟨?hw148, ?hy148⟩) (by assumption) ?rest148
          case hi148 => simp only [List.getElem?_toArray, List.getElem?_cons_succ, List.getElem?_cons_zero]; rfl
          case hf148 => kernel_rfl
          case hr148 => kernel_rfl
          case hw148 => rfl
          case hy148 => (intro w hSw; (try dsimp only at hSw); go_simp; all_goals (first | done | with_reducible rfl))
          case hQ148 => exact fun _ _ _ h => h
          simp only [Act.put, List.setIfInBounds_toArray, List.set_cons_zero, List.set_cons_succ]
          refine wpAnyH_ready (rs := [8]) (by kernel_rfl) (by simp) ?_
          refine AllReadyH.cons (o := ?oi149) ?hi149 (fun K hK => ?step149) AllReadyH.nil
          case hi149 => simp only [List.getElem?_toArray, List.getElem?_cons_succ, List.getElem?_cons_zero]; rfl
          rw [if_pos (by rfl)]
          go_simp
          have ne_bx0 : w54.heap.size ≠ w51.heap.size := Nat.ne_of_gt tbx0
          have ne_a1 : w54.heap.size ≠ w.heap.size + 1 := Nat.ne_of_gt ta1
          have nle : w.heap.size ≤ w54.heap.size := HB.out.size
          have hb : Below w54.heap.size w54 (w54.alloc (.cells #[.int .i64 0, .int .i64 0, .slice none 0 0] 29)) := (Below.refl _ _).alloc (Nat.le_refl _) _
          have hr := Rows.box w54 #[.int .i64 0, .int .i64 0, .slice none 0 0] 29 3 rfl
          replace HR := hid (HR.out.newer hb hr HB.out.size)
          replace HB := hid (HB.out.trans (hb.mono HB.out.size))
          clear hb hr
          clear dbx00 dbx01 dbx02 tbx0 dbW00 dbW01 dbW02 tbW0 da10 da11 da12 da13 ta1 da00 da01 da02 ta0
          have dbG00 := (Rows.bc (HR.out.left) 0 rfl).1
          have dbG01 := (Rows.bc (HR.out.left) 1 rfl).1
          have dbG02 := (Rows.bc (HR.out.left) 2 rfl).1
          have tbG0 := (Rows.bc (HR.out.left) 0 rfl).2
          have dbx00 := (Rows.bc (HR.out.right.right.right.left) 0 rfl).1
          have dbx01 := (Rows.bc (HR.out.right.right.right.left) 1 rfl).1
          have dbx02 := (Rows.bc (HR.out.right.right.right.left) 2 rfl).1
          have tbx0 := (Rows.bc (HR.out.right.right.right.left) 0 rfl).2
          have dbW00 := (Rows.bc (HR.out.right.right.right.right.right.left) 0 rfl).1
          have dbW01 := (Rows.bc (HR.out.right.right.right.right.right.left) 1 rfl).1
          have dbW02 := (Rows.bc (HR.out.right.right.right.right.right.left) 2 rfl).1
          have tbW0 := (Rows.bc (HR.out.right.right.right.right.right.left) 0 rfl).2
          have da10 := (Rows.bc (HR.out.right.right.right.right.right.right.right.right.left) 0 rfl).1
          have da11 := (Rows.bc (HR.out.right.right.right.right.right.right.right.right.left) 1 rfl).1
          have da12 := (Rows.bc (HR.out.right.right.right.right.right.right.right.right.left) 2 rfl).1
          have da13 := (Rows.bc (HR.out.right.right.right.right.right.right.right.right.left) 3 rfl).1
          have ta1 := (Rows.bc (HR.out.right.right.right.right.right.right.right.right.left) 0 rfl).2
          have da00 := (Rows.bc (HR.out.right.right.right.right.right.right.right.right.right) 0 rfl).1
          have da01 := (Rows.bc (HR.out.right.right.right.right.right.right.right.right.right) 1 rfl).1
          have da02 := (Rows.bc (HR.out.right.right.right.right.right.right.right.right.right) 2 rfl).1
          have ta0 := (Rows.bc (HR.out.right.right.right.right.right.right.right.right.right) 0 rfl).2
          refine hK.out _ _ ⟨dbx00, dbx01, dbx02, da10, da11, da12, da13⟩ (fun hS9 => ?_)
          clear dbG00 dbG01 dbG02 tbG0 dbx00 dbx01 dbx02 tbx0 dbW00 dbW01 dbW02 tbW0 da10 da11 da12 da13 ta1 da00 da01 da02 ta0
          generalize (w54.alloc (.cells #[.int .i64 0, .int .i64 0, .slice none 0 0] 29)) = w55 at *
          have dbG00 := (Rows.bc (HR.out.left) 0 rfl).1
          have dbG01 := (Rows.bc (HR.out.left) 1 rfl).1
          have dbG02 := (Rows.bc (HR.out.left) 2 rfl).1
          have tbG0 := (Rows.bc (HR.out.left) 0 rfl).2
          have dbx00 := (Rows.bc (HR.out.right.right.right.left) 0 rfl).1
          have dbx01 := (Rows.bc (HR.out.right.right.right.left) 1 rfl).1
          have dbx02 := (Rows.bc (HR.out.right.right.right.left) 2 rfl).1
          have tbx0 := (Rows.bc (HR.out.right.right.right.left) 0 rfl).2
          have dbW00 := (Rows.bc (HR.out.right.right.right.right.right.left) 0 rfl).1
          have dbW01 := (Rows.bc (HR.out.right.right.right.right.right.left) 1 rfl).1
          have dbW02 := (Rows.bc (HR.out.right.right.right.right.right.left) 2 rfl).1
          have tbW0 := (Rows.bc (HR.out.right.right.right.right.right.left) 0 rfl).2
          have da10 := (Rows.bc (HR.out.right.right.right.right.right.right.right.right.left) 0 rfl).1
          have da11 := (Rows.bc (HR.out.right.right.right.right.right.right.right.right.left) 1 rfl).1
          have da12 := (Rows.bc (HR.out.right.right.right.right.right.right.right.right.left) 2 rfl).1
          have da13 := (Rows.bc (HR.out.right.right.right.right.right.right.right.right.left) 3 rfl).1
          have ta1 := (Rows.bc (HR.out.right.right.right.right.right.right.right.right.left) 0 rfl).2
          have da00 := (Rows.bc (HR.out.right.right.right.right.right.right.right.right.right) 0 rfl).1
          have da01 := (Rows.bc (HR.out.right.right.right.right.right.right.right.right.right) 1 rfl).1
          have da02 := (Rows.bc (HR.out.right.right.right.right.right.right.right.right.right) 2 rfl).1
          have ta0 := (Rows.bc (HR.out.right.right.right.right.right.right.right.right.right) 0 rfl).2
          clear dbG00 dbG01 dbG02 tbG0 dbx00 dbx01 dbx02 tbx0 dbW00 dbW01 dbW02 tbW0 da10 da11 da12 da13 ta1 da00 da01 da02 ta0
          have dbG00 := (Rows.bc (HR.out.left) 0 rfl).1
          have dbG01 := (Rows.bc (HR.out.left) 1 rfl).1
          have dbG02 := (Rows.bc (HR.out.left) 2 rfl).1
          have tbG0 := (Rows.bc (HR.out.left) 0 rfl).2
          have dbx00 := (Rows.bc (HR.out.right.right.right.left) 0 rfl).1
          have dbx01 := (Rows.bc (HR.out.right.right.right.left) 1 rfl).1
          have dbx02 := (Rows.bc (HR.out.right.right.right.left) 2 rfl).1
          have tbx0 := (Rows.bc (HR.out.right.right.right.left) 0 rfl).2
          have dbW00 := (Rows.bc (HR.out.right.right.right.right.right.left) 0 rfl).1
          have dbW01 := (Rows.bc (HR.out.right.right.right.right.right.left) 1 rfl).1
          have dbW02 := (Rows.bc (HR.out.right.right.right.right.right.left) 2 rfl).1
          have tbW0 := (Rows.bc (HR.out.right.right.right.right.right.left) 0 rfl).2
          have da10 := (Rows.bc (HR.out.right.right.right.right.right.right.right.right.left) 0 rfl).1
          have da11 := (Rows.bc (HR.out.right.right.right.right.right.right.right.right.left) 1 rfl).1
          have da12 := (Rows.bc (HR.out.right.right.right.right.right.right.right.right.left) 2 rfl).1
          have da13 := (Rows.bc (HR.out.right.right.right.right.right.right.right.right.left) 3 rfl).1
          have ta1 := (Rows.bc (HR.out.right.right.right.right.right.right.right.right.left) 0 rfl).2
          have da00 := (Rows.bc (HR.out.right.right.right.right.right.right.right.right.right) 0 rfl).1
          have da01 := (Rows.bc (HR.out.right.right.right.right.right.right.right.right.right) 1 rfl).1
          have da02 := (Rows.bc (HR.out.right.right.right.right.right.right.right.right.right) 2 rfl).1
          have ta0 := (Rows.bc (HR.out.right.right.right.right.right.right.right.right.right) 0 rfl).2
          have z0f : w55.frozen? ⟨w54.heap.size, 0, none⟩ = false := (Rows.bcell2 (T := 29) (d := 3) (cs := [.int .i64 0, .int .i64 0, .slice none 0 0]) (pre := []) (q := 0) HR.out rfl).2.1
          have z1f : w55.frozen? ⟨w54.heap.size, 1, none⟩ = false := (Rows.bcell2 (T := 29) (d := 3) (cs := [.int .i64 0, .int .i64 0, .slice none 0 0]) (pre := []) (q := 1) HR.out rfl).2.1
          have z2f : w55.frozen? ⟨w54.heap.size, 2, none⟩ = false := (Rows.bcell2 (T := 29) (d := 3) (cs := [.int .i64 0, .int .i64 0, .slice none 0 0]) (pre := []) (q := 2) HR.out rfl).2.1
          refine wpAnyH_ready (rs := [9]) (by kernel_rfl) (by simp) ?_
          refine AllReadyH.cons (o := ?oi150) ?hi150 (fun K hK => ?step150) AllReadyH.nil
          case hi150 => simp only [List.getElem?_toArray, List.getElem?_cons_succ, List.getElem?_cons_zero]; rfl
          rw [if_pos (by rfl)]
          go_simp
          refine hK.out _ _ ⟨((World.cell?_setCell_far _ _ _ _ ne_bx0).trans ((World.cell?_setCell_far _ _ _ _ ne_bx0).trans ((World.cell?_setCell_far _ _ _ _ ne_bx0).trans dbx00))), ((World.cell?_setCell_far _ _ _ _ ne_bx0).trans ((World.cell?_setCell_far _ _ _ _ ne_bx0).trans ((World.cell?_setCell_far _ _ _ _ ne_bx0).trans dbx01))), ((World.cell?_setCell_far _ _ _ _ ne_bx0).trans ((World.cell?_setCell_far _ _ _ _ ne_bx0).trans ((World.cell?_setCell_far _ _ _ _ ne_bx0).trans dbx02))), ((World.cell?_setCell_far _ _ _ _ ne_a1).trans ((World.cell?_setCell_far _ _ _ _ ne_a1).trans ((World.cell?_setCell_far _ _ _ _ ne_a1).trans da10))), ((World.cell?_setCell_far _ _ _ _ ne_a1).trans ((World.cell?_setCell_far _ _ _ _ ne_a1).trans ((World.cell?_setCell_far _ _ _ _ ne_a1).trans da11))), ((World.cell?_setCell_far _ _ _ _ ne_a1).trans ((World.cell?_setCell_far _ _ _ _ ne_a1).trans ((World.cell?_setCell_far _ _ _ _ ne_a1).trans da12))), ((World.cell?_setCell_far _ _ _ _ ne_a1).trans ((World.cell?_setCell_far _ _ _ _ ne_a1).trans ((World.cell?_setCell_far _ _ _ _ ne_a1).trans da13)))⟩ (fun hS9 => ?_)
          refine wpAnyH_take (i := 10) (oi := ?oi151) (v := ?v151) ?hi151 (by kernel_rfl) ?hf151 ?hr151 ?hQ151 (Or.inl ⟨?hw151, ?hy151⟩) (by assumption) ?rest151
          case hi151 => simp only [List.getElem?_toArray, List.getElem?_cons_succ, List.getElem?_cons_zero]; rfl
          case hf151 => kernel_rfl
          case hr151 => kernel_rfl
          case hw151 => rfl
          case hy151 => (intro w hSw; (try dsimp only at hSw); go_simp; all_goals (first | done | with_reducible rfl))
          case hQ151 => exact fun _ _ _ h => h
          simp only [Act.put, List.setIfInBounds_toArray, List.set_cons_zero, List.set_cons_succ]
          refine wpAnyH_take (i := 11) (oi := ?oi152) (v := ?v152) ?hi152 (by kernel_rfl) ?hf152 ?hr152 ?hQ152 (Or.inl ⟨?hw152, ?hy152⟩) (by assumption) ?rest152
          case hi152 => simp only [List.getElem?_toArray, List.getElem?_cons_succ, List.getElem?_cons_zero]; rfl
          case hf152 => kernel_rfl
          case hr152 => kernel_rfl
          case hw152 => rfl
          case hy152 => (intro w hSw; (try dsimp only at hSw); go_simp; all_goals (first | done | with_reducible rfl))
          case hQ152 => exact fun _ _ _ h => h
          simp only [Act.put, List.setIfInBounds_toArray, List.set_cons_zero, List.set_cons_succ]
          refine wpAnyH_done (by kernel_rfl) ?_ _
          replace HR := hid (Rows.boxset (T := 29) (d := 3) (cs := [.int .i64 0, .int .i64 0, .slice none 0 0]) (pre := []) (j := 0) (u := .int .i64 X0.rm) HR.out)
          replace HR := hid (Rows.boxset (T := 29) (d := 3) (cs := [.int .i64 X0.rm, .int .i64 0, .slice none 0 0]) (pre := []) (j := 1) (u := .int .i64 X0.lv) HR.out)
          replace HR := hid (Rows.boxset (T := 29) (d := 3) (cs := [.int .i64 X0.rm, .int .i64 X0.lv, .slice none 0 0]) (pre := []) (j := 2) (u := .slice fG00 fG01 fG02) HR.out)
          replace HB := hid (((HB.out.setCell (p := ⟨_, 0, none⟩) nle (.int .i64 X0.rm)).setCell (p := ⟨_, 1, none⟩) nle (.int .i64 X0.lv)).setCell (p := ⟨_, 2, none⟩) nle (.slice fG00 fG01 fG02))
          go_wp2_with fail
          go_meet
          case rel => exact ⟨_, _, _, _, _, _, _, _, _, rfl, rfl, rfl, SG0.out, SG1.out, HR.out, HB.out⟩
        · have ne_bx0 : w53.heap.size ≠ w51.heap.size := Nat.ne_of_gt tbx0
          have ne_a1 : w53.heap.size ≠ w.heap.size + 1 := Nat.ne_of_gt ta1
          have nle : w.heap.size ≤ w53.heap.size := HB.out.size
          have hb : Below w53.heap.size w53 (w53.alloc (.cells #[.int .i64 0, .int .i64 0, .slice none 0 0] 29)) := (Below.refl _ _).alloc (Nat.le_refl _) _
          have hr := Rows.box w53 #[.int .i64 0, .int .i64 0, .slice none 0 0] 29 3 rfl
          replace HR := hid (HR.out.newer hb hr HB.out.size)
          replace HB := hid (HB.out.trans (hb.mono HB.out.size))
          clear hb hr
          clear dbx00 dbx01 dbx02 tbx0 dbW00 dbW01 dbW02 tbW0 da10 da11 da12 da13 ta1 da00 da01 da02 ta0
          have dbG00 := (Rows.bc (HR.out.left) 0 rfl).1
          have dbG01 := (Rows.bc (HR.out.left) 1 rfl).1
          have dbG02 := (Rows.bc (HR.out.left) 2 rfl).1
          have tbG0 := (Rows.bc (HR.out.left) 0 rfl).2
          have dbx00 := (Rows.bc (HR.out.right.left) 0 rfl).1
          have dbx01 := (Rows.bc (HR.out.right.left) 1 rfl).1
          have dbx02 := (Rows.bc (HR.out.right.left) 2 rfl).1
          have tbx0 := (Rows.bc (HR.out.right.left) 0 rfl).2
          have dbW00 := (Rows.bc (HR.out.right.right.right.left) 0 rfl).1
          have dbW01 := (Rows.bc (HR.out.right.right.right.left) 1 rfl).1
          have dbW02 := (Rows.bc (HR.out.right.right.right.left) 2 rfl).1
          have tbW0 := (Rows.bc (HR.out.right.right.right.left) 0 rfl).2
          have da10 := (Rows.bc (HR.out.right.right.right.right.right.right.left) 0 rfl).1
          have da11 := (Rows.bc (HR.out.right.right.right.right.right.right.left) 1 rfl).1
          have da12 := (Rows.bc (HR.out.right.right.right.right.right.right.left) 2 rfl).1
          have da13 := (Rows.bc (HR.out.right.right.right.right.right.right.left) 3 rfl).1
          have ta1 := (Rows.bc (HR.out.right.right.right.right.right.right.left) 0 rfl).2
          have da00 := (Rows.bc (HR.out.right.right.right.right.right.right.right) 0 rfl).1
          have da01 := (Rows.bc (HR.out.right.right.right.right.right.right.right) 1 rfl).1
          have da02 := (Rows.bc (HR.out.right.right.right.right.right.right.right) 2 rfl).1
          have ta0 := (Rows.bc (HR.out.right.right.right.right.right.right.right) 0 rfl).2
          refine hK.out _ _ ⟨dbx00, dbx01, dbx02, da10, da11, da12, da13⟩ (fun hS9 => ?_)
          clear dbG00 dbG01 dbG02 tbG0 dbx00 dbx01 dbx02 tbx0 dbW00 dbW01 dbW02 tbW0 da10 da11 da12 da13 ta1 da00 da01 da02 ta0
          generalize (w53.alloc (.cells #[.int .i64 0, .int .i64 0, .slice none 0 0] 29)) = w54 at *
          have dbG00 := (Rows.bc (HR.out.left) 0 rfl).1
          have dbG01 := (Rows.bc (HR.out.left) 1 rfl).1
          have dbG02 := (Rows.bc (HR.out.left) 2 rfl).1
          have tbG0 := (Rows.bc (HR.out.left) 0 rfl).2
          have dbx00 := (Rows.bc (HR.out.right.left) 0 rfl).1
          have dbx01 := (Rows.bc (HR.out.right.left) 1 rfl).1
          have dbx02 := (Rows.bc (HR.out.right.left) 2 rfl).1
          have tbx0 := (Rows.bc (HR.out.right.left) 0 rfl).2
          have dbW00 := (Rows.bc (HR.out.right.right.right.left) 0 rfl).1
          have dbW01 := (Rows.bc (HR.out.right.right.right.left) 1 rfl).1
          have dbW02 := (Rows.bc (HR.out.right.right.right.left) 2 rfl).1
          have tbW0 := (Rows.bc (HR.out.right.right.right.left) 0 rfl).2
          have da10 := (Rows.bc (HR.out.right.right.right.right.right.right.left) 0 rfl).1
          have da11 := (Rows.bc (HR.out.right.right.right.right.right.right.left) 1 rfl).1
          have da12 := (Rows.bc (HR.out.right.right.right.right.right.right.left) 2 rfl).1
          have da13 := (Rows.bc (HR.out.right.right.right.right.right.right.left) 3 rfl).1
          have ta1 := (Rows.bc (HR.out.right.right.right.right.right.right.left) 0 rfl).2
          have da00 := (Rows.bc (HR.out.right.right.right.right.right.right.right) 0 rfl).1
          have da01 := (Rows.bc (HR.out.right.right.right.right.right.right.right) 1 rfl).1
          have da02 := (Rows.bc (HR.out.right.right.right.right.right.right.right) 2 rfl).1
          have ta0 := (Rows.bc (HR.out.right.right.right.right.right.right.right) 0 rfl).2
          refine wpAnyH_ready (rs := [3]) (by kernel_rfl) (by simp) ?_
          refine AllReadyH.cons (o := ?oi153) ?hi153 (fun K hK => ?step153) AllReadyH.nil
          case hi153 => simp only [List.getElem?_toArray, List.getElem?_cons_succ, List.getElem?_cons_zero]; rfl
          rw [if_pos (by rfl)]
          go_simp
          go_at_call 26
          refine (cI.out _ _ (Sx0.out.at_ (HR.out.right.right.left) F0.out)).mono ?_
          rintro e w55 ⟨v0, rsG0, v1, rsG1, rfl, hs0, hs1, hr, hb⟩
          obtain ⟨fG00, fG01, fG02, rfl⟩ := hs0.form hr.left
          have SG0 := hid hs0
          obtain ⟨fG10, fG11, fG12, rfl⟩ := hs1.form hr.right
          have SG1 := hid hs1
          clear hs0 hs1
          replace HR := hid (HR.out.newer hb hr HB.out.size)
          replace HR := hid (by simpa only [List.append_assoc] using HR.out)
          replace HB := hid (HB.out.trans (hb.mono HB.out.size))
          clear hb hr
          clear dbG00 dbG01 dbG02 tbG0 dbx00 dbx01 dbx02 tbx0 dbW00 dbW01 dbW02 tbW0 da10 da11 da12 da13 ta1 da00 da01 da02 ta0
          have dbG00 := (Rows.bc (HR.out.right.right.left) 0 rfl).1
          have dbG01 := (Rows.bc (HR.out.right.right.left) 1 rfl).1
          have dbG02 := (Rows.bc (HR.out.right.right.left) 2 rfl).1
          have tbG0 := (Rows.bc (HR.out.right.right.left) 0 rfl).2
          have dbx00 := (Rows.bc (HR.out.right.right.right.left) 0 rfl).1
          have dbx01 := (Rows.bc (HR.out.right.right.right.left) 1 rfl).1
          have dbx02 := (Rows.bc (HR.out.right.right.right.left) 2 rfl).1
          have tbx0 := (Rows.bc (HR.out.right.right.right.left) 0 rfl).2
          have dbW00 := (Rows.bc (HR.out.right.right.right.right.right.left) 0 rfl).1
          have dbW01 := (Rows.bc (HR.out.right.right.right.right.right.left) 1 rfl).1
          have dbW02 := (Rows.bc (HR.out.right.right.right.right.right.left) 2 rfl).1
          have tbW0 := (Rows.bc (HR.out.right.right.right.right.right.left) 0 rfl).2
          have da10 := (Rows.bc (HR.out.right.right.right.right.right.right.right.right.left) 0 rfl).1
          have da11 := (Rows.bc (HR.out.right.right.right.right.right.right.right.right.left) 1 rfl).1
          have da12 := (Rows.bc (HR.out.right.right.right.right.right.right.right.right.left) 2 rfl).1
          have da13 := (Rows.bc (HR.out.right.right.right.right.right.right.right.right.left) 3 rfl).1
          have ta1 := (Rows.bc (HR.out.right.right.right.right.right.right.right.right.left) 0 rfl).2
          have da00 := (Rows.bc (HR.out.right.right.right.right.right.right.right.right.right) 0 rfl).1
          have da01 := (Rows.bc (HR.out.right.right.right.right.right.right.right.right.right) 1 rfl).1
          have da02 := (Rows.bc (HR.out.right.right.right.right.right.right.right.right.right) 2 rfl).1
          have ta0 := (Rows.bc (HR.out.right.right.right.right.right.right.right.right.right) 0 rfl).2
          refine hK.out _ _ ⟨dbx00, dbx01, dbx02, da10, da11, da12, da13⟩ (fun hS9 => ?_)
          refine wpAnyH_take (i := 4) (oi := ?oi154) (v := ?v154) ?hi154 (by kernel_rfl) ?hf154 ?hr154 ?hQ154 (Or.inl ⟨?hw154, ?hy154⟩) (by assumption) ?rest154
          case hi154 => simp only [List.getElem?_toArray, List.getElem?_cons_succ, List.getElem?_cons_zero]; rfl
          case hf154 => kernel_rfl
          case hr154 => kernel_rfl
          case hw154 => rfl
          case hy154 => (intro w hSw; (try dsimp only at hSw); go_simp; all_goals (first | done | with_reducible rfl))
          case hQ154 => exact fun _ _ _ h => h
          simp only [Act.put, List.setIfInBounds_toArray, List.set_cons_zero, List.set_cons_succ]
          refine wpAnyH_take (i := 5) (oi := ?oi155) (v := ?v155) ?hi155 (by kernel_rfl) ?hf155 ?hr155 ?hQ155 (Or.inl ⟨?hw155, ?hy155⟩) (by assumption) ?rest155
          case hi155 => simp only [List.getElem?_toArray, List.getElem?_cons_succ, List.getElem?_cons_zero]; rfl
          case hf155 => kernel_rfl
          case hr155 => kernel_rfl
          case hw155 => rfl
          case hy155 => (intro w hSw; (try dsimp only at hSw); go_simp; all_goals (first | done | with_reducible rfl))
          case hQ155 => exact fun _ _ _ h => h
          simp only [Act.put, List.setIfInBounds_toArray, List.set_cons_zero, List.set_cons_succ]
          refine wpAnyH_take (i := 6) (oi := ?oi156) (v := ?v156) ?hi156 (by kernel_rfl) ?hf156 ?hr156 ?hQ156 (Or.inl ⟨?hw156, ?hy156⟩) (by assumption) ?rest156
          case hi156 => simp only [List.getElem?_toArray, List.getElem?_cons_succ, List.getElem?_cons_zero]; rfl
          case hf156 => kernel_rfl
          case hr156 => kernel_rfl
          case hw156 => rfl
          case hy156 => (intro w hSw; (try dsimp only at hSw); go_simp; all_goals (first | done | with_reducible rfl))
          case hQ156 => exact fun _ _ _ h => h
          simp only [Act.put, List.setIfInBounds_toArray, List.set_cons_zero, List.set_cons_succ]
          refine wpAnyH_take (i := 7) (oi := ?oi157) (v := ?v157) ?hi157 (by kernel_rfl) ?hf157 ?hr157 ?hQ157 (Or.inl ⟨?hw157, ?hy157⟩) (by assumption) ?rest157
          case hi157 => simp only [List.getElem?_toArray, List.getElem?_cons_succ, List.getElem?_cons_zero]; rfl
          case hf157 => kernel_rfl
          case hr157 => kernel_rfl
          case hw157 => rfl
          case hy157 => (intro w hSw; (try dsimp only at hSw); go_simp; all_goals (first | done | with_reducible rfl))
          case hQ157 => exact fun _ _ _ h => h
          simp only [Act.put, List.setIfInBounds_toArray, List.set_cons_zero, List.set_cons_succ]
          replace HR := hid (HR.out.perm (((List.perm_append_comm_assoc _ _ _).append_left _).trans (List.perm_append_comm_assoc _ _ _)))
          clear dbG00 dbG01 dbG02 tbG0 dbx00 dbx01 dbx02 tbx0 dbW00 dbW01 dbW02 tbW0 da10 da11 da12 da13 ta1 da00 da01 da02 ta0
          have dbG00 := (Rows.bc (HR.out.left) 0 rfl).1
          have dbG01 := (Rows.bc (HR.out.left) 1 rfl).1
          have dbG02 := (Rows.bc (HR.out.left) 2 rfl).1
          have tbG0 := (Rows.bc (HR.out.left) 0 rfl).2
          have dbx00 := (Rows.bc (HR.out.right.right.right.left) 0 rfl).1
          have dbx01 := (Rows.bc (HR.out.right.right.right.left) 1 rfl).1
          have dbx02 := (Rows.bc (HR.out.right.right.right.left) 2 rfl).1
          have tbx0 := (Rows.bc (HR.out.right.right.right.left) 0 rfl).2
          have dbW00 := (Rows.bc (HR.out.right.right.right.right.right.left) 0 rfl).1
          have dbW01 := (Rows.bc (HR.out.right.right.right.right.right.left) 1 rfl).1
          have dbW02 := (Rows.bc (HR.out.right.right.right.right.right.left) 2 rfl).1
          have tbW0 := (Rows.bc (HR.out.right.right.right.right.right.left) 0 rfl).2
          have da10 := (Rows.bc (HR.out.right.right.right.right.right.right.right.right.left) 0 rfl).1
          have da11 := (Rows.bc (HR.out.right.right.right.right.right.right.right.right.left) 1 rfl).1
          have da12 := (Rows.bc (HR.out.right.right.right.right.right.right.right.right.left) 2 rfl).1
          have da13 := (Rows.bc (HR.out.right.right.right.right.right.right.right.right.left) 3 rfl).1
          have ta1 := (Rows.bc (HR.out.right.right.right.right.right.right.right.right.left) 0 rfl).2
          have da00 := (Rows.bc (HR.out.right.right.right.right.right.right.right.right.right) 0 rfl).1
          have da01 := (Rows.bc (HR.out.right.right.right.right.right.right.right.right.right) 1 rfl).1
          have da02 := (Rows.bc (HR.out.right.right.right.right.right.right.right.right.right) 2 rfl).1
          have ta0 := (Rows.bc (HR.out.right.right.right.right.right.right.right.right.right) 0 rfl).2
          have z0f : w55.frozen? ⟨w53.heap.size, 0, none⟩ = false := (Rows.bcell2 (T := 29) (d := 3) (cs := [.int .i64 0, .int .i64 0, .slice none 0 0]) (pre := []) (q := 0) HR.out rfl).2.1
          have z1f : w55.frozen? ⟨w53.heap.size, 1, none⟩ = false := (Rows.bcell2 (T := 29) (d := 3) (cs := [.int .i64 0, .int .i64 0, .slice none 0 0]) (pre := []) (q := 1) HR.out rfl).2.1
          have z2f : w55.frozen? ⟨w53.heap.size, 2, none⟩ = false := (Rows.bcell2 (T := 29) (d := 3) (cs := [.int .i64 0, .int .i64 0, .slice none 0 0]) (pre := []) (q := 2) HR.out rfl).2.1
          refine wpAnyH_ready (rs := [9]) (by kernel_rfl) (by simp) ?_
          refine AllReadyH.cons (o := ?oi158) ?hi158 (fun K hK => ?step158) AllReadyH.nil
          case hi158 => simp only [List.getElem?_toArray, List.getElem?_cons_succ, List.getElem?_cons_zero]; rfl
          rw [if_pos (by rfl)]
          go_simp
          refine hK.out _ _ ⟨((World.cell?_setCell_far _ _ _ _ ne_bx0).trans ((World.cell?_setCell_far _ _ _ _ ne_bx0).trans ((World.cell?_setCell_far _ _ _ _ ne_bx0).trans dbx00))), ((World.cell?_setCell_far _ _ _ _ ne_bx0).trans ((World.cell?_setCell_far _ _ _ _ ne_bx0).trans ((World.cell?_setCell_far _ _ _ _ ne_bx0).trans dbx01))), ((World.cell?_setCell_far _ _ _ _ ne_bx0).trans ((World.cell?_setCell_far _ _ _ _ ne_bx0).trans ((World.cell?_setCell_far _ _ _ _ ne_bx0).trans dbx02))), ((World.cell?_setCell_far _ _ _ _ ne_a1).trans ((World.cell?_setCell_far _ _ _ _ ne_a1).trans ((World.cell?_setCell_far _ _ _ _ ne_a1).trans da10))), ((World.cell?_setCell_far _ _ _ _ ne_a1).trans ((World.cell?_setCell_far _ _ _ _ ne_a1).trans ((World.cell?_setCell_far _ _ _ _ ne_a1).trans da11))), ((World.cell?_setCell_far _ _ _ _ ne_a1).trans ((World.cell?_setCell_far _ _ _ _ ne_a1).trans ((World.cell?_setCell_far _ _ _ _ ne_a1).trans da12))), ((World.cell?_setCell_far _ _ _ _ ne_a1).trans ((World.cell?_setCell_far _ _ _ _ ne_a1).trans ((World.cell?_setCell_far _ _ _ _ ne_a1).trans da13)))⟩ (fun hS9 => ?_)
          refine wpAnyH_take (i := 10) (oi := ?oi159) (v := ?v159) ?hi159 (by kernel_rfl) ?hf159 ?hr159 ?hQ159 (Or.inl ⟨?hw159, ?hy159⟩) (by assumption) ?rest159
          case hi159 => simp only [List.getElem?_toArray, List.getElem?_cons_succ, List.getElem?_cons_zero]; rfl
          case hf159 => kernel_rfl
          case hr159 => kernel_rfl
          case hw159 => rfl
          case hy159 => (intro w hSw; (try dsimp only at hSw); go_simp; all_goals (first | done | with_reducible rfl))
          case hQ159 => exact fun _ _ _ h => h
          simp only [Act.put, List.setIfInBounds_toArray, List.set_cons_zero, List.set_cons_succ]
          refine wpAnyH_take (i := 11) (oi := ?oi160) (v := ?v160) ?hi160 (by kernel_rfl) ?hf160 ?hr160 ?hQ160 (Or.inl ⟨?hw160, ?hy160⟩) (by assumption) ?rest160
          case hi160 => simp only [List.getElem?_toArray, List.getElem?_cons_succ, List.getElem?_cons_zero]; rfl
          case hf160 => kernel_rfl
          case hr160 => kernel_rfl
          case hw160 => rfl
          case hy160 => (intro w hSw; (try dsimp only at hSw); go_simp; all_goals (first | done | with_reducible rfl))
          case hQ160 => exact fun _ _ _ h => h
          simp only [Act.put, List.setIfInBounds_toArray, List.set_cons_zero, List.set_cons_succ]
          refine wpAnyH_done (by kernel_rfl) ?_ _
          replace HR := hid (Rows.boxset (T := 29) (d := 3) (cs := [.int .i64 0, .int .i64 0, .slice none 0 0]) (pre := []) (j := 0) (u := .int .i64 X0.rm) HR.out)
          replace HR := hid (Rows.boxset (T := 29) (d := 3) (cs := [.int .i64 X0.rm, .int .i64 0, .slice none 0 0]) (pre := []) (j := 1) (u := .int .i64 X0.lv) HR.out)
          replace HR := hid (Rows.boxset (T := 29) (d := 3) (cs := [.int .i64 X0.rm, .int .i64 X0.lv, .slice none 0 0]) (pre := []) (j := 2) (u := .slice fG00 fG01 fG02) HR.out)
          replace HB := hid (((HB.out.setCell (p := ⟨_, 0, none⟩) nle (.int .i64 X0.rm)).setCell (p := ⟨_, 1, none⟩) nle (.int .i64 X0.lv)).setCell (p := ⟨_, 2, none⟩) nle (.slice fG00 fG01 fG02))
          go_wp2_with fail
          go_meet
          case rel => exact ⟨_, _, _, _, _, _, _, _, _, rfl, rfl, rfl, SG0.out, SG1.out, HR.out, HB.out⟩
      · have ne_bx0 : w52.heap.size ≠ w51.heap.size := Nat.ne_of_gt tbx0
        have ne_a1 : w52.heap.size ≠ w.heap.size + 1 := Nat.ne_of_gt ta1
        have nle : w.heap.size ≤ w52.heap.size := HB.out.size
        have hb : Below w52.heap.size w52 (w52.alloc (.cells #[.int .i64 0, .int .i64 0, .slice none 0 0] 29)) := (Below.refl _ _).alloc (Nat.le_refl _) _
        have hr := Rows.box w52 #[.int .i64 0, .int .i64 0, .slice none 0 0] 29 3 rfl
        replace HR := hid (HR.out.newer hb hr HB.out.size)
        replace HB := hid (HB.out.trans (hb.mono HB.out.size))
        clear hb hr
        clear dbx00 dbx01 dbx02 tbx0 dbW00 dbW01 dbW02 tbW0 da10 da11 da12 da13 ta1 da00 da01 da02 ta0
        have dbG00 := (Rows.bc (HR.out.left) 0 rfl).1
        have dbG01 := (Rows.bc (HR.out.left) 1 rfl).1
        have dbG02 := (Rows.bc (HR.out.left) 2 rfl).1
        have tbG0 := (Rows.bc (HR.out.left) 0 rfl).2
        have dbx00 := (Rows.bc (HR.out.right.left) 0 rfl).1
        have dbx01 := (Rows.bc (HR.out.right.left) 1 rfl).1
        have dbx02 := (Rows.bc (HR.out.right.left) 2 rfl).1
        have tbx0 := (Rows.bc (HR.out.right.left) 0 rfl).2
        have dbW00 := (Rows.bc (HR.out.right.right.right.left) 0 rfl).1
        have dbW01 := (Rows.bc (HR.out.right.right.right.left) 1 rfl).1
        have dbW02 := (Rows.bc (HR.out.right.right.right.left) 2 rfl).1
        have tbW0 := (Rows.bc (HR.out.right.right.right.left) 0 rfl).2
        have da10 := (Rows.bc (HR.out.right.right.right.right.right.right.left) 0 rfl).1
        have da11 := (Rows.bc (HR.out.right.right.right.right.right.right.left) 1 rfl).1
        have da12 := (Rows.bc (HR.out.right.right.right.right.right.right.left) 2 rfl).1
        have da13 := (Rows.bc (HR.out.right.right.right.right.right.right.left) 3 rfl).1
        have ta1 := (Rows.bc (HR.out.right.right.right.right.right.right.left) 0 rfl).2
        have da00 := (Rows.bc (HR.out.right.right.right.right.right.right.right) 0 rfl).1
        have da01 := (Rows.bc (HR.out.right.right.right.right.right.right.right) 1 rfl).1
        have da02 := (Rows.bc (HR.out.right.right.right.right.right.right.right) 2 rfl).1
        have ta0 := (Rows.bc (HR.out.right.right.right.right.right.right.right) 0 rfl).2
        refine hK.out _ _ ⟨dbx00, dbx01, dbx02, da10, da11, da12, da13⟩ (fun hS9 => ?_)
        clear dbG00 dbG01 dbG02 tbG0 dbx00 dbx01 dbx02 tbx0 dbW00 dbW01 dbW02 tbW0 da10 da11 da12 da13 ta1 da00 da01 da02 ta0
        generalize (w52.alloc (.cells #[.int .i64 0, .int .i64 0, .slice none 0 0] 29)) = w53 at *
        have dbG00 := (Rows.bc (HR.out.left) 0 rfl).1
        have dbG01 := (Rows.bc (HR.out.left) 1 rfl).1
        have dbG02 := (Rows.bc (HR.out.left) 2 rfl).1
        have tbG0 := (Rows.bc (HR.out.left) 0 rfl).2
        have dbx00 := (Rows.bc (HR.out.right.left) 0 rfl).1
        have dbx01 := (Rows.bc (HR.out.right.left) 1 rfl).1
        have dbx02 := (Rows.bc (HR.out.right.left) 2 rfl).1
        have tbx0 := (Rows.bc (HR.out.right.left) 0 rfl).2
        have dbW00 := (Rows.bc (HR.out.right.right.right.left) 0 rfl).1
        have dbW01 := (Rows.bc (HR.out.right.right.right.left) 1 rfl).1
        have dbW02 := (Rows.bc (HR.out.right.right.right.left) 2 rfl).1
        have tbW0 := (Rows.bc (HR.out.right.right.right.left) 0 rfl).2
        have da10 := (Rows.bc (HR.out.right.right.right.right.right.right.left) 0 rfl).1
        have da11 := (Rows.bc (HR.out.right.right.right.right.right.right.left) 1 rfl).1
        have da12 := (Rows.bc (HR.out.right.right.right.right.right.right.left) 2 rfl).1
        have da13 := (Rows.bc (HR.out.right.right.right.right.right.right.left) 3 rfl).1
        have ta1 := (Rows.bc (HR.out.right.right.right.right.right.right.left) 0 rfl).2
        have da00 := (Rows.bc (HR.out.right.right.right.right.right.right.right) 0 rfl).1
        have da01 := (Rows.bc (HR.out.right.right.right.right.right.right.right) 1 rfl).1
        have da02 := (Rows.bc (HR.out.right.right.right.right.right.right.right) 2 rfl).1
        have ta0 := (Rows.bc (HR.out.right.right.right.right.right.right.right) 0 rfl).2
        refine wpAnyH_ready (rs := [2]) (by kernel_rfl) (by simp) ?_
        refine AllReadyH.cons (o := ?oi161) ?hi161 (fun K hK => ?step161) AllReadyH.nil
        case hi161 => simp only [List.getElem?_toArray, List.getElem?_cons_succ, List.getElem?_cons_zero]; rfl
        rw [if_pos (by rfl)]
        go_simp
        go_at_call 25
        refine (toRecord_c nm1 lv1 tx1 sq1 _).mono ?_
        rintro e w54 ⟨rfl, hb⟩
        replace HR := hid (HR.out.below hb)
        replace HB := hid (HB.out.trans (hb.mono HB.out.size))
        clear hb
        clear dbG00 dbG01 dbG02 tbG0 dbx00 dbx01 dbx02 tbx0 dbW00 dbW01 dbW02 tbW0 da10 da11 da12 da13 ta1 da00 da01 da02 ta0
        have dbG00 := (Rows.bc (HR.out.left) 0 rfl).1
        have dbG01 := (Rows.bc (HR.out.left) 1 rfl).1
        have dbG02 := (Rows.bc (HR.out.left) 2 rfl).1
        have tbG0 := (Rows.bc (HR.out.left) 0 rfl).2
        have dbx00 := (Rows.bc (HR.out.right.left) 0 rfl).1
        have dbx01 := (Rows.bc (HR.out.right.left) 1 rfl).1
        have dbx02 := (Rows.bc (HR.out.right.left) 2 rfl).1
        have tbx0 := (Rows.bc (HR.out.right.left) 0 rfl).2
        have dbW00 := (Rows.bc (HR.out.right.right.right.left) 0 rfl).1
        have dbW01 := (Rows.bc (HR.out.right.right.right.left) 1 rfl).1
        have dbW02 := (Rows.bc (HR.out.right.right.right.left) 2 rfl).1
        have tbW0 := (Rows.bc (HR.out.right.right.right.left) 0 rfl).2
        have da10 := (Rows.bc (HR.out.right.right.right.right.right.right.left) 0 rfl).1
        have da11 := (Rows.bc (HR.out.right.right.right.right.right.right.left) 1 rfl).1
        have da12 := (Rows.bc (HR.out.right.right.right.right.right.right.left) 2 rfl).1
        have da13 := (Rows.bc (HR.out.right.right.right.right.right.right.left) 3 rfl).1
        have ta1 := (Rows.bc (HR.out.right.right.right.right.right.right.left) 0 rfl).2
        have da00 := (Rows.bc (HR.out.right.right.right.right.right.right.right) 0 rfl).1
        have da01 := (Rows.bc (HR.out.right.right.right.right.right.right.right) 1 rfl).1
        have da02 := (Rows.bc (HR.out.right.right.right.right.right.right.right) 2 rfl).1
        have ta0 := (Rows.bc (HR.out.right.right.right.right.right.right.right) 0 rfl).2
        refine hK.out _ _ ⟨dbx00, dbx01, dbx02, da10, da11, da12, da13⟩ (fun hS9 => ?_)
        refine wpAnyH_ready (rs := [3]) (by kernel_rfl) (by simp) ?_
        refine AllReadyH.cons (o := ?oi162) ?hi162 (fun K hK => ?step162) AllReadyH.nil
        case hi162 => simp only [List.getElem?_toArray, List.getElem?_cons_succ, List.getElem?_cons_zero]; rfl
        rw [if_pos (by rfl)]
        go_simp
        go_at_call 26
        refine (cI.out _ _ (Sx0.out.at_ (HR.out.right.right.left) F0.out)).mono ?_
        rintro e w55 ⟨v0, rsG0, v1, rsG1, rfl, hs0, hs1, hr, hb⟩
        obtain ⟨fG00, fG01, fG02, rfl⟩ := hs0.form hr.left
        have SG0 := hid hs0
        obtain ⟨fG10, fG11, fG12, rfl⟩ := hs1.form hr.right
        have SG1 := hid hs1
        clear hs0 hs1
        replace HR := hid (HR.out.newer hb hr HB.out.size)
        replace HR := hid (by simpa only [List.append_assoc] using HR.out)
        replace HB := hid (HB.out.trans (hb.mono HB.out.size))
        clear hb hr
        clear dbG00 dbG01 dbG02 tbG0 dbx00 dbx01 dbx02 tbx0 dbW00 dbW01 dbW02 tbW0 da10 da11 da12 da13 ta1 da00 da01 da02 ta0
        have dbG00 := (Rows.bc (HR.out.right.right.left) 0 rfl).1
        have dbG01 := (Rows.bc (HR.out.right.right.left) 1 rfl).1
        have dbG02 := (Rows.bc (HR.out.right.right.left) 2 rfl).1
        have tbG0 := (Rows.bc (HR.out.right.right.left) 0 rfl).2
        have dbx00 := (Rows.bc (HR.out.right.right.right.left) 0 rfl).1
        have dbx01 := (Rows.bc (HR.out.right.right.right.left) 1 rfl).1
        have dbx02 := (Rows.bc (HR.out.right.right.right.left) 2 rfl).1
        have tbx0 := (Rows.bc (HR.out.right.right.right.left) 0 rfl).2
        have dbW00 := (Rows.bc (HR.out.right.right.right.right.right.left) 0 rfl).1
        have dbW01 := (Rows.bc (HR.out.right.right.right.right.right.left) 1 rfl).1
        have dbW02 := (Rows.bc (HR.out.right.right.right.right.right.left) 2 rfl).1
        have tbW0 := (Rows.bc (HR.out.right.right.right.right.right.left) 0 rfl).2
        have da10 := (Rows.bc (HR.out.right.right.right.right.right.right.right.right.left) 0 rfl).1
        have da11 := (Rows.bc (HR.out.right.right.right.right.right.right.right.right.left) 1 rfl).1
        have da12 := (Rows.bc (HR.out.right.right.right.right.right.right.right.right.left) 2 rfl).1
        have da13 := (Rows.bc (HR.out.right.right.right.right.right.right.right.right.left) 3 rfl).1
        have ta1 := (Rows.bc (HR.out.right.right.right.right.right.right.right.right.left) 0 rfl).2
        have da00 := (Rows.bc (HR.out.right.right.right.right.right.right.right.right.right) 0 rfl).1
        have da01 := (Rows.bc (HR.out.right.right.right.right.right.right.right.right.right) 1 rfl).1
        have da02 := (Rows.bc (HR.out.right.right.right.right.right.right.right.right.right) 2 rfl).1
        have ta0 := (Rows.bc (HR.out.right.right.right.right.right.right.right.right.right) 0 rfl).2
        refine hK.out _ _ ⟨dbx00, dbx01, dbx02, da10, da11, da12, da13⟩ (fun hS9 => ?_)
        refine wpAnyH_take (i := 4) (oi := ?oi163) (v := ?v163) ?hi163 (by kernel_rfl) ?hf163 ?hr163 ?hQ163 (Or.inl ⟨?hw163, ?hy163⟩) (by assumption) ?rest163
        case hi163 => simp only [List.getElem?_toArray, List.getElem?_cons_succ, List.getElem?_cons_zero]; rfl
        case hf163 => kernel_rfl
        case hr163 => kernel_rfl
        case hw163 => rfl
        case hy163 => (intro w hSw; (try dsimp only at hSw); go_simp; all_goals (first | done | with_reducible rfl))
        case hQ163 => exact fun _ _ _ h => h
        simp only [Act.put, List.setIfInBounds_toArray, List.set_cons_zero, List.set_cons_succ]
        refine wpAnyH_take (i := 5) (oi := ?oi164) (v := ?v164) ?hi164 (by kernel_rfl) ?hf164 ?hr164 ?hQ164 (Or.inl ⟨?hw164, ?hy164⟩) (by assumption) ?rest164
        case hi164 => simp only [List.getElem?_toArray, List.getElem?_cons_succ, List.getElem?_cons_zero]; rfl
        case hf164 => kernel_rfl
        case hr164 => kernel_rfl
        case hw164 => rfl
        case hy164 => (intro w hSw; (try dsimp only at hSw); go_simp; all_goals (first | done | with_reducible rfl))
        case hQ164 => exact fun _ _ _ h => h
        simp only [Act.put, List.setIfInBounds_toArray, List.set_cons_zero, List.set_cons_succ]
        refine wpAnyH_take (i := 6) (oi := ?oi165) (v := ?v165) ?hi165 (by kernel_rfl) ?hf165 ?hr165 ?hQ165 (Or.inl ⟨?hw165, ?hy165⟩) (by assumption) ?rest165
        case hi165 => simp only [List.getElem?_toArray, List.getElem?_cons_succ, List.getElem?_cons_zero]; rfl
        case hf165 => kernel_rfl
        case hr165 => kernel_rfl
        case hw165 => rfl
        case hy165 => (intro w hSw; (try dsimp only at hSw); go_simp; all_goals (first | done | with_reducible rfl))
        case hQ165 => exact fun _ _ _ h => h
        simp only [Act.put, List.setIfInBounds_toArray, List.set_cons_zero, List.set_cons_succ]
        refine wpAnyH_take (i := 7) (oi := ?oi166) (v := ?v166) ?hi166 (by kernel_rfl) ?hf166 ?hr166 ?hQ166 (Or.inl ⟨?hw166, ?hy166⟩) (by assumption) ?rest166
        case hi166 => simp only [List.getElem?_toArray, List.getElem?_cons_succ, List.getElem?_cons_zero]; rfl
        case hf166 => kernel_rfl
        case hr166 => kernel_rfl
        case hw166 => rfl
        case hy166 => (intro w hSw; (try dsimp only at hSw); go_simp; all_goals (first | done | with_reducible rfl))
        case hQ166 => exact fun _ _ _ h => h
        simp only [Act.put, List.setIfInBounds_toArray, List.set_cons_zero, List.set_cons_succ]
        replace HR := hid (HR.out.perm (((List.perm_append_comm_assoc _ _ _).append_left _).trans (List.perm_append_comm_assoc _ _ _)))
        clear dbG00 dbG01 dbG02 tbG0 dbx00 dbx01 dbx02 tbx0 dbW00 dbW01 dbW02 tbW0 da10 da11 da12 da13 ta1 da00 da01 da02 ta0
        have dbG00 := (Rows.bc (HR.out.left) 0 rfl).1
        have dbG01 := (Rows.bc (HR.out.left) 1 rfl).1
        have dbG02 := (Rows.bc (HR.out.left) 2 rfl).1
        have tbG0 := (Rows.bc (HR.out.left) 0 rfl).2
        have dbx00 := (Rows.bc (HR.out.right.right.right.left) 0 rfl).1
        have dbx01 := (Rows.bc (HR.out.right.right.right.left) 1 rfl).1
        have dbx02 := (Rows.bc (HR.out.right.right.right.left) 2 rfl).1
        have tbx0 := (Rows.bc (HR.out.right.right.right.left) 0 rfl).2
        have dbW00 := (Rows.bc (HR.out.right.right.right.right.right.left) 0 rfl).1
        have dbW01 := (Rows.bc (HR.out.right.right.right.right.right.left) 1 rfl).1
        have dbW02 := (Rows.bc (HR.out.right.right.right.right.right.left) 2 rfl).1
        have tbW0 := (Rows.bc (HR.out.right.right.right.right.right.left) 0 rfl).2
        have da10 := (Rows.bc (HR.out.right.right.right.right.right.right.right.right.left) 0 rfl).1
        have da11 := (Rows.bc (HR.out.right.right.right.right.right.right.right.right.left) 1 rfl).1
        have da12 := (Rows.bc (HR.out.right.right.right.right.right.right.right.right.left) 2 rfl).1
        have da13 := (Rows.bc (HR.out.right.right.right.right.right.right.right.right.left) 3 rfl).1
        have ta1 := (Rows.bc (HR.out.right.right.right.right.right.right.right.right.left) 0 rfl).2
        have da00 := (Rows.bc (HR.out.right.right.right.right.right.right.right.right.right) 0 rfl).1
        have da01 := (Rows.bc (HR.out.right.right.right.right.right.right.right.right.right) 1 rfl).1
        have da02 := (Rows.bc (HR.out.right.right.right.right.right.right.right.right.right) 2 rfl).1
        have ta0 := (Rows.bc (HR.out.right.right.right.right.right.right.right.right.right) 0 rfl).2
        have z0f : w55.frozen? ⟨w52.heap.size, 0, none⟩ = false := (Rows.bcell2 (T := 29) (d := 3) (cs := [.int .i64 0, .int .i64 0, .slice none 0 0]) (pre := []) (q := 0) HR.out rfl).2.1
        have z1f : w55.frozen? ⟨w52.heap.size, 1, none⟩ = false := (Rows.bcell2 (T := 29) (d := 3) (cs := [.int .i64 0, .int .i64 0, .slice none 0 0]) (pre := []) (q := 1) HR.out rfl).2.1
        have z2f : w55.frozen? ⟨w52.heap.size, 2, none⟩ = false := (Rows.bcell2 (T := 29) (d := 3) (cs := [.int .i64 0, .int .i64 0, .slice none 0 0]) (pre := []) (q := 2) HR.out rfl).2.1
        refine wpAnyH_ready (rs := [9]) (by kernel_rfl) (by simp) ?_
        refine AllReadyH.cons (o := ?oi167) ?hi167 (fun K hK => ?step167) AllReadyH.nil
        case hi167 => simp only [List.getElem?_toArray, List.getElem?_cons_succ, List.getElem?_cons_zero]; rfl
        rw [if_pos (by rfl)]
        go_simp
        refine hK.out _ _ ⟨((World.cell?_setCell_far _ _ _ _ ne_bx0).trans ((World.cell?_setCell_far _ _ _ _ ne_bx0).trans ((World.cell?_setCell_far _ _ _ _ ne_bx0).trans dbx00))), ((World.cell?_setCell_far _ _ _ _ ne_bx0).trans ((World.cell?_setCell_far _ _ _ _ ne_bx0).trans ((World.cell?_setCell_far _ _ _ _ ne_bx0).trans dbx01))), ((World.cell?_setCell_far _ _ _ _ ne_bx0).trans ((World.cell?_setCell_far _ _ _ _ ne_bx0).trans ((World.cell?_setCell_far _ _ _ _ ne_bx0).trans dbx02))), ((World.cell?_setCell_far _ _ _ _ ne_a1).trans ((World.cell?_setCell_far _ _ _ _ ne_a1).trans ((World.cell?_setCell_far _ _ _ _ ne_a1).trans da10))), ((World.cell?_setCell_far _ _ _ _ ne_a1).trans ((World.cell?_setCell_far _ _ _ _ ne_a1).trans ((World.cell?_setCell_far _ _ _ _ ne_a1).trans da11))), ((World.cell?_setCell_far _ _ _ _ ne_a1).trans ((World.cell?_setCell_far _ _ _ _ ne_a1).trans ((World.cell?_setCell_far _ _ _ _ ne_a1).trans da12))), ((World.cell?_setCell_far _ _ _ _ ne_a1).trans ((World.cell?_setCell_far _ _ _ _ ne_a1).trans ((World.cell?_setCell_far _ _ _ _ ne_a1).trans da13)))⟩ (fun hS9 => ?_)
        refine wpAnyH_take (i := 10) (oi := ?oi168) (v := ?v168) ?hi168 (by kernel_rfl) ?hf168 ?hr168 ?hQ168 (Or.inl ⟨?hw168, ?hy168⟩) (by assumption) ?rest168
        case hi168 => simp only [List.getElem?_toArray, List.getElem?_cons_succ, List.getElem?_cons_zero]; rfl
        case hf168 => kernel_rfl
        case hr168 => kernel_rfl
        case hw168 => rfl
        case hy168 => (intro w hSw; (try dsimp only at hSw); go_simp; all_goals (first | done | with_reducible rfl))
        case hQ168 => exact fun _ _ _ h => h
        simp only [Act.put, List.setIfInBounds_toArray, List.set_cons_zero, List.set_cons_succ]
        refine wpAnyH_take (i := 11) (oi := ?oi169) (v := ?v169) ?hi169 (by kernel_rfl) ?hf169 ?hr169 ?hQ169 (Or.inl ⟨?hw169, ?hy169⟩) (by assumption) ?rest169
        case hi169 => simp only [List.getElem?_toArray, List.getElem?_cons_succ, List.getElem?_cons_zero]; rfl
        case hf169 => kernel_rfl
        case hr169 => kernel_rfl
        case hw169 => rfl
        case hy169 => (intro w hSw; (try dsimp only at hSw); go_simp; all_goals (first | done | with_reducible rfl))
        case hQ169 => exact fun _ _ _ h => h
        simp only [Act.put, List.setIfInBounds_toArray, List.set_cons_zero, List.set_cons_succ]
        refine wpAnyH_done (by kernel_rfl) ?_ _
        replace HR := hid (Rows.boxset (T := 29) (d := 3) (cs := [.int .i64 0, .int .i64 0, .slice none 0 0]) (pre := []) (j := 0) (u := .int .i64 X0.rm) HR.out)
        replace HR := hid (Rows.boxset (T := 29) (d := 3) (cs := [.int .i64 X0.rm, .int .i64 0, .slice none 0 0]) (pre := []) (j := 1) (u := .int .i64 X0.lv) HR.out)
        replace HR := hid (Rows.boxset (T := 29) (d := 3) (cs := [.int .i64 X0.rm, .int .i64 X0.lv, .slice none 0 0]) (pre := []) (j := 2) (u := .slice fG00 fG01 fG02) HR.out)
        replace HB := hid (((HB.out.setCell (p := ⟨_, 0, none⟩) nle (.int .i64 X0.rm)).setCell (p := ⟨_, 1, none⟩) nle (.int .i64 X0.lv)).setCell (p := ⟨_, 2, none⟩) nle (.slice fG00 fG01 fG02))
        go_wp2_with fail
        go_meet
        case rel => exact ⟨_, _, _, _, _, _, _, _, _, rfl, rfl, rfl, SG0.out, SG1.out, HR.out, HB.out⟩
    case rest =>
      clear HR HB dbx00 dbx01 dbx02 tbx0 dbW00 dbW01 dbW02 tbW0 da10 da11 da12 da13 ta1 da00 da01 da02 ta0
      obtain ⟨bbG, fG00, fG01, fG02, rsG0, fG10, fG11, fG12, rsG1, rfl, rfl, rfl, hsG0, hsG1, hr, hb⟩ := hcut
      rename World => w100
      have HR := hid hr
      have HB := hid hb
      clear hr hb
      have SG0 := hid hsG0
      clear hsG0
      have SG1 := hid hsG1
      clear hsG1
      have dbG00 := (Rows.bc (HR.out.left) 0 rfl).1
      have dbG01 := (Rows.bc (HR.out.left) 1 rfl).1
      have dbG02 := (Rows.bc (HR.out.left) 2 rfl).1
      have tbG0 := (Rows.bc (HR.out.left) 0 rfl).2
      have dbx00 := (Rows.bc (HR.out.right.right.right.left) 0 rfl).1
      have dbx01 := (Rows.bc (HR.out.right.right.right.left) 1 rfl).1
      have dbx02 := (Rows.bc (HR.out.right.right.right.left) 2 rfl).1
      have tbx0 := (Rows.bc (HR.out.right.right.right.left) 0 rfl).2
      have dbW00 := (Rows.bc (HR.out.right.right.right.right.right.left) 0 rfl).1
      have dbW01 := (Rows.bc (HR.out.right.right.right.right.right.left) 1 rfl).1
      have dbW02 := (Rows.bc (HR.out.right.right.right.right.right.left) 2 rfl).1
      have tbW0 := (Rows.bc (HR.out.right.right.right.right.right.left) 0 rfl).2
      have da10 := (Rows.bc (HR.out.right.right.right.right.right.right.right.right.left) 0 rfl).1
      have da11 := (Rows.bc (HR.out.right.right.right.right.right.right.right.right.left) 1 rfl).1
      have da12 := (Rows.bc (HR.out.right.right.right.right.right.right.right.right.left) 2 rfl).1
      have da13 := (Rows.bc (HR.out.right.right.right.right.right.right.right.right.left) 3 rfl).1
      have ta1 := (Rows.bc (HR.out.right.right.right.right.right.right.right.right.left) 0 rfl).2
      have da00 := (Rows.bc (HR.out.right.right.right.right.right.right.right.right.right) 0 rfl).1
      have da01 := (Rows.bc (HR.out.right.right.right.right.right.right.right.right.right) 1 rfl).1
      have da02 := (Rows.bc (HR.out.right.right.right.right.right.right.right.right.right) 2 rfl).1
      have ta0 := (Rows.bc (HR.out.right.right.right.right.right.right.right.right.right) 0 rfl).2
      go_wp2_with fail
      refine (eqBufferX_c SG0.out (HR.out.right.left) SW0.out (HR.out.right.right.right.right.right.right.left)).mono ?_
      rintro e w101 ⟨rfl, hb⟩
      replace HR := hid (HR.out.below hb)
      replace HB := hid (HB.out.trans (hb.mono HB.out.size))
      clear hb
      clear dbG00 dbG01 dbG02 tbG0 dbx00 dbx01 dbx02 tbx0 dbW00 dbW01 dbW02 tbW0 da10 da11 da12 da13 ta1 da00 da01 da02 ta0
      have dbG00 := (Rows.bc (HR.out.left) 0 rfl).1
      have dbG01 := (Rows.bc (HR.out.left) 1 rfl).1
      have dbG02 := (Rows.bc (HR.out.left) 2 rfl).1
      have tbG0 := (Rows.bc (HR.out.left) 0 rfl).2
      have dbx00 := (Rows.bc (HR.out.right.right.right.left) 0 rfl).1
      have dbx01 := (Rows.bc (HR.out.right.right.right.left) 1 rfl).1
      have dbx02 := (Rows.bc (HR.out.right.right.right.left) 2 rfl).1
      have tbx0 := (Rows.bc (HR.out.right.right.right.left) 0 rfl).2
      have dbW00 := (Rows.bc (HR.out.right.right.right.right.right.left) 0 rfl).1
      have dbW01 := (Rows.bc (HR.out.right.right.right.right.right.left) 1 rfl).1
      have dbW02 := (Rows.bc (HR.out.right.right.right.right.right.left) 2 rfl).1
      have tbW0 := (Rows.bc (HR.out.right.right.right.right.right.left) 0 rfl).2
      have da10 := (Rows.bc (HR.out.right.right.right.right.right.right.right.right.left) 0 rfl).1
      have da11 := (Rows.bc (HR.out.right.right.right.right.right.right.right.right.left) 1 rfl).1
      have da12 := (Rows.bc (HR.out.right.right.right.right.right.right.right.right.left) 2 rfl).1
      have da13 := (Rows.bc (HR.out.right.right.right.right.right.right.right.right.left) 3 rfl).1
      have ta1 := (Rows.bc (HR.out.right.right.right.right.right.right.right.right.left) 0 rfl).2
      have da00 := (Rows.bc (HR.out.right.right.right.right.right.right.right.right.right) 0 rfl).1
      have da01 := (Rows.bc (HR.out.right.right.right.right.right.right.right.right.right) 1 rfl).1
      have da02 := (Rows.bc (HR.out.right.right.right.right.right.right.right.right.right) 2 rfl).1
      have ta0 := (Rows.bc (HR.out.right.right.right.right.right.right.right.right.right) 0 rfl).2
      go_wp2_with fail
      refine (eqRecsX_c SG1.out (HR.out.right.right.left) SW1.out (HR.out.right.right.right.right.right.right.right.left)).mono ?_
      rintro e w102 ⟨rfl, hb⟩
      replace HR := hid (HR.out.below hb)
      replace HB := hid (HB.out.trans (hb.mono HB.out.size))
      clear hb
      clear dbG00 dbG01 dbG02 tbG0 dbx00 dbx01 dbx02 tbx0 dbW00 dbW01 dbW02 tbW0 da10 da11 da12 da13 ta1 da00 da01 da02 ta0
      have dbG00 := (Rows.bc (HR.out.left) 0 rfl).1
      have dbG01 := (Rows.bc (HR.out.left) 1 rfl).1
      have dbG02 := (Rows.bc (HR.out.left) 2 rfl).1
      have tbG0 := (Rows.bc (HR.out.left) 0 rfl).2
      have dbx00 := (Rows.bc (HR.out.right.right.right.left) 0 rfl).1
      have dbx01 := (Rows.bc (HR.out.right.right.right.left) 1 rfl).1
      have dbx02 := (Rows.bc (HR.out.right.right.right.left) 2 rfl).1
      have tbx0 := (Rows.bc (HR.out.right.right.right.left) 0 rfl).2
      have dbW00 := (Rows.bc (HR.out.right.right.right.right.right.left) 0 rfl).1
      have dbW01 := (Rows.bc (HR.out.right.right.right.right.right.left) 1 rfl).1
      have dbW02 := (Rows.bc (HR.out.right.right.right.right.right.left) 2 rfl).1
      have tbW0 := (Rows.bc (HR.out.right.right.right.right.right.left) 0 rfl).2
      have da10 := (Rows.bc (HR.out.right.right.right.right.right.right.right.right.left) 0 rfl).1
      have da11 := (Rows.bc (HR.out.right.right.right.right.right.right.right.right.left) 1 rfl).1
      have da12 := (Rows.bc (HR.out.right.right.right.right.right.right.right.right.left) 2 rfl).1
      have da13 := (Rows.bc (HR.out.right.right.right.right.right.right.right.right.left) 3 rfl).1
      have ta1 := (Rows.bc (HR.out.right.right.right.right.right.right.right.right.left) 0 rfl).2
      have da00 := (Rows.bc (HR.out.right.right.right.right.right.right.right.right.right) 0 rfl).1
      have da01 := (Rows.bc (HR.out.right.right.right.right.right.right.right.right.right) 1 rfl).1
      have da02 := (Rows.bc (HR.out.right.right.right.right.right.right.right.right.right) 2 rfl).1
      have ta0 := (Rows.bc (HR.out.right.right.right.right.right.right.right.right.right) 0 rfl).2
      go_wp2_with fail
      refine wp_region_held_drew (S := (fun w' : World => w'.cell? ⟨w51.heap.size, 0, none⟩ = some (.int .i64 d0.rm) ∧ w'.cell? ⟨w51.heap.size, 1, none⟩ = some (.int .i64 d0.lv) ∧ w'.cell? ⟨w51.heap.size, 2, none⟩ = some (.slice fx00 fx01 fx02) ∧ w'.cell? ⟨w.heap.size, 0, none⟩ = some (.int .i64 d0.rm) ∧ w'.cell? ⟨w.heap.size, 1, none⟩ = some (.int .i64 d0.lv) ∧ w'.cell? ⟨w.heap.size, 2, none⟩ = some (.slice A0 n0 c0))) (by kernel_rfl) ⟨dbx00, dbx01, dbx02, da00, da01, da02⟩ (fun hS => ?_)
      refine wpAnyH_take (i := 0) (oi := ?oi170) (v := ?v170) ?hi170 (by kernel_rfl) ?hf170 ?hr170 ?hQ170 (Or.inl ⟨?hw170, ?hy170⟩) (by assumption) ?rest170
      case hi170 => simp only [List.getElem?_toArray, List.getElem?_cons_succ, List.getElem?_cons_zero]; rfl
      case hf170 => kernel_rfl
      case hr170 => kernel_rfl
      case hw170 => rfl
      case hy170 => (intro w hSw; (try dsimp only at hSw); go_simp; all_goals (first | done | with_reducible rfl))
      case hQ170 => exact fun _ _ _ h => h
      simp only [Act.put, List.setIfInBounds_toArray, List.set_cons_zero, List.set_cons_succ]
      refine wpAnyH_take (i := 1) (oi := ?oi171) (v := ?v171) ?hi171 (by kernel_rfl) ?hf171 ?hr171 ?hQ171 (Or.inl ⟨?hw171, ?hy171⟩) (by assumption) ?rest171
      case hi171 => simp only [List.getElem?_toArray, List.getElem?_cons_succ, List.getElem?_cons_zero]; rfl
      case hf171 => kernel_rfl
      case hr171 => kernel_rfl
      case hw171 => rfl
      case hy171 => (intro w hSw; (try dsimp only at hSw); go_simp; all_goals (first | done | with_reducible rfl))
      case hQ171 => exact fun _ _ _ h => h
      simp only [Act.put, List.setIfInBounds_toArray, List.set_cons_zero, List.set_cons_succ]
      replace HR := hid (HR.out.below ((Below.refl w102.heap.size w102).drew))
      replace HB := hid HB.out.drew
      clear dbG00 dbG01 dbG02 tbG0 dbx00 dbx01 dbx02 tbx0 dbW00 dbW01 dbW02 tbW0 da10 da11 da12 da13 ta1 da00 da01 da02 ta0
      have dbG00 := (Rows.bc (HR.out.left) 0 rfl).1
      have dbG01 := (Rows.bc (HR.out.left) 1 rfl).1
      have dbG02 := (Rows.bc (HR.out.left) 2 rfl).1
      have tbG0 := (Rows.bc (HR.out.left) 0 rfl).2
      have dbx00 := (Rows.bc (HR.out.right.right.right.left) 0 rfl).1
      have dbx01 := (Rows.bc (HR.out.right.right.right.left) 1 rfl).1
      have dbx02 := (Rows.bc (HR.out.right.right.right.left) 2 rfl).1
      have tbx0 := (Rows.bc (HR.out.right.right.right.left) 0 rfl).2
      have dbW00 := (Rows.bc (HR.out.right.right.right.right.right.left) 0 rfl).1
      have dbW01 := (Rows.bc (HR.out.right.right.right.right.right.left) 1 rfl).1
      have dbW02 := (Rows.bc (HR.out.right.right.right.right.right.left) 2 rfl).1
      have tbW0 := (Rows.bc (HR.out.right.right.right.right.right.left) 0 rfl).2
      have da10 := (Rows.bc (HR.out.right.right.right.right.right.right.right.right.left) 0 rfl).1
      have da11 := (Rows.bc (HR.out.right.right.right.right.right.right.right.right.left) 1 rfl).1
      have da12 := (Rows.bc (HR.out.right.right.right.right.right.right.right.right.left) 2 rfl).1
      have da13 := (Rows.bc (HR.out.right.right.right.right.right.right.right.right.left) 3 rfl).1
      have ta1 := (Rows.bc (HR.out.right.right.right.right.right.right.right.right.left) 0 rfl).2
      have da00 := (Rows.bc (HR.out.right.right.right.right.right.right.right.right.right) 0 rfl).1
      have da01 := (Rows.bc (HR.out.right.right.right.right.right.right.right.right.right) 1 rfl).1
      have da02 := (Rows.bc (HR.out.right.right.right.right.right.right.right.right.right) 2 rfl).1
      have ta0 := (Rows.bc (HR.out.right.right.right.right.right.right.right.right.right) 0 rfl).2
      refine wpAnyH_ready (rs := [2]) (by kernel_rfl) (by simp) ?_
      refine AllReadyH.cons (o := ?oi172) ?hi172 (fun K hK => ?step172) AllReadyH.nil
      case hi172 => simp only [List.getElem?_toArray, List.getElem?_cons_succ, List.getElem?_cons_zero]; rfl
      rw [if_pos (by rfl)]
      go_simp
      go_at_call 13
      refine (toBufferY_c A0 n0 c0 d0 w.heap.size _ (T0.out.below HB.out (Nat.le_refl _)) HB.out.size F0.out).mono ?_
      rintro e w103 ⟨v, rsy0, rfl, hs, hr, hb⟩
      obtain ⟨fy00, fy01, fy02, rfl⟩ := hs.form hr
      have Sy0 := hid hs
      clear hs
      replace HR := hid (HR.out.newer hb hr HB.out.size)
      replace HB := hid (HB.out.trans (hb.mono HB.out.size))
      clear hb hr
      clear dbG00 dbG01 dbG02 tbG0 dbx00 dbx01 dbx02 tbx0 dbW00 dbW01 dbW02 tbW0 da10 da11 da12 da13 ta1 da00 da01 da02 ta0
      have dbG00 := (Rows.bc (HR.out.right.left) 0 rfl).1
      have dbG01 := (Rows.bc (HR.out.right.left) 1 rfl).1
      have dbG02 := (Rows.bc (HR.out.right.left) 2 rfl).1
      have tbG0 := (Rows.bc (HR.out.right.left) 0 rfl).2
      have dbx00 := (Rows.bc (HR.out.right.right.right.right.left) 0 rfl).1
      have dbx01 := (Rows.bc (HR.out.right.right.right.right.left) 1 rfl).1
      have dbx02 := (Rows.bc (HR.out.right.right.right.right.left) 2 rfl).1
      have tbx0 := (Rows.bc (HR.out.right.right.right.right.left) 0 rfl).2
      have dbW00 := (Rows.bc (HR.out.right.right.right.right.right.right.left) 0 rfl).1
      have dbW01 := (Rows.bc (HR.out.right.right.right.right.right.right.left) 1 rfl).1
      have dbW02 := (Rows.bc (HR.out.right.right.right.right.right.right.left) 2 rfl).1
      have tbW0 := (Rows.bc (HR.out.right.right.right.right.right.right.left) 0 rfl).2
      have da10 := (Rows.bc (HR.out.right.right.right.right.right.right.right.right.right.left) 0 rfl).1
      have da11 := (Rows.bc (HR.out.right.right.right.right.right.right.right.right.right.left) 1 rfl).1
      have da12 := (Rows.bc (HR.out.right.right.right.right.right.right.right.right.right.left) 2 rfl).1
      have da13 := (Rows.bc (HR.out.right.right.right.right.right.right.right.right.right.left) 3 rfl).1
      have ta1 := (Rows.bc (HR.out.right.right.right.right.right.right.right.right.right.left) 0 rfl).2
      have da00 := (Rows.bc (HR.out.right.right.right.right.right.right.right.right.right.right) 0 rfl).1
      have da01 := (Rows.bc (HR.out.right.right.right.right.right.right.right.right.right.right) 1 rfl).1
      have da02 := (Rows.bc (HR.out.right.right.right.right.right.right.right.right.right.right) 2 rfl).1
      have ta0 := (Rows.bc (HR.out.right.right.right.right.right.right.right.right.right.right) 0 rfl).2
      refine hK.out _ _ ⟨dbx00, dbx01, dbx02, da00, da01, da02⟩ (fun hS9 => ?_)
      refine wpAnyH_ready (rs := [3]) (by kernel_rfl) (by simp) ?_
      refine AllReadyH.cons (o := ?oi173) ?hi173 (fun K hK => ?step173) AllReadyH.nil
      case hi173 => simp only [List.getElem?_toArray, List.getElem?_cons_succ, List.getElem?_cons_zero]; rfl
      rw [if_pos (by rfl)]
      go_simp
      go_at_call 15
      refine (eqBufferX_c Sx0.out (HR.out.right.right.right.right.right.left) Sy0.out (HR.out.left)).mono ?_
      rintro e w104 ⟨rfl, hb⟩
      replace HR := hid (HR.out.below hb)
      replace HB := hid (HB.out.trans (hb.mono HB.out.size))
      clear hb
      clear dbG00 dbG01 dbG02 tbG0 dbx00 dbx01 dbx02 tbx0 dbW00 dbW01 dbW02 tbW0 da10 da11 da12 da13 ta1 da00 da01 da02 ta0
      have dbG00 := (Rows.bc (HR.out.right.left) 0 rfl).1
      have dbG01 := (Rows.bc (HR.out.right.left) 1 rfl).1
      have dbG02 := (Rows.bc (HR.out.right.left) 2 rfl).1
      have tbG0 := (Rows.bc (HR.out.right.left) 0 rfl).2
      have dbx00 := (Rows.bc (HR.out.right.right.right.right.left) 0 rfl).1
      have dbx01 := (Rows.bc (HR.out.right.right.right.right.left) 1 rfl).1
      have dbx02 := (Rows.bc (HR.out.right.right.right.right.left) 2 rfl).1
      have tbx0 := (Rows.bc (HR.out.right.right.right.right.left) 0 rfl).2
      have dbW00 := (Rows.bc (HR.out.right.right.right.right.right.right.left) 0 rfl).1
      have dbW01 := (Rows.bc (HR.out.right.right.right.right.right.right.left) 1 rfl).1
      have dbW02 := (Rows.bc (HR.out.right.right.right.right.right.right.left) 2 rfl).1
      have tbW0 := (Rows.bc (HR.out.right.right.right.right.right.right.left) 0 rfl).2
      have da10 := (Rows.bc (HR.out.right.right.right.right.right.right.right.right.right.left) 0 rfl).1
      have da11 := (Rows.bc (HR.out.right.right.right.right.right.right.right.right.right.left) 1 rfl).1
      have da12 := (Rows.bc (HR.out.right.right.right.right.right.right.right.right.right.left) 2 rfl).1
      have da13 := (Rows.bc (HR.out.right.right.right.right.right.right.right.right.right.left) 3 rfl).1
      have ta1 := (Rows.bc (HR.out.right.right.right.right.right.right.right.right.right.left) 0 rfl).2
      have da00 := (Rows.bc (HR.out.right.right.right.right.right.right.right.right.right.right) 0 rfl).1
      have da01 := (Rows.bc (HR.out.right.right.right.right.right.right.right.right.right.right) 1 rfl).1
      have da02 := (Rows.bc (HR.out.right.right.right.right.right.right.right.right.right.right) 2 rfl).1
      have ta0 := (Rows.bc (HR.out.right.right.right.right.right.right.right.right.right.right) 0 rfl).2
      refine hK.out _ _ ⟨dbx00, dbx01, dbx02, da00, da01, da02⟩ (fun hS9 => ?_)
      refine wpAnyH_take (i := 4) (oi := ?oi174) (v := ?v174) ?hi174 (by kernel_rfl) ?hf174 ?hr174 ?hQ174 (Or.inl ⟨?hw174, ?hy174⟩) (by assumption) ?rest174
      case hi174 => simp only [List.getElem?_toArray, List.getElem?_cons_succ, List.getElem?_cons_zero]; rfl
      case hf174 => kernel_rfl
      case hr174 => kernel_rfl
      case hw174 => rfl
      case hy174 => (intro w hSw; (try dsimp only at hSw); go_simp; all_goals (first | done | with_reducible rfl))
      case hQ174 => exact fun _ _ _ h => h
      simp only [Act.put, List.setIfInBounds_toArray, List.set_cons_zero, List.set_cons_succ]
      refine wpAnyH_done (by kernel_rfl) ?_ _
      replace HR := hid (HR.out.sub (List.sublist_append_right _ _))
      clear Sy0
      clear dbG00 dbG01 dbG02 tbG0 dbx00 dbx01 dbx02 tbx0 dbW00 dbW01 dbW02 tbW0 da10 da11 da12 da13 ta1 da00 da01 da02 ta0
      have dbG00 := (Rows.bc (HR.out.left) 0 rfl).1
      have dbG01 := (Rows.bc (HR.out.left) 1 rfl).1
      have dbG02 := (Rows.bc (HR.out.left) 2 rfl).1
      have tbG0 := (Rows.bc (HR.out.left) 0 rfl).2
      have dbx00 := (Rows.bc (HR.out.right.right.right.left) 0 rfl).1
      have dbx01 := (Rows.bc (HR.out.right.right.right.left) 1 rfl).1
      have dbx02 := (Rows.bc (HR.out.right.right.right.left) 2 rfl).1
      have tbx0 := (Rows.bc (HR.out.right.right.right.left) 0 rfl).2
      have dbW00 := (Rows.bc (HR.out.right.right.right.right.right.left) 0 rfl).1
      have dbW01 := (Rows.bc (HR.out.right.right.right.right.right.left) 1 rfl).1
      have dbW02 := (Rows.bc (HR.out.right.right.right.right.right.left) 2 rfl).1
      have tbW0 := (Rows.bc (HR.out.right.right.right.right.right.left) 0 rfl).2
      have da10 := (Rows.bc (HR.out.right.right.right.right.right.right.right.right.left) 0 rfl).1
      have da11 := (Rows.bc (HR.out.right.right.right.right.right.right.right.right.left) 1 rfl).1
      have da12 := (Rows.bc (HR.out.right.right.right.right.right.right.right.right.left) 2 rfl).1
      have da13 := (Rows.bc (HR.out.right.right.right.right.right.right.right.right.left) 3 rfl).1
      have ta1 := (Rows.bc (HR.out.right.right.right.right.right.right.right.right.left) 0 rfl).2
      have da00 := (Rows.bc (HR.out.right.right.right.right.right.right.right.right.right) 0 rfl).1
      have da01 := (Rows.bc (HR.out.right.right.right.right.right.right.right.right.right) 1 rfl).1
      have da02 := (Rows.bc (HR.out.right.right.right.right.right.right.right.right.right) 2 rfl).1
      have ta0 := (Rows.bc (HR.out.right.right.right.right.right.right.right.right.right) 0 rfl).2
      replace HR := hid (HR.out.perm (((((((List.perm_append_comm_assoc _ _ _).append_left _).trans (List.perm_append_comm_assoc _ _ _)).append_left _).trans (List.perm_append_comm_assoc _ _ _)).append_left _).trans (List.perm_append_comm_assoc _ _ _)))
      go_wp2_with fail
      refine (markBufferX_c (k := 1) Sx0.out HR.out HB.out.size F0.out (by omega)).mono ?_
      rintro e w105 ⟨rx0, rsx0, rfl, hM, hr, hb, hlx0⟩
      replace HR := hid hr
      replace HB := hid (HB.out.trans hb)
      have Mx0 := hid hM
      clear hr hb hM Sx0
      clear dbG00 dbG01 dbG02 tbG0 dbx00 dbx01 dbx02 tbx0 dbW00 dbW01 dbW02 tbW0 da10 da11 da12 da13 ta1 da00 da01 da02 ta0
      have dbG00 := (Rows.bc (HR.out.right.left) 0 rfl).1
      have dbG01 := (Rows.bc (HR.out.right.left) 1 rfl).1
      have dbG02 := (Rows.bc (HR.out.right.left) 2 rfl).1
      have tbG0 := (Rows.bc (HR.out.right.left) 0 rfl).2
      have dbx00 := (Rows.bc (HR.out.right.right.right.right.left) 0 rfl).1
      have dbx01 := (Rows.bc (HR.out.right.right.right.right.left) 1 rfl).1
      have dbx02 := (Rows.bc (HR.out.right.right.right.right.left) 2 rfl).1
      have tbx0 := (Rows.bc (HR.out.right.right.right.right.left) 0 rfl).2
      have dbW00 := (Rows.bc (HR.out.right.right.right.right.right.left) 0 rfl).1
      have dbW01 := (Rows.bc (HR.out.right.right.right.right.right.left) 1 rfl).1
      have dbW02 := (Rows.bc (HR.out.right.right.right.right.right.left) 2 rfl).1
      have tbW0 := (Rows.bc (HR.out.right.right.right.right.right.left) 0 rfl).2
      have da10 := (Rows.bc (HR.out.right.right.right.right.right.right.right.right.left) 0 rfl).1
      have da11 := (Rows.bc (HR.out.right.right.right.right.right.right.right.right.left) 1 rfl).1
      have da12 := (Rows.bc (HR.out.right.right.right.right.right.right.right.right.left) 2 rfl).1
      have da13 := (Rows.bc (HR.out.right.right.right.right.right.right.right.right.left) 3 rfl).1
      have ta1 := (Rows.bc (HR.out.right.right.right.right.right.right.right.right.left) 0 rfl).2
      have da00 := (Rows.bc (HR.out.right.right.right.right.right.right.right.right.right) 0 rfl).1
      have da01 := (Rows.bc (HR.out.right.right.right.right.right.right.right.right.right) 1 rfl).1
      have da02 := (Rows.bc (HR.out.right.right.right.right.right.right.right.right.right) 2 rfl).1
      have ta0 := (Rows.bc (HR.out.right.right.right.right.right.right.right.right.right) 0 rfl).2
      replace HR := hid (HR.out.sub (List.sublist_append_right _ _))
      clear Mx0
      replace HR := hid (HR.out.sub ((List.Sublist.refl _).append ((List.Sublist.refl _).append ((List.Sublist.refl _).append (List.sublist_append_right _ _)))))
      clear dbG00 dbG01 dbG02 tbG0 dbx00 dbx01 dbx02 tbx0 dbW00 dbW01 dbW02 tbW0 da10 da11 da12 da13 ta1 da00 da01 da02 ta0
      have dbG00 := (Rows.bc (HR.out.left) 0 rfl).1
      have dbG01 := (Rows.bc (HR.out.left) 1 rfl).1
      have dbG02 := (Rows.bc (HR.out.left) 2 rfl).1
      have tbG0 := (Rows.bc (HR.out.left) 0 rfl).2
      have dbW00 := (Rows.bc (HR.out.right.right.right.left) 0 rfl).1
      have dbW01 := (Rows.bc (HR.out.right.right.right.left) 1 rfl).1
      have dbW02 := (Rows.bc (HR.out.right.right.right.left) 2 rfl).1
      have tbW0 := (Rows.bc (HR.out.right.right.right.left) 0 rfl).2
      have da10 := (Rows.bc (HR.out.right.right.right.right.right.right.left) 0 rfl).1
      have da11 := (Rows.bc (HR.out.right.right.right.right.right.right.left) 1 rfl).1
      have da12 := (Rows.bc (HR.out.right.right.right.right.right.right.left) 2 rfl).1
      have da13 := (Rows.bc (HR.out.right.right.right.right.right.right.left) 3 rfl).1
      have ta1 := (Rows.bc (HR.out.right.right.right.right.right.right.left) 0 rfl).2
      have da00 := (Rows.bc (HR.out.right.right.right.right.right.right.right) 0 rfl).1
      have da01 := (Rows.bc (HR.out.right.right.right.right.right.right.right) 1 rfl).1
      have da02 := (Rows.bc (HR.out.right.right.right.right.right.right.right) 2 rfl).1
      have ta0 := (Rows.bc (HR.out.right.right.right.right.right.right.right) 0 rfl).2
      go_wp2_with fail
      refine (eqBufferX_c SG0.out (HR.out.right.left) SW0.out (HR.out.right.right.right.right.left)).mono ?_
      rintro e w106 ⟨rfl, hb⟩
      replace HR := hid (HR.out.below hb)
      replace HB := hid (HB.out.trans (hb.mono HB.out.size))
      clear hb
      clear dbG00 dbG01 dbG02 tbG0 dbW00 dbW01 dbW02 tbW0 da10 da11 da12 da13 ta1 da00 da01 da02 ta0
      have dbG00 := (Rows.bc (HR.out.left) 0 rfl).1
      have dbG01 := (Rows.bc (HR.out.left) 1 rfl).1
      have dbG02 := (Rows.bc (HR.out.left) 2 rfl).1
      have tbG0 := (Rows.bc (HR.out.left) 0 rfl).2
      have dbW00 := (Rows.bc (HR.out.right.right.right.left) 0 rfl).1
      have dbW01 := (Rows.bc (HR.out.right.right.right.left) 1 rfl).1
      have dbW02 := (Rows.bc (HR.out.right.right.right.left) 2 rfl).1
      have tbW0 := (Rows.bc (HR.out.right.right.right.left) 0 rfl).2
      have da10 := (Rows.bc (HR.out.right.right.right.right.right.right.left) 0 rfl).1
      have da11 := (Rows.bc (HR.out.right.right.right.right.right.right.left) 1 rfl).1
      have da12 := (Rows.bc (HR.out.right.right.right.right.right.right.left) 2 rfl).1
      have da13 := (Rows.bc (HR.out.right.right.right.right.right.right.left) 3 rfl).1
      have ta1 := (Rows.bc (HR.out.right.right.right.right.right.right.left) 0 rfl).2
      have da00 := (Rows.bc (HR.out.right.right.right.right.right.right.right) 0 rfl).1
      have da01 := (Rows.bc (HR.out.right.right.right.right.right.right.right) 1 rfl).1
      have da02 := (Rows.bc (HR.out.right.right.right.right.right.right.right) 2 rfl).1
      have ta0 := (Rows.bc (HR.out.right.right.right.right.right.right.right) 0 rfl).2
      go_wp2_with fail
      refine (eqRecsX_c SG1.out (HR.out.right.right.left) SW1.out (HR.out.right.right.right.right.right.left)).mono ?_
      rintro e w107 ⟨rfl, hb⟩
      replace HR := hid (HR.out.below hb)
      replace HB := hid (HB.out.trans (hb.mono HB.out.size))
      clear hb
      clear dbG00 dbG01 dbG02 tbG0 dbW00 dbW01 dbW02 tbW0 da10 da11 da12 da13 ta1 da00 da01 da02 ta0
      have dbG00 := (Rows.bc (HR.out.left) 0 rfl).1
      have dbG01 := (Rows.bc (HR.out.left) 1 rfl).1
      have dbG02 := (Rows.bc (HR.out.left) 2 rfl).1
      have tbG0 := (Rows.bc (HR.out.left) 0 rfl).2
      have dbW00 := (Rows.bc (HR.out.right.right.right.left) 0 rfl).1
      have dbW01 := (Rows.bc (HR.out.right.right.right.left) 1 rfl).1
      have dbW02 := (Rows.bc (HR.out.right.right.right.left) 2 rfl).1
      have tbW0 := (Rows.bc (HR.out.right.right.right.left) 0 rfl).2
      have da10 := (Rows.bc (HR.out.right.right.right.right.right.right.left) 0 rfl).1
      have da11 := (Rows.bc (HR.out.right.right.right.right.right.right.left) 1 rfl).1
      have da12 := (Rows.bc (HR.out.right.right.right.right.right.right.left) 2 rfl).1
      have da13 := (Rows.bc (HR.out.right.right.right.right.right.right.left) 3 rfl).1
      have ta1 := (Rows.bc (HR.out.right.right.right.right.right.right.left) 0 rfl).2
      have da00 := (Rows.bc (HR.out.right.right.right.right.right.right.right) 0 rfl).1
      have da01 := (Rows.bc (HR.out.right.right.right.right.right.right.right) 1 rfl).1
      have da02 := (Rows.bc (HR.out.right.right.right.right.right.right.right) 2 rfl).1
      have ta0 := (Rows.bc (HR.out.right.right.right.right.right.right.right) 0 rfl).2
      replace HR := hid (HR.out.perm (List.perm_append_comm_assoc _ _ _))
      go_wp2_with fail
      refine (markBufferX_c (k := 1) SG0.out HR.out HB.out.size DX0.out (by omega)).mono ?_
      rintro e w108 ⟨rG0, rsG0, rfl, hM, hr, hb, hlG0⟩
      replace HR := hid hr
      replace HB := hid (HB.out.trans hb)
      have MG0 := hid hM
      clear hr hb hM SG0
      clear dbG00 dbG01 dbG02 tbG0 dbW00 dbW01 dbW02 tbW0 da10 da11 da12 da13 ta1 da00 da01 da02 ta0
      have dbG00 := (Rows.bc (HR.out.right.left) 0 rfl).1
      have dbG01 := (Rows.bc (HR.out.right.left) 1 rfl).1
      have dbG02 := (Rows.bc (HR.out.right.left) 2 rfl).1
      have tbG0 := (Rows.bc (HR.out.right.left) 0 rfl).2
      have dbW00 := (Rows.bc (HR.out.right.right.right.left) 0 rfl).1
      have dbW01 := (Rows.bc (HR.out.right.right.right.left) 1 rfl).1
      have dbW02 := (Rows.bc (HR.out.right.right.right.left) 2 rfl).1
      have tbW0 := (Rows.bc (HR.out.right.right.right.left) 0 rfl).2
      have da10 := (Rows.bc (HR.out.right.right.right.right.right.right.left) 0 rfl).1
      have da11 := (Rows.bc (HR.out.right.right.right.right.right.right.left) 1 rfl).1
      have da12 := (Rows.bc (HR.out.right.right.right.right.right.right.left) 2 rfl).1
      have da13 := (Rows.bc (HR.out.right.right.right.right.right.right.left) 3 rfl).1
      have ta1 := (Rows.bc (HR.out.right.right.right.right.right.right.left) 0 rfl).2
      have da00 := (Rows.bc (HR.out.right.right.right.right.right.right.right) 0 rfl).1
      have da01 := (Rows.bc (HR.out.right.right.right.right.right.right.right) 1 rfl).1
      have da02 := (Rows.bc (HR.out.right.right.right.right.right.right.right) 2 rfl).1
      have ta0 := (Rows.bc (HR.out.right.right.right.right.right.right.right) 0 rfl).2
      replace HR := hid (HR.out.perm (((List.perm_append_comm_assoc _ _ _).append_left _).trans (List.perm_append_comm_assoc _ _ _)))
      go_wp2_with fail
      refine (markRecsX_c (k := rG0) SG1.out HR.out HB.out.size DX1.out (by omega)).mono ?_
      rintro e w109 ⟨rG1, rsG1, rfl, hM, hr, hb, hlG1⟩
      replace HR := hid hr
      replace HB := hid (HB.out.trans hb)
      have MG1 := hid hM
      clear hr hb hM SG1
      clear dbG00 dbG01 dbG02 tbG0 dbW00 dbW01 dbW02 tbW0 da10 da11 da12 da13 ta1 da00 da01 da02 ta0
      have dbG00 := (Rows.bc (HR.out.right.right.left) 0 rfl).1
      have dbG01 := (Rows.bc (HR.out.right.right.left) 1 rfl).1
      have dbG02 := (Rows.bc (HR.out.right.right.left) 2 rfl).1
      have tbG0 := (Rows.bc (HR.out.right.right.left) 0 rfl).2
      have dbW00 := (Rows.bc (HR.out.right.right.right.left) 0 rfl).1
      have dbW01 := (Rows.bc (HR.out.right.right.right.left) 1 rfl).1
      have dbW02 := (Rows.bc (HR.out.right.right.right.left) 2 rfl).1
      have tbW0 := (Rows.bc (HR.out.right.right.right.left) 0 rfl).2
      have da10 := (Rows.bc (HR.out.right.right.right.right.right.right.left) 0 rfl).1
      have da11 := (Rows.bc (HR.out.right.right.right.right.right.right.left) 1 rfl).1
      have da12 := (Rows.bc (HR.out.right.right.right.right.right.right.left) 2 rfl).1
      have da13 := (Rows.bc (HR.out.right.right.right.right.right.right.left) 3 rfl).1
      have ta1 := (Rows.bc (HR.out.right.right.right.right.right.right.left) 0 rfl).2
      have da00 := (Rows.bc (HR.out.right.right.right.right.right.right.right) 0 rfl).1
      have da01 := (Rows.bc (HR.out.right.right.right.right.right.right.right) 1 rfl).1
      have da02 := (Rows.bc (HR.out.right.right.right.right.right.right.right) 2 rfl).1
      have ta0 := (Rows.bc (HR.out.right.right.right.right.right.right.right) 0 rfl).2
      go_wp2_with fail
      refine (heldBufferX_c MG0.out (HR.out.right.left)).mono ?_
      rintro e w110 ⟨rfl, hb⟩
      replace HR := hid (HR.out.below hb)
      replace HB := hid (HB.out.trans (hb.mono HB.out.size))
      clear hb
      clear dbG00 dbG01 dbG02 tbG0 dbW00 dbW01 dbW02 tbW0 da10 da11 da12 da13 ta1 da00 da01 da02 ta0
      have dbG00 := (Rows.bc (HR.out.right.right.left) 0 rfl).1
      have dbG01 := (Rows.bc (HR.out.right.right.left) 1 rfl).1
      have dbG02 := (Rows.bc (HR.out.right.right.left) 2 rfl).1
      have tbG0 := (Rows.bc (HR.out.right.right.left) 0 rfl).2
      have dbW00 := (Rows.bc (HR.out.right.right.right.left) 0 rfl).1
      have dbW01 := (Rows.bc (HR.out.right.right.right.left) 1 rfl).1
      have dbW02 := (Rows.bc (HR.out.right.right.right.left) 2 rfl).1
      have tbW0 := (Rows.bc (HR.out.right.right.right.left) 0 rfl).2
      have da10 := (Rows.bc (HR.out.right.right.right.right.right.right.left) 0 rfl).1
      have da11 := (Rows.bc (HR.out.right.right.right.right.right.right.left) 1 rfl).1
      have da12 := (Rows.bc (HR.out.right.right.right.right.right.right.left) 2 rfl).1
      have da13 := (Rows.bc (HR.out.right.right.right.right.right.right.left) 3 rfl).1
      have ta1 := (Rows.bc (HR.out.right.right.right.right.right.right.left) 0 rfl).2
      have da00 := (Rows.bc (HR.out.right.right.right.right.right.right.right) 0 rfl).1
      have da01 := (Rows.bc (HR.out.right.right.right.right.right.right.right) 1 rfl).1
      have da02 := (Rows.bc (HR.out.right.right.right.right.right.right.right) 2 rfl).1
      have ta0 := (Rows.bc (HR.out.right.right.right.right.right.right.right) 0 rfl).2
      go_wp2_with fail
      refine (heldRecsX_c MG1.out (HR.out.left)).mono ?_
      rintro e w111 ⟨rfl, hb⟩
      replace HR := hid (HR.out.below hb)
      replace HB := hid (HB.out.trans (hb.mono HB.out.size))
      clear hb
      clear dbG00 dbG01 dbG02 tbG0 dbW00 dbW01 dbW02 tbW0 da10 da11 da12 da13 ta1 da00 da01 da02 ta0
      have dbG00 := (Rows.bc (HR.out.right.right.left) 0 rfl).1
      have dbG01 := (Rows.bc (HR.out.right.right.left) 1 rfl).1
      have dbG02 := (Rows.bc (HR.out.right.right.left) 2 rfl).1
      have tbG0 := (Rows.bc (HR.out.right.right.left) 0 rfl).2
      have dbW00 := (Rows.bc (HR.out.right.right.right.left) 0 rfl).1
      have dbW01 := (Rows.bc (HR.out.right.right.right.left) 1 rfl).1
      have dbW02 := (Rows.bc (HR.out.right.right.right.left) 2 rfl).1
      have tbW0 := (Rows.bc (HR.out.right.right.right.left) 0 rfl).2
      have da10 := (Rows.bc (HR.out.right.right.right.right.right.right.left) 0 rfl).1
      have da11 := (Rows.bc (HR.out.right.right.right.right.right.right.left) 1 rfl).1
      have da12 := (Rows.bc (HR.out.right.right.right.right.right.right.left) 2 rfl).1
      have da13 := (Rows.bc (HR.out.right.right.right.right.right.right.left) 3 rfl).1
      have ta1 := (Rows.bc (HR.out.right.right.right.right.right.right.left) 0 rfl).2
      have da00 := (Rows.bc (HR.out.right.right.right.right.right.right.right) 0 rfl).1
      have da01 := (Rows.bc (HR.out.right.right.right.right.right.right.right) 1 rfl).1
      have da02 := (Rows.bc (HR.out.right.right.right.right.right.right.right) 2 rfl).1
      have ta0 := (Rows.bc (HR.out.right.right.right.right.right.right.right) 0 rfl).2
      go_wp2_with fail
      go_cut [16, 17, 18] from 19 (fun s16 s17 s18 wc => ∃ (bb : Nat) (fh00 : Option Addr) (fh01 : Nat) (fh02 : Nat) (rsh0 : List Row) (fh10 : Option Addr) (fh11 : Nat) (fh12 : Nat) (rsh1 : List Row) (rsz0 : List Row) (vz0 : Value), s16 = .pointer (some ⟨bb, 0, none⟩) ∧ s17 = .slice fh10 fh11 fh12 ∧ s18 = .bool X2 ∧ BufR rsh0 (.agg #[.int .i64 X0.rm, .int .i64 X0.lv, .slice fh00 fh01 fh02]) X0 ∧ RecsR rsh1 (.slice fh10 fh11 fh12) X1 ∧ BufR rsz0 vz0 d0 ∧ Rows wc w.heap.size ([bxRow 29 3 (bb) [.int .i64 X0.rm, .int .i64 X0.lv, .slice fh00 fh01 fh02]] ++ (rsh0 ++ (rsh1 ++ (rsz0 ++ (rsG1 ++ (rsG0 ++ ([bxRow 29 3 (bbG) [.int .i64 X0.rm, .int .i64 X0.lv, .slice fG00 fG01 fG02]] ++ ([bxRow 29 3 (bbW) [.int .i64 X0.rm, .int .i64 X0.lv, .slice fW00 fW01 fW02]] ++ (rsW0 ++ (rsW1 ++ ([bxRow 40 4 (w.heap.size + 1) [.string nm1, .int .i64 lv1, .string tx1, .int .i64 sq1]] ++ ([bxRow 24 3 (w.heap.size) [.int .i64 d0.rm, .int .i64 d0.lv, .slice A0 n0 c0]])))))))))))) ∧ Below w.heap.size w wc)
      case first =>
        refine wp_region_held_drew (S := (fun w' : World => w'.cell? ⟨w.heap.size, 0, none⟩ = some (.int .i64 d0.rm) ∧ w'.cell? ⟨w.heap.size, 1, none⟩ = some (.int .i64 d0.lv) ∧ w'.cell? ⟨w.heap.size, 2, none⟩ = some (.slice A0 n0 c0) ∧ w'.cell? ⟨w.heap.size + 1, 0, none⟩ = some (.string nm1) ∧ w'.cell? ⟨w.heap.size + 1, 1, none⟩ = some (.int .i64 lv1) ∧ w'.cell? ⟨w.heap.size + 1, 2, none⟩ = some (.string tx1) ∧ w'.cell? ⟨w.heap.size + 1, 3, none⟩ = some (.int .i64 sq1))) (by kernel_rfl) ⟨da00, da01, da02, da10, da11, da12, da13⟩ (fun hS => ?_)
        refine wpAnyH_take (i := 0) (oi := ?oi175) (v := ?v175) ?hi175 (by kernel_rfl) ?hf175 ?hr175 ?hQ175 (Or.inl ⟨?hw175, ?hy175⟩) (by assumption) ?rest175
        case hi175 => simp only [List.getElem?_toArray, List.getElem?_cons_succ, List.getElem?_cons_zero]; rfl
        case hf175 => kernel_rfl
        case hr175 => kernel_rfl
        case hw175 => rfl
        case hy175 => (intro w hSw; (try dsimp only at hSw); go_simp; all_goals (first | done | with_reducible rfl))
        case hQ175 => exact fun _ _ _ h => h
        simp only [Act.put, List.setIfInBounds_toArray, List.set_cons_zero, List.set_cons_succ]
        refine wpAnyH_take (i := 2) (oi := ?oi176) (v := ?v176) ?hi176 (by kernel_rfl) ?hf176 ?hr176 ?hQ176 (Or.inl ⟨?hw176, ?hy176⟩) (by assumption) ?rest176
        case hi176 => simp only [List.getElem?_toArray, List.getElem?_cons_succ, List.getElem?_cons_zero]; rfl
        case hf176 => kernel_rfl
        case hr176 => kernel_rfl
        case hw176 => rfl
        case hy176 => (intro w hSw; (try dsimp only at hSw); go_simp; all_goals (first | done | with_reducible rfl))
        case hQ176 => exact fun _ _ _ h => h
        simp only [Act.put, List.setIfInBounds_toArray, List.set_cons_zero, List.set_cons_succ]
        replace HR := hid (HR.out.below ((Below.refl w111.heap.size w111).drew))
        replace HB := hid HB.out.drew
        clear dbG00 dbG01 dbG02 tbG0 dbW00 dbW01 dbW02 tbW0 da10 da11 da12 da13 ta1 da00 da01 da02 ta0
        generalize w111.drew = w112 at *
        have dbG00 := (Rows.bc (HR.out.right.right.left) 0 rfl).1
        have dbG01 := (Rows.bc (HR.out.right.right.left) 1 rfl).1
        have dbG02 := (Rows.bc (HR.out.right.right.left) 2 rfl).1
        have tbG0 := (Rows.bc (HR.out.right.right.left) 0 rfl).2
        have dbW00 := (Rows.bc (HR.out.right.right.right.left) 0 rfl).1
        have dbW01 := (Rows.bc (HR.out.right.right.right.left) 1 rfl).1
        have dbW02 := (Rows.bc (HR.out.right.right.right.left) 2 rfl).1
        have tbW0 := (Rows.bc (HR.out.right.right.right.left) 0 rfl).2
        have da10 := (Rows.bc (HR.out.right.right.right.right.right.right.left) 0 rfl).1
        have da11 := (Rows.bc (HR.out.right.right.right.right.right.right.left) 1 rfl).1
        have da12 := (Rows.bc (HR.out.right.right.right.right.right.right.left) 2 rfl).1
        have da13 := (Rows.bc (HR.out.right.right.right.right.right.right.left) 3 rfl).1
        have ta1 := (Rows.bc (HR.out.right.right.right.right.right.right.left) 0 rfl).2
        have da00 := (Rows.bc (HR.out.right.right.right.right.right.right.right) 0 rfl).1
        have da01 := (Rows.bc (HR.out.right.right.right.right.right.right.right) 1 rfl).1
        have da02 := (Rows.bc (HR.out.right.right.right.right.right.right.right) 2 rfl).1
        have ta0 := (Rows.bc (HR.out.right.right.right.right.right.right.right) 0 rfl).2
        refine wpAnyH_ready (rs := [1, 9]) (by kernel_rfl) (by simp) ?_
        refine AllReadyH.cons (o := ?oi177) ?hi177 (fun K hK => ?stepA177) (AllReadyH.cons (o := ?oj177) ?hj177 (fun K hK => ?stepB177) AllReadyH.nil)
        case hi177 => simp only [List.getElem?_toArray, List.getElem?_cons_succ, List.getElem?_cons_zero]; rfl
        case hj177 => simp only [List.getElem?_toArray, List.getElem?_cons_succ, List.getElem?_cons_zero]; rfl
        all_goals rw [if_pos (by rfl)]
        all_goals go_simp
        · go_at_call 13
          refine (toBufferY_c A0 n0 c0 d0 w.heap.size _ (T0.out.below HB.out (Nat.le_refl _)) HB.out.size F0.out).mono ?_
          rintro e w113 ⟨v, rsz0, rfl, hs, hr, hb⟩
          obtain ⟨fz00, fz01, fz02, rfl⟩ := hs.form hr
          have Sz0 := hid hs
          clear hs
          replace HR := hid (HR.out.newer hb hr HB.out.size)
          replace HB := hid (HB.out.trans (hb.mono HB.out.size))
          clear hb hr
          clear dbG00 dbG01 dbG02 tbG0 dbW00 dbW01 dbW02 tbW0 da10 da11 da12 da13 ta1 da00 da01 da02 ta0
          have dbG00 := (Rows.bc (HR.out.right.right.right.left) 0 rfl).1
          have dbG01 := (Rows.bc (HR.out.right.right.right.left) 1 rfl).1
          have dbG02 := (Rows.bc (HR.out.right.right.right.left) 2 rfl).1
          have tbG0 := (Rows.bc (HR.out.right.right.right.left) 0 rfl).2
          have dbW00 := (Rows.bc (HR.out.right.right.right.right.left) 0 rfl).1
          have dbW01 := (Rows.bc (HR.out.right.right.right.right.left) 1 rfl).1
          have dbW02 := (Rows.bc (HR.out.right.right.right.right.left) 2 rfl).1
          have tbW0 := (Rows.bc (HR.out.right.right.right.right.left) 0 rfl).2
          have da10 := (Rows.bc (HR.out.right.right.right.right.right.right.right.left) 0 rfl).1
          have da11 := (Rows.bc (HR.out.right.right.right.right.right.right.right.left) 1 rfl).1
          have da12 := (Rows.bc (HR.out.right.right.right.right.right.right.right.left) 2 rfl).1
          have da13 := (Rows.bc (HR.out.right.right.right.right.right.right.right.left) 3 rfl).1
          have ta1 := (Rows.bc (HR.out.right.right.right.right.right.right.right.left) 0 rfl).2
          have da00 := (Rows.bc (HR.out.right.right.right.right.right.right.right.right) 0 rfl).1
          have da01 := (Rows.bc (HR.out.right.right.right.right.right.right.right.right) 1 rfl).1
          have da02 := (Rows.bc (HR.out.right.right.right.right.right.right.right.right) 2 rfl).1
          have ta0 := (Rows.bc (HR.out.right.right.right.right.right.right.right.right) 0 rfl).2
          refine hK.out _ _ ⟨da00, da01, da02, da10, da11, da12, da13⟩ (fun hS9 => ?_)
          refine wpAnyH_ready (rs := [3, 9]) (by kernel_rfl) (by simp) ?_
          refine AllReadyH.cons (o := ?oi178) ?hi178 (fun K hK => ?stepA178) (AllReadyH.cons (o := ?oj178) ?hj178 (fun K hK => ?stepB178) AllReadyH.nil)
          case hi178 => simp only [List.getElem?_toArray, List.getElem?_cons_succ, List.getElem?_cons_zero]; rfl
          case hj178 => simp only [List.getElem?_toArray, List.getElem?_cons_succ, List.getElem?_cons_zero]; rfl
          all_goals rw [if_pos (by rfl)]
          all_goals go_simp
          · go_at_call 25
            refine (toRecord_c nm1 lv1 tx1 sq1 _).mono ?_
            rintro e w114 ⟨rfl, hb⟩
            replace HR := hid (HR.out.below hb)
            replace HB := hid (HB.out.trans (hb.mono HB.out.size))
            clear hb
            clear dbG00 dbG01 dbG02 tbG0 dbW00 dbW01 dbW02 tbW0 da10 da11 da12 da13 ta1 da00 da01 da02 ta0
            have dbG00 := (Rows.bc (HR.out.right.right.right.left) 0 rfl).1
            have dbG01 := (Rows.bc (HR.out.right.right.right.left) 1 rfl).1
            have dbG02 := (Rows.bc (HR.out.right.right.right.left) 2 rfl).1
            have tbG0 := (Rows.bc (HR.out.right.right.right.left) 0 rfl).2
            have dbW00 := (Rows.bc (HR.out.right.right.right.right.left) 0 rfl).1
            have dbW01 := (Rows.bc (HR.out.right.right.right.right.left) 1 rfl).1
            have dbW02 := (Rows.bc (HR.out.right.right.right.right.left) 2 rfl).1
            have tbW0 := (Rows.bc (HR.out.right.right.right.right.left) 0 rfl).2
            have da10 := (Rows.bc (HR.out.right.right.right.right.right.right.right.left) 0 rfl).1
            have da11 := (Rows.bc (HR.out.right.right.right.right.right.right.right.left) 1 rfl).1
            have da12 := (Rows.bc (HR.out.right.right.right.right.right.right.right.left) 2 rfl).1
            have da13 := (Rows.bc (HR.out.right.right.right.right.right.right.right.left) 3 rfl).1
            have ta1 := (Rows.bc (HR.out.right.right.right.right.right.right.right.left) 0 rfl).2
            have da00 := (Rows.bc (HR.out.right.right.right.right.right.right.right.right) 0 rfl).1
            have da01 := (Rows.bc (HR.out.right.right.right.right.right.right.right.right) 1 rfl).1
            have da02 := (Rows.bc (HR.out.right.right.right.right.right.right.right.right) 2 rfl).1
            have ta0 := (Rows.bc (HR.out.right.right.right.right.right.right.right.right) 0 rfl).2
            refine hK.out _ _ ⟨da00, da01, da02, da10, da11, da12, da13⟩ (fun hS9 => ?_)
            refine wpAnyH_ready (rs := [4, 9]) (by kernel_rfl) (by simp) ?_
            refine AllReadyH.cons (o := ?oi179) ?hi179 (fun K hK => ?stepA179) (AllReadyH.cons (o := ?oj179) ?hj179 (fun K hK => ?stepB179) AllReadyH.nil)
            case hi179 => simp only [List.getElem?_toArray, List.getElem?_cons_succ, List.getElem?_cons_zero]; rfl
            case hj179 => simp only [List.getElem?_toArray, List.getElem?_cons_succ, List.getElem?_cons_zero]; rfl
            all_goals rw [if_pos (by rfl)]
            all_goals go_simp
            · go_at_call 26
              refine (cI.out _ _ (Sz0.out.at_ (HR.out.left) F0.out)).mono ?_
              rintro e w115 ⟨v0, rsh0, v1, rsh1, rfl, hs0, hs1, hr, hb⟩
              obtain ⟨fh00, fh01, fh02, rfl⟩ := hs0.form hr.left
              have Sh0 := hid hs0
              obtain ⟨fh10, fh11, fh12, rfl⟩ := hs1.form hr.right
              have Sh1 := hid hs1
              clear hs0 hs1
              replace HR := hid (HR.out.newer hb hr HB.out.size)
              replace HR := hid (by simpa only [List.append_assoc] using HR.out)
              replace HB := hid (HB.out.trans (hb.mono HB.out.size))
              clear hb hr
              clear dbG00 dbG01 dbG02 tbG0 dbW00 dbW01 dbW02 tbW0 da10 da11 da12 da13 ta1 da00 da01 da02 ta0
              have dbG00 := (Rows.bc (HR.out.right.right.right.right.right.left) 0 rfl).1
              have dbG01 := (Rows.bc (HR.out.right.right.right.right.right.left) 1 rfl).1
              have dbG02 := (Rows.bc (HR.out.right.right.right.right.right.left) 2 rfl).1
              have tbG0 := (Rows.bc (HR.out.right.right.right.right.right.left) 0 rfl).2
              have dbW00 := (Rows.bc (HR.out.right.right.right.right.right.right.left) 0 rfl).1
              have dbW01 := (Rows.bc (HR.out.right.right.right.right.right.right.left) 1 rfl).1
              have dbW02 := (Rows.bc (HR.out.right.right.right.right.right.right.left) 2 rfl).1
              have tbW0 := (Rows.bc (HR.out.right.right.right.right.right.right.left) 0 rfl).2
              have da10 := (Rows.bc (HR.out.right.right.right.right.right.right.right.right.right.left) 0 rfl).1
              have da11 := (Rows.bc (HR.out.right.right.right.right.right.right.right.right.right.left) 1 rfl).1
              have da12 := (Rows.bc (HR.out.right.right.right.right.right.right.right.right.right.left) 2 rfl).1
              have da13 := (Rows.bc (HR.out.right.right.right.right.right.right.right.right.right.left) 3 rfl).1
              have ta1 := (Rows.bc (HR.out.right.right.right.right.right.right.right.right.right.left) 0 rfl).2
              have da00 := (Rows.bc (HR.out.right.right.right.right.right.right.right.right.right.right) 0 rfl).1
              have da01 := (Rows.bc (HR.out.right.right.right.right.right.right.right.right.right.right) 1 rfl).1
              have da02 := (Rows.bc (HR.out.right.right.right.right.right.right.right.right.right.right) 2 rfl).1
              have ta0 := (Rows.bc (HR.out.right.right.right.right.right.right.right.right.right.right) 0 rfl).2
              refine hK.out _ _ ⟨da00, da01, da02, da10, da11, da12, da13⟩ (fun hS9 => ?_)
              refine wpAnyH_take (i := 5) (oi := ?oi180) (v := ?v180) ?hi180 (by kernel_rfl) ?hf180 ?hr180 ?hQ180 (Or.inl ⟨?hw180, ?hy180⟩) (by assumption) ?rest180
              case hi180 => simp only [List.getElem?_toArray, List.getElem?_cons_succ, List.getElem?_cons_zero]; rfl
              case hf180 => kernel_rfl
              case hr180 => kernel_rfl
              case hw180 => rfl
              case hy180 => (intro w hSw; (try dsimp only at hSw); go_simp; all_goals (first | done | with_reducible rfl))
              case hQ180 => exact fun _ _ _ h => h
              simp only [Act.put, List.setIfInBounds_toArray, List.set_cons_zero, List.set_cons_succ]
              refine wpAnyH_take (i := 6) (oi := ?oi181) (v := ?v181) ?hi181 (by kernel_rfl) ?hf181 ?hr181 ?hQ181 (Or.inl ⟨?hw181, ?hy181⟩) (by assumption) ?rest181
              case hi181 => simp only [List.getElem?_toArray, List.getElem?_cons_succ, List.getElem?_cons_zero]; rfl
              case hf181 => kernel_rfl
              case hr181 => kernel_rfl
              case hw181 => rfl
              case hy181 => (intro w hSw; (try dsimp only at hSw); go_simp; all_goals (first | done | with_reducible rfl))
              case hQ181 => exact fun _ _ _ h => h
              simp only [Act.put, List.setIfInBounds_toArray, List.set_cons_zero, List.set_cons_succ]
              refine wpAnyH_take (i := 7) (oi := ?oi182) (v := ?v182) ?hi182 (by kernel_rfl) ?hf182 ?hr182 ?hQ182 (Or.inl ⟨?hw182, ?hy182⟩) (by assumption) ?rest182
              case hi182 => simp only [List.getElem?_toArray, List.getElem?_cons_succ, List.getElem?_cons_zero]; rfl
              case hf182 => kernel_rfl
              case hr182 => kernel_rfl
              case hw182 => rfl
              case hy182 => (intro w hSw; (try dsimp only at hSw); go_simp; all_goals (first | done | with_reducible rfl))
              case hQ182 => exact fun _ _ _ h => h
              simp only [Act.put, List.setIfInBounds_toArray, List.set_cons_zero, List.set_cons_succ]
              refine wpAnyH_take (i := 8) (oi := ?oi183) (v := ?v183) ?hi183 (by kernel_rfl) ?hf183 ?hr183 ?hQ183 (Or.inl ⟨?hw183, ?hy183⟩) (by assumption) ?rest183
              case hi183 => simp only [List.getElem?_toArray, List.getElem?_cons_succ, List.getElem?_cons_zero]; rfl
              case hf183 => kernel_rfl
              case hr183 => kernel_rfl
              case hw183 => rfl
              case hy183 => (intro w hSw; (try dsimp only at hSw); go_simp; all_goals (first | done | with_reducible rfl))
              case hQ183 => exact fun _ _ _ h => h
              simp only [Act.put, List.setIfInBounds_toArray, List.set_cons_zero, List.set_cons_succ]
              refine wpAnyH_ready (rs := [9]) (by kernel_rfl) (by simp) ?_
              refine AllReadyH.cons (o := ?oi184) ?hi184 (fun K hK => ?step184) AllReadyH.nil
              case hi184 => simp only [List.getElem?_toArray, List.getElem?_cons_succ, List.getElem?_cons_zero]; rfl
              rw [if_pos (by rfl)]
              go_simp
              have ne_a0 : w115.heap.size ≠ w.heap.size := Nat.ne_of_gt ta0
              have ne_a1 : w115.heap.size ≠ w.heap.size + 1 := Nat.ne_of_gt ta1
              have nle : w.heap.size ≤ w115.heap.size := HB.out.size
              have hb : Below w115.heap.size w115 (w115.alloc (.cells #[.int .i64 0, .int .i64 0, .slice none 0 0] 29)) := (Below.refl _ _).alloc (Nat.le_refl _) _
              have hr := Rows.box w115 #[.int .i64 0, .int .i64 0, .slice none 0 0] 29 3 rfl
              replace HR := hid (HR.out.newer hb hr HB.out.size)
              replace HB := hid (HB.out.trans (hb.mono HB.out.size))
              clear hb hr
              clear dbG00 dbG01 dbG02 tbG0 dbW00 dbW01 dbW02 tbW0 da10 da11 da12 da13 ta1 da00 da01 da02 ta0
              have dbh00 := (Rows.bc (HR.out.left) 0 rfl).1
              have dbh01 := (Rows.bc (HR.out.left) 1 rfl).1
              have dbh02 := (Rows.bc (HR.out.left) 2 rfl).1
              have tbh0 := (Rows.bc (HR.out.left) 0 rfl).2
              have dbG00 := (Rows.bc (HR.out.right.right.right.right.right.right.left) 0 rfl).1
              have dbG01 := (Rows.bc (HR.out.right.right.right.right.right.right.left) 1 rfl).1
              have dbG02 := (Rows.bc (HR.out.right.right.right.right.right.right.left) 2 rfl).1
              have tbG0 := (Rows.bc (HR.out.right.right.right.right.right.right.left) 0 rfl).2
              have dbW00 := (Rows.bc (HR.out.right.right.right.right.right.right.right.left) 0 rfl).1
              have dbW01 := (Rows.bc (HR.out.right.right.right.right.right.right.right.left) 1 rfl).1
              have dbW02 := (Rows.bc (HR.out.right.right.right.right.right.right.right.left) 2 rfl).1
              have tbW0 := (Rows.bc (HR.out.right.right.right.right.right.right.right.left) 0 rfl).2
              have da10 := (Rows.bc (HR.out.right.right.right.right.right.right.right.right.right.right.left) 0 rfl).1
              have da11 := (Rows.bc (HR.out.right.right.right.right.right.right.right.right.right.right.left) 1 rfl).1
              have da12 := (Rows.bc (HR.out.right.right.right.right.right.right.right.right.right.right.left) 2 rfl).1
              have da13 := (Rows.bc (HR.out.right.right.right.right.right.right.right.right.right.right.left) 3 rfl).1
              have ta1 := (Rows.bc (HR.out.right.right.right.right.right.right.right.right.right.right.left) 0 rfl).2
              have da00 := (Rows.bc (HR.out.right.right.right.right.right.right.right.right.right.right.right) 0 rfl).1
              have da01 := (Rows.bc (HR.out.right.right.right.right.right.right.right.right.right.right.right) 1 rfl).1
              have da02 := (Rows.bc (HR.out.right.right.right.right.right.right.right.right.right.right.right) 2 rfl).1
              have ta0 := (Rows.bc (HR.out.right.right.right.right.right.right.right.right.right.right.right) 0 rfl).2
              refine hK.out _ _ ⟨da00, da01, da02, da10, da11, da12, da13⟩ (fun hS9 => ?_)
              clear dbh00 dbh01 dbh02 tbh0 dbG00 dbG01 dbG02 tbG0 dbW00 dbW01 dbW02 tbW0 da10 da11 da12 da13 ta1 da00 da01 da02 ta0
              generalize (w115.alloc (.cells #[.int .i64 0, .int .i64 0, .slice none 0 0] 29)) = w116 at *
              have dbh00 := (Rows.bc (HR.out.left) 0 rfl).1
              have dbh01 := (Rows.bc (HR.out.left) 1 rfl).1
              have dbh02 := (Rows.bc (HR.out.left) 2 rfl).1
              have tbh0 := (Rows.bc (HR.out.left) 0 rfl).2
              have dbG00 := (Rows.bc (HR.out.right.right.right.right.right.right.left) 0 rfl).1
              have dbG01 := (Rows.bc (HR.out.right.right.right.right.right.right.left) 1 rfl).1
              have dbG02 := (Rows.bc (HR.out.right.right.right.right.right.right.left) 2 rfl).1
              have tbG0 := (Rows.bc (HR.out.right.right.right.right.right.right.left) 0 rfl).2
              have dbW00 := (Rows.bc (HR.out.right.right.right.right.right.right.right.left) 0 rfl).1
              have dbW01 := (Rows.bc (HR.out.right.right.right.right.right.right.right.left) 1 rfl).1
              have dbW02 := (Rows.bc (HR.out.right.right.right.right.right.right.right.left) 2 rfl).1
              have tbW0 := (Rows.bc (HR.out.right.right.right.right.right.right.right.left) 0 rfl).2
              have da10 := (Rows.bc (HR.out.right.right.right.right.right.right.right.right.right.right.left) 0 rfl).1
              have da11 := (Rows.bc (HR.out.right.right.right.right.right.right.right.right.right.right.left) 1 rfl).1
              have da12 := (Rows.bc (HR.out.right.right.right.right.right.right.right.right.right.right.left) 2 rfl).1
              have da13 := (Rows.bc (HR.out.right.right.right.right.right.right.right.right.right.right.left) 3 rfl).1
              have ta1 := (Rows.bc (HR.out.right.right.right.right.right.right.right.right.right.right.left) 0 rfl).2
              have da00 := (Rows.bc (HR.out.right.right.right.right.right.right.right.right.right.right.right) 0 rfl).1
              have da01 := (Rows.bc (HR.out.right.right.right.right.right.right.right.right.right.right.right) 1 rfl).1
              have da02 := (Rows.bc (HR.out.right.right.right.right.right.right.right.right.right.right.right) 2 rfl).1
              have ta0 := (Rows.bc (HR.out.right.right.right.right.right.right.right.right.right.right.right) 0 rfl).2
              clear dbh00 dbh01 dbh02 tbh0 dbG00 dbG01 dbG02 tbG0 dbW00 dbW01 dbW02 tbW0 da10 da11 da12 da13 ta1 da00 da01 da02 ta0
              have dbh00 := (Rows.bc (HR.out.left) 0 rfl).1
              have dbh01 := (Rows.bc (HR.out.left) 1 rfl).1
              have dbh02 := (Rows.bc (HR.out.left) 2 rfl).1
              have tbh0 := (Rows.bc (HR.out.left) 0 rfl).2
              have dbG00 := (Rows.bc (HR.out.right.right.right.right.right.right.left) 0 rfl).1
              have dbG01 := (Rows.bc (HR.out.right.right.right.right.right.right.left) 1 rfl).1
              have dbG02 := (Rows.bc (HR.out.right.right.right.right.right.right.left) 2 rfl).1
              have tbG0 := (Rows.bc (HR.out.right.right.right.right.right.right.left) 0 rfl).2
              have dbW00 := (Rows.bc (HR.out.right.right.right.right.right.right.right.left) 0 rfl).1
              have dbW01 := (Rows.bc (HR.out.right.right.right.right.right.right.right.left) 1 rfl).1
              have dbW02 := (Rows.bc (HR.out.right.right.right.right.right.right.right.left) 2 rfl).1
              have tbW0 := (Rows.bc (HR.out.right.right.right.right.right.right.right.left) 0 rfl).2
              have da10 := (Rows.bc (HR.out.right.right.right.right.right.right.right.right.right.right.left) 0 rfl).1
              have da11 := (Rows.bc (HR.out.right.right.right.right.right.right.right.right.right.right.left) 1 rfl).1
              have da12 := (Rows.bc (HR.out.right.right.right.right.right.right.right.right.right.right.left) 2 rfl).1
              have da13 := (Rows.bc (HR.out.right.right.right.right.right.right.right.right.right.right.left) 3 rfl).1
              have ta1 := (Rows.bc (HR.out.right.right.right.right.right.right.right.right.right.right.left) 0 rfl).2
              have da00 := (Rows.bc (HR.out.right.right.right.right.right.right.right.right.right.right.right) 0 rfl).1
              have da01 := (Rows.bc (HR.out.right.right.right.right.right.right.right.right.right.right.right) 1 rfl).1
              have da02 := (Rows.bc (HR.out.right.right.right.right.right.right.right.right.right.right.right) 2 rfl).1
              have ta0 := (Rows.bc (HR.out.right.right.right.right.right.right.right.right.right.right.right) 0 rfl).2
              have z0f : w116.frozen? ⟨w115.heap.size, 0, none⟩ = false := (Rows.bcell2 (T := 29) (d := 3) (cs := [.int .i64 0, .int .i64 0, .slice none 0 0]) (pre := []) (q := 0) HR.out rfl).2.1
              have z1f : w116.frozen? ⟨w115.heap.size, 1, none⟩ = false := (Rows.bcell2 (T := 29) (d := 3) (cs := [.int .i64 0, .int .i64 0, .slice none 0 0]) (pre := []) (q := 1) HR.out rfl).2.1
              have z2f : w116.frozen? ⟨w115.heap.size, 2, none⟩ = false := (Rows.bcell2 (T := 29) (d := 3) (cs := [.int .i64 0, .int .i64 0, .slice none 0 0]) (pre := []) (q := 2) HR.out rfl).2.1
              refine wpAnyH_ready (rs := [10]) (by kernel_rfl) (by simp) ?_
              refine AllReadyH.cons (o := ?oi185) ?hi185 (fun K hK => ?step185) AllReadyH.nil
              case hi185 => simp only [List.getElem?_toArray, List.getElem?_cons_succ, List.getElem?_cons_zero]; rfl
              rw [if_pos (by rfl)]
              go_simp
              refine hK.out _ _ ⟨((World.cell?_setCell_far _ _ _ _ ne_a0).trans ((World.cell?_setCell_far _ _ _ _ ne_a0).trans ((World.cell?_setCell_far _ _ _ _ ne_a0).trans da00))), ((World.cell?_setCell_far _ _ _ _ ne_a0).trans ((World.cell?_setCell_far _ _ _ _ ne_a0).trans ((World.cell?_setCell_far _ _ _ _ ne_a0).trans da01))), ((World.cell?_setCell_far _ _ _ _ ne_a0).trans ((World.cell?_setCell_far _ _ _ _ ne_a0).trans ((World.cell?_setCell_far _ _ _ _ ne_a0).trans da02))), ((World.cell?_setCell_far _ _ _ _ ne_a1).trans ((World.cell?_setCell_far _ _ _ _ ne_a1).trans ((World.cell?_setCell_far _ _ _ _ ne_a1).trans da10))), ((World.cell?_setCell_far _ _ _ _ ne_a1).trans ((World.cell?_setCell_far _ _ _ _ ne_a1).trans ((World.cell?_setCell_far _ _ _ _ ne_a1).trans da11))), ((World.cell?_setCell_far _ _ _ _ ne_a1).trans ((World.cell?_setCell_far _ _ _ _ ne_a1).trans ((World.cell?_setCell_far _ _ _ _ ne_a1).trans da12))), ((World.cell?_setCell_far _ _ _ _ ne_a1).trans ((World.cell?_setCell_far _ _ _ _ ne_a1).trans ((World.cell?_setCell_far _ _ _ _ ne_a1).trans da13)))⟩ (fun hS9 => ?_)
              refine wpAnyH_take (i := 11) (oi := ?oi186) (v := ?v186) ?hi186 (by kernel_rfl) ?hf186 ?hr186 ?hQ186 (Or.inl ⟨?hw186, ?hy186⟩) (by assumption) ?rest186
              case hi186 => simp only [List.getElem?_toArray, List.getElem?_cons_succ, List.getElem?_cons_zero]; rfl
              case hf186 => kernel_rfl
              case hr186 => kernel_rfl
              case hw186 => rfl
              case hy186 => (intro w hSw; (try dsimp only at hSw); go_simp; all_goals (first | done | with_reducible rfl))
              case hQ186 => exact fun _ _ _ h => h
              simp only [Act.put, List.setIfInBounds_toArray, List.set_cons_zero, List.set_cons_succ]
              refine wpAnyH_take (i := 12) (oi := ?oi187) (v := ?v187) ?hi187 (by kernel_rfl) ?hf187 ?hr187 ?hQ187 (Or.inl ⟨?hw187, ?hy187⟩) (by assumption) ?rest187
              case hi187 => simp only [List.getElem?_toArray, List.getElem?_cons_succ, List.getElem?_cons_zero]; rfl
              case hf187 => kernel_rfl
              case hr187 => kernel_rfl
              case hw187 => rfl
              case hy187 => (intro w hSw; (try dsimp only at hSw); go_simp; all_goals (first | done | with_reducible rfl))
              case hQ187 => exact fun _ _ _ h => h
              simp only [Act.put, List.setIfInBounds_toArray, List.set_cons_zero, List.set_cons_succ]
              refine wpAnyH_done (by kernel_rfl) ?_ _
              replace HR := hid (Rows.boxset (T := 29) (d := 3) (cs := [.int .i64 0, .int .i64 0, .slice none 0 0]) (pre := []) (j := 0) (u := .int .i64 X0.rm) HR.out)
              replace HR := hid (Rows.boxset (T := 29) (d := 3) (cs := [.int .i64 X0.rm, .int .i64 0, .slice none 0 0]) (pre := []) (j := 1) (u := .int .i64 X0.lv) HR.out)
              replace HR := hid (Rows.boxset (T := 29) (d := 3) (cs := [.int .i64 X0.rm, .int .i64 X0.lv, .slice none 0 0]) (pre := []) (j := 2) (u := .slice fh00 fh01 fh02) HR.out)
              replace HB := hid (((HB.out.setCell (p := ⟨_, 0, none⟩) nle (.int .i64 X0.rm)).setCell (p := ⟨_, 1, none⟩) nle (.int .i64 X0.lv)).setCell (p := ⟨_, 2, none⟩) nle (.slice fh00 fh01 fh02))
              go_wp2_with fail
              go_meet
              case rel => exact ⟨_, _, _, _, _, _, _, _, _, _, _, rfl, rfl, rfl, Sh0.out, Sh1.out, Sz0.out, HR.out, HB.out⟩
            · have ne_a0 : w114.heap.size ≠ w.heap.size := Nat.ne_of_gt ta0
              have ne_a1 : w114.heap.size ≠ w.heap.size + 1 := Nat.ne_of_gt ta1
              have nle : w.heap.size ≤ w114.heap.size := HB.out.size
              have hb : Below w114.heap.size w114 (w114.alloc (.cells #[.int .i64 0, .int .i64 0, .slice none 0 0] 29)) := (Below.refl _ _).alloc (Nat.le_refl _) _
              have hr := Rows.box w114 #[.int .i64 0, .int .i64 0, .slice none 0 0] 29 3 rfl
              replace HR := hid (HR.out.newer hb hr HB.out.size)
              replace HB := hid (HB.out.trans (hb.mono HB.out.size))
              clear hb hr
              clear dbG00 dbG01 dbG02 tbG0 dbW00 dbW01 dbW02 tbW0 da10 da11 da12 da13 ta1 da00 da01 da02 ta0
              have dbh00 := (Rows.bc (HR.out.left) 0 rfl).1
              have dbh01 := (Rows.bc (HR.out.left) 1 rfl).1
              have dbh02 := (Rows.bc (HR.out.left) 2 rfl).1
              have tbh0 := (Rows.bc (HR.out.left) 0 rfl).2
              have dbG00 := (Rows.bc (HR.out.right.right.right.right.left) 0 rfl).1
              have dbG01 := (Rows.bc (HR.out.right.right.right.right.left) 1 rfl).1
              have dbG02 := (Rows.bc (HR.out.right.right.right.right.left) 2 rfl).1
              have tbG0 := (Rows.bc (HR.out.right.right.right.right.left) 0 rfl).2
              have dbW00 := (Rows.bc (HR.out.right.right.right.right.right.left) 0 rfl).1
              have dbW01 := (Rows.bc (HR.out.right.right.right.right.right.left) 1 rfl).1
              have dbW02 := (Rows.bc (HR.out.right.right.right.right.right.left) 2 rfl).1
              have tbW0 := (Rows.bc (HR.out.right.right.right.right.right.left) 0 rfl).2
              have da10 := (Rows.bc (HR.out.right.right.right.right.right.right.right.right.left) 0 rfl).1
              have da11 := (Rows.bc (HR.out.right.right.right.right.right.right.right.right.left) 1 rfl).1
              have da12 := (Rows.bc (HR.out.right.right.right.right.right.right.right.right.left) 2 rfl).1
              have da13 := (Rows.bc (HR.out.right.right.right.right.right.right.right.right.left) 3 rfl).1
              have ta1 := (Rows.bc (HR.out.right.right.right.right.right.right.right.right.left) 0 rfl).2
              have da00 := (Rows.bc (HR.out.right.right.right.right.right.right.right.right.right) 0 rfl).1
              have da01 := (Rows.bc (HR.out.right.right.right.right.right.right.right.right.right) 1 rfl).1
              have da02 := (Rows.bc (HR.out.right.right.right.right.right.right.right.right.right) 2 rfl).1
              have ta0 := (Rows.bc (HR.out.right.right.right.right.right.right.right.right.right) 0 rfl).2
              refine hK.out _ _ ⟨da00, da01, da02, da10, da11, da12, da13⟩ (fun hS9 => ?_)
              clear dbh00 dbh01 dbh02 tbh0 dbG00 dbG01 dbG02 tbG0 dbW00 dbW01 dbW02 tbW0 da10 da11 da12 da13 ta1 da00 da01 da02 ta0
              generalize (w114.alloc (.cells #[.int .i64 0, .int .i64 0, .slice none 0 0] 29)) = w115 at *
              have dbh00 := (Rows.bc (HR.out.left) 0 rfl).1
              have dbh01 := (Rows.bc (HR.out.left) 1 rfl).1
              have dbh02 := (Rows.bc (HR.out.left) 2 rfl).1
              have tbh0 := (Rows.bc (HR.out.left) 0 rfl).2
              have dbG00 := (Rows.bc (HR.out.right.right.right.right.left) 0 rfl).1
              have dbG01 := (Rows.bc (HR.out.right.right.right.right.left) 1 rfl).1
              have dbG02 := (Rows.bc (HR.out.right.right.right.right.left) 2 rfl).1
              have tbG0 := (Rows.bc (HR.out.right.right.right.right.left) 0 rfl).2
              have dbW00 := (Rows.bc (HR.out.right.right.right.right.right.left) 0 rfl).1
              have dbW01 := (Rows.bc (HR.out.right.right.right.right.right.left) 1 rfl).1
              have dbW02 := (Rows.bc (HR.out.right.right.right.right.right.left) 2 rfl).1
              have tbW0 := (Rows.bc (HR.out.right.right.right.right.right.left) 0 rfl).2
              have da10 := (Rows.bc (HR.out.right.right.right.right.right.right.right.right.left) 0 rfl).1
              have da11 := (Rows.bc (HR.out.right.right.right.right.right.right.right.right.left) 1 rfl).1
              have da12 := (Rows.bc (HR.out.right.right.right.right.right.right.right.right.left) 2 rfl).1
              have da13 := (Rows.bc (HR.out.right.right.right.right.right.right.right.right.left) 3 rfl).1
              have ta1 := (Rows.bc (HR.out.right.right.right.right.right.right.right.right.left) 0 rfl).2
              have da00 := (Rows.bc (HR.out.right.right.right.right.right.right.right.right.right) 0 rfl).1
              have da01 := (Rows.bc (HR.out.right.right.right.right.right.right.right.right.right) 1 rfl).1
              have da02 := (Rows.bc (HR.out.right.right.right.right.right.right.right.right.right) 2 rfl).1
              have ta0 := (Rows.bc (HR.out.right.right.right.right.right.right.right.right.right) 0 rfl).2
              refine wpAnyH_ready (rs := [4]) (by kernel_rfl) (by simp) ?_
              refine AllReadyH.cons (o := ?oi188) ?hi188 (fun K hK => ?step188) AllReadyH.nil
              case hi188 => simp only [List.getElem?_toArray, List.getElem?_cons_succ, List.getElem?_cons_zero]; rfl
              rw [if_pos (by rfl)]
              go_simp
              go_at_call 26
              refine (cI.out _ _ (Sz0.out.at_ (HR.out.right.left) F0.out)).mono ?_
              rintro e w116 ⟨v0, rsh0, v1, rsh1, rfl, hs0, hs1, hr, hb⟩
              obtain ⟨fh00, fh01, fh02, rfl⟩ := hs0.form hr.left
              have Sh0 := hid hs0
              obtain ⟨fh10, fh11, fh12, rfl⟩ := hs1.form hr.right
              have Sh1 := hid hs1
              clear hs0 hs1
              replace HR := hid (HR.out.newer hb hr HB.out.size)
              replace HR := hid (by simpa only [List.append_assoc] using HR.out)
              replace HB := hid (HB.out.trans (hb.mono HB.out.size))
              clear hb hr
              clear dbh00 dbh01 dbh02 tbh0 dbG00 dbG01 dbG02 tbG0 dbW00 dbW01 dbW02 tbW0 da10 da11 da12 da13 ta1 da00 da01 da02 ta0
              have dbh00 := (Rows.bc (HR.out.right.right.left) 0 rfl).1
              have dbh01 := (Rows.bc (HR.out.right.right.left) 1 rfl).1
              have dbh02 := (Rows.bc (HR.out.right.right.left) 2 rfl).1
              have tbh0 := (Rows.bc (HR.out.right.right.left) 0 rfl).2
              have dbG00 := (Rows.bc (HR.out.right.right.right.right.right.right.left) 0 rfl).1
              have dbG01 := (Rows.bc (HR.out.right.right.right.right.right.right.left) 1 rfl).1
              have dbG02 := (Rows.bc (HR.out.right.right.right.right.right.right.left) 2 rfl).1
              have tbG0 := (Rows.bc (HR.out.right.right.right.right.right.right.left) 0 rfl).2
              have dbW00 := (Rows.bc (HR.out.right.right.right.right.right.right.right.left) 0 rfl).1
              have dbW01 := (Rows.bc (HR.out.right.right.right.right.right.right.right.left) 1 rfl).1
              have dbW02 := (Rows.bc (HR.out.right.right.right.right.right.right.right.left) 2 rfl).1
              have tbW0 := (Rows.bc (HR.out.right.right.right.right.right.right.right.left) 0 rfl).2
              have da10 := (Rows.bc (HR.out.right.right.right.right.right.right.right.right.right.right.left) 0 rfl).1
              have da11 := (Rows.bc (HR.out.right.right.right.right.right.right.right.right.right.right.left) 1 rfl).1
              have da12 := (Rows.bc (HR.out.right.right.right.right.right.right.right.right.right.right.left) 2 rfl).1
              have da13 := (Rows.bc (HR.out.right.right.right.right.right.right.right.right.right.right.left) 3 rfl).1
              have ta1 := (Rows.bc (HR.out.right.right.right.right.right.right.right.right.right.right.left) 0 rfl).2
              have da00 := (Rows.bc (HR.out.right.right.right.right.right.right.right.right.right.right.right) 0 rfl).1
              have da01 := (Rows.bc (HR.out.right.right.right.right.right.right.right.right.right.right.right) 1 rfl).1
              have da02 := (Rows.bc (HR.out.right.right.right.right.right.right.right.right.right.right.right) 2 rfl).1
              have ta0 := (Rows.bc (HR.out.right.right.right.right.right.right.right.right.right.right.right) 0 rfl).2
              refine hK.out _ _ ⟨da00, da01, da02, da10, da11, da12, da13⟩ (fun hS9 => ?_)
              refine wpAnyH_take (i := 5) (oi := ?oi189) (v := ?v189) ?hi189 (by kernel_rfl) ?hf189 ?hr189 ?hQ189 (Or.inl ⟨?hw189, ?hy189⟩) (by assumption) ?rest189
              case hi189 => simp only [List.getElem?_toArray, List.getElem?_cons_succ, List.getElem?_cons_zero]; rfl
              case hf189 => kernel_rfl
              case hr189 => kernel_rfl
              case hw189 => rfl
              case hy189 => (intro w hSw; (try dsimp only at hSw); go_simp; all_goals (first | done | with_reducible rfl))
              case hQ189 => exact fun _ _ _ h => h
              simp only [Act.put, List.setIfInBounds_toArray, List.set_cons_zero, List.set_cons_succ]
              refine wpAnyH_take (i := 6) (oi := ?oi190) (v := ?v190) ?hi190 (by kernel_rfl) ?hf190 ?hr190 ?hQ190 (Or.inl ⟨?hw190, ?hy190⟩) (by assumption) ?rest190
              case hi190 => simp only [List.getElem?_toArray, List.getElem?_cons_succ, List.getElem?_cons_zero]; rfl
              case hf190 => kernel_rfl
              case hr190 => kernel_rfl
              case hw190 => rfl
              case hy190 => (intro w hSw; (try dsimp only at hSw); go_simp; all_goals (first | done | with_reducible rfl))
              case hQ190 => exact fun _ _ _ h => h
              simp only [Act.put, List.setIfInBounds_toArray, List.set_cons_zero, List.set_cons_succ]
              refine wpAnyH_take (i := 7) (oi := ?oi191) (v := ?v191) ?hi191 (by kernel_rfl) ?hf191 ?hr191 ?hQ191 (Or.inl ⟨?hw191, ?hy191⟩) (by assumption) ?rest191
              case hi191 => simp only [List.getElem?_toArray, List.getElem?_cons_succ, List.getElem?_cons_zero]; rfl
              case hf191 => kernel_rfl
              case hr191 => kernel_rfl
              case hw191 => rfl
              case hy191 => (intro w hSw; (try dsimp only at hSw); go_simp; all_goals (first | done | with_reducible rfl))
              case hQ191 => exact fun _ _ _ h => h
              simp only [Act.put, List.setIfInBounds_toArray, List.set_cons_zero, List.set_cons_succ]
              refine wpAnyH_take (i := 8) (oi := ?oi192) (v := ?v192) ?hi192 (by kernel_rfl) ?hf192 ?hr192 ?hQ192 (Or.inl ⟨?hw192, ?hy192⟩) (by assumption) ?rest192
              case hi192 => simp only [List.getElem?_toArray, List.getElem?_cons_succ, List.getElem?_cons_zero]; rfl
              case hf192 => kernel_rfl
              case hr192 => kernel_rfl
              case hw192 => rfl
              case hy192 => (intro w hSw; (try dsimp only at hSw); go_simp; all_goals (first | done | with_reducible rfl))
              case hQ192 => exact fun _ _ _ h => h
              simp only [Act.put, List.setIfInBounds_toArray, List.set_cons_zero, List.set_cons_succ]
              replace HR := hid (HR.out.perm (((List.perm_append_comm_assoc _ _ _).append_left _).trans (List.perm_append_comm_assoc _ _ _)))
              clear dbh00 dbh01 dbh02 tbh0 dbG00 dbG01 dbG02 tbG0 dbW00 dbW01 dbW02 tbW0 da10 da11 da12 da13 ta1 da00 da01 da02 ta0
              have dbh00 := (Rows.bc (HR.out.left) 0 rfl).1
              have dbh01 := (Rows.bc (HR.out.left) 1 rfl).1
              have dbh02 := (Rows.bc (HR.out.left) 2 rfl).1
              have tbh0 := (Rows.bc (HR.out.left) 0 rfl).2
              have dbG00 := (Rows.bc (HR.out.right.right.right.right.right.right.left) 0 rfl).1
              have dbG01 := (Rows.bc (HR.out.right.right.right.right.right.right.left) 1 rfl).1
              have dbG02 := (Rows.bc (HR.out.right.right.right.right.right.right.left) 2 rfl).1
              have tbG0 := (Rows.bc (HR.out.right.right.right.right.right.right.left) 0 rfl).2
              have dbW00 := (Rows.bc (HR.out.right.right.right.right.right.right.right.left) 0 rfl).1
              have dbW01 := (Rows.bc (HR.out.right.right.right.right.right.right.right.left) 1 rfl).1
              have dbW02 := (Rows.bc (HR.out.right.right.right.right.right.right.right.left) 2 rfl).1
              have tbW0 := (Rows.bc (HR.out.right.right.right.right.right.right.right.left) 0 rfl).2
              have da10 := (Rows.bc (HR.out.right.right.right.right.right.right.right.right.right.right.left) 0 rfl).1
              have da11 := (Rows.bc (HR.out.right.right.right.right.right.right.right.right.right.right.left) 1 rfl).1
              have da12 := (Rows.bc (HR.out.right.right.right.right.right.right.right.right.right.right.left) 2 rfl).1
              have da13 := (Rows.bc (HR.out.right.right.right.right.right.right.right.right.right.right.left) 3 rfl).1
              have ta1 := (Rows.bc (HR.out.right.right.right.right.right.right.right.right.right.right.left) 0 rfl).2
              have da00 := (Rows.bc (HR.out.right.right.right.right.right.right.right.right.right.right.right) 0 rfl).1
              have da01 := (Rows.bc (HR.out.right.right.right.right.right.right.right.right.right.right.right) 1 rfl).1
              have da02 := (Rows.bc (HR.out.right.right.right.right.right.right.right.right.right.right.right) 2 rfl).1
              have ta0 := (Rows.bc (HR.out.right.right.right.right.right.right.right.right.right.right.right) 0 rfl).2
              have z0f : w116.frozen? ⟨w114.heap.size, 0, none⟩ = false := (Rows.bcell2 (T := 29) (d := 3) (cs := [.int .i64 0, .int .i64 0, .slice none 0 0]) (pre := []) (q := 0) HR.out rfl).2.1
              have z1f : w116.frozen? ⟨w114.heap.size, 1, none⟩ = false := (Rows.bcell2 (T := 29) (d := 3) (cs := [.int .i64 0, .int .i64 0, .slice none 0 0]) (pre := []) (q := 1) HR.out rfl).2.1
              have z2f : w116.frozen? ⟨w114.heap.size, 2, none⟩ = false := (Rows.bcell2 (T := 29) (d := 3) (cs := [.int .i64 0, .int .i64 0, .slice none 0 0]) (pre := []) (q := 2) HR.out rfl).2.1
              refine wpAnyH_ready (rs := [10]) (by kernel_rfl) (by simp) ?_
              refine AllReadyH.cons (o := ?oi193) ?hi193 (fun K hK => ?step193) AllReadyH.nil
              case hi193 => simp only [List.getElem?_toArray, List.getElem?_cons_succ, List.getElem?_cons_zero]; rfl
              rw [if_pos (by rfl)]
              go_simp
              refine hK.out _ _ ⟨((World.cell?_setCell_far _ _ _ _ ne_a0).trans ((World.cell?_setCell_far _ _ _ _ ne_a0).trans ((World.cell?_setCell_far _ _ _ _ ne_a0).trans da00))), ((World.cell?_setCell_far _ _ _ _ ne_a0).trans ((World.cell?_setCell_far _ _ _ _ ne_a0).trans ((World.cell?_setCell_far _ _ _ _ ne_a0).trans da01))), ((World.cell?_setCell_far _ _ _ _ ne_a0).trans ((World.cell?_setCell_far _ _ _ _ ne_a0).trans ((World.cell?_setCell_far _ _ _ _ ne_a0).trans da02))), ((World.cell?_setCell_far _ _ _ _ ne_a1).trans ((World.cell?_setCell_far _ _ _ _ ne_a1).trans ((World.cell?_setCell_far _ _ _ _ ne_a1).trans da10))), ((World.cell?_setCell_far _ _ _ _ ne_a1).trans ((World.cell?_setCell_far _ _ _ _ ne_a1).trans ((World.cell?_setCell_far _ _ _ _ ne_a1).trans da11))), ((World.cell?_setCell_far _ _ _ _ ne_a1).trans ((World.cell?_setCell_far _ _ _ _ ne_a1).trans ((World.cell?_setCell_far _ _ _ _ ne_a1).trans da12))), ((World.cell?_setCell_far _ _ _ _ ne_a1).trans ((World.cell?_setCell_far _ _ _ _ ne_a1).trans ((World.cell?_setCell_far _ _ _ _ ne_a1).trans da13)))⟩ (fun hS9 => ?_)
              refine wpAnyH_take (i := 11) (oi := ?oi194) (v := ?v194) ?hi194 (by kernel_rfl) ?hf194 ?hr194 ?hQ194 (Or.inl ⟨?hw194, ?hy194⟩) (by assumption) ?rest194
              case hi194 => simp only [List.getElem?_toArray, List.getElem?_cons_succ, List.getElem?_cons_zero]; rfl
              case hf194 => kernel_rfl
              case hr194 => kernel_rfl
              case hw194 => rfl
              case hy194 => (intro w hSw; (try dsimp only at hSw); go_simp; all_goals (first | done | with_reducible rfl))
              case hQ194 => exact fun _ _ _ h => h
              simp only [Act.put, List.setIfInBounds_toArray, List.set_cons_zero, List.set_cons_succ]
              refine wpAnyH_take (i := 12) (oi := ?oi195) (v := ?v195) ?hi195 (by kernel_rfl) ?hf195 ?hr195 ?hQ195 (Or.inl ⟨?hw195, ?hy195⟩) (by assumption) ?rest195
              case hi195 => simp only [List.getElem?_toArray, List.getElem?_cons_succ, List.getElem?_cons_zero]; rfl
              case hf195 => kernel_rfl
              case hr195 => kernel_rfl
              case hw195 => rfl
              case hy195 => (intro w hSw; (try dsimp only at hSw); go_simp; all_goals (first | done | with_reducible rfl))
              case hQ195 => exact fun _ _ _ h => h
              simp only [Act.put, List.setIfInBounds_toArray, List.set_cons_zero, List.set_cons_succ]
              refine wpAnyH_done (by kernel_rfl) ?_ _
              replace HR := hid (Rows.boxset (T := 29) (d := 3) (cs := [.int .i64 0, .int .i64 0, .slice none 0 0]) (pre := []) (j := 0) (u := .int .i64 X0.rm) HR.out)
              replace HR := hid (Rows.boxset (T := 29) (d := 3) (cs := [.int .i64 X0.rm, .int .i64 0, .slice none 0 0]) (pre := []) (j := 1) (u := .int .i64 X0.lv) HR.out)
              replace HR := hid (Rows.boxset (T := 29) (d := 3) (cs := [.int .i64 X0.rm, .int .i64 X0.lv, .slice none 0 0]) (pre := []) (j := 2) (u := .slice fh00 fh01 fh02) HR.out)
              replace HB := hid (((HB.out.setCell (p := ⟨_, 0, none⟩) nle (.int .i64 X0.rm)).setCell (p := ⟨_, 1, none⟩) nle (.int .i64 X0.lv)).setCell (p := ⟨_, 2, none⟩) nle (.slice fh00 fh01 fh02))
              go_wp2_with fail
              go_meet
              case rel => exact ⟨_, _, _, _, _, _, _, _, _, _, _, rfl, rfl, rfl, Sh0.out, Sh1.out, Sz0.out, HR.out, HB.out⟩
          · have ne_a0 : w113.heap.size ≠ w.heap.size := Nat.ne_of_gt ta0
            have ne_a1 : w113.heap.size ≠ w.heap.size + 1 := Nat.ne_of_gt ta1
            have nle : w.heap.size ≤ w113.heap.size := HB.out.size
            have hb : Below w113.heap.size w113 (w113.alloc (.cells #[.int .i64 0, .int .i64 0, .slice none 0 0] 29)) := (Below.refl _ _).alloc (Nat.le_refl _) _
            have hr := Rows.box w113 #[.int .i64 0, .int .i64 0, .slice none 0 0] 29 3 rfl
            replace HR := hid (HR.out.newer hb hr HB.out.size)
            replace HB := hid (HB.out.trans (hb.mono HB.out.size))
            clear hb hr
            clear dbG00 dbG01 dbG02 tbG0 dbW00 dbW01 dbW02 tbW0 da10 da11 da12 da13 ta1 da00 da01 da02 ta0
            have dbh00 := (Rows.bc (HR.out.left) 0 rfl).1
            have dbh01 := (Rows.bc (HR.out.left) 1 rfl).1
            have dbh02 := (Rows.bc (HR.out.left) 2 rfl).1
            have tbh0 := (Rows.bc (HR.out.left) 0 rfl).2
            have dbG00 := (Rows.bc (HR.out.right.right.right.right.left) 0 rfl).1
            have dbG01 := (Rows.bc (HR.out.right.right.right.right.left) 1 rfl).1
            have dbG02 := (Rows.bc (HR.out.right.right.right.right.left) 2 rfl).1
            have tbG0 := (Rows.bc (HR.out.right.right.right.right.left) 0 rfl).2
            have dbW00 := (Rows.bc (HR.out.right.right.right.right.right.left) 0 rfl).1
            have dbW01 := (Rows.bc (HR.out.right.right.right.right.right.left) 1 rfl).1
            have dbW02 := (Rows.bc (HR.out.right.right.right.right.right.left) 2 rfl).1
            have tbW0 := (Rows.bc (HR.out.right.right.right.right.right.left) 0 rfl).2
            have da10 := (Rows.bc (HR.out.right.right.right.right.right.right.right.right.left) 0 rfl).1
            have da11 := (Rows.bc (HR.out.right.right.right.right.right.right.right.right.left) 1 rfl).1
            have da12 := (Rows.bc (HR.out.right.right.right.right.right.right.right.right.left) 2 rfl).1
            have da13 := (Rows.bc (HR.out.right.right.right.right.right.right.right.right.left) 3 rfl).1
            have ta1 := (Rows.bc (HR.out.right.right.right.right.right.right.right.right.left) 0 rfl).2
            have da00 := (Rows.bc (HR.out.right.right.right.right.right.right.right.right.right) 0 rfl).1
            have da01 := (Rows.bc (HR.out.right.right.right.right.right.right.right.right.right) 1 rfl).1
            have da02 := (Rows.bc (HR.out.right.right.right.right.right.right.right.right.right) 2 rfl).1
            have ta0 := (Rows.bc (HR.out.right.right.right.right.right.right.right.right.right) 0 rfl).2
            refine hK.out _ _ ⟨da00, da01, da02, da10, da11, da12, da13⟩ (fun hS9 => ?_)
            clear dbh00 dbh01 dbh02 tbh0 dbG00 dbG01 dbG02 tbG0 dbW00 dbW01 dbW02 tbW0 da10 da11 da12 da13 ta1 da00 da01 da02 ta0
            generalize (w113.alloc (.cells #[.int .i64 0, .int .i64 0, .slice none 0 0] 29)) = w114 at *
            have dbh00 := (Rows.bc (HR.out.left) 0 rfl).1
            have dbh01 := (Rows.bc (HR.out.left) 1 rfl).1
            have dbh02 := (Rows.bc (HR.out.left) 2 rfl).1
            have tbh0 := (Rows.bc (HR.out.left) 0 rfl).2
            have dbG00 := (Rows.bc (HR.out.right.right.right.right.left) 0 rfl).1
            have dbG01 := (Rows.bc (HR.out.right.right.right.right.left) 1 rfl).1
            have dbG02 := (Rows.bc (HR.out.right.right.right.right.left) 2 rfl).1
            have tbG0 := (Rows.bc (HR.out.right.right.right.right.left) 0 rfl).2
            have dbW00 := (Rows.bc (HR.out.right.right.right.right.right.left) 0 rfl).1
            have dbW01 := (Rows.bc (HR.out.right.right.right.right.right.left) 1 rfl).1
            have dbW02 := (Rows.bc (HR.out.right.right.right.right.right.left) 2 rfl).1
            have tbW0 := (Rows.bc (HR.out.right.right.right.right.right.left) 0 rfl).2
            have da10 := (Rows.bc (HR.out.right.right.right.right.right.right.right.right.left) 0 rfl).1
            have da11 := (Rows.bc (HR.out.right.right.right.right.right.right.right.right.left) 1 rfl).1
            have da12 := (Rows.bc (HR.out.right.right.right.right.right.right.right.right.left) 2 rfl).1
            have da13 := (Rows.bc (HR.out.right.right.right.right.right.right.right.right.left) 3 rfl).1
            have ta1 := (Rows.bc (HR.out.right.right.right.right.right.right.right.right.left) 0 rfl).2
            have da00 := (Rows.bc (HR.out.right.right.right.right.right.right.right.right.right) 0 rfl).1
            have da01 := (Rows.bc (HR.out.right.right.right.right.right.right.right.right.right) 1 rfl).1
            have da02 := (Rows.bc (HR.out.right.right.right.right.right.right.right.right.right) 2 rfl).1
            have ta0 := (Rows.bc (HR.out.right.right.right.right.right.right.right.right.right) 0 rfl).2
            refine wpAnyH_ready (rs := [3]) (by kernel_rfl) (by simp) ?_
            refine AllReadyH.cons (o := ?oi196) ?hi196 (fun K hK => ?step196) AllReadyH.nil
            case hi196 => simp only [List.getElem?_toArray, List.getElem?_cons_succ, List.getElem?_cons_zero]; rfl
            rw [if_pos (by rfl)]
            go_simp
            go_at_call 25
            refine (toRecord_c nm1 lv1 tx1 sq1 _).mono ?_
            rintro e w115 ⟨rfl, hb⟩
            replace HR := hid (HR.out.below hb)
            replace HB := hid (HB.out.trans (hb.mono HB.out.size))
            clear hb
            clear dbh00 dbh01 dbh02 tbh0 dbG00 dbG01 dbG02 tbG0 dbW00 dbW01 dbW02 tbW0 da10 da11 da12 da13 ta1 da00 da01 da02 ta0
            have dbh00 := (Rows.bc (HR.out.left) 0 rfl).1
            have dbh01 := (Rows.bc (HR.out.left) 1 rfl).1
            have dbh02 := (Rows.bc (HR.out.left) 2 rfl).1
            have tbh0 := (Rows.bc (HR.out.left) 0 rfl).2
            have dbG00 := (Rows.bc (HR.out.right.right.right.right.left) 0 rfl).1
            have dbG01 := (Rows.bc (HR.out.right.right.right.right.left) 1 rfl).1
            have dbG02 := (Rows.bc (HR.out.right.right.right.right.left) 2 rfl).1
            have tbG0 := (Rows.bc (HR.out.right.right.right.right.left) 0 rfl).2
            have dbW00 := (Rows.bc (HR.out.right.right.right.right.right.left) 0 rfl).1
            have dbW01 := (Rows.bc (HR.out.right.right.right.right.right.left) 1 rfl).1
            have dbW02 := (Rows.bc (HR.out.right.right.right.right.right.left) 2 rfl).1
            have tbW0 := (Rows.bc (HR.out.right.right.right.right.right.left) 0 rfl).2
            have da10 := (Rows.bc (HR.out.right.right.right.right.right.right.right.right.left) 0 rfl).1
            have da11 := (Rows.bc (HR.out.right.right.right.right.right.right.right.right.left) 1 rfl).1
            have da12 := (Rows.bc (HR.out.right.right.right.right.right.right.right.right.left) 2 rfl).1
            have da13 := (Rows.bc (HR.out.right.right.right.right.right.right.right.right.left) 3 rfl).1
            have ta1 := (Rows.bc (HR.out.right.right.right.right.right.right.right.right.left) 0 rfl).2
            have da00 := (Rows.bc (HR.out.right.right.right.right.right.right.right.right.right) 0 rfl).1
            have da01 := (Rows.bc (HR.out.right.right.right.right.right.right.right.right.right) 1 rfl).1
            have da02 := (Rows.bc (HR.out.right.right.right.right.right.right.right.right.right) 2 rfl).1
            have ta0 := (Rows.bc (HR.out.right.right.right.right.right.right.right.right.right) 0 rfl).2
            refine hK.out _ _ ⟨da00, da01, da02, da10, da11, da12, da13⟩ (fun hS9 => ?_)
            refine wpAnyH_ready (rs := [4]) (by kernel_rfl) (by simp) ?_
            refine AllReadyH.cons (o := ?oi197) ?hi197 (fun K hK => ?step197) AllReadyH.nil
            case hi197 => simp only [List.getElem?_toArray, List.getElem?_cons_succ, List.getElem?_cons_zero]; rfl
            rw [if_pos (by rfl)]
            go_simp
            go_at_call 26
            refine (cI.out _ _ (Sz0.out.at_ (HR.out.right.left) F0.out)).mono ?_
            rintro e w116 ⟨v0, rsh0, v1, rsh1, rfl, hs0, hs1, hr, hb⟩
            obtain ⟨fh00, fh01, fh02, rfl⟩ := hs0.form hr.left
            have Sh0 := hid hs0
            obtain ⟨fh10, fh11, fh12, rfl⟩ := hs1.form hr.right
            have Sh1 := hid hs1
            clear hs0 hs1
            replace HR := hid (HR.out.newer hb hr HB.out.size)
            replace HR := hid (by simpa only [List.append_assoc] using HR.out)
            replace HB := hid (HB.out.trans (hb.mono HB.out.size))
            clear hb hr
            clear dbh00 dbh01 dbh02 tbh0 dbG00 dbG01 dbG02 tbG0 dbW00 dbW01 dbW02 tbW0 da10 da11 da12 da13 ta1 da00 da01 da02 ta0
            have dbh00 := (Rows.bc (HR.out.right.right.left) 0 rfl).1
            have dbh01 := (Rows.bc (HR.out.right.right.left) 1 rfl).1
            have dbh02 := (Rows.bc (HR.out.right.right.left) 2 rfl).1
            have tbh0 := (Rows.bc (HR.out.right.right.left) 0 rfl).2
            have dbG00 := (Rows.bc (HR.out.right.right.right.right.right.right.left) 0 rfl).1
            have dbG01 := (Rows.bc (HR.out.right.right.right.right.right.right.left) 1 rfl).1
            have dbG02 := (Rows.bc (HR.out.right.right.right.right.right.right.left) 2 rfl).1
            have tbG0 := (Rows.bc (HR.out.right.right.right.right.right.right.left) 0 rfl).2
            have dbW00 := (Rows.bc (HR.out.right.right.right.right.right.right.right.left) 0 rfl).1
            have dbW01 := (Rows.bc (HR.out.right.right.right.right.right.right.right.left) 1 rfl).1
            have dbW02 := (Rows.bc (HR.out.right.right.right.right.right.right.right.left) 2 rfl).1
            have tbW0 := (Rows.bc (HR.out.right.right.right.right.right.right.right.left) 0 rfl).2
            have da10 := (Rows.bc (HR.out.right.right.right.right.right.right.right.right.right.right.left) 0 rfl).1
            have da11 := (Rows.bc (HR.out.right.right.right.right.right.right.right.right.right.right.left) 1 rfl).1
            have da12 := (Rows.bc (HR.out.right.right.right.right.right.right.right.right.right.right.left) 2 rfl).1
            have da13 := (Rows.bc (HR.out.right.right.right.right.right.right.right.right.right.right.left) 3 rfl).1
            have ta1 := (Rows.bc (HR.out.right.right.right.right.right.right.right.right.right.right.left) 0 rfl).2
            have da00 := (Rows.bc (HR.out.right.right.right.right.right.right.right.right.right.right.right) 0 rfl).1
            have da01 := (Rows.bc (HR.out.right.right.right.right.right.right.right.right.right.right.right) 1 rfl).1
            have da02 := (Rows.bc (HR.out.right.right.right.right.right.right.right.right.right.right.right) 2 rfl).1
            have ta0 := (Rows.bc (HR.out.right.right.right.right.right.right.right.right.right.right.right) 0 rfl).2
            refine hK.out _ _ ⟨da00, da01, da02, da10, da11, da12, da13⟩ (fun hS9 => ?_)
            refine wpAnyH_take (i := 5) (oi := ?oi198) (v := ?v198) ?hi198 (by kernel_rfl) ?hf198 ?hr198 ?hQ198 (Or.inl ⟨?hw198, ?hy198⟩) (by assumption) ?rest198
            case hi198 => simp only [List.getElem?_toArray, List.getElem?_cons_succ, List.getElem?_cons_zero]; rfl
            case hf198 => kernel_rfl
            case hr198 => kernel_rfl
            case hw198 => rfl
            case hy198 => (intro w hSw; (try dsimp only at hSw); go_simp; all_goals (first | done | with_reducible rfl))
            case hQ198 => exact fun _ _ _ h => h
            simp only [Act.put, List.setIfInBounds_toArray, List.set_cons_zero, List.set_cons_succ]
            refine wpAnyH_take (i := 6) (oi := ?oi199) (v := ?v199) ?hi199 (by kernel_rfl) ?hf199 ?hr199 ?hQ199 (Or.inl ⟨?hw199, ?hy199⟩) (by assumption) ?rest199
            case hi199 => simp only [List.getElem?_toArray, List.getElem?_cons_succ, List.getElem?_cons_zero]; rfl
            case hf199 => kernel_rfl
            case hr199 => kernel_rfl
            case hw199 => rfl
            case hy199 => (intro w hSw; (try dsimp only at hSw); go_simp; all_goals (first | done | with_reducible rfl))
            case hQ199 => exact fun _ _ _ h => h
            simp only [Act.put, List.setIfInBounds_toArray, List.set_cons_zero, List.set_cons_succ]
            refine wpAnyH_take (i := 7) (oi := ?oi200) (v := ?v200) ?hi200 (by kernel_rfl) ?hf200 ?hr200 ?hQ200 (Or.inl ⟨?hw200, ?hy200⟩) (by assumption) ?rest200
            case hi200 => simp only [List.getElem?_toArray, List.getElem?_cons_succ, List.getElem?_cons_zero]; rfl
            case hf200 => kernel_rfl
            case hr200 => kernel_rfl
            case hw200 => rfl
            case hy200 => (intro w hSw; (try dsimp only at hSw); go_simp; all_goals (first | done | with_reducible rfl))
            case hQ200 => exact fun _ _ _ h => h
            simp only [Act.put, List.setIfInBounds_toArray, List.set_cons_zero, List.set_cons_succ]
            refine wpAnyH_take (i := 8) (oi := ?oi201) (v := ?v201) ?hi201 (by kernel_rfl) ?hf201 ?hr201 ?hQ201 (Or.inl ⟨?hw201, ?hy201⟩) (by assumption) ?rest201
            case hi201 => simp only [List.getElem?_toArray, List.getElem?_cons_succ, List.getElem?_cons_zero]; rfl
            case hf201 => kernel_rfl
            case hr201 => kernel_rfl
            case hw201 => rfl
            case hy201 => (intro w hSw; (try dsimp only at hSw); go_simp; all_goals (first | done | with_reducible rfl))
            case hQ201 => exact fun _ _ _ h => h
            simp only [Act.put, List.setIfInBounds_toArray, List.set_cons_zero, List.set_cons_succ]
            replace HR := hid (HR.out.perm (((List.perm_append_comm_assoc _ _ _).append_left _).trans (List.perm_append_comm_assoc _ _ _)))
            clear dbh00 dbh01 dbh02 tbh0 dbG00 dbG01 dbG02 tbG0 dbW00 dbW01 dbW02 tbW0 da10 da11 da12 da13 ta1 da00 da01 da02 ta0
            have dbh00 := (Rows.bc (HR.out.left) 0 rfl).1
            have dbh01 := (Rows.bc (HR.out.left) 1 rfl).1
            have dbh02 := (Rows.bc (HR.out.left) 2 rfl).1
            have tbh0 := (Rows.bc (HR.out.left) 0 rfl).2
            have dbG00 := (Rows.bc (HR.out.right.right.right.right.right.right.left) 0 rfl).1
            have dbG01 := (Rows.bc (HR.out.right.right.right.right.right.right.left) 1 rfl).1
            have dbG02 := (Rows.bc (HR.out.right.right.right.right.right.right.left) 2 rfl).1
            have tbG0 := (Rows.bc (HR.out.right.right.right.right.right.right.left) 0 rfl).2
            have dbW00 := (Rows.bc (HR.out.right.right.right.right.right.right.right.left) 0 rfl).1
            have dbW01 := (Rows.bc (HR.out.right.right.right.right.right.right.right.left) 1 rfl).1
            have dbW02 := (Rows.bc (HR.out.right.right.right.right.right.right.right.left) 2 rfl).1
            have tbW0 := (Rows.bc (HR.out.right.right.right.right.right.right.right.left) 0 rfl).2
            have da10 := (Rows.bc (HR.out.right.right.right.right.right.right.right.right.right.right.left) 0 rfl).1
            have da11 := (Rows.bc (HR.out.right.right.right.right.right.right.right.right.right.right.left) 1 rfl).1
            have da12 := (Rows.bc (HR.out.right.right.right.right.right.right.right.right.right.right.left) 2 rfl).1
            have da13 := (Rows.bc (HR.out.right.right.right.right.right.right.right.right.right.right.left) 3 rfl).1
            have ta1 := (Rows.bc (HR.out.right.right.right.right.right.right.right.right.right.right.left) 0 rfl).2
            have da00 := (Rows.bc (HR.out.right.right.right.right.right.right.right.right.right.right.right) 0 rfl).1
            have da01 := (Rows.bc (HR.out.right.right.right.right.right.right.right.right.right.right.right) 1 rfl).1
            have da02 := (Rows.bc (HR.out.right.right.right.right.right.right.right.right.right.right.right) 2 rfl).1
            have ta0 := (Rows.bc (HR.out.right.right.right.right.right.right.right.right.right.right.right) 0 rfl).2
            have z0f : w116.frozen? ⟨w113.heap.size, 0, none⟩ = false := (Rows.bcell2 (T := 29) (d := 3) (cs := [.int .i64 0, .int .i64 0, .slice none 0 0]) (pre := []) (q := 0) HR.out rfl).2.1
            have z1f : w116.frozen? ⟨w113.heap.size, 1, none⟩ = false := (Rows.bcell2 (T := 29) (d := 3) (cs := [.int .i64 0, .int .i64 0, .slice none 0 0]) (pre := []) (q := 1) HR.out rfl).2.1
            have z2f : w116.frozen? ⟨w113.heap.size, 2, none⟩ = false := (Rows.bcell2 (T := 29) (d := 3) (cs := [.int .i64 0, .int .i64 0, .slice none 0 0]) (pre := []) (q := 2) HR.out rfl).2.1
            refine wpAnyH_ready (rs := [10]) (by kernel_rfl) (by simp) ?_
            refine AllReadyH.cons (o := ?oi202) ?hi202 (fun K hK => ?step202) AllReadyH.nil
            case hi202 => simp only [List.getElem?_toArray, List.getElem?_cons_succ, List.getElem?_cons_zero]; rfl
            rw [if_pos (by rfl)]
            go_simp
            refine hK.out _ _ ⟨((World.cell?_setCell_far _ _ _ _ ne_a0).trans ((World.cell?_setCell_far _ _ _ _ ne_a0).trans ((World.cell?_setCell_far _ _ _ _ ne_a0).trans da00))), ((World.cell?_setCell_far _ _ _ _ ne_a0).trans ((World.cell?_setCell_far _ _ _ _ ne_a0).trans ((World.cell?_setCell_far _ _ _ _ ne_a0).trans da01))), ((World.cell?_setCell_far _ _ _ _ ne_a0).trans ((World.cell?_setCell_far _ _ _ _ ne_a0).trans ((World.cell?_setCell_far _ _ _ _ ne_a0).trans da02))), ((World.cell?_setCell_far _ _ _ _ ne_a1).trans ((World.cell?_setCell_far _ _ _ _ ne_a1).trans ((World.cell?_setCell_far _ _ _ _ ne_a1).trans da10))), ((World.cell?_setCell_far _ _ _ _ ne_a1).trans ((World.cell?_setCell_far _ _ _ _ ne_a1).trans ((World.cell?_setCell_far _ _ _ _ ne_a1).trans da11))), ((World.cell?_setCell_far _ _ _ _ ne_a1).trans ((World.cell?_setCell_far _ _ _ _ ne_a1).trans ((World.cell?_setCell_far _ _ _ _ ne_a1).trans da12))), ((World.cell?_setCell_far _ _ _ _ ne_a1).trans ((World.cell?_setCell_far _ _ _ _ ne_a1).trans ((World.cell?_setCell_far _ _ _ _ ne_a1).trans da13)))⟩ (fun hS9 => ?_)
            refine wpAnyH_take (i := 11) (oi := ?oi203) (v := ?v203) ?hi203 (by kernel_rfl) ?hf203 ?hr203 ?hQ203 (Or.inl ⟨?hw203, ?hy203⟩) (by assumption) ?rest203
            case hi203 => simp only [List.getElem?_toArray, List.getElem?_cons_succ, List.getElem?_cons_zero]; rfl
            case hf203 => kernel_rfl
            case hr203 => kernel_rfl
            case hw203 => rfl
            case hy203 => (intro w hSw; (try dsimp only at hSw); go_simp; all_goals (first | done | with_reducible rfl))
            case hQ203 => exact fun _ _ _ h => h
            simp only [Act.put, List.setIfInBounds_toArray, List.set_cons_zero, List.set_cons_succ]
            refine wpAnyH_take (i := 12) (oi := ?oi204) (v := ?v204) ?hi204 (by kernel_rfl) ?hf204 ?hr204 ?hQ204 (Or.inl ⟨?hw204, ?hy204⟩) (by assumption) ?rest204
            case hi204 => simp only [List.getElem?_toArray, List.getElem?_cons_succ, List.getElem?_cons_zero]; rfl
            case hf204 => kernel_rfl
            case hr204 => kernel_rfl
            case hw204 => rfl
            case hy204 => (intro w hSw; (try dsimp only at hSw); go_simp; all_goals (first | done | with_reducible rfl))
            case hQ204 => exact fun _ _ _ h => h
            simp only [Act.put, List.setIfInBounds_toArray, List.set_cons_zero, List.set_cons_succ]
            refine wpAnyH_done (by kernel_rfl) ?_ _
            replace HR := hid (Rows.boxset (T := 29) (d := 3) (cs := [.int .i64 0, .int .i64 0, .slice none 0 0]) (pre := []) (j := 0) (u := .int .i64 X0.rm) HR.out)
            replace HR := hid (Rows.boxset (T := 29) (d := 3) (cs := [.int .i64 X0.rm, .int .i64 0, .slice none 0 0]) (pre := []) (j := 1) (u := .int .i64 X0.lv) HR.out)
            replace HR := hid (Rows.boxset (T := 29) (d := 3) (cs := [.int .i64 X0.rm, .int .i64 X0.lv, .slice none 0 0]) (pre := []) (j := 2) (u := .slice fh00 fh01 fh02) HR.out)
            replace HB := hid (((HB.out.setCell (p := ⟨_, 0, none⟩) nle (.int .i64 X0.rm)).setCell (p := ⟨_, 1, none⟩) nle (.int .i64 X0.lv)).setCell (p := ⟨_, 2, none⟩) nle (.slice fh00 fh01 fh02))
            go_wp2_with fail
            go_meet
            case rel => exact ⟨_, _, _, _, _, _, _, _, _, _, _, rfl, rfl, rfl, Sh0.out, Sh1.out, Sz0.out, HR.out, HB.out⟩
        · have ne_a0 : w112.heap.size ≠ w.heap.size := Nat.ne_of_gt ta0
          have ne_a1 : w112.heap.size ≠ w.heap.size + 1 := Nat.ne_of_gt ta1
          have nle : w.heap.size ≤ w112.heap.size := HB.out.size
          have hb : Below w112.heap.size w112 (w112.alloc (.cells #[.int .i64 0, .int .i64 0, .slice none 0 0] 29)) := (Below.refl _ _).alloc (Nat.le_refl _) _
          have hr := Rows.box w112 #[.int .i64 0, .int .i64 0, .slice none 0 0] 29 3 rfl
          replace HR := hid (HR.out.newer hb hr HB.out.size)
          replace HB := hid (HB.out.trans (hb.mono HB.out.size))
          clear hb hr
          clear dbG00 dbG01 dbG02 tbG0 dbW00 dbW01 dbW02 tbW0 da10 da11 da12 da13 ta1 da00 da01 da02 ta0
          have dbh00 := (Rows.bc (HR.out.left) 0 rfl).1
          have dbh01 := (Rows.bc (HR.out.left) 1 rfl).1
          have dbh02 := (Rows.bc (HR.out.left) 2 rfl).1
          have tbh0 := (Rows.bc (HR.out.left) 0 rfl).2
          have dbG00 := (Rows.bc (HR.out.right.right.right.left) 0 rfl).1
          have dbG01 := (Rows.bc (HR.out.right.right.right.left) 1 rfl).1
          have dbG02 := (Rows.bc (HR.out.right.right.right.left) 2 rfl).1
          have tbG0 := (Rows.bc (HR.out.right.right.right.left) 0 rfl).2
          have dbW00 := (Rows.bc (HR.out.right.right.right.right.left) 0 rfl).1
          have dbW01 := (Rows.bc (HR.out.right.right.right.right.left) 1 rfl).1
          have dbW02 := (Rows.bc (HR.out.right.right.right.right.left) 2 rfl).1
          have tbW0 := (Rows.bc (HR.out.right.right.right.right.left) 0 rfl).2
          have da10 := (Rows.bc (HR.out.right.right.right.right.right.right.right.left) 0 rfl).1
          have da11 := (Rows.bc (HR.out.right.right.right.right.right.right.right.left) 1 rfl).1
          have da12 := (Rows.bc (HR.out.right.right.right.right.right.right.right.left) 2 rfl).1
          have da13 := (Rows.bc (HR.out.right.right.right.right.right.right.right.left) 3 rfl).1
          have ta1 := (Rows.bc (HR.out.right.right.right.right.right.right.right.left) 0 rfl).2
          have da00 := (Rows.bc (HR.out.right.right.right.right.right.right.right.right) 0 rfl).1
          have da01 := (Rows.bc (HR.out.right.right.right.right.right.right.right.right) 1 rfl).1
          have da02 := (Rows.bc (HR.out.right.right.right.right.right.right.right.right) 2 rfl).1
          have ta0 := (Rows.bc (HR.out.right.right.right.right.right.right.right.right) 0 rfl).2
          refine hK.out _ _ ⟨da00, da01, da02, da10, da11, da12, da13⟩ (fun hS9 => ?_)
          clear dbh00 dbh01 dbh02 tbh0 dbG00 dbG01 dbG02 tbG0 dbW00 dbW01 dbW02 tbW0 da10 da11 da12 da13 ta1 da00 da01 da02 ta0
          generalize (w112.alloc (.cells #[.int .i64 0, .int .i64 0, .slice none 0 0] 29)) = w113 at *
          have dbh00 := (Rows.bc (HR.out.left) 0 rfl).1
          have dbh01 := (Rows.bc (HR.out.left) 1 rfl).1
          have dbh02 := (Rows.bc (HR.out.left) 2 rfl).1
          have tbh0 := (Rows.bc (HR.out.left) 0 rfl).2
          have dbG00 := (Rows.bc (HR.out.right.right.right.left) 0 rfl).1
          have dbG01 := (Rows.bc (HR.out.right.right.right.left) 1 rfl).1
          have dbG02 := (Rows.bc (HR.out.right.right.right.left) 2 rfl).1
          have tbG0 := (Rows.bc (HR.out.right.right.right.left) 0 rfl).2
          have dbW00 := (Rows.bc (HR.out.right.right.right.right.left) 0 rfl).1
          have dbW01 := (Rows.bc (HR.out.right.right.right.right.left) 1 rfl).1
          have dbW02 := (Rows.bc (HR.out.right.right.right.right.left) 2 rfl).1
          have tbW0 := (Rows.bc (HR.out.right.right.right.right.left) 0 rfl).2
          have da10 := (Rows.bc (HR.out.right.right.right.right.right.right.right.left) 0 rfl).1
          have da11 := (Rows.bc (HR.out.right.right.right.right.right.right.right.left) 1 rfl).1
          have da12 := (Rows.bc (HR.out.right.right.right.right.right.right.right.left) 2 rfl).1
          have da13 := (Rows.bc (HR.out.right.right.right.right.right.right.right.left) 3 rfl).1
          have ta1 := (Rows.bc (HR.out.right.right.right.right.right.right.right.left) 0 rfl).2
          have da00 := (Rows.bc (HR.out.right.right.right.right.right.right.right.right) 0 rfl).1
          have da01 := (Rows.bc (HR.out.right.right.right.right.right.right.right.right) 1 rfl).1
          have da02 := (Rows.bc (HR.out.right.right.right.right.right.right.right.right) 2 rfl).1
          have ta0 := (Rows.bc (HR.out.right.right.right.right.right.right.right.right) 0 rfl).2
          refine wpAnyH_ready (rs := [1]) (by kernel_rfl) (by simp) ?_
          refine AllReadyH.cons (o := ?oi205) ?hi205 (fun K hK => ?step205) AllReadyH.nil
          case hi205 => simp only [List.getElem?_toArray, List.getElem?_cons_succ, List.getElem?_cons_zero]; rfl
          rw [if_pos (by rfl)]
          go_simp
          go_at_call 13
          refine (toBufferY_c A0 n0 c0 d0 w.heap.size _ (T0.out.below HB.out (Nat.le_refl _)) HB.out.size F0.out).mono ?_
          rintro e w114 ⟨v, rsz0, rfl, hs, hr, hb⟩
          obtain ⟨fz00, fz01, fz02, rfl⟩ := hs.form hr
          have Sz0 := hid hs
          clear hs
          replace HR := hid (HR.out.newer hb hr HB.out.size)
          replace HB := hid (HB.out.trans (hb.mono HB.out.size))
          clear hb hr
          clear dbh00 dbh01 dbh02 tbh0 dbG00 dbG01 dbG02 tbG0 dbW00 dbW01 dbW02 tbW0 da10 da11 da12 da13 ta1 da00 da01 da02 ta0
          have dbh00 := (Rows.bc (HR.out.right.left) 0 rfl).1
          have dbh01 := (Rows.bc (HR.out.right.left) 1 rfl).1
          have dbh02 := (Rows.bc (HR.out.right.left) 2 rfl).1
          have tbh0 := (Rows.bc (HR.out.right.left) 0 rfl).2
          have dbG00 := (Rows.bc (HR.out.right.right.right.right.left) 0 rfl).1
          have dbG01 := (Rows.bc (HR.out.right.right.right.right.left) 1 rfl).1
          have dbG02 := (Rows.bc (HR.out.right.right.right.right.left) 2 rfl).1
          have tbG0 := (Rows.bc (HR.out.right.right.right.right.left) 0 rfl).2
          have dbW00 := (Rows.bc (HR.out.right.right.right.right.right.left) 0 rfl).1
          have dbW01 := (Rows.bc (HR.out.right.right.right.right.right.left) 1 rfl).1
          have dbW02 := (Rows.bc (HR.out.right.right.right.right.right.left) 2 rfl).1
          have tbW0 := (Rows.bc (HR.out.right.right.right.right.right.left) 0 rfl).2
          have da10 := (Rows.bc (HR.out.right.right.right.right.right.right.right.right.left) 0 rfl).1
          have da11 := (Rows.bc (HR.out.right.right.right.right.right.right.right.right.left) 1 rfl).1
          have da12 := (Rows.bc (HR.out.right.right.right.right.right.right.right.right.left) 2 rfl).1
          have da13 := (Rows.bc (HR.out.right.right.right.right.right.right.right.right.left) 3 rfl).1
          have ta1 := (Rows.bc (HR.out.right.right.right.right.right.right.right.right.left) 0 rfl).2
          have da00 := (Rows.bc (HR.out.right.right.right.right.right.right.right.right.right) 0 rfl).1
          have da01 := (Rows.bc (HR.out.right.right.right.right.right.right.right.right.right) 1 rfl).1
          have da02 := (Rows.bc (HR.out.right.right.right.right.right.right.right.right.right) 2 rfl).1
          have ta0 := (Rows.bc (HR.out.right.right.right.right.right.right.right.right.right) 0 rfl).2
          refine hK.out _ _ ⟨da00, da01, da02, da10, da11, da12, da13⟩ (fun hS9 => ?_)
          refine wpAnyH_ready (rs := [3]) (by kernel_rfl) (by simp) ?_
          refine AllReadyH.cons (o := ?oi206) ?hi206 (fun K hK => ?step206) AllReadyH.nil
          case hi206 => simp only [List.getElem?_toArray, List.getElem?_cons_succ, List.getElem?_cons_zero]; rfl
          rw [if_pos (by rfl)]
          go_simp
          go_at_call 25
          refine (toRecord_c nm1 lv1 tx1 sq1 _).mono ?_
          rintro e w115 ⟨rfl, hb⟩
          replace HR := hid (HR.out.below hb)
          replace HB := hid (HB.out.trans (hb.mono HB.out.size))
          clear hb
          clear dbh00 dbh01 dbh02 tbh0 dbG00 dbG01 dbG02 tbG0 dbW00 dbW01 dbW02 tbW0 da10 da11 da12 da13 ta1 da00 da01 da02 ta0
          have dbh00 := (Rows.bc (HR.out.right.left) 0 rfl).1
          have dbh01 := (Rows.bc (HR.out.right.left) 1 rfl).1
          have dbh02 := (Rows.bc (HR.out.right.left) 2 rfl).1
          have tbh0 := (Rows.bc (HR.out.right.left) 0 rfl).2
          have dbG00 := (Rows.bc (HR.out.right.right.right.right.left) 0 rfl).1
          have dbG01 := (Rows.bc (HR.out.right.right.right.right.left) 1 rfl).1
          have dbG02 := (Rows.bc (HR.out.right.right.right.right.left) 2 rfl).1
          have tbG0 := (Rows.bc (HR.out.right.right.right.right.left) 0 rfl).2
          have dbW00 := (Rows.bc (HR.out.right.right.right.right.right.left) 0 rfl).1
          have dbW01 := (Rows.bc (HR.out.right.right.right.right.right.left) 1 rfl).1
          have dbW02 := (Rows.bc (HR.out.right.right.right.right.right.left) 2 rfl).1
          have tbW0 := (Rows.bc (HR.out.right.right.right.right.right.left) 0 rfl).2
          have da10 := (Rows.bc (HR.out.right.right.right.right.right.right.right.right.left) 0 rfl).1
          have da11 := (Rows.bc (HR.out.right.right.right.right.right.right.right.right.left) 1 rfl).1
          have da12 := (Rows.bc (HR.out.right.right.right.right.right.right.right.right.left) 2 rfl).1
          have da13 := (Rows.bc (HR.out.right.right.right.right.right.right.right.right.left) 3 rfl).1
          have ta1 := (Rows.bc (HR.out.right.right.right.right.right.right.right.right.left) 0 rfl).2
          have da00 := (Rows.bc (HR.out.right.right.right.right.right.right.right.right.right) 0 rfl).1
          have da01 := (Rows.bc (HR.out.right.right.right.right.right.right.right.right.right) 1 rfl).1
          have da02 := (Rows.bc (HR.out.right.right.right.right.right.right.right.right.right) 2 rfl).1
          have ta0 := (Rows.bc (HR.out.right.right.right.right.right.right.right.right.right) 0 rfl).2
          refine hK.out _ _ ⟨da00, da01, da02, da10, da11, da12, da13⟩ (fun hS9 => ?_)
          refine wpAnyH_ready (rs := [4]) (by kernel_rfl) (by simp) ?_
          refine AllReadyH.cons (o := ?oi207) ?hi207 (fun K hK => ?step207) AllReadyH.nil
          case hi207 => simp only [List.getElem?_toArray, List.getElem?_cons_succ, List.getElem?_cons_zero]; rfl
          rw [if_pos (by rfl)]
          go_simp
          go_at_call 26
          refine (cI.out _ _ (Sz0.out.at_ (HR.out.left) F0.out)).mono ?_
          rintro e w116 ⟨v0, rsh0, v1, rsh1, rfl, hs0, hs1, hr, hb⟩
          obtain ⟨fh00, fh01, fh02, rfl⟩ := hs0.form hr.left
          have Sh0 := hid hs0
          obtain ⟨fh10, fh11, fh12, rfl⟩ := hs1.form hr.right
          have Sh1 := hid hs1
          clear hs0 hs1
          replace HR := hid (HR.out.newer hb hr HB.out.size)
          replace HR := hid (by simpa only [List.append_assoc] using HR.out)
          replace HB := hid (HB.out.trans (hb.mono HB.out.size))
          clear hb hr
          clear dbh00 dbh01 dbh02 tbh0 dbG00 dbG01 dbG02 tbG0 dbW00 dbW01 dbW02 tbW0 da10 da11 da12 da13 ta1 da00 da01 da02 ta0
          have dbh00 := (Rows.bc (HR.out.right.right.right.left) 0 rfl).1
          have dbh01 := (Rows.bc (HR.out.right.right.right.left) 1 rfl).1
          have dbh02 := (Rows.bc (HR.out.right.right.right.left) 2 rfl).1
          have tbh0 := (Rows.bc (HR.out.right.right.right.left) 0 rfl).2
          have dbG00 := (Rows.bc (HR.out.right.right.right.right.right.right.left) 0 rfl).1
          have dbG01 := (Rows.bc (HR.out.right.right.right.right.right.right.left) 1 rfl).1
          have dbG02 := (Rows.bc (HR.out.right.right.right.right.right.right.left) 2 rfl).1
          have tbG0 := (Rows.bc (HR.out.right.right.right.right.right.right.left) 0 rfl).2
          have dbW00 := (Rows.bc (HR.out.right.right.right.right.right.right.right.left) 0 rfl).1
          have dbW01 := (Rows.bc (HR.out.right.right.right.right.right.right.right.left) 1 rfl).1
          have dbW02 := (Rows.bc (HR.out.right.right.right.right.right.right.right.left) 2 rfl).1
          have tbW0 := (Rows.bc (HR.out.right.right.right.right.right.right.right.left) 0 rfl).2
          have da10 := (Rows.bc (HR.out.right.right.right.right.right.right.right.right.right.right.left) 0 rfl).1
          have da11 := (Rows.bc (HR.out.right.right.right.right.right.right.right.right.right.right.left) 1 rfl).1
          have da12 := (Rows.bc (HR.out.right.right.right.right.right.right.right.right.right.right.left) 2 rfl).1
          have da13 := (Rows.bc (HR.out.right.right.right.right.right.right.right.right.right.right.left) 3 rfl).1
          have ta1 := (Rows.bc (HR.out.right.right.right.right.right.right.right.right.right.right.left) 0 rfl).2
          have da00 := (Rows.bc (HR.out.right.right.right.right.right.right.right.right.right.right.right) 0 rfl).1
          have da01 := (Rows.bc (HR.out.right.right.right.right.right.right.right.right.right.right.right) 1 rfl).1
          have da02 := (Rows.bc (HR.out.right.right.right.right.right.right.right.right.right.right.right) 2 rfl).1
          have ta0 := (Rows.bc (HR.out.right.right.right.right.right.right.right.right.right.right.right) 0 rfl).2
          refine hK.out _ _ ⟨da00, da01, da02, da10, da11, da12, da13⟩ (fun hS9 => ?_)
          refine wpAnyH_take (i := 5) (oi := ?oi208) (v := ?v208) ?hi208 (by kernel_rfl) ?hf208 ?hr208 ?hQ208 (Or.inl ⟨?hw208, ?hy208⟩) (by assumption) ?rest208
          case hi208 => simp only [List.getElem?_toArray, List.getElem?_cons_succ, List.getElem?_cons_zero]; rfl
          case hf208 => kernel_rfl
          case hr208 => kernel_rfl
          case hw208 => rfl
          case hy208 => (intro w hSw; (try dsimp only at hSw); go_simp; all_goals (first | done | with_reducible rfl))
          case hQ208 => exact fun _ _ _ h => h
          simp only [Act.put, List.setIfInBounds_toArray, List.set_cons_zero, List.set_cons_succ]
          refine wpAnyH_take (i := 6) (oi := ?oi209) (v := ?v209) ?hi209 (by kernel_rfl) ?hf209 ?hr209 ?hQ209 (Or.inl ⟨?hw209, ?hy209⟩) (by assumption) ?rest209
          case hi209 => simp only [List.getElem?_toArray, List.getElem?_cons_succ, List.getElem?_cons_zero]; rfl
          case hf209 => kernel_rfl
          case hr209 => kernel_rfl
          case hw209 => rfl
          case hy209 => (intro w hSw; (try dsimp only at hSw); go_simp; all_goals (first | done | with_reducible rfl))
          case hQ209 => exact fun _ _ _ h => h
          simp only [Act.put, List.setIfInBounds_toArray, List.set_cons_zero, List.set_cons_succ]
          refine wpAnyH_take (i := 7) (oi := ?oi210) (v := ?v210) ?hi210 (by kernel_rfl) ?hf210 ?hr210 ?hQ210 (Or.inl ⟨?hw210, ?hy210⟩) (by assumption) ?rest210
          case hi210 => simp only [List.getElem?_toArray, List.getElem?_cons_succ, List.getElem?_cons_zero]; rfl
          case hf210 => kernel_rfl
          case hr210 => kernel_rfl
          case hw210 => rfl
          case hy210 => (intro w hSw; (try dsimp only at hSw); go_simp; all_goals (first | done | with_reducible rfl))
          case hQ210 => exact fun _ _ _ h => h
          simp only [Act.put, List.setIfInBounds_toArray, List.set_cons_zero, List.set_cons_succ]
          refine wpAnyH_take (i := 8) (oi := ?oi211) (v := ?v211) ?hi211 (by kernel_rfl) ?hf211 ?hr211 ?hQ211 (Or.inl ⟨?hw211, ?hy211⟩) (by assumption) ?rest211
          case hi211 => simp only [List.getElem?_toArray, List.getElem?_cons_succ, List.getElem?_cons_zero]; rfl
          case hf211 => kernel_rfl
          case hr211 => kernel_rfl
          case hw211 => rfl
          case hy211 => (intro w hSw; (try dsimp only at hSw); go_simp; all_goals (first | done | with_reducible rfl))
          case hQ211 => exact fun _ _ _ h => h
          simp only [Act.put, List.setIfInBounds_toArray, List.set_cons_zero, List.set_cons_succ]
          replace HR := hid (HR.out.perm (((((List.perm_append_comm_assoc _ _ _).append_left _).trans (List.perm_append_comm_assoc _ _ _)).append_left _).trans (List.perm_append_comm_assoc _ _ _)))
          clear dbh00 dbh01 dbh02 tbh0 dbG00 dbG01 dbG02 tbG0 dbW00 dbW01 dbW02 tbW0 da10 da11 da12 da13 ta1 da00 da01 da02 ta0
          have dbh00 := (Rows.bc (HR.out.left) 0 rfl).1
          have dbh01 := (Rows.bc (HR.out.left) 1 rfl).1
          have dbh02 := (Rows.bc (HR.out.left) 2 rfl).1
          have tbh0 := (Rows.bc (HR.out.left) 0 rfl).2
          have dbG00 := (Rows.bc (HR.out.right.right.right.right.right.right.left) 0 rfl).1
          have dbG01 := (Rows.bc (HR.out.right.right.right.right.right.right.left) 1 rfl).1
          have dbG02 := (Rows.bc (HR.out.right.right.right.right.right.right.left) 2 rfl).1
          have tbG0 := (Rows.bc (HR.out.right.right.right.right.right.right.left) 0 rfl).2
          have dbW00 := (Rows.bc (HR.out.right.right.right.right.right.right.right.left) 0 rfl).1
          have dbW01 := (Rows.bc (HR.out.right.right.right.right.right.right.right.left) 1 rfl).1
          have dbW02 := (Rows.bc (HR.out.right.right.right.right.right.right.right.left) 2 rfl).1
          have tbW0 := (Rows.bc (HR.out.right.right.right.right.right.right.right.left) 0 rfl).2
          have da10 := (Rows.bc (HR.out.right.right.right.right.right.right.right.right.right.right.left) 0 rfl).1
          have da11 := (Rows.bc (HR.out.right.right.right.right.right.right.right.right.right.right.left) 1 rfl).1
          have da12 := (Rows.bc (HR.out.right.right.right.right.right.right.right.right.right.right.left) 2 rfl).1
          have da13 := (Rows.bc (HR.out.right.right.right.right.right.right.right.right.right.right.left) 3 rfl).1
          have ta1 := (Rows.bc (HR.out.right.right.right.right.right.right.right.right.right.right.left) 0 rfl).2
          have da00 := (Rows.bc (HR.out.right.right.right.right.right.right.right.right.right.right.right) 0 rfl).1
          have da01 := (Rows.bc (HR.out.right.right.right.right.right.right.right.right.right.right.right) 1 rfl).1
          have da02 := (Rows.bc (HR.out.right.right.right.right.right.right.right.right.right.right.right) 2 rfl).1
          have ta0 := (Rows.bc (HR.out.right.right.right.right.right.right.right.right.right.right.right) 0 rfl).2
          have z0f : w116.frozen? ⟨w112.heap.size, 0, none⟩ = false := (Rows.bcell2 (T := 29) (d := 3) (cs := [.int .i64 0, .int .i64 0, .slice none 0 0]) (pre := []) (q := 0) HR.out rfl).2.1
          have z1f : w116.frozen? ⟨w112.heap.size, 1, none⟩ = false := (Rows.bcell2 (T := 29) (d := 3) (cs := [.int .i64 0, .int .i64 0, .slice none 0 0]) (pre := []) (q := 1) HR.out rfl).2.1
          have z2f : w116.frozen? ⟨w112.heap.size, 2, none⟩ = false := (Rows.bcell2 (T := 29) (d := 3) (cs := [.int .i64 0, .int .i64 0, .slice none 0 0]) (pre := []) (q := 2) HR.out rfl).2.1
          refine wpAnyH_ready (rs := [10]) (by kernel_rfl) (by simp) ?_
          refine AllReadyH.cons (o := ?oi212) ?hi212 (fun K hK => ?step212) AllReadyH.nil
          case hi212 => simp only [List.getElem?_toArray, List.getElem?_cons_succ, List.getElem?_cons_zero]; rfl
          rw [if_pos (by rfl)]
          go_simp
          refine hK.out _ _ ⟨((World.cell?_setCell_far _ _ _ _ ne_a0).trans ((World.cell?_setCell_far _ _ _ _ ne_a0).trans ((World.cell?_setCell_far _ _ _ _ ne_a0).trans da00))), ((World.cell?_setCell_far _ _ _ _ ne_a0).trans ((World.cell?_setCell_far _ _ _ _ ne_a0).trans ((World.cell?_setCell_far _ _ _ _ ne_a0).trans da01))), ((World.cell?_setCell_far _ _ _ _ ne_a0).trans ((World.cell?_setCell_far _ _ _ _ ne_a0).trans ((World.cell?_setCell_far _ _ _ _ ne_a0).trans da02))), ((World.cell?_setCell_far _ _ _ _ ne_a1).trans ((World.cell?_setCell_far _ _ _ _ ne_a1).trans ((World.cell?_setCell_far _ _ _ _ ne_a1).trans da10))), ((World.cell?_setCell_far _ _ _ _ ne_a1).trans ((World.cell?_setCell_far _ _ _ _ ne_a1).trans ((World.cell?_setCell_far _ _ _ _ ne_a1).trans da11))), ((World.cell?_setCell_far _ _ _ _ ne_a1).trans ((World.cell?_setCell_far _ _ _ _ ne_a1).trans ((World.cell?_setCell_far _ _ _ _ ne_a1).trans da12))), ((World.cell?_setCell_far _ _ _ _ ne_a1).trans ((World.cell?_setCell_far _ _ _ _ ne_a1).trans ((World.cell?_setCell_far _ _ _ _ ne_a1).trans da13)))⟩ (fun hS9 => ?_)
          refine wpAnyH_take (i := 11) (oi := ?oi213) (v := ?v213) ?hi213 (by kernel_rfl) ?hf213 ?hr213 ?hQ213 (Or.inl ⟨?hw213, ?hy213⟩) (by assumption) ?rest213
          case hi213 => simp only [List.getElem?_toArray, List.getElem?_cons_succ, List.getElem?_cons_zero]; rfl
          case hf213 => kernel_rfl
          case hr213 => kernel_rfl
          case hw213 => rfl
          case hy213 => (intro w hSw; (try dsimp only at hSw); go_simp; all_goals (first | done | with_reducible rfl))
          case hQ213 => exact fun _ _ _ h => h
          simp only [Act.put, List.setIfInBounds_toArray, List.set_cons_zero, List.set_cons_succ]
          refine wpAnyH_take (i := 12) (oi := ?oi214) (v := ?v214) ?hi214 (by kernel_rfl) ?hf214 ?hr214 ?hQ214 (Or.inl ⟨?hw214, ?hy214⟩) (by assumption) ?rest214
          case hi214 => simp only [List.getElem?_toArray, List.getElem?_cons_succ, List.getElem?_cons_zero]; rfl
          case hf214 => kernel_rfl
          case hr214 => kernel_rfl
          case hw214 => rfl
          case hy214 => (intro w hSw; (try dsimp only at hSw); go_simp; all_goals (first | done | with_reducible rfl))
          case hQ214 => exact fun _ _ _ h => h
          simp only [Act.put, List.setIfInBounds_toArray, List.set_cons_zero, List.set_cons_succ]
          refine wpAnyH_done (by kernel_rfl) ?_ _
          replace HR := hid (Rows.boxset (T := 29) (d := 3) (cs := [.int .i64 0, .int .i64 0, .slice none 0 0]) (pre := []) (j := 0) (u := .int .i64 X0.rm) HR.out)
          replace HR := hid (Rows.boxset (T := 29) (d := 3) (cs := [.int .i64 X0.rm, .int .i64 0, .slice none 0 0]) (pre := []) (j := 1) (u := .int .i64 X0.lv) HR.out)
          replace HR := hid (Rows.boxset (T := 29) (d := 3) (cs := [.int .i64 X0.rm, .int .i64 X0.lv, .slice none 0 0]) (pre := []) (j := 2) (u := .slice fh00 fh01 fh02) HR.out)
          replace HB := hid (((HB.out.setCell (p := ⟨_, 0, none⟩) nle (.int .i64 X0.rm)).setCell (p := ⟨_, 1, none⟩) nle (.int .i64 X0.lv)).setCell (p := ⟨_, 2, none⟩) nle (.slice fh00 fh01 fh02))
          go_wp2_with fail
          go_meet
          case rel => exact ⟨_, _, _, _, _, _, _, _, _, _, _, rfl, rfl, rfl, Sh0.out, Sh1.out, Sz0.out, HR.out, HB.out⟩
      case rest =>
        clear HR HB dbG00 dbG01 dbG02 tbG0 dbW00 dbW01 dbW02 tbW0 da10 da11 da12 da13 ta1 da00 da01 da02 ta0
        obtain ⟨bbh, fh00, fh01, fh02, rsh0, fh10, fh11, fh12, rsh1, rsz0, vz0, rfl, rfl, rfl, hsh0, hsh1, hsz0, hr, hb⟩ := hcut
        rename World => w150
        have HR := hid hr
        have HB := hid hb
        clear hr hb
        have Sh0 := hid hsh0
        clear hsh0
        have Sh1 := hid hsh1
        clear hsh1
        have Sz0 := hid hsz0
        clear hsz0
        have dbh00 := (Rows.bc (HR.out.left) 0 rfl).1
        have dbh01 := (Rows.bc (HR.out.left) 1 rfl).1
        have dbh02 := (Rows.bc (HR.out.left) 2 rfl).1
        have tbh0 := (Rows.bc (HR.out.left) 0 rfl).2
        have dbG00 := (Rows.bc (HR.out.right.right.right.right.right.right.left) 0 rfl).1
        have dbG01 := (Rows.bc (HR.out.right.right.right.right.right.right.left) 1 rfl).1
        have dbG02 := (Rows.bc (HR.out.right.right.right.right.right.right.left) 2 rfl).1
        have tbG0 := (Rows.bc (HR.out.right.right.right.right.right.right.left) 0 rfl).2
        have dbW00 := (Rows.bc (HR.out.right.right.right.right.right.right.right.left) 0 rfl).1
        have dbW01 := (Rows.bc (HR.out.right.right.right.right.right.right.right.left) 1 rfl).1
        have dbW02 := (Rows.bc (HR.out.right.right.right.right.right.right.right.left) 2 rfl).1
        have tbW0 := (Rows.bc (HR.out.right.right.right.right.right.right.right.left) 0 rfl).2
        have da10 := (Rows.bc (HR.out.right.right.right.right.right.right.right.right.right.right.left) 0 rfl).1
        have da11 := (Rows.bc (HR.out.right.right.right.right.right.right.right.right.right.right.left) 1 rfl).1
        have da12 := (Rows.bc (HR.out.right.right.right.right.right.right.right.right.right.right.left) 2 rfl).1
        have da13 := (Rows.bc (HR.out.right.right.right.right.right.right.right.right.right.right.left) 3 rfl).1
        have ta1 := (Rows.bc (HR.out.right.right.right.right.right.right.right.right.right.right.left) 0 rfl).2
        have da00 := (Rows.bc (HR.out.right.right.right.right.right.right.right.right.right.right.right) 0 rfl).1
        have da01 := (Rows.bc (HR.out.right.right.right.right.right.right.right.right.right.right.right) 1 rfl).1
        have da02 := (Rows.bc (HR.out.right.right.right.right.right.right.right.right.right.right.right) 2 rfl).1
        have ta0 := (Rows.bc (HR.out.right.right.right.right.right.right.right.right.right.right.right) 0 rfl).2
        replace HR := hid (HR.out.sub ((List.Sublist.refl _).append ((List.Sublist.refl _).append ((List.Sublist.refl _).append (List.sublist_append_right _ _)))))
        clear Sz0
        go_wp2_with fail
        refine (eqBufferX_c Sh0.out (HR.out.right.left) SW0.out (HR.out.right.right.right.right.right.right.right.left)).mono ?_
        rintro e w151 ⟨rfl, hb⟩
        replace HR := hid (HR.out.below hb)
        replace HB := hid (HB.out.trans (hb.mono HB.out.size))
        clear hb
        clear dbh00 dbh01 dbh02 tbh0 dbG00 dbG01 dbG02 tbG0 dbW00 dbW01 dbW02 tbW0 da10 da11 da12 da13 ta1 da00 da01 da02 ta0
        have dbh00 := (Rows.bc (HR.out.left) 0 rfl).1
        have dbh01 := (Rows.bc (HR.out.left) 1 rfl).1
        have dbh02 := (Rows.bc (HR.out.left) 2 rfl).1
        have tbh0 := (Rows.bc (HR.out.left) 0 rfl).2
        have dbG00 := (Rows.bc (HR.out.right.right.right.right.right.left) 0 rfl).1
        have dbG01 := (Rows.bc (HR.out.right.right.right.right.right.left) 1 rfl).1
        have dbG02 := (Rows.bc (HR.out.right.right.right.right.right.left) 2 rfl).1
        have tbG0 := (Rows.bc (HR.out.right.right.right.right.right.left) 0 rfl).2
        have dbW00 := (Rows.bc (HR.out.right.right.right.right.right.right.left) 0 rfl).1
        have dbW01 := (Rows.bc (HR.out.right.right.right.right.right.right.left) 1 rfl).1
        have dbW02 := (Rows.bc (HR.out.right.right.right.right.right.right.left) 2 rfl).1
        have tbW0 := (Rows.bc (HR.out.right.right.right.right.right.right.left) 0 rfl).2
        have da10 := (Rows.bc (HR.out.right.right.right.right.right.right.right.right.right.left) 0 rfl).1
        have da11 := (Rows.bc (HR.out.right.right.right.right.right.right.right.right.right.left) 1 rfl).1
        have da12 := (Rows.bc (HR.out.right.right.right.right.right.right.right.right.right.left) 2 rfl).1
        have da13 := (Rows.bc (HR.out.right.right.right.right.right.right.right.right.right.left) 3 rfl).1
        have ta1 := (Rows.bc (HR.out.right.right.right.right.right.right.right.right.right.left) 0 rfl).2
        have da00 := (Rows.bc (HR.out.right.right.right.right.right.right.right.right.right.right) 0 rfl).1
        have da01 := (Rows.bc (HR.out.right.right.right.right.right.right.right.right.right.right) 1 rfl).1
        have da02 := (Rows.bc (HR.out.right.right.right.right.right.right.right.right.right.right) 2 rfl).1
        have ta0 := (Rows.bc (HR.out.right.right.right.right.right.right.right.right.right.right) 0 rfl).2
        go_wp2_with fail
        refine (eqRecsX_c Sh1.out (HR.out.right.right.left) SW1.out (HR.out.right.right.right.right.right.right.right.right.left)).mono ?_
        rintro e w152 ⟨rfl, hb⟩
        replace HR := hid (HR.out.below hb)
        replace HB := hid (HB.out.trans (hb.mono HB.out.size))
        clear hb
        clear dbh00 dbh01 dbh02 tbh0 dbG00 dbG01 dbG02 tbG0 dbW00 dbW01 dbW02 tbW0 da10 da11 da12 da13 ta1 da00 da01 da02 ta0
        have dbh00 := (Rows.bc (HR.out.left) 0 rfl).1
        have dbh01 := (Rows.bc (HR.out.left) 1 rfl).1
        have dbh02 := (Rows.bc (HR.out.left) 2 rfl).1
        have tbh0 := (Rows.bc (HR.out.left) 0 rfl).2
        have dbG00 := (Rows.bc (HR.out.right.right.right.right.right.left) 0 rfl).1
        have dbG01 := (Rows.bc (HR.out.right.right.right.right.right.left) 1 rfl).1
        have dbG02 := (Rows.bc (HR.out.right.right.right.right.right.left) 2 rfl).1
        have tbG0 := (Rows.bc (HR.out.right.right.right.right.right.left) 0 rfl).2
        have dbW00 := (Rows.bc (HR.out.right.right.right.right.right.right.left) 0 rfl).1
        have dbW01 := (Rows.bc (HR.out.right.right.right.right.right.right.left) 1 rfl).1
        have dbW02 := (Rows.bc (HR.out.right.right.right.right.right.right.left) 2 rfl).1
        have tbW0 := (Rows.bc (HR.out.right.right.right.right.right.right.left) 0 rfl).2
        have da10 := (Rows.bc (HR.out.right.right.right.right.right.right.right.right.right.left) 0 rfl).1
        have da11 := (Rows.bc (HR.out.right.right.right.right.right.right.right.right.right.left) 1 rfl).1
        have da12 := (Rows.bc (HR.out.right.right.right.right.right.right.right.right.right.left) 2 rfl).1
        have da13 := (Rows.bc (HR.out.right.right.right.right.right.right.right.right.right.left) 3 rfl).1
        have ta1 := (Rows.bc (HR.out.right.right.right.right.right.right.right.right.right.left) 0 rfl).2
        have da00 := (Rows.bc (HR.out.right.right.right.right.right.right.right.right.right.right) 0 rfl).1
        have da01 := (Rows.bc (HR.out.right.right.right.right.right.right.right.right.right.right) 1 rfl).1
        have da02 := (Rows.bc (HR.out.right.right.right.right.right.right.right.right.right.right) 2 rfl).1
        have ta0 := (Rows.bc (HR.out.right.right.right.right.right.right.right.right.right.right) 0 rfl).2
        go_wp2_with fail
        refine (heldBufferX_c MG0.out (HR.out.right.right.right.right.left)).mono ?_
        rintro e w153 ⟨rfl, hb⟩
        replace HR := hid (HR.out.below hb)
        replace HB := hid (HB.out.trans (hb.mono HB.out.size))
        clear hb
        clear dbh00 dbh01 dbh02 tbh0 dbG00 dbG01 dbG02 tbG0 dbW00 dbW01 dbW02 tbW0 da10 da11 da12 da13 ta1 da00 da01 da02 ta0
        have dbh00 := (Rows.bc (HR.out.left) 0 rfl).1
        have dbh01 := (Rows.bc (HR.out.left) 1 rfl).1
        have dbh02 := (Rows.bc (HR.out.left) 2 rfl).1
        have tbh0 := (Rows.bc (HR.out.left) 0 rfl).2
        have dbG00 := (Rows.bc (HR.out.right.right.right.right.right.left) 0 rfl).1
        have dbG01 := (Rows.bc (HR.out.right.right.right.right.right.left) 1 rfl).1
        have dbG02 := (Rows.bc (HR.out.right.right.right.right.right.left) 2 rfl).1
        have tbG0 := (Rows.bc (HR.out.right.right.right.right.right.left) 0 rfl).2
        have dbW00 := (Rows.bc (HR.out.right.right.right.right.right.right.left) 0 rfl).1
        have dbW01 := (Rows.bc (HR.out.right.right.right.right.right.right.left) 1 rfl).1
        have dbW02 := (Rows.bc (HR.out.right.right.right.right.right.right.left) 2 rfl).1
        have tbW0 := (Rows.bc (HR.out.right.right.right.right.right.right.left) 0 rfl).2
        have da10 := (Rows.bc (HR.out.right.right.right.right.right.right.right.right.right.left) 0 rfl).1
        have da11 := (Rows.bc (HR.out.right.right.right.right.right.right.right.right.right.left) 1 rfl).1
        have da12 := (Rows.bc (HR.out.right.right.right.right.right.right.right.right.right.left) 2 rfl).1
        have da13 := (Rows.bc (HR.out.right.right.right.right.right.right.right.right.right.left) 3 rfl).1
        have ta1 := (Rows.bc (HR.out.right.right.right.right.right.right.right.right.right.left) 0 rfl).2
        have da00 := (Rows.bc (HR.out.right.right.right.right.right.right.right.right.right.right) 0 rfl).1
        have da01 := (Rows.bc (HR.out.right.right.right.right.right.right.right.right.right.right) 1 rfl).1
        have da02 := (Rows.bc (HR.out.right.right.right.right.right.right.right.right.right.right) 2 rfl).1
        have ta0 := (Rows.bc (HR.out.right.right.right.right.right.right.right.right.right.right) 0 rfl).2
        go_wp2_with fail
        refine (heldRecsX_c MG1.out (HR.out.right.right.right.left)).mono ?_
        rintro e w154 ⟨rfl, hb⟩
        replace HR := hid (HR.out.below hb)
        replace HB := hid (HB.out.trans (hb.mono HB.out.size))
        clear hb
        clear dbh00 dbh01 dbh02 tbh0 dbG00 dbG01 dbG02 tbG0 dbW00 dbW01 dbW02 tbW0 da10 da11 da12 da13 ta1 da00 da01 da02 ta0
        have dbh00 := (Rows.bc (HR.out.left) 0 rfl).1
        have dbh01 := (Rows.bc (HR.out.left) 1 rfl).1
        have dbh02 := (Rows.bc (HR.out.left) 2 rfl).1
        have tbh0 := (Rows.bc (HR.out.left) 0 rfl).2
        have dbG00 := (Rows.bc (HR.out.right.right.right.right.right.left) 0 rfl).1
        have dbG01 := (Rows.bc (HR.out.right.right.right.right.right.left) 1 rfl).1
        have dbG02 := (Rows.bc (HR.out.right.right.right.right.right.left) 2 rfl).1
        have tbG0 := (Rows.bc (HR.out.right.right.right.right.right.left) 0 rfl).2
        have dbW00 := (Rows.bc (HR.out.right.right.right.right.right.right.left) 0 rfl).1
        have dbW01 := (Rows.bc (HR.out.right.right.right.right.right.right.left) 1 rfl).1
        have dbW02 := (Rows.bc (HR.out.right.right.right.right.right.right.left) 2 rfl).1
        have tbW0 := (Rows.bc (HR.out.right.right.right.right.right.right.left) 0 rfl).2
        have da10 := (Rows.bc (HR.out.right.right.right.right.right.right.right.right.right.left) 0 rfl).1
        have da11 := (Rows.bc (HR.out.right.right.right.right.right.right.right.right.right.left) 1 rfl).1
        have da12 := (Rows.bc (HR.out.right.right.right.right.right.right.right.right.right.left) 2 rfl).1
        have da13 := (Rows.bc (HR.out.right.right.right.right.right.right.right.right.right.left) 3 rfl).1
        have ta1 := (Rows.bc (HR.out.right.right.right.right.right.right.right.right.right.left) 0 rfl).2
        have da00 := (Rows.bc (HR.out.right.right.right.right.right.right.right.right.right.right) 0 rfl).1
        have da01 := (Rows.bc (HR.out.right.right.right.right.right.right.right.right.right.right) 1 rfl).1
        have da02 := (Rows.bc (HR.out.right.right.right.right.right.right.right.right.right.right) 2 rfl).1
        have ta0 := (Rows.bc (HR.out.right.right.right.right.right.right.right.right.right.right) 0 rfl).2
        go_wp2_with fail
        go_ret
        exact ⟨rfl, HB.out⟩
end Go.Proofs.Ytebofooaadoojaa
