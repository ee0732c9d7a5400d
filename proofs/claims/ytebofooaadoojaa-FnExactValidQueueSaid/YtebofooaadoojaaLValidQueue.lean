/-
  WALK: the law FnExactValidQueue. By gen_any.py.
-/
import Derived.Test.YtebofooaadoojaaQ1
import Derived.Test.YtebofooaadoojaaMarks
import Derived.Test.YtebofooaadoojaaKQue
namespace Go.Proofs.Ytebofooaadoojaa
open Go.RowKit Nm
set_option linter.unusedSimpArgs false
set_option linter.unusedVariables false

set_option maxHeartbeats 16000000 in
set_option maxRecDepth 100000 in
theorem walk_FnExactValidQueue (A0 : Option Addr) (n0 c0 : Nat) (d0 : Que) (w : World) (t0 : QueRaw w w.heap.size A0 n0 c0 d0) :
    Calls Try.prog 8 #[.agg #[.int .i64 d0.rm, .slice A0 n0 c0, .int .i64 d0.ls]] w (BoolPost w true) := by
  have T0 := hid t0
  clear t0
  have HB := hid (Below.refl w.heap.size w)
  have hr : Rows (w.alloc (.cells #[.int .i64 d0.rm, .slice A0 n0 c0, .int .i64 d0.ls] 57)) w.heap.size [bxRow 57 3 (w.heap.size) [.int .i64 d0.rm, .slice A0 n0 c0, .int .i64 d0.ls]] := by have h := Rows.box w #[.int .i64 d0.rm, .slice A0 n0 c0, .int .i64 d0.ls] 57 3 rfl; simpa using h
  have hb : Below w.heap.size w (w.alloc (.cells #[.int .i64 d0.rm, .slice A0 n0 c0, .int .i64 d0.ls] 57)) := (Below.refl _ _).alloc (Nat.le_refl _) _
  have HR := hid hr
  replace HB := hid (HB.out.trans (hb.mono HB.out.size))
  clear hb hr
  have da00 : (w.alloc (.cells #[.int .i64 d0.rm, .slice A0 n0 c0, .int .i64 d0.ls] 57)).cell? ⟨w.heap.size, 0, none⟩ = some (.int .i64 d0.rm) := (Rows.bcell (T := 57) (d := 3) (b := w.heap.size) (cs := [.int .i64 d0.rm, .slice A0 n0 c0, .int .i64 d0.ls]) (q := 0) (HR.out) (List.mem_singleton.2 rfl) rfl).1
  have da01 : (w.alloc (.cells #[.int .i64 d0.rm, .slice A0 n0 c0, .int .i64 d0.ls] 57)).cell? ⟨w.heap.size, 1, none⟩ = some (.slice A0 n0 c0) := (Rows.bcell (T := 57) (d := 3) (b := w.heap.size) (cs := [.int .i64 d0.rm, .slice A0 n0 c0, .int .i64 d0.ls]) (q := 1) (HR.out) (List.mem_singleton.2 rfl) rfl).1
  have da02 : (w.alloc (.cells #[.int .i64 d0.rm, .slice A0 n0 c0, .int .i64 d0.ls] 57)).cell? ⟨w.heap.size, 2, none⟩ = some (.int .i64 d0.ls) := (Rows.bcell (T := 57) (d := 3) (b := w.heap.size) (cs := [.int .i64 d0.rm, .slice A0 n0 c0, .int .i64 d0.ls]) (q := 2) (HR.out) (List.mem_singleton.2 rfl) rfl).1
  have ta0 : w.heap.size < (w.alloc (.cells #[.int .i64 d0.rm, .slice A0 n0 c0, .int .i64 d0.ls] 57)).heap.size := (Rows.bcell (T := 57) (d := 3) (b := w.heap.size) (cs := [.int .i64 d0.rm, .slice A0 n0 c0, .int .i64 d0.ls]) (q := 0) (HR.out) (List.mem_singleton.2 rfl) rfl).2
  go_enter Try.func8, Try.ntmps8
  go_wp2_with fail
  refine (szQueueY_c A0 n0 c0 d0 w.heap.size _ _ (T0.out.below HB.out (Nat.le_refl _)) HB.out.size (by omega) (by omega)).mono ?_
  rintro e w1 ⟨r0, rfl, hb, hr⟩
  replace HR := hid (HR.out.below hb)
  replace HB := hid (HB.out.trans (hb.mono HB.out.size))
  clear hb
  clear da00 da01 da02 ta0
  have da00 : w1.cell? ⟨w.heap.size, 0, none⟩ = some (.int .i64 d0.rm) := (Rows.bcell (T := 57) (d := 3) (b := w.heap.size) (cs := [.int .i64 d0.rm, .slice A0 n0 c0, .int .i64 d0.ls]) (q := 0) (HR.out) (List.mem_singleton.2 rfl) rfl).1
  have da01 : w1.cell? ⟨w.heap.size, 1, none⟩ = some (.slice A0 n0 c0) := (Rows.bcell (T := 57) (d := 3) (b := w.heap.size) (cs := [.int .i64 d0.rm, .slice A0 n0 c0, .int .i64 d0.ls]) (q := 1) (HR.out) (List.mem_singleton.2 rfl) rfl).1
  have da02 : w1.cell? ⟨w.heap.size, 2, none⟩ = some (.int .i64 d0.ls) := (Rows.bcell (T := 57) (d := 3) (b := w.heap.size) (cs := [.int .i64 d0.rm, .slice A0 n0 c0, .int .i64 d0.ls]) (q := 2) (HR.out) (List.mem_singleton.2 rfl) rfl).1
  have ta0 : w.heap.size < w1.heap.size := (Rows.bcell (T := 57) (d := 3) (b := w.heap.size) (cs := [.int .i64 d0.rm, .slice A0 n0 c0, .int .i64 d0.ls]) (q := 0) (HR.out) (List.mem_singleton.2 rfl) rfl).2
  rcases hr with hr | ⟨hr0, hr1, hfit⟩
  · go_wp2_with fail
    go_ret
    exact ⟨rfl, HB.out⟩
  have F0 := hid hfit
  clear hfit
  have cS : ∀ (W : World) (v0 : Value) (h0 : QueIn W W.heap.size v0 d0), Calls Try.prog 37 #[v0] W (fun e w2 => e = .returned (.bool (queOk d0)) ∧ Below W.heap.size W w2) := fun W v0 h0 => specValidQueue_c h0 (Nat.le_refl _)
  have cI : ∀ (W : World) (v0 : Value) (h0 : QueIn W W.heap.size v0 d0), Calls Try.prog 39 #[v0] W (fun e w2 => e = .returned (.bool (queOk d0)) ∧ Below W.heap.size W w2) := fun W v0 h0 => implValidQueue_c h0 (Nat.le_refl _)
  generalize queOk d0 = X0 at cS cI
  have hX0 : (X0 == X0) = true := by simp
  replace cS := hid cS
  replace cI := hid cI
  go_wp2_with fail
  refine (toQueueY_c A0 n0 c0 d0 w.heap.size _ (T0.out.below HB.out (Nat.le_refl _)) HB.out.size F0.out).mono ?_
  rintro e w2 ⟨v, rs, rfl, hs, hr, hb⟩
  obtain ⟨fs00, fs01, fs02, rfl⟩ := hs.form hr
  have Ss0 := hid hs
  clear hs
  replace HR := hid (HR.out.newer hb hr HB.out.size)
  replace HB := hid (HB.out.trans (hb.mono HB.out.size))
  clear hb hr
  clear da00 da01 da02 ta0
  have da00 : w2.cell? ⟨w.heap.size, 0, none⟩ = some (.int .i64 d0.rm) := (Rows.bcell (T := 57) (d := 3) (b := w.heap.size) (cs := [.int .i64 d0.rm, .slice A0 n0 c0, .int .i64 d0.ls]) (q := 0) (HR.out.right) (List.mem_singleton.2 rfl) rfl).1
  have da01 : w2.cell? ⟨w.heap.size, 1, none⟩ = some (.slice A0 n0 c0) := (Rows.bcell (T := 57) (d := 3) (b := w.heap.size) (cs := [.int .i64 d0.rm, .slice A0 n0 c0, .int .i64 d0.ls]) (q := 1) (HR.out.right) (List.mem_singleton.2 rfl) rfl).1
  have da02 : w2.cell? ⟨w.heap.size, 2, none⟩ = some (.int .i64 d0.ls) := (Rows.bcell (T := 57) (d := 3) (b := w.heap.size) (cs := [.int .i64 d0.rm, .slice A0 n0 c0, .int .i64 d0.ls]) (q := 2) (HR.out.right) (List.mem_singleton.2 rfl) rfl).1
  have ta0 : w.heap.size < w2.heap.size := (Rows.bcell (T := 57) (d := 3) (b := w.heap.size) (cs := [.int .i64 d0.rm, .slice A0 n0 c0, .int .i64 d0.ls]) (q := 0) (HR.out.right) (List.mem_singleton.2 rfl) rfl).2
  go_wp2_with fail
  refine (cS.out _ _ (Ss0.out.at_ (HR.out.left) F0.out)).mono ?_
  rintro e w3 ⟨rfl, hb⟩
  replace HR := hid (HR.out.below hb)
  replace HB := hid (HB.out.trans (hb.mono HB.out.size))
  clear hb
  clear da00 da01 da02 ta0
  have da00 : w3.cell? ⟨w.heap.size, 0, none⟩ = some (.int .i64 d0.rm) := (Rows.bcell (T := 57) (d := 3) (b := w.heap.size) (cs := [.int .i64 d0.rm, .slice A0 n0 c0, .int .i64 d0.ls]) (q := 0) (HR.out.right) (List.mem_singleton.2 rfl) rfl).1
  have da01 : w3.cell? ⟨w.heap.size, 1, none⟩ = some (.slice A0 n0 c0) := (Rows.bcell (T := 57) (d := 3) (b := w.heap.size) (cs := [.int .i64 d0.rm, .slice A0 n0 c0, .int .i64 d0.ls]) (q := 1) (HR.out.right) (List.mem_singleton.2 rfl) rfl).1
  have da02 : w3.cell? ⟨w.heap.size, 2, none⟩ = some (.int .i64 d0.ls) := (Rows.bcell (T := 57) (d := 3) (b := w.heap.size) (cs := [.int .i64 d0.rm, .slice A0 n0 c0, .int .i64 d0.ls]) (q := 2) (HR.out.right) (List.mem_singleton.2 rfl) rfl).1
  have ta0 : w.heap.size < w3.heap.size := (Rows.bcell (T := 57) (d := 3) (b := w.heap.size) (cs := [.int .i64 d0.rm, .slice A0 n0 c0, .int .i64 d0.ls]) (q := 0) (HR.out.right) (List.mem_singleton.2 rfl) rfl).2
  replace HR := hid (HR.out.sub (List.sublist_append_right _ _))
  clear Ss0
  go_wp2_with fail
  refine (toQueueY_c A0 n0 c0 d0 w.heap.size _ (T0.out.below HB.out (Nat.le_refl _)) HB.out.size F0.out).mono ?_
  rintro e w4 ⟨v, rs, rfl, hs, hr, hb⟩
  obtain ⟨fx00, fx01, fx02, rfl⟩ := hs.form hr
  have Sx0 := hid hs
  clear hs
  replace HR := hid (HR.out.newer hb hr HB.out.size)
  replace HB := hid (HB.out.trans (hb.mono HB.out.size))
  clear hb hr
  clear da00 da01 da02 ta0
  have da00 : w4.cell? ⟨w.heap.size, 0, none⟩ = some (.int .i64 d0.rm) := (Rows.bcell (T := 57) (d := 3) (b := w.heap.size) (cs := [.int .i64 d0.rm, .slice A0 n0 c0, .int .i64 d0.ls]) (q := 0) (HR.out.right) (List.mem_singleton.2 rfl) rfl).1
  have da01 : w4.cell? ⟨w.heap.size, 1, none⟩ = some (.slice A0 n0 c0) := (Rows.bcell (T := 57) (d := 3) (b := w.heap.size) (cs := [.int .i64 d0.rm, .slice A0 n0 c0, .int .i64 d0.ls]) (q := 1) (HR.out.right) (List.mem_singleton.2 rfl) rfl).1
  have da02 : w4.cell? ⟨w.heap.size, 2, none⟩ = some (.int .i64 d0.ls) := (Rows.bcell (T := 57) (d := 3) (b := w.heap.size) (cs := [.int .i64 d0.rm, .slice A0 n0 c0, .int .i64 d0.ls]) (q := 2) (HR.out.right) (List.mem_singleton.2 rfl) rfl).1
  have ta0 : w.heap.size < w4.heap.size := (Rows.bcell (T := 57) (d := 3) (b := w.heap.size) (cs := [.int .i64 d0.rm, .slice A0 n0 c0, .int .i64 d0.ls]) (q := 0) (HR.out.right) (List.mem_singleton.2 rfl) rfl).2
  have hb : Below w4.heap.size w4 (w4.alloc (.cells #[.int .i64 d0.rm, .slice fx00 fx01 fx02, .int .i64 d0.ls] 61)) := (Below.refl _ _).alloc (Nat.le_refl _) _
  have hr := Rows.box w4 #[.int .i64 d0.rm, .slice fx00 fx01 fx02, .int .i64 d0.ls] 61 3 rfl
  replace HR := hid (HR.out.newer hb hr HB.out.size)
  replace HB := hid (HB.out.trans (hb.mono HB.out.size))
  clear hb hr
  clear da00 da01 da02 ta0
  have dbx00 : (w4.alloc (.cells #[.int .i64 d0.rm, .slice fx00 fx01 fx02, .int .i64 d0.ls] 61)).cell? ⟨w4.heap.size, 0, none⟩ = some (.int .i64 d0.rm) := (Rows.bcell (T := 61) (d := 3) (b := w4.heap.size) (cs := [.int .i64 d0.rm, .slice fx00 fx01 fx02, .int .i64 d0.ls]) (q := 0) (HR.out.left) (List.mem_singleton.2 rfl) rfl).1
  have dbx01 : (w4.alloc (.cells #[.int .i64 d0.rm, .slice fx00 fx01 fx02, .int .i64 d0.ls] 61)).cell? ⟨w4.heap.size, 1, none⟩ = some (.slice fx00 fx01 fx02) := (Rows.bcell (T := 61) (d := 3) (b := w4.heap.size) (cs := [.int .i64 d0.rm, .slice fx00 fx01 fx02, .int .i64 d0.ls]) (q := 1) (HR.out.left) (List.mem_singleton.2 rfl) rfl).1
  have dbx02 : (w4.alloc (.cells #[.int .i64 d0.rm, .slice fx00 fx01 fx02, .int .i64 d0.ls] 61)).cell? ⟨w4.heap.size, 2, none⟩ = some (.int .i64 d0.ls) := (Rows.bcell (T := 61) (d := 3) (b := w4.heap.size) (cs := [.int .i64 d0.rm, .slice fx00 fx01 fx02, .int .i64 d0.ls]) (q := 2) (HR.out.left) (List.mem_singleton.2 rfl) rfl).1
  have tbx0 : w4.heap.size < (w4.alloc (.cells #[.int .i64 d0.rm, .slice fx00 fx01 fx02, .int .i64 d0.ls] 61)).heap.size := (Rows.bcell (T := 61) (d := 3) (b := w4.heap.size) (cs := [.int .i64 d0.rm, .slice fx00 fx01 fx02, .int .i64 d0.ls]) (q := 0) (HR.out.left) (List.mem_singleton.2 rfl) rfl).2
  have da00 : (w4.alloc (.cells #[.int .i64 d0.rm, .slice fx00 fx01 fx02, .int .i64 d0.ls] 61)).cell? ⟨w.heap.size, 0, none⟩ = some (.int .i64 d0.rm) := (Rows.bcell (T := 57) (d := 3) (b := w.heap.size) (cs := [.int .i64 d0.rm, .slice A0 n0 c0, .int .i64 d0.ls]) (q := 0) (HR.out.right.right) (List.mem_singleton.2 rfl) rfl).1
  have da01 : (w4.alloc (.cells #[.int .i64 d0.rm, .slice fx00 fx01 fx02, .int .i64 d0.ls] 61)).cell? ⟨w.heap.size, 1, none⟩ = some (.slice A0 n0 c0) := (Rows.bcell (T := 57) (d := 3) (b := w.heap.size) (cs := [.int .i64 d0.rm, .slice A0 n0 c0, .int .i64 d0.ls]) (q := 1) (HR.out.right.right) (List.mem_singleton.2 rfl) rfl).1
  have da02 : (w4.alloc (.cells #[.int .i64 d0.rm, .slice fx00 fx01 fx02, .int .i64 d0.ls] 61)).cell? ⟨w.heap.size, 2, none⟩ = some (.int .i64 d0.ls) := (Rows.bcell (T := 57) (d := 3) (b := w.heap.size) (cs := [.int .i64 d0.rm, .slice A0 n0 c0, .int .i64 d0.ls]) (q := 2) (HR.out.right.right) (List.mem_singleton.2 rfl) rfl).1
  have ta0 : w.heap.size < (w4.alloc (.cells #[.int .i64 d0.rm, .slice fx00 fx01 fx02, .int .i64 d0.ls] 61)).heap.size := (Rows.bcell (T := 57) (d := 3) (b := w.heap.size) (cs := [.int .i64 d0.rm, .slice A0 n0 c0, .int .i64 d0.ls]) (q := 0) (HR.out.right.right) (List.mem_singleton.2 rfl) rfl).2
  go_wp2_with fail
  refine (cI.out _ _ (Sx0.out.at_ (HR.out.right.left) F0.out)).mono ?_
  rintro e w5 ⟨rfl, hb⟩
  replace HR := hid (HR.out.below hb)
  replace HB := hid (HB.out.trans (hb.mono HB.out.size))
  clear hb
  clear dbx00 dbx01 dbx02 tbx0 da00 da01 da02 ta0
  have dbx00 : w5.cell? ⟨w4.heap.size, 0, none⟩ = some (.int .i64 d0.rm) := (Rows.bcell (T := 61) (d := 3) (b := w4.heap.size) (cs := [.int .i64 d0.rm, .slice fx00 fx01 fx02, .int .i64 d0.ls]) (q := 0) (HR.out.left) (List.mem_singleton.2 rfl) rfl).1
  have dbx01 : w5.cell? ⟨w4.heap.size, 1, none⟩ = some (.slice fx00 fx01 fx02) := (Rows.bcell (T := 61) (d := 3) (b := w4.heap.size) (cs := [.int .i64 d0.rm, .slice fx00 fx01 fx02, .int .i64 d0.ls]) (q := 1) (HR.out.left) (List.mem_singleton.2 rfl) rfl).1
  have dbx02 : w5.cell? ⟨w4.heap.size, 2, none⟩ = some (.int .i64 d0.ls) := (Rows.bcell (T := 61) (d := 3) (b := w4.heap.size) (cs := [.int .i64 d0.rm, .slice fx00 fx01 fx02, .int .i64 d0.ls]) (q := 2) (HR.out.left) (List.mem_singleton.2 rfl) rfl).1
  have tbx0 : w4.heap.size < w5.heap.size := (Rows.bcell (T := 61) (d := 3) (b := w4.heap.size) (cs := [.int .i64 d0.rm, .slice fx00 fx01 fx02, .int .i64 d0.ls]) (q := 0) (HR.out.left) (List.mem_singleton.2 rfl) rfl).2
  have da00 : w5.cell? ⟨w.heap.size, 0, none⟩ = some (.int .i64 d0.rm) := (Rows.bcell (T := 57) (d := 3) (b := w.heap.size) (cs := [.int .i64 d0.rm, .slice A0 n0 c0, .int .i64 d0.ls]) (q := 0) (HR.out.right.right) (List.mem_singleton.2 rfl) rfl).1
  have da01 : w5.cell? ⟨w.heap.size, 1, none⟩ = some (.slice A0 n0 c0) := (Rows.bcell (T := 57) (d := 3) (b := w.heap.size) (cs := [.int .i64 d0.rm, .slice A0 n0 c0, .int .i64 d0.ls]) (q := 1) (HR.out.right.right) (List.mem_singleton.2 rfl) rfl).1
  have da02 : w5.cell? ⟨w.heap.size, 2, none⟩ = some (.int .i64 d0.ls) := (Rows.bcell (T := 57) (d := 3) (b := w.heap.size) (cs := [.int .i64 d0.rm, .slice A0 n0 c0, .int .i64 d0.ls]) (q := 2) (HR.out.right.right) (List.mem_singleton.2 rfl) rfl).1
  have ta0 : w.heap.size < w5.heap.size := (Rows.bcell (T := 57) (d := 3) (b := w.heap.size) (cs := [.int .i64 d0.rm, .slice A0 n0 c0, .int .i64 d0.ls]) (q := 0) (HR.out.right.right) (List.mem_singleton.2 rfl) rfl).2
  go_wp2_with fail
  refine wp_region_held_drew (S := (fun w' : World => w'.cell? ⟨w4.heap.size, 0, none⟩ = some (.int .i64 d0.rm) ∧ w'.cell? ⟨w4.heap.size, 1, none⟩ = some (.slice fx00 fx01 fx02) ∧ w'.cell? ⟨w4.heap.size, 2, none⟩ = some (.int .i64 d0.ls) ∧ w'.cell? ⟨w.heap.size, 0, none⟩ = some (.int .i64 d0.rm) ∧ w'.cell? ⟨w.heap.size, 1, none⟩ = some (.slice A0 n0 c0) ∧ w'.cell? ⟨w.heap.size, 2, none⟩ = some (.int .i64 d0.ls))) (by kernel_rfl) ⟨dbx00, dbx01, dbx02, da00, da01, da02⟩ (fun hS => ?_)
  refine wpAnyH_take (i := 0) (oi := ?oi101) (v := ?v101) ?hi101 (by kernel_rfl) ?hf101 ?hr101 ?hQ101 (Or.inl ⟨?hw101, ?hy101⟩) (by assumption) ?rest101
  case hi101 => simp only [List.getElem?_toArray, List.getElem?_cons_succ, List.getElem?_cons_zero]; rfl
  case hf101 => kernel_rfl
  case hr101 => kernel_rfl
  case hw101 => rfl
  case hy101 => (intro w hSw; (try dsimp only at hSw); go_simp; all_goals (first | done | with_reducible rfl))
  case hQ101 => exact fun _ _ _ h => h
  simp only [Act.put, List.setIfInBounds_toArray, List.set_cons_zero, List.set_cons_succ]
  refine wpAnyH_take (i := 1) (oi := ?oi102) (v := ?v102) ?hi102 (by kernel_rfl) ?hf102 ?hr102 ?hQ102 (Or.inl ⟨?hw102, ?hy102⟩) (by assumption) ?rest102
  case hi102 => simp only [List.getElem?_toArray, List.getElem?_cons_succ, List.getElem?_cons_zero]; rfl
  case hf102 => kernel_rfl
  case hr102 => kernel_rfl
  case hw102 => rfl
  case hy102 => (intro w hSw; (try dsimp only at hSw); go_simp; all_goals (first | done | with_reducible rfl))
  case hQ102 => exact fun _ _ _ h => h
  simp only [Act.put, List.setIfInBounds_toArray, List.set_cons_zero, List.set_cons_succ]
  replace HR := hid (HR.out.below ((Below.refl w5.heap.size w5).drew))
  replace HB := hid HB.out.drew
  clear dbx00 dbx01 dbx02 tbx0 da00 da01 da02 ta0
  have dbx00 : w5.drew.cell? ⟨w4.heap.size, 0, none⟩ = some (.int .i64 d0.rm) := (Rows.bcell (T := 61) (d := 3) (b := w4.heap.size) (cs := [.int .i64 d0.rm, .slice fx00 fx01 fx02, .int .i64 d0.ls]) (q := 0) (HR.out.left) (List.mem_singleton.2 rfl) rfl).1
  have dbx01 : w5.drew.cell? ⟨w4.heap.size, 1, none⟩ = some (.slice fx00 fx01 fx02) := (Rows.bcell (T := 61) (d := 3) (b := w4.heap.size) (cs := [.int .i64 d0.rm, .slice fx00 fx01 fx02, .int .i64 d0.ls]) (q := 1) (HR.out.left) (List.mem_singleton.2 rfl) rfl).1
  have dbx02 : w5.drew.cell? ⟨w4.heap.size, 2, none⟩ = some (.int .i64 d0.ls) := (Rows.bcell (T := 61) (d := 3) (b := w4.heap.size) (cs := [.int .i64 d0.rm, .slice fx00 fx01 fx02, .int .i64 d0.ls]) (q := 2) (HR.out.left) (List.mem_singleton.2 rfl) rfl).1
  have tbx0 : w4.heap.size < w5.drew.heap.size := (Rows.bcell (T := 61) (d := 3) (b := w4.heap.size) (cs := [.int .i64 d0.rm, .slice fx00 fx01 fx02, .int .i64 d0.ls]) (q := 0) (HR.out.left) (List.mem_singleton.2 rfl) rfl).2
  have da00 : w5.drew.cell? ⟨w.heap.size, 0, none⟩ = some (.int .i64 d0.rm) := (Rows.bcell (T := 57) (d := 3) (b := w.heap.size) (cs := [.int .i64 d0.rm, .slice A0 n0 c0, .int .i64 d0.ls]) (q := 0) (HR.out.right.right) (List.mem_singleton.2 rfl) rfl).1
  have da01 : w5.drew.cell? ⟨w.heap.size, 1, none⟩ = some (.slice A0 n0 c0) := (Rows.bcell (T := 57) (d := 3) (b := w.heap.size) (cs := [.int .i64 d0.rm, .slice A0 n0 c0, .int .i64 d0.ls]) (q := 1) (HR.out.right.right) (List.mem_singleton.2 rfl) rfl).1
  have da02 : w5.drew.cell? ⟨w.heap.size, 2, none⟩ = some (.int .i64 d0.ls) := (Rows.bcell (T := 57) (d := 3) (b := w.heap.size) (cs := [.int .i64 d0.rm, .slice A0 n0 c0, .int .i64 d0.ls]) (q := 2) (HR.out.right.right) (List.mem_singleton.2 rfl) rfl).1
  have ta0 : w.heap.size < w5.drew.heap.size := (Rows.bcell (T := 57) (d := 3) (b := w.heap.size) (cs := [.int .i64 d0.rm, .slice A0 n0 c0, .int .i64 d0.ls]) (q := 0) (HR.out.right.right) (List.mem_singleton.2 rfl) rfl).2
  refine wpAnyH_ready (rs := [2]) (by kernel_rfl) (by simp) ?_
  refine AllReadyH.cons (o := ?oi103) ?hi103 (fun K hK => ?step103) AllReadyH.nil
  case hi103 => simp only [List.getElem?_toArray, List.getElem?_cons_succ, List.getElem?_cons_zero]; rfl
  rw [if_pos (by rfl)]
  go_simp
  go_at_call 38
  refine (toQueueY_c A0 n0 c0 d0 w.heap.size _ (T0.out.below HB.out (Nat.le_refl _)) HB.out.size F0.out).mono ?_
  rintro e w6 ⟨v, rs, rfl, hs, hr, hb⟩
  obtain ⟨fy00, fy01, fy02, rfl⟩ := hs.form hr
  have Sy0 := hid hs
  clear hs
  replace HR := hid (HR.out.newer hb hr HB.out.size)
  replace HB := hid (HB.out.trans (hb.mono HB.out.size))
  clear hb hr
  clear dbx00 dbx01 dbx02 tbx0 da00 da01 da02 ta0
  have dbx00 : w6.cell? ⟨w4.heap.size, 0, none⟩ = some (.int .i64 d0.rm) := (Rows.bcell (T := 61) (d := 3) (b := w4.heap.size) (cs := [.int .i64 d0.rm, .slice fx00 fx01 fx02, .int .i64 d0.ls]) (q := 0) (HR.out.right.left) (List.mem_singleton.2 rfl) rfl).1
  have dbx01 : w6.cell? ⟨w4.heap.size, 1, none⟩ = some (.slice fx00 fx01 fx02) := (Rows.bcell (T := 61) (d := 3) (b := w4.heap.size) (cs := [.int .i64 d0.rm, .slice fx00 fx01 fx02, .int .i64 d0.ls]) (q := 1) (HR.out.right.left) (List.mem_singleton.2 rfl) rfl).1
  have dbx02 : w6.cell? ⟨w4.heap.size, 2, none⟩ = some (.int .i64 d0.ls) := (Rows.bcell (T := 61) (d := 3) (b := w4.heap.size) (cs := [.int .i64 d0.rm, .slice fx00 fx01 fx02, .int .i64 d0.ls]) (q := 2) (HR.out.right.left) (List.mem_singleton.2 rfl) rfl).1
  have tbx0 : w4.heap.size < w6.heap.size := (Rows.bcell (T := 61) (d := 3) (b := w4.heap.size) (cs := [.int .i64 d0.rm, .slice fx00 fx01 fx02, .int .i64 d0.ls]) (q := 0) (HR.out.right.left) (List.mem_singleton.2 rfl) rfl).2
  have da00 : w6.cell? ⟨w.heap.size, 0, none⟩ = some (.int .i64 d0.rm) := (Rows.bcell (T := 57) (d := 3) (b := w.heap.size) (cs := [.int .i64 d0.rm, .slice A0 n0 c0, .int .i64 d0.ls]) (q := 0) (HR.out.right.right.right) (List.mem_singleton.2 rfl) rfl).1
  have da01 : w6.cell? ⟨w.heap.size, 1, none⟩ = some (.slice A0 n0 c0) := (Rows.bcell (T := 57) (d := 3) (b := w.heap.size) (cs := [.int .i64 d0.rm, .slice A0 n0 c0, .int .i64 d0.ls]) (q := 1) (HR.out.right.right.right) (List.mem_singleton.2 rfl) rfl).1
  have da02 : w6.cell? ⟨w.heap.size, 2, none⟩ = some (.int .i64 d0.ls) := (Rows.bcell (T := 57) (d := 3) (b := w.heap.size) (cs := [.int .i64 d0.rm, .slice A0 n0 c0, .int .i64 d0.ls]) (q := 2) (HR.out.right.right.right) (List.mem_singleton.2 rfl) rfl).1
  have ta0 : w.heap.size < w6.heap.size := (Rows.bcell (T := 57) (d := 3) (b := w.heap.size) (cs := [.int .i64 d0.rm, .slice A0 n0 c0, .int .i64 d0.ls]) (q := 0) (HR.out.right.right.right) (List.mem_singleton.2 rfl) rfl).2
  refine hK.out _ _ ⟨dbx00, dbx01, dbx02, da00, da01, da02⟩ (fun hS9 => ?_)
  refine wpAnyH_ready (rs := [3]) (by kernel_rfl) (by simp) ?_
  refine AllReadyH.cons (o := ?oi104) ?hi104 (fun K hK => ?step104) AllReadyH.nil
  case hi104 => simp only [List.getElem?_toArray, List.getElem?_cons_succ, List.getElem?_cons_zero]; rfl
  rw [if_pos (by rfl)]
  go_simp
  go_at_call 40
  refine (eqQueueX_c Sx0.out (HR.out.right.right.left) Sy0.out (HR.out.left)).mono ?_
  rintro e w7 ⟨rfl, hb⟩
  replace HR := hid (HR.out.below hb)
  replace HB := hid (HB.out.trans (hb.mono HB.out.size))
  clear hb
  clear dbx00 dbx01 dbx02 tbx0 da00 da01 da02 ta0
  have dbx00 : w7.cell? ⟨w4.heap.size, 0, none⟩ = some (.int .i64 d0.rm) := (Rows.bcell (T := 61) (d := 3) (b := w4.heap.size) (cs := [.int .i64 d0.rm, .slice fx00 fx01 fx02, .int .i64 d0.ls]) (q := 0) (HR.out.right.left) (List.mem_singleton.2 rfl) rfl).1
  have dbx01 : w7.cell? ⟨w4.heap.size, 1, none⟩ = some (.slice fx00 fx01 fx02) := (Rows.bcell (T := 61) (d := 3) (b := w4.heap.size) (cs := [.int .i64 d0.rm, .slice fx00 fx01 fx02, .int .i64 d0.ls]) (q := 1) (HR.out.right.left) (List.mem_singleton.2 rfl) rfl).1
  have dbx02 : w7.cell? ⟨w4.heap.size, 2, none⟩ = some (.int .i64 d0.ls) := (Rows.bcell (T := 61) (d := 3) (b := w4.heap.size) (cs := [.int .i64 d0.rm, .slice fx00 fx01 fx02, .int .i64 d0.ls]) (q := 2) (HR.out.right.left) (List.mem_singleton.2 rfl) rfl).1
  have tbx0 : w4.heap.size < w7.heap.size := (Rows.bcell (T := 61) (d := 3) (b := w4.heap.size) (cs := [.int .i64 d0.rm, .slice fx00 fx01 fx02, .int .i64 d0.ls]) (q := 0) (HR.out.right.left) (List.mem_singleton.2 rfl) rfl).2
  have da00 : w7.cell? ⟨w.heap.size, 0, none⟩ = some (.int .i64 d0.rm) := (Rows.bcell (T := 57) (d := 3) (b := w.heap.size) (cs := [.int .i64 d0.rm, .slice A0 n0 c0, .int .i64 d0.ls]) (q := 0) (HR.out.right.right.right) (List.mem_singleton.2 rfl) rfl).1
  have da01 : w7.cell? ⟨w.heap.size, 1, none⟩ = some (.slice A0 n0 c0) := (Rows.bcell (T := 57) (d := 3) (b := w.heap.size) (cs := [.int .i64 d0.rm, .slice A0 n0 c0, .int .i64 d0.ls]) (q := 1) (HR.out.right.right.right) (List.mem_singleton.2 rfl) rfl).1
  have da02 : w7.cell? ⟨w.heap.size, 2, none⟩ = some (.int .i64 d0.ls) := (Rows.bcell (T := 57) (d := 3) (b := w.heap.size) (cs := [.int .i64 d0.rm, .slice A0 n0 c0, .int .i64 d0.ls]) (q := 2) (HR.out.right.right.right) (List.mem_singleton.2 rfl) rfl).1
  have ta0 : w.heap.size < w7.heap.size := (Rows.bcell (T := 57) (d := 3) (b := w.heap.size) (cs := [.int .i64 d0.rm, .slice A0 n0 c0, .int .i64 d0.ls]) (q := 0) (HR.out.right.right.right) (List.mem_singleton.2 rfl) rfl).2
  refine hK.out _ _ ⟨dbx00, dbx01, dbx02, da00, da01, da02⟩ (fun hS9 => ?_)
  refine wpAnyH_take (i := 4) (oi := ?oi105) (v := ?v105) ?hi105 (by kernel_rfl) ?hf105 ?hr105 ?hQ105 (Or.inl ⟨?hw105, ?hy105⟩) (by assumption) ?rest105
  case hi105 => simp only [List.getElem?_toArray, List.getElem?_cons_succ, List.getElem?_cons_zero]; rfl
  case hf105 => kernel_rfl
  case hr105 => kernel_rfl
  case hw105 => rfl
  case hy105 => (intro w hSw; (try dsimp only at hSw); go_simp; all_goals (first | done | with_reducible rfl))
  case hQ105 => exact fun _ _ _ h => h
  simp only [Act.put, List.setIfInBounds_toArray, List.set_cons_zero, List.set_cons_succ]
  refine wpAnyH_done (by kernel_rfl) ?_ _
  replace HR := hid (HR.out.sub (List.sublist_append_right _ _))
  clear Sy0
  clear dbx00 dbx01 dbx02 tbx0 da00 da01 da02 ta0
  have dbx00 : w7.cell? ⟨w4.heap.size, 0, none⟩ = some (.int .i64 d0.rm) := (Rows.bcell (T := 61) (d := 3) (b := w4.heap.size) (cs := [.int .i64 d0.rm, .slice fx00 fx01 fx02, .int .i64 d0.ls]) (q := 0) (HR.out.left) (List.mem_singleton.2 rfl) rfl).1
  have dbx01 : w7.cell? ⟨w4.heap.size, 1, none⟩ = some (.slice fx00 fx01 fx02) := (Rows.bcell (T := 61) (d := 3) (b := w4.heap.size) (cs := [.int .i64 d0.rm, .slice fx00 fx01 fx02, .int .i64 d0.ls]) (q := 1) (HR.out.left) (List.mem_singleton.2 rfl) rfl).1
  have dbx02 : w7.cell? ⟨w4.heap.size, 2, none⟩ = some (.int .i64 d0.ls) := (Rows.bcell (T := 61) (d := 3) (b := w4.heap.size) (cs := [.int .i64 d0.rm, .slice fx00 fx01 fx02, .int .i64 d0.ls]) (q := 2) (HR.out.left) (List.mem_singleton.2 rfl) rfl).1
  have tbx0 : w4.heap.size < w7.heap.size := (Rows.bcell (T := 61) (d := 3) (b := w4.heap.size) (cs := [.int .i64 d0.rm, .slice fx00 fx01 fx02, .int .i64 d0.ls]) (q := 0) (HR.out.left) (List.mem_singleton.2 rfl) rfl).2
  have da00 : w7.cell? ⟨w.heap.size, 0, none⟩ = some (.int .i64 d0.rm) := (Rows.bcell (T := 57) (d := 3) (b := w.heap.size) (cs := [.int .i64 d0.rm, .slice A0 n0 c0, .int .i64 d0.ls]) (q := 0) (HR.out.right.right) (List.mem_singleton.2 rfl) rfl).1
  have da01 : w7.cell? ⟨w.heap.size, 1, none⟩ = some (.slice A0 n0 c0) := (Rows.bcell (T := 57) (d := 3) (b := w.heap.size) (cs := [.int .i64 d0.rm, .slice A0 n0 c0, .int .i64 d0.ls]) (q := 1) (HR.out.right.right) (List.mem_singleton.2 rfl) rfl).1
  have da02 : w7.cell? ⟨w.heap.size, 2, none⟩ = some (.int .i64 d0.ls) := (Rows.bcell (T := 57) (d := 3) (b := w.heap.size) (cs := [.int .i64 d0.rm, .slice A0 n0 c0, .int .i64 d0.ls]) (q := 2) (HR.out.right.right) (List.mem_singleton.2 rfl) rfl).1
  have ta0 : w.heap.size < w7.heap.size := (Rows.bcell (T := 57) (d := 3) (b := w.heap.size) (cs := [.int .i64 d0.rm, .slice A0 n0 c0, .int .i64 d0.ls]) (q := 0) (HR.out.right.right) (List.mem_singleton.2 rfl) rfl).2
  go_wp2_with fail
  go_ret
  exact ⟨rfl, HB.out⟩
end Go.Proofs.Ytebofooaadoojaa
