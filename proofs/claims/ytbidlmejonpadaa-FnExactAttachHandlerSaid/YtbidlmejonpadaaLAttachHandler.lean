/-
  WALK: the law FnExactAttachHandler. By gen_tree2.py.
-/
import Derived.Test.YtbidlmejonpadaaAT1
import Derived.Test.YtbidlmejonpadaaMarks
namespace Go.Proofs.Ytbidlmejonpadaa
open Go.RowKit Nm
set_option linter.unusedSimpArgs false
set_option linter.unusedVariables false

set_option maxHeartbeats 16000000 in
set_option maxRecDepth 100000 in
theorem walk_FnExactAttachHandler (Aa0 : Option Addr) (na0 ca0 : Nat) (Ab0 : Option Addr) (nb0 cb0 : Nat) (q0 : Int) (la0 : List LgrV) (lb0 : List HndV) (a1 : ByteArray) (a2 : ByteArray) (w : World) (t0 : treeRaw w w.heap.size Aa0 na0 ca0 Ab0 nb0 cb0 la0 lb0) (m1 : a1.size ≤ maxLen) (m2 : a2.size ≤ maxLen) :
    Calls Try.prog 7 #[.agg #[.slice Aa0 na0 ca0, .slice Ab0 nb0 cb0, .int .i64 q0], .string a1, .string a2] w (BoolPost w true) := by
  have T0 := hid t0
  clear t0
  have HB := hid (show Below w.heap.size w (w.alloc (.cells #[.slice Aa0 na0 ca0, .slice Ab0 nb0 cb0, .int .i64 q0] 25)) from (Below.refl _ _).alloc (Nat.le_refl _) _)
  have HR := hid (Rows.box w #[.slice Aa0 na0 ca0, .slice Ab0 nb0 cb0, .int .i64 q0] 25 3 rfl)
  have m1' := m1
  unfold maxLen at m1'
  by_cases q1 : (1048576 : Int) < (a1.size : Int)
  · go_enter Try.func7, Try.ntmps7
    go_wp2_with fail
    go_ret
    exact ⟨rfl, HB.out⟩
  have z1 : a1.size ≤ maxTxt := by unfold maxTxt; omega
  have m2' := m2
  unfold maxLen at m2'
  by_cases q2 : (1048576 : Int) < (a2.size : Int)
  · go_enter Try.func7, Try.ntmps7
    go_wp2_with fail
    go_ret
    exact ⟨rfl, HB.out⟩
  have z2 : a2.size ≤ maxTxt := by unfold maxTxt; omega
  have da00 : (w.alloc (.cells #[.slice Aa0 na0 ca0, .slice Ab0 nb0 cb0, .int .i64 q0] 25)).cell? ⟨w.heap.size, 0, none⟩ = some (.slice Aa0 na0 ca0) := (Rows.bcell (T := 25) (d := 3) (b := w.heap.size) (cs := [.slice Aa0 na0 ca0, .slice Ab0 nb0 cb0, .int .i64 q0]) (q := 0) (HR.out) (List.mem_singleton.2 rfl) rfl).1
  have da01 : (w.alloc (.cells #[.slice Aa0 na0 ca0, .slice Ab0 nb0 cb0, .int .i64 q0] 25)).cell? ⟨w.heap.size, 1, none⟩ = some (.slice Ab0 nb0 cb0) := (Rows.bcell (T := 25) (d := 3) (b := w.heap.size) (cs := [.slice Aa0 na0 ca0, .slice Ab0 nb0 cb0, .int .i64 q0]) (q := 1) (HR.out) (List.mem_singleton.2 rfl) rfl).1
  have da02 : (w.alloc (.cells #[.slice Aa0 na0 ca0, .slice Ab0 nb0 cb0, .int .i64 q0] 25)).cell? ⟨w.heap.size, 2, none⟩ = some (.int .i64 q0) := (Rows.bcell (T := 25) (d := 3) (b := w.heap.size) (cs := [.slice Aa0 na0 ca0, .slice Ab0 nb0 cb0, .int .i64 q0]) (q := 2) (HR.out) (List.mem_singleton.2 rfl) rfl).1
  have ta0 : w.heap.size < (w.alloc (.cells #[.slice Aa0 na0 ca0, .slice Ab0 nb0 cb0, .int .i64 q0] 25)).heap.size := (Rows.bcell (T := 25) (d := 3) (b := w.heap.size) (cs := [.slice Aa0 na0 ca0, .slice Ab0 nb0 cb0, .int .i64 q0]) (q := 0) (HR.out) (List.mem_singleton.2 rfl) rfl).2
  go_enter Try.func7, Try.ntmps7
  go_wp2_with fail
  refine (szTree_c Aa0 na0 ca0 Ab0 nb0 cb0 w.heap.size q0 la0 lb0 _ _ (T0.out.below HB.out (Nat.le_refl _)) HB.out.size (by omega) (by omega)).mono ?_
  rintro e w1 ⟨r0, rfl, hb, hr⟩
  replace HR := hid (HR.out.below hb)
  replace HB := hid (HB.out.trans (hb.mono HB.out.size))
  clear hb
  clear da00 da01 da02 ta0
  have da00 : w1.cell? ⟨w.heap.size, 0, none⟩ = some (.slice Aa0 na0 ca0) := (Rows.bcell (T := 25) (d := 3) (b := w.heap.size) (cs := [.slice Aa0 na0 ca0, .slice Ab0 nb0 cb0, .int .i64 q0]) (q := 0) (HR.out) (List.mem_singleton.2 rfl) rfl).1
  have da01 : w1.cell? ⟨w.heap.size, 1, none⟩ = some (.slice Ab0 nb0 cb0) := (Rows.bcell (T := 25) (d := 3) (b := w.heap.size) (cs := [.slice Aa0 na0 ca0, .slice Ab0 nb0 cb0, .int .i64 q0]) (q := 1) (HR.out) (List.mem_singleton.2 rfl) rfl).1
  have da02 : w1.cell? ⟨w.heap.size, 2, none⟩ = some (.int .i64 q0) := (Rows.bcell (T := 25) (d := 3) (b := w.heap.size) (cs := [.slice Aa0 na0 ca0, .slice Ab0 nb0 cb0, .int .i64 q0]) (q := 2) (HR.out) (List.mem_singleton.2 rfl) rfl).1
  have ta0 : w.heap.size < w1.heap.size := (Rows.bcell (T := 25) (d := 3) (b := w.heap.size) (cs := [.slice Aa0 na0 ca0, .slice Ab0 nb0 cb0, .int .i64 q0]) (q := 0) (HR.out) (List.mem_singleton.2 rfl) rfl).2
  rcases hr with hr | ⟨hr0, hr1, hfit⟩
  · go_wp2_with fail
    go_ret
    exact ⟨rfl, HB.out⟩
  have F0 := hid hfit
  have D0 := hid (fit_data T0.out hfit)
  clear hfit
  have cS := fun (W : World) (v : Value) (B : Nat) (h : TreeIn W B v (lsOf la0) (hsOf lb0) q0) (hB : B ≤ W.heap.size) => (show Calls Try.prog 31 #[v, .string a1, .string a2] W (fun e w2 => ∃ v2 rs, e = .returned (.tuple #[v2, .bool (lgrX (lsOf la0) (hsOf lb0) q0 a1.data.toList (addHL a2.data.toList)).isSome]) ∧ TreeS rs v2 (resL (lgrX (lsOf la0) (hsOf lb0) q0 a1.data.toList (addHL a2.data.toList))) (resH (lgrX (lsOf la0) (hsOf lb0) q0 a1.data.toList (addHL a2.data.toList))) (resQ (lgrX (lsOf la0) (hsOf lb0) q0 a1.data.toList (addHL a2.data.toList))) ∧ Rows w2 W.heap.size rs ∧ Below W.heap.size W w2) from specAttachHandler_c a1 a2 h hB z2)
  have cI := fun (W : World) (v : Value) (B : Nat) (h : TreeIn W B v (lsOf la0) (hsOf lb0) q0) (hB : B ≤ W.heap.size) => (show Calls Try.prog 32 #[v, .string a1, .string a2] W (fun e w2 => ∃ v2 rs, e = .returned (.tuple #[v2, .bool (lgrX (lsOf la0) (hsOf lb0) q0 a1.data.toList (addHL a2.data.toList)).isSome]) ∧ TreeS rs v2 (resL (lgrX (lsOf la0) (hsOf lb0) q0 a1.data.toList (addHL a2.data.toList))) (resH (lgrX (lsOf la0) (hsOf lb0) q0 a1.data.toList (addHL a2.data.toList))) (resQ (lgrX (lsOf la0) (hsOf lb0) q0 a1.data.toList (addHL a2.data.toList))) ∧ Rows w2 W.heap.size rs ∧ Below W.heap.size W w2) from implAttachHandler_c a1 a2 h hB z2)
  have DX : dataFit (resL (lgrX (lsOf la0) (hsOf lb0) q0 a1.data.toList (addHL a2.data.toList))) (resH (lgrX (lsOf la0) (hsOf lb0) q0 a1.data.toList (addHL a2.data.toList))) := att_fit _ _ _ _ _
  generalize (lgrX (lsOf la0) (hsOf lb0) q0 a1.data.toList (addHL a2.data.toList)).isSome = XI at *
  generalize resL (lgrX (lsOf la0) (hsOf lb0) q0 a1.data.toList (addHL a2.data.toList)) = XL at *
  generalize resH (lgrX (lsOf la0) (hsOf lb0) q0 a1.data.toList (addHL a2.data.toList)) = XH at *
  generalize resQ (lgrX (lsOf la0) (hsOf lb0) q0 a1.data.toList (addHL a2.data.toList)) = XQ at *
  have hXI : (XI == XI) = true := by simp
  replace DX := hid DX
  replace cS := hid cS
  replace cI := hid cI
  go_wp2_with fail
  refine (toTreeX_c Aa0 na0 ca0 Ab0 nb0 cb0 w.heap.size q0 la0 lb0 _ (T0.out.below HB.out (Nat.le_refl _)) F0.out HB.out.size).mono ?_
  rintro e w2 ⟨v, rs, rfl, hs, hr, hb⟩
  have Ss0 := hid hs
  obtain ⟨fs01, fs02, fs03, fs04, fs05, fs06, rfl⟩ := (hs.at_ hr D0.out).form
  clear hs
  replace HR := hid (HR.out.newer hb hr HB.out.size)
  replace HB := hid (HB.out.trans (hb.mono HB.out.size))
  clear hb hr
  clear da00 da01 da02 ta0
  have da00 : w2.cell? ⟨w.heap.size, 0, none⟩ = some (.slice Aa0 na0 ca0) := (Rows.bcell (T := 25) (d := 3) (b := w.heap.size) (cs := [.slice Aa0 na0 ca0, .slice Ab0 nb0 cb0, .int .i64 q0]) (q := 0) (HR.out.right) (List.mem_singleton.2 rfl) rfl).1
  have da01 : w2.cell? ⟨w.heap.size, 1, none⟩ = some (.slice Ab0 nb0 cb0) := (Rows.bcell (T := 25) (d := 3) (b := w.heap.size) (cs := [.slice Aa0 na0 ca0, .slice Ab0 nb0 cb0, .int .i64 q0]) (q := 1) (HR.out.right) (List.mem_singleton.2 rfl) rfl).1
  have da02 : w2.cell? ⟨w.heap.size, 2, none⟩ = some (.int .i64 q0) := (Rows.bcell (T := 25) (d := 3) (b := w.heap.size) (cs := [.slice Aa0 na0 ca0, .slice Ab0 nb0 cb0, .int .i64 q0]) (q := 2) (HR.out.right) (List.mem_singleton.2 rfl) rfl).1
  have ta0 : w.heap.size < w2.heap.size := (Rows.bcell (T := 25) (d := 3) (b := w.heap.size) (cs := [.slice Aa0 na0 ca0, .slice Ab0 nb0 cb0, .int .i64 q0]) (q := 0) (HR.out.right) (List.mem_singleton.2 rfl) rfl).2
  go_wp2_with fail
  refine (cS.out _ _ _ (Ss0.out.at_ (HR.out.left) D0.out) (Nat.le_refl _)).mono ?_
  rintro e w3 ⟨v, rs, rfl, hs, hr, hb⟩
  have SW := hid hs
  obtain ⟨fW1, fW2, fW3, fW4, fW5, fW6, rfl⟩ := (hs.at_ hr DX.out).form
  clear hs
  replace HR := hid (HR.out.newer hb hr HB.out.size)
  replace HB := hid (HB.out.trans (hb.mono HB.out.size))
  clear hb hr
  clear da00 da01 da02 ta0
  have da00 : w3.cell? ⟨w.heap.size, 0, none⟩ = some (.slice Aa0 na0 ca0) := (Rows.bcell (T := 25) (d := 3) (b := w.heap.size) (cs := [.slice Aa0 na0 ca0, .slice Ab0 nb0 cb0, .int .i64 q0]) (q := 0) (HR.out.right.right) (List.mem_singleton.2 rfl) rfl).1
  have da01 : w3.cell? ⟨w.heap.size, 1, none⟩ = some (.slice Ab0 nb0 cb0) := (Rows.bcell (T := 25) (d := 3) (b := w.heap.size) (cs := [.slice Aa0 na0 ca0, .slice Ab0 nb0 cb0, .int .i64 q0]) (q := 1) (HR.out.right.right) (List.mem_singleton.2 rfl) rfl).1
  have da02 : w3.cell? ⟨w.heap.size, 2, none⟩ = some (.int .i64 q0) := (Rows.bcell (T := 25) (d := 3) (b := w.heap.size) (cs := [.slice Aa0 na0 ca0, .slice Ab0 nb0 cb0, .int .i64 q0]) (q := 2) (HR.out.right.right) (List.mem_singleton.2 rfl) rfl).1
  have ta0 : w.heap.size < w3.heap.size := (Rows.bcell (T := 25) (d := 3) (b := w.heap.size) (cs := [.slice Aa0 na0 ca0, .slice Ab0 nb0 cb0, .int .i64 q0]) (q := 0) (HR.out.right.right) (List.mem_singleton.2 rfl) rfl).2
  have hb : Below w3.heap.size w3 (w3.alloc (.cells #[.slice fW1 fW2 fW3, .slice fW4 fW5 fW6, .int .i64 XQ] 32)) := (Below.refl _ _).alloc (Nat.le_refl _) _
  have hr := Rows.box w3 #[.slice fW1 fW2 fW3, .slice fW4 fW5 fW6, .int .i64 XQ] 32 3 rfl
  replace HR := hid (HR.out.newer hb hr HB.out.size)
  replace HB := hid (HB.out.trans (hb.mono HB.out.size))
  clear hb hr
  clear da00 da01 da02 ta0
  have dbW0 : (w3.alloc (.cells #[.slice fW1 fW2 fW3, .slice fW4 fW5 fW6, .int .i64 XQ] 32)).cell? ⟨w3.heap.size, 0, none⟩ = some (.slice fW1 fW2 fW3) := (Rows.bcell (T := 32) (d := 3) (b := w3.heap.size) (cs := [.slice fW1 fW2 fW3, .slice fW4 fW5 fW6, .int .i64 XQ]) (q := 0) (HR.out.left) (List.mem_singleton.2 rfl) rfl).1
  have dbW1 : (w3.alloc (.cells #[.slice fW1 fW2 fW3, .slice fW4 fW5 fW6, .int .i64 XQ] 32)).cell? ⟨w3.heap.size, 1, none⟩ = some (.slice fW4 fW5 fW6) := (Rows.bcell (T := 32) (d := 3) (b := w3.heap.size) (cs := [.slice fW1 fW2 fW3, .slice fW4 fW5 fW6, .int .i64 XQ]) (q := 1) (HR.out.left) (List.mem_singleton.2 rfl) rfl).1
  have dbW2 : (w3.alloc (.cells #[.slice fW1 fW2 fW3, .slice fW4 fW5 fW6, .int .i64 XQ] 32)).cell? ⟨w3.heap.size, 2, none⟩ = some (.int .i64 XQ) := (Rows.bcell (T := 32) (d := 3) (b := w3.heap.size) (cs := [.slice fW1 fW2 fW3, .slice fW4 fW5 fW6, .int .i64 XQ]) (q := 2) (HR.out.left) (List.mem_singleton.2 rfl) rfl).1
  have tbW : w3.heap.size < (w3.alloc (.cells #[.slice fW1 fW2 fW3, .slice fW4 fW5 fW6, .int .i64 XQ] 32)).heap.size := (Rows.bcell (T := 32) (d := 3) (b := w3.heap.size) (cs := [.slice fW1 fW2 fW3, .slice fW4 fW5 fW6, .int .i64 XQ]) (q := 0) (HR.out.left) (List.mem_singleton.2 rfl) rfl).2
  have da00 : (w3.alloc (.cells #[.slice fW1 fW2 fW3, .slice fW4 fW5 fW6, .int .i64 XQ] 32)).cell? ⟨w.heap.size, 0, none⟩ = some (.slice Aa0 na0 ca0) := (Rows.bcell (T := 25) (d := 3) (b := w.heap.size) (cs := [.slice Aa0 na0 ca0, .slice Ab0 nb0 cb0, .int .i64 q0]) (q := 0) (HR.out.right.right.right) (List.mem_singleton.2 rfl) rfl).1
  have da01 : (w3.alloc (.cells #[.slice fW1 fW2 fW3, .slice fW4 fW5 fW6, .int .i64 XQ] 32)).cell? ⟨w.heap.size, 1, none⟩ = some (.slice Ab0 nb0 cb0) := (Rows.bcell (T := 25) (d := 3) (b := w.heap.size) (cs := [.slice Aa0 na0 ca0, .slice Ab0 nb0 cb0, .int .i64 q0]) (q := 1) (HR.out.right.right.right) (List.mem_singleton.2 rfl) rfl).1
  have da02 : (w3.alloc (.cells #[.slice fW1 fW2 fW3, .slice fW4 fW5 fW6, .int .i64 XQ] 32)).cell? ⟨w.heap.size, 2, none⟩ = some (.int .i64 q0) := (Rows.bcell (T := 25) (d := 3) (b := w.heap.size) (cs := [.slice Aa0 na0 ca0, .slice Ab0 nb0 cb0, .int .i64 q0]) (q := 2) (HR.out.right.right.right) (List.mem_singleton.2 rfl) rfl).1
  have ta0 : w.heap.size < (w3.alloc (.cells #[.slice fW1 fW2 fW3, .slice fW4 fW5 fW6, .int .i64 XQ] 32)).heap.size := (Rows.bcell (T := 25) (d := 3) (b := w.heap.size) (cs := [.slice Aa0 na0 ca0, .slice Ab0 nb0 cb0, .int .i64 q0]) (q := 0) (HR.out.right.right.right) (List.mem_singleton.2 rfl) rfl).2
  replace HR := hid (HR.out.sub ((List.Sublist.refl _).append ((List.Sublist.refl _).append (List.sublist_append_right _ _))))
  clear Ss0
  go_wp2_with fail
  refine (toTreeX_c Aa0 na0 ca0 Ab0 nb0 cb0 w.heap.size q0 la0 lb0 _ (T0.out.below HB.out (Nat.le_refl _)) F0.out HB.out.size).mono ?_
  rintro e w4 ⟨v, rs, rfl, hs, hr, hb⟩
  have Sx0 := hid hs
  obtain ⟨fx01, fx02, fx03, fx04, fx05, fx06, rfl⟩ := (hs.at_ hr D0.out).form
  clear hs
  replace HR := hid (HR.out.newer hb hr HB.out.size)
  replace HB := hid (HB.out.trans (hb.mono HB.out.size))
  clear hb hr
  clear dbW0 dbW1 dbW2 tbW da00 da01 da02 ta0
  have dbW0 : w4.cell? ⟨w3.heap.size, 0, none⟩ = some (.slice fW1 fW2 fW3) := (Rows.bcell (T := 32) (d := 3) (b := w3.heap.size) (cs := [.slice fW1 fW2 fW3, .slice fW4 fW5 fW6, .int .i64 XQ]) (q := 0) (HR.out.right.left) (List.mem_singleton.2 rfl) rfl).1
  have dbW1 : w4.cell? ⟨w3.heap.size, 1, none⟩ = some (.slice fW4 fW5 fW6) := (Rows.bcell (T := 32) (d := 3) (b := w3.heap.size) (cs := [.slice fW1 fW2 fW3, .slice fW4 fW5 fW6, .int .i64 XQ]) (q := 1) (HR.out.right.left) (List.mem_singleton.2 rfl) rfl).1
  have dbW2 : w4.cell? ⟨w3.heap.size, 2, none⟩ = some (.int .i64 XQ) := (Rows.bcell (T := 32) (d := 3) (b := w3.heap.size) (cs := [.slice fW1 fW2 fW3, .slice fW4 fW5 fW6, .int .i64 XQ]) (q := 2) (HR.out.right.left) (List.mem_singleton.2 rfl) rfl).1
  have tbW : w3.heap.size < w4.heap.size := (Rows.bcell (T := 32) (d := 3) (b := w3.heap.size) (cs := [.slice fW1 fW2 fW3, .slice fW4 fW5 fW6, .int .i64 XQ]) (q := 0) (HR.out.right.left) (List.mem_singleton.2 rfl) rfl).2
  have da00 : w4.cell? ⟨w.heap.size, 0, none⟩ = some (.slice Aa0 na0 ca0) := (Rows.bcell (T := 25) (d := 3) (b := w.heap.size) (cs := [.slice Aa0 na0 ca0, .slice Ab0 nb0 cb0, .int .i64 q0]) (q := 0) (HR.out.right.right.right) (List.mem_singleton.2 rfl) rfl).1
  have da01 : w4.cell? ⟨w.heap.size, 1, none⟩ = some (.slice Ab0 nb0 cb0) := (Rows.bcell (T := 25) (d := 3) (b := w.heap.size) (cs := [.slice Aa0 na0 ca0, .slice Ab0 nb0 cb0, .int .i64 q0]) (q := 1) (HR.out.right.right.right) (List.mem_singleton.2 rfl) rfl).1
  have da02 : w4.cell? ⟨w.heap.size, 2, none⟩ = some (.int .i64 q0) := (Rows.bcell (T := 25) (d := 3) (b := w.heap.size) (cs := [.slice Aa0 na0 ca0, .slice Ab0 nb0 cb0, .int .i64 q0]) (q := 2) (HR.out.right.right.right) (List.mem_singleton.2 rfl) rfl).1
  have ta0 : w.heap.size < w4.heap.size := (Rows.bcell (T := 25) (d := 3) (b := w.heap.size) (cs := [.slice Aa0 na0 ca0, .slice Ab0 nb0 cb0, .int .i64 q0]) (q := 0) (HR.out.right.right.right) (List.mem_singleton.2 rfl) rfl).2
  have hb : Below w4.heap.size w4 (w4.alloc (.cells #[.slice fx01 fx02 fx03, .slice fx04 fx05 fx06, .int .i64 q0] 32)) := (Below.refl _ _).alloc (Nat.le_refl _) _
  have hr := Rows.box w4 #[.slice fx01 fx02 fx03, .slice fx04 fx05 fx06, .int .i64 q0] 32 3 rfl
  replace HR := hid (HR.out.newer hb hr HB.out.size)
  replace HB := hid (HB.out.trans (hb.mono HB.out.size))
  clear hb hr
  clear dbW0 dbW1 dbW2 tbW da00 da01 da02 ta0
  have dbx00 : (w4.alloc (.cells #[.slice fx01 fx02 fx03, .slice fx04 fx05 fx06, .int .i64 q0] 32)).cell? ⟨w4.heap.size, 0, none⟩ = some (.slice fx01 fx02 fx03) := (Rows.bcell (T := 32) (d := 3) (b := w4.heap.size) (cs := [.slice fx01 fx02 fx03, .slice fx04 fx05 fx06, .int .i64 q0]) (q := 0) (HR.out.left) (List.mem_singleton.2 rfl) rfl).1
  have dbx01 : (w4.alloc (.cells #[.slice fx01 fx02 fx03, .slice fx04 fx05 fx06, .int .i64 q0] 32)).cell? ⟨w4.heap.size, 1, none⟩ = some (.slice fx04 fx05 fx06) := (Rows.bcell (T := 32) (d := 3) (b := w4.heap.size) (cs := [.slice fx01 fx02 fx03, .slice fx04 fx05 fx06, .int .i64 q0]) (q := 1) (HR.out.left) (List.mem_singleton.2 rfl) rfl).1
  have dbx02 : (w4.alloc (.cells #[.slice fx01 fx02 fx03, .slice fx04 fx05 fx06, .int .i64 q0] 32)).cell? ⟨w4.heap.size, 2, none⟩ = some (.int .i64 q0) := (Rows.bcell (T := 32) (d := 3) (b := w4.heap.size) (cs := [.slice fx01 fx02 fx03, .slice fx04 fx05 fx06, .int .i64 q0]) (q := 2) (HR.out.left) (List.mem_singleton.2 rfl) rfl).1
  have tbx0 : w4.heap.size < (w4.alloc (.cells #[.slice fx01 fx02 fx03, .slice fx04 fx05 fx06, .int .i64 q0] 32)).heap.size := (Rows.bcell (T := 32) (d := 3) (b := w4.heap.size) (cs := [.slice fx01 fx02 fx03, .slice fx04 fx05 fx06, .int .i64 q0]) (q := 0) (HR.out.left) (List.mem_singleton.2 rfl) rfl).2
  have dbW0 : (w4.alloc (.cells #[.slice fx01 fx02 fx03, .slice fx04 fx05 fx06, .int .i64 q0] 32)).cell? ⟨w3.heap.size, 0, none⟩ = some (.slice fW1 fW2 fW3) := (Rows.bcell (T := 32) (d := 3) (b := w3.heap.size) (cs := [.slice fW1 fW2 fW3, .slice fW4 fW5 fW6, .int .i64 XQ]) (q := 0) (HR.out.right.right.left) (List.mem_singleton.2 rfl) rfl).1
  have dbW1 : (w4.alloc (.cells #[.slice fx01 fx02 fx03, .slice fx04 fx05 fx06, .int .i64 q0] 32)).cell? ⟨w3.heap.size, 1, none⟩ = some (.slice fW4 fW5 fW6) := (Rows.bcell (T := 32) (d := 3) (b := w3.heap.size) (cs := [.slice fW1 fW2 fW3, .slice fW4 fW5 fW6, .int .i64 XQ]) (q := 1) (HR.out.right.right.left) (List.mem_singleton.2 rfl) rfl).1
  have dbW2 : (w4.alloc (.cells #[.slice fx01 fx02 fx03, .slice fx04 fx05 fx06, .int .i64 q0] 32)).cell? ⟨w3.heap.size, 2, none⟩ = some (.int .i64 XQ) := (Rows.bcell (T := 32) (d := 3) (b := w3.heap.size) (cs := [.slice fW1 fW2 fW3, .slice fW4 fW5 fW6, .int .i64 XQ]) (q := 2) (HR.out.right.right.left) (List.mem_singleton.2 rfl) rfl).1
  have tbW : w3.heap.size < (w4.alloc (.cells #[.slice fx01 fx02 fx03, .slice fx04 fx05 fx06, .int .i64 q0] 32)).heap.size := (Rows.bcell (T := 32) (d := 3) (b := w3.heap.size) (cs := [.slice fW1 fW2 fW3, .slice fW4 fW5 fW6, .int .i64 XQ]) (q := 0) (HR.out.right.right.left) (List.mem_singleton.2 rfl) rfl).2
  have da00 : (w4.alloc (.cells #[.slice fx01 fx02 fx03, .slice fx04 fx05 fx06, .int .i64 q0] 32)).cell? ⟨w.heap.size, 0, none⟩ = some (.slice Aa0 na0 ca0) := (Rows.bcell (T := 25) (d := 3) (b := w.heap.size) (cs := [.slice Aa0 na0 ca0, .slice Ab0 nb0 cb0, .int .i64 q0]) (q := 0) (HR.out.right.right.right.right) (List.mem_singleton.2 rfl) rfl).1
  have da01 : (w4.alloc (.cells #[.slice fx01 fx02 fx03, .slice fx04 fx05 fx06, .int .i64 q0] 32)).cell? ⟨w.heap.size, 1, none⟩ = some (.slice Ab0 nb0 cb0) := (Rows.bcell (T := 25) (d := 3) (b := w.heap.size) (cs := [.slice Aa0 na0 ca0, .slice Ab0 nb0 cb0, .int .i64 q0]) (q := 1) (HR.out.right.right.right.right) (List.mem_singleton.2 rfl) rfl).1
  have da02 : (w4.alloc (.cells #[.slice fx01 fx02 fx03, .slice fx04 fx05 fx06, .int .i64 q0] 32)).cell? ⟨w.heap.size, 2, none⟩ = some (.int .i64 q0) := (Rows.bcell (T := 25) (d := 3) (b := w.heap.size) (cs := [.slice Aa0 na0 ca0, .slice Ab0 nb0 cb0, .int .i64 q0]) (q := 2) (HR.out.right.right.right.right) (List.mem_singleton.2 rfl) rfl).1
  have ta0 : w.heap.size < (w4.alloc (.cells #[.slice fx01 fx02 fx03, .slice fx04 fx05 fx06, .int .i64 q0] 32)).heap.size := (Rows.bcell (T := 25) (d := 3) (b := w.heap.size) (cs := [.slice Aa0 na0 ca0, .slice Ab0 nb0 cb0, .int .i64 q0]) (q := 0) (HR.out.right.right.right.right) (List.mem_singleton.2 rfl) rfl).2
  go_wp2_with fail
  refine (cI.out _ _ _ (Sx0.out.at_ (HR.out.right.left) D0.out) (Nat.le_refl _)).mono ?_
  rintro e w5 ⟨v, rs, rfl, hs, hr, hb⟩
  have SG := hid hs
  obtain ⟨fG1, fG2, fG3, fG4, fG5, fG6, rfl⟩ := (hs.at_ hr DX.out).form
  clear hs
  replace HR := hid (HR.out.newer hb hr HB.out.size)
  replace HB := hid (HB.out.trans (hb.mono HB.out.size))
  clear hb hr
  clear dbx00 dbx01 dbx02 tbx0 dbW0 dbW1 dbW2 tbW da00 da01 da02 ta0
  have dbx00 : w5.cell? ⟨w4.heap.size, 0, none⟩ = some (.slice fx01 fx02 fx03) := (Rows.bcell (T := 32) (d := 3) (b := w4.heap.size) (cs := [.slice fx01 fx02 fx03, .slice fx04 fx05 fx06, .int .i64 q0]) (q := 0) (HR.out.right.left) (List.mem_singleton.2 rfl) rfl).1
  have dbx01 : w5.cell? ⟨w4.heap.size, 1, none⟩ = some (.slice fx04 fx05 fx06) := (Rows.bcell (T := 32) (d := 3) (b := w4.heap.size) (cs := [.slice fx01 fx02 fx03, .slice fx04 fx05 fx06, .int .i64 q0]) (q := 1) (HR.out.right.left) (List.mem_singleton.2 rfl) rfl).1
  have dbx02 : w5.cell? ⟨w4.heap.size, 2, none⟩ = some (.int .i64 q0) := (Rows.bcell (T := 32) (d := 3) (b := w4.heap.size) (cs := [.slice fx01 fx02 fx03, .slice fx04 fx05 fx06, .int .i64 q0]) (q := 2) (HR.out.right.left) (List.mem_singleton.2 rfl) rfl).1
  have tbx0 : w4.heap.size < w5.heap.size := (Rows.bcell (T := 32) (d := 3) (b := w4.heap.size) (cs := [.slice fx01 fx02 fx03, .slice fx04 fx05 fx06, .int .i64 q0]) (q := 0) (HR.out.right.left) (List.mem_singleton.2 rfl) rfl).2
  have dbW0 : w5.cell? ⟨w3.heap.size, 0, none⟩ = some (.slice fW1 fW2 fW3) := (Rows.bcell (T := 32) (d := 3) (b := w3.heap.size) (cs := [.slice fW1 fW2 fW3, .slice fW4 fW5 fW6, .int .i64 XQ]) (q := 0) (HR.out.right.right.right.left) (List.mem_singleton.2 rfl) rfl).1
  have dbW1 : w5.cell? ⟨w3.heap.size, 1, none⟩ = some (.slice fW4 fW5 fW6) := (Rows.bcell (T := 32) (d := 3) (b := w3.heap.size) (cs := [.slice fW1 fW2 fW3, .slice fW4 fW5 fW6, .int .i64 XQ]) (q := 1) (HR.out.right.right.right.left) (List.mem_singleton.2 rfl) rfl).1
  have dbW2 : w5.cell? ⟨w3.heap.size, 2, none⟩ = some (.int .i64 XQ) := (Rows.bcell (T := 32) (d := 3) (b := w3.heap.size) (cs := [.slice fW1 fW2 fW3, .slice fW4 fW5 fW6, .int .i64 XQ]) (q := 2) (HR.out.right.right.right.left) (List.mem_singleton.2 rfl) rfl).1
  have tbW : w3.heap.size < w5.heap.size := (Rows.bcell (T := 32) (d := 3) (b := w3.heap.size) (cs := [.slice fW1 fW2 fW3, .slice fW4 fW5 fW6, .int .i64 XQ]) (q := 0) (HR.out.right.right.right.left) (List.mem_singleton.2 rfl) rfl).2
  have da00 : w5.cell? ⟨w.heap.size, 0, none⟩ = some (.slice Aa0 na0 ca0) := (Rows.bcell (T := 25) (d := 3) (b := w.heap.size) (cs := [.slice Aa0 na0 ca0, .slice Ab0 nb0 cb0, .int .i64 q0]) (q := 0) (HR.out.right.right.right.right.right) (List.mem_singleton.2 rfl) rfl).1
  have da01 : w5.cell? ⟨w.heap.size, 1, none⟩ = some (.slice Ab0 nb0 cb0) := (Rows.bcell (T := 25) (d := 3) (b := w.heap.size) (cs := [.slice Aa0 na0 ca0, .slice Ab0 nb0 cb0, .int .i64 q0]) (q := 1) (HR.out.right.right.right.right.right) (List.mem_singleton.2 rfl) rfl).1
  have da02 : w5.cell? ⟨w.heap.size, 2, none⟩ = some (.int .i64 q0) := (Rows.bcell (T := 25) (d := 3) (b := w.heap.size) (cs := [.slice Aa0 na0 ca0, .slice Ab0 nb0 cb0, .int .i64 q0]) (q := 2) (HR.out.right.right.right.right.right) (List.mem_singleton.2 rfl) rfl).1
  have ta0 : w.heap.size < w5.heap.size := (Rows.bcell (T := 25) (d := 3) (b := w.heap.size) (cs := [.slice Aa0 na0 ca0, .slice Ab0 nb0 cb0, .int .i64 q0]) (q := 0) (HR.out.right.right.right.right.right) (List.mem_singleton.2 rfl) rfl).2
  have hb : Below w5.heap.size w5 (w5.alloc (.cells #[.slice fG1 fG2 fG3, .slice fG4 fG5 fG6, .int .i64 XQ] 32)) := (Below.refl _ _).alloc (Nat.le_refl _) _
  have hr := Rows.box w5 #[.slice fG1 fG2 fG3, .slice fG4 fG5 fG6, .int .i64 XQ] 32 3 rfl
  replace HR := hid (HR.out.newer hb hr HB.out.size)
  replace HB := hid (HB.out.trans (hb.mono HB.out.size))
  clear hb hr
  clear dbx00 dbx01 dbx02 tbx0 dbW0 dbW1 dbW2 tbW da00 da01 da02 ta0
  have dbG0 : (w5.alloc (.cells #[.slice fG1 fG2 fG3, .slice fG4 fG5 fG6, .int .i64 XQ] 32)).cell? ⟨w5.heap.size, 0, none⟩ = some (.slice fG1 fG2 fG3) := (Rows.bcell (T := 32) (d := 3) (b := w5.heap.size) (cs := [.slice fG1 fG2 fG3, .slice fG4 fG5 fG6, .int .i64 XQ]) (q := 0) (HR.out.left) (List.mem_singleton.2 rfl) rfl).1
  have dbG1 : (w5.alloc (.cells #[.slice fG1 fG2 fG3, .slice fG4 fG5 fG6, .int .i64 XQ] 32)).cell? ⟨w5.heap.size, 1, none⟩ = some (.slice fG4 fG5 fG6) := (Rows.bcell (T := 32) (d := 3) (b := w5.heap.size) (cs := [.slice fG1 fG2 fG3, .slice fG4 fG5 fG6, .int .i64 XQ]) (q := 1) (HR.out.left) (List.mem_singleton.2 rfl) rfl).1
  have dbG2 : (w5.alloc (.cells #[.slice fG1 fG2 fG3, .slice fG4 fG5 fG6, .int .i64 XQ] 32)).cell? ⟨w5.heap.size, 2, none⟩ = some (.int .i64 XQ) := (Rows.bcell (T := 32) (d := 3) (b := w5.heap.size) (cs := [.slice fG1 fG2 fG3, .slice fG4 fG5 fG6, .int .i64 XQ]) (q := 2) (HR.out.left) (List.mem_singleton.2 rfl) rfl).1
  have tbG : w5.heap.size < (w5.alloc (.cells #[.slice fG1 fG2 fG3, .slice fG4 fG5 fG6, .int .i64 XQ] 32)).heap.size := (Rows.bcell (T := 32) (d := 3) (b := w5.heap.size) (cs := [.slice fG1 fG2 fG3, .slice fG4 fG5 fG6, .int .i64 XQ]) (q := 0) (HR.out.left) (List.mem_singleton.2 rfl) rfl).2
  have dbx00 : (w5.alloc (.cells #[.slice fG1 fG2 fG3, .slice fG4 fG5 fG6, .int .i64 XQ] 32)).cell? ⟨w4.heap.size, 0, none⟩ = some (.slice fx01 fx02 fx03) := (Rows.bcell (T := 32) (d := 3) (b := w4.heap.size) (cs := [.slice fx01 fx02 fx03, .slice fx04 fx05 fx06, .int .i64 q0]) (q := 0) (HR.out.right.right.left) (List.mem_singleton.2 rfl) rfl).1
  have dbx01 : (w5.alloc (.cells #[.slice fG1 fG2 fG3, .slice fG4 fG5 fG6, .int .i64 XQ] 32)).cell? ⟨w4.heap.size, 1, none⟩ = some (.slice fx04 fx05 fx06) := (Rows.bcell (T := 32) (d := 3) (b := w4.heap.size) (cs := [.slice fx01 fx02 fx03, .slice fx04 fx05 fx06, .int .i64 q0]) (q := 1) (HR.out.right.right.left) (List.mem_singleton.2 rfl) rfl).1
  have dbx02 : (w5.alloc (.cells #[.slice fG1 fG2 fG3, .slice fG4 fG5 fG6, .int .i64 XQ] 32)).cell? ⟨w4.heap.size, 2, none⟩ = some (.int .i64 q0) := (Rows.bcell (T := 32) (d := 3) (b := w4.heap.size) (cs := [.slice fx01 fx02 fx03, .slice fx04 fx05 fx06, .int .i64 q0]) (q := 2) (HR.out.right.right.left) (List.mem_singleton.2 rfl) rfl).1
  have tbx0 : w4.heap.size < (w5.alloc (.cells #[.slice fG1 fG2 fG3, .slice fG4 fG5 fG6, .int .i64 XQ] 32)).heap.size := (Rows.bcell (T := 32) (d := 3) (b := w4.heap.size) (cs := [.slice fx01 fx02 fx03, .slice fx04 fx05 fx06, .int .i64 q0]) (q := 0) (HR.out.right.right.left) (List.mem_singleton.2 rfl) rfl).2
  have dbW0 : (w5.alloc (.cells #[.slice fG1 fG2 fG3, .slice fG4 fG5 fG6, .int .i64 XQ] 32)).cell? ⟨w3.heap.size, 0, none⟩ = some (.slice fW1 fW2 fW3) := (Rows.bcell (T := 32) (d := 3) (b := w3.heap.size) (cs := [.slice fW1 fW2 fW3, .slice fW4 fW5 fW6, .int .i64 XQ]) (q := 0) (HR.out.right.right.right.right.left) (List.mem_singleton.2 rfl) rfl).1
  have dbW1 : (w5.alloc (.cells #[.slice fG1 fG2 fG3, .slice fG4 fG5 fG6, .int .i64 XQ] 32)).cell? ⟨w3.heap.size, 1, none⟩ = some (.slice fW4 fW5 fW6) := (Rows.bcell (T := 32) (d := 3) (b := w3.heap.size) (cs := [.slice fW1 fW2 fW3, .slice fW4 fW5 fW6, .int .i64 XQ]) (q := 1) (HR.out.right.right.right.right.left) (List.mem_singleton.2 rfl) rfl).1
  have dbW2 : (w5.alloc (.cells #[.slice fG1 fG2 fG3, .slice fG4 fG5 fG6, .int .i64 XQ] 32)).cell? ⟨w3.heap.size, 2, none⟩ = some (.int .i64 XQ) := (Rows.bcell (T := 32) (d := 3) (b := w3.heap.size) (cs := [.slice fW1 fW2 fW3, .slice fW4 fW5 fW6, .int .i64 XQ]) (q := 2) (HR.out.right.right.right.right.left) (List.mem_singleton.2 rfl) rfl).1
  have tbW : w3.heap.size < (w5.alloc (.cells #[.slice fG1 fG2 fG3, .slice fG4 fG5 fG6, .int .i64 XQ] 32)).heap.size := (Rows.bcell (T := 32) (d := 3) (b := w3.heap.size) (cs := [.slice fW1 fW2 fW3, .slice fW4 fW5 fW6, .int .i64 XQ]) (q := 0) (HR.out.right.right.right.right.left) (List.mem_singleton.2 rfl) rfl).2
  have da00 : (w5.alloc (.cells #[.slice fG1 fG2 fG3, .slice fG4 fG5 fG6, .int .i64 XQ] 32)).cell? ⟨w.heap.size, 0, none⟩ = some (.slice Aa0 na0 ca0) := (Rows.bcell (T := 25) (d := 3) (b := w.heap.size) (cs := [.slice Aa0 na0 ca0, .slice Ab0 nb0 cb0, .int .i64 q0]) (q := 0) (HR.out.right.right.right.right.right.right) (List.mem_singleton.2 rfl) rfl).1
  have da01 : (w5.alloc (.cells #[.slice fG1 fG2 fG3, .slice fG4 fG5 fG6, .int .i64 XQ] 32)).cell? ⟨w.heap.size, 1, none⟩ = some (.slice Ab0 nb0 cb0) := (Rows.bcell (T := 25) (d := 3) (b := w.heap.size) (cs := [.slice Aa0 na0 ca0, .slice Ab0 nb0 cb0, .int .i64 q0]) (q := 1) (HR.out.right.right.right.right.right.right) (List.mem_singleton.2 rfl) rfl).1
  have da02 : (w5.alloc (.cells #[.slice fG1 fG2 fG3, .slice fG4 fG5 fG6, .int .i64 XQ] 32)).cell? ⟨w.heap.size, 2, none⟩ = some (.int .i64 q0) := (Rows.bcell (T := 25) (d := 3) (b := w.heap.size) (cs := [.slice Aa0 na0 ca0, .slice Ab0 nb0 cb0, .int .i64 q0]) (q := 2) (HR.out.right.right.right.right.right.right) (List.mem_singleton.2 rfl) rfl).1
  have ta0 : w.heap.size < (w5.alloc (.cells #[.slice fG1 fG2 fG3, .slice fG4 fG5 fG6, .int .i64 XQ] 32)).heap.size := (Rows.bcell (T := 25) (d := 3) (b := w.heap.size) (cs := [.slice Aa0 na0 ca0, .slice Ab0 nb0 cb0, .int .i64 q0]) (q := 0) (HR.out.right.right.right.right.right.right) (List.mem_singleton.2 rfl) rfl).2
  go_wp2_with fail
  refine (eqTreeX_c SG.out (HR.out.right.left) SW.out (HR.out.right.right.right.right.right.left) DX.out).mono ?_
  rintro e w6 ⟨rfl, hb⟩
  replace HR := hid (HR.out.below hb)
  replace HB := hid (HB.out.trans (hb.mono HB.out.size))
  clear hb
  clear dbG0 dbG1 dbG2 tbG dbx00 dbx01 dbx02 tbx0 dbW0 dbW1 dbW2 tbW da00 da01 da02 ta0
  have dbG0 : w6.cell? ⟨w5.heap.size, 0, none⟩ = some (.slice fG1 fG2 fG3) := (Rows.bcell (T := 32) (d := 3) (b := w5.heap.size) (cs := [.slice fG1 fG2 fG3, .slice fG4 fG5 fG6, .int .i64 XQ]) (q := 0) (HR.out.left) (List.mem_singleton.2 rfl) rfl).1
  have dbG1 : w6.cell? ⟨w5.heap.size, 1, none⟩ = some (.slice fG4 fG5 fG6) := (Rows.bcell (T := 32) (d := 3) (b := w5.heap.size) (cs := [.slice fG1 fG2 fG3, .slice fG4 fG5 fG6, .int .i64 XQ]) (q := 1) (HR.out.left) (List.mem_singleton.2 rfl) rfl).1
  have dbG2 : w6.cell? ⟨w5.heap.size, 2, none⟩ = some (.int .i64 XQ) := (Rows.bcell (T := 32) (d := 3) (b := w5.heap.size) (cs := [.slice fG1 fG2 fG3, .slice fG4 fG5 fG6, .int .i64 XQ]) (q := 2) (HR.out.left) (List.mem_singleton.2 rfl) rfl).1
  have tbG : w5.heap.size < w6.heap.size := (Rows.bcell (T := 32) (d := 3) (b := w5.heap.size) (cs := [.slice fG1 fG2 fG3, .slice fG4 fG5 fG6, .int .i64 XQ]) (q := 0) (HR.out.left) (List.mem_singleton.2 rfl) rfl).2
  have dbx00 : w6.cell? ⟨w4.heap.size, 0, none⟩ = some (.slice fx01 fx02 fx03) := (Rows.bcell (T := 32) (d := 3) (b := w4.heap.size) (cs := [.slice fx01 fx02 fx03, .slice fx04 fx05 fx06, .int .i64 q0]) (q := 0) (HR.out.right.right.left) (List.mem_singleton.2 rfl) rfl).1
  have dbx01 : w6.cell? ⟨w4.heap.size, 1, none⟩ = some (.slice fx04 fx05 fx06) := (Rows.bcell (T := 32) (d := 3) (b := w4.heap.size) (cs := [.slice fx01 fx02 fx03, .slice fx04 fx05 fx06, .int .i64 q0]) (q := 1) (HR.out.right.right.left) (List.mem_singleton.2 rfl) rfl).1
  have dbx02 : w6.cell? ⟨w4.heap.size, 2, none⟩ = some (.int .i64 q0) := (Rows.bcell (T := 32) (d := 3) (b := w4.heap.size) (cs := [.slice fx01 fx02 fx03, .slice fx04 fx05 fx06, .int .i64 q0]) (q := 2) (HR.out.right.right.left) (List.mem_singleton.2 rfl) rfl).1
  have tbx0 : w4.heap.size < w6.heap.size := (Rows.bcell (T := 32) (d := 3) (b := w4.heap.size) (cs := [.slice fx01 fx02 fx03, .slice fx04 fx05 fx06, .int .i64 q0]) (q := 0) (HR.out.right.right.left) (List.mem_singleton.2 rfl) rfl).2
  have dbW0 : w6.cell? ⟨w3.heap.size, 0, none⟩ = some (.slice fW1 fW2 fW3) := (Rows.bcell (T := 32) (d := 3) (b := w3.heap.size) (cs := [.slice fW1 fW2 fW3, .slice fW4 fW5 fW6, .int .i64 XQ]) (q := 0) (HR.out.right.right.right.right.left) (List.mem_singleton.2 rfl) rfl).1
  have dbW1 : w6.cell? ⟨w3.heap.size, 1, none⟩ = some (.slice fW4 fW5 fW6) := (Rows.bcell (T := 32) (d := 3) (b := w3.heap.size) (cs := [.slice fW1 fW2 fW3, .slice fW4 fW5 fW6, .int .i64 XQ]) (q := 1) (HR.out.right.right.right.right.left) (List.mem_singleton.2 rfl) rfl).1
  have dbW2 : w6.cell? ⟨w3.heap.size, 2, none⟩ = some (.int .i64 XQ) := (Rows.bcell (T := 32) (d := 3) (b := w3.heap.size) (cs := [.slice fW1 fW2 fW3, .slice fW4 fW5 fW6, .int .i64 XQ]) (q := 2) (HR.out.right.right.right.right.left) (List.mem_singleton.2 rfl) rfl).1
  have tbW : w3.heap.size < w6.heap.size := (Rows.bcell (T := 32) (d := 3) (b := w3.heap.size) (cs := [.slice fW1 fW2 fW3, .slice fW4 fW5 fW6, .int .i64 XQ]) (q := 0) (HR.out.right.right.right.right.left) (List.mem_singleton.2 rfl) rfl).2
  have da00 : w6.cell? ⟨w.heap.size, 0, none⟩ = some (.slice Aa0 na0 ca0) := (Rows.bcell (T := 25) (d := 3) (b := w.heap.size) (cs := [.slice Aa0 na0 ca0, .slice Ab0 nb0 cb0, .int .i64 q0]) (q := 0) (HR.out.right.right.right.right.right.right) (List.mem_singleton.2 rfl) rfl).1
  have da01 : w6.cell? ⟨w.heap.size, 1, none⟩ = some (.slice Ab0 nb0 cb0) := (Rows.bcell (T := 25) (d := 3) (b := w.heap.size) (cs := [.slice Aa0 na0 ca0, .slice Ab0 nb0 cb0, .int .i64 q0]) (q := 1) (HR.out.right.right.right.right.right.right) (List.mem_singleton.2 rfl) rfl).1
  have da02 : w6.cell? ⟨w.heap.size, 2, none⟩ = some (.int .i64 q0) := (Rows.bcell (T := 25) (d := 3) (b := w.heap.size) (cs := [.slice Aa0 na0 ca0, .slice Ab0 nb0 cb0, .int .i64 q0]) (q := 2) (HR.out.right.right.right.right.right.right) (List.mem_singleton.2 rfl) rfl).1
  have ta0 : w.heap.size < w6.heap.size := (Rows.bcell (T := 25) (d := 3) (b := w.heap.size) (cs := [.slice Aa0 na0 ca0, .slice Ab0 nb0 cb0, .int .i64 q0]) (q := 0) (HR.out.right.right.right.right.right.right) (List.mem_singleton.2 rfl) rfl).2
  go_wp2_with fail
  refine wp_region_held_drew (S := (fun w' : World => w'.cell? ⟨w4.heap.size, 0, none⟩ = some (.slice fx01 fx02 fx03) ∧ w'.cell? ⟨w4.heap.size, 1, none⟩ = some (.slice fx04 fx05 fx06) ∧ w'.cell? ⟨w4.heap.size, 2, none⟩ = some (.int .i64 q0) ∧ w'.cell? ⟨w.heap.size, 0, none⟩ = some (.slice Aa0 na0 ca0) ∧ w'.cell? ⟨w.heap.size, 1, none⟩ = some (.slice Ab0 nb0 cb0) ∧ w'.cell? ⟨w.heap.size, 2, none⟩ = some (.int .i64 q0))) (by kernel_rfl) ⟨dbx00, dbx01, dbx02, da00, da01, da02⟩ (fun hS => ?_)
  refine wpAnyH_take (i := 0) (oi := ?oi101) (v := ?v101) ?hi101 (by kernel_rfl) ?hf101 ?hr101 ?hQ101 (Or.inl ⟨?hw101, ?hy101⟩) (by assumption) ?rest101
  case hi101 => simp only [List.getElem?_toArray, List.getElem?_cons_succ, List.getElem?_cons_zero]; rfl
  case hf101 => kernel_rfl
  case hr101 => kernel_rfl
  case hw101 => rfl
  case hy101 => (intro w hSw; (try dsimp only at hSw); go_simp; all_goals (first | done | with_reducible rfl))
  case hQ101 => exact fun _ _ _ h => h
  simp only [Act.put, List.setIfInBounds_toArray, List.set_cons_zero, List.set_cons_succ]
  refine wpAnyH_take (i := 1) (oi := ?oi102) (v := ?v102) ?hi102 (by kernel_rfl) ?hf102 ?hr102 ?hQ102 (Or.inl ⟨?hw102, ?hy102⟩) (by assumption) ?rest102
  case hi102 => simp only [List.getElem?_toArray, List.getElem?_cons_succ, List.getElem?_cons_zero]; rfl
  case hf102 => kernel_rfl
  case hr102 => kernel_rfl
  case hw102 => rfl
  case hy102 => (intro w hSw; (try dsimp only at hSw); go_simp; all_goals (first | done | with_reducible rfl))
  case hQ102 => exact fun _ _ _ h => h
  simp only [Act.put, List.setIfInBounds_toArray, List.set_cons_zero, List.set_cons_succ]
  refine wpAnyH_ready (rs := [2]) (by kernel_rfl) (by simp) ?_
  refine AllReadyH.cons (o := ?oi103) ?hi103 (fun K hK => ?step103) AllReadyH.nil
  case hi103 => simp only [List.getElem?_toArray, List.getElem?_cons_succ, List.getElem?_cons_zero]; rfl
  rw [if_pos (by rfl)]
  go_simp
  go_at_call 13
  refine (toTreeX_c Aa0 na0 ca0 Ab0 nb0 cb0 w.heap.size q0 la0 lb0 _ (T0.out.below HB.out.drew (Nat.le_refl _)) F0.out HB.out.drew.size).mono ?_
  rintro e w7 ⟨v, rs, rfl, hs, hr, hb⟩
  refine hK.out _ _ ⟨(hb.cell (p := ⟨w4.heap.size, _, none⟩) tbx0).trans dbx00, (hb.cell (p := ⟨w4.heap.size, _, none⟩) tbx0).trans dbx01, (hb.cell (p := ⟨w4.heap.size, _, none⟩) tbx0).trans dbx02, (hb.cell (p := ⟨w.heap.size, _, none⟩) ta0).trans da00, (hb.cell (p := ⟨w.heap.size, _, none⟩) ta0).trans da01, (hb.cell (p := ⟨w.heap.size, _, none⟩) ta0).trans da02⟩ (fun hS9 => ?_)
  have HR2 := hid ((HR.out.below ((Below.refl _ _).drew)).newer hb hr HB.out.drew.size)
  replace tbx0 := Nat.lt_of_lt_of_le tbx0 hb.size
  replace ta0 := Nat.lt_of_lt_of_le ta0 hb.size
  refine wpAnyH_ready (rs := [3]) (by kernel_rfl) (by simp) ?_
  refine AllReadyH.cons (o := ?oi104) ?hi104 (fun K hK => ?step104) AllReadyH.nil
  case hi104 => simp only [List.getElem?_toArray, List.getElem?_cons_succ, List.getElem?_cons_zero]; rfl
  rw [if_pos (by rfl)]
  go_simp
  go_at_call 16
  refine (eqTreeX_c Sx0.out (HR2.out.right.right.right.right.left) hs HR2.out.left D0.out).mono ?_
  rintro e w8 ⟨rfl, hb9⟩
  refine hK.out _ _ ⟨(hb9.cell (p := ⟨w4.heap.size, _, none⟩) tbx0).trans hS9.1, (hb9.cell (p := ⟨w4.heap.size, _, none⟩) tbx0).trans hS9.2.1, (hb9.cell (p := ⟨w4.heap.size, _, none⟩) tbx0).trans hS9.2.2.1, (hb9.cell (p := ⟨w.heap.size, _, none⟩) ta0).trans hS9.2.2.2.1, (hb9.cell (p := ⟨w.heap.size, _, none⟩) ta0).trans hS9.2.2.2.2.1, (hb9.cell (p := ⟨w.heap.size, _, none⟩) ta0).trans hS9.2.2.2.2.2⟩ (fun hS9 => ?_)
  have hb := ((Below.refl w6.heap.size w6).drew.trans hb).trans (hb9.mono ((Below.refl w6.heap.size w6).drew.trans hb).size)
  replace HR := hid (HR2.out.right.below hb9)
  clear HR2 hb9 hr hs
  refine wpAnyH_take (i := 4) (oi := ?oi105) (v := ?v105) ?hi105 (by kernel_rfl) ?hf105 ?hr105 ?hQ105 (Or.inl ⟨?hw105, ?hy105⟩) (by assumption) ?rest105
  case hi105 => simp only [List.getElem?_toArray, List.getElem?_cons_succ, List.getElem?_cons_zero]; rfl
  case hf105 => kernel_rfl
  case hr105 => kernel_rfl
  case hw105 => rfl
  case hy105 => (intro w hSw; (try dsimp only at hSw); go_simp; all_goals (first | done | with_reducible rfl))
  case hQ105 => exact fun _ _ _ h => h
  simp only [Act.put, List.setIfInBounds_toArray, List.set_cons_zero, List.set_cons_succ]
  refine wpAnyH_done (by kernel_rfl) ?_ _
  replace HB := hid (HB.out.trans (hb.mono HB.out.size))
  clear hb
  clear dbG0 dbG1 dbG2 tbG dbx00 dbx01 dbx02 tbx0 dbW0 dbW1 dbW2 tbW da00 da01 da02 ta0
  have dbG0 : w8.cell? ⟨w5.heap.size, 0, none⟩ = some (.slice fG1 fG2 fG3) := (Rows.bcell (T := 32) (d := 3) (b := w5.heap.size) (cs := [.slice fG1 fG2 fG3, .slice fG4 fG5 fG6, .int .i64 XQ]) (q := 0) (HR.out.left) (List.mem_singleton.2 rfl) rfl).1
  have dbG1 : w8.cell? ⟨w5.heap.size, 1, none⟩ = some (.slice fG4 fG5 fG6) := (Rows.bcell (T := 32) (d := 3) (b := w5.heap.size) (cs := [.slice fG1 fG2 fG3, .slice fG4 fG5 fG6, .int .i64 XQ]) (q := 1) (HR.out.left) (List.mem_singleton.2 rfl) rfl).1
  have dbG2 : w8.cell? ⟨w5.heap.size, 2, none⟩ = some (.int .i64 XQ) := (Rows.bcell (T := 32) (d := 3) (b := w5.heap.size) (cs := [.slice fG1 fG2 fG3, .slice fG4 fG5 fG6, .int .i64 XQ]) (q := 2) (HR.out.left) (List.mem_singleton.2 rfl) rfl).1
  have tbG : w5.heap.size < w8.heap.size := (Rows.bcell (T := 32) (d := 3) (b := w5.heap.size) (cs := [.slice fG1 fG2 fG3, .slice fG4 fG5 fG6, .int .i64 XQ]) (q := 0) (HR.out.left) (List.mem_singleton.2 rfl) rfl).2
  have dbx00 : w8.cell? ⟨w4.heap.size, 0, none⟩ = some (.slice fx01 fx02 fx03) := (Rows.bcell (T := 32) (d := 3) (b := w4.heap.size) (cs := [.slice fx01 fx02 fx03, .slice fx04 fx05 fx06, .int .i64 q0]) (q := 0) (HR.out.right.right.left) (List.mem_singleton.2 rfl) rfl).1
  have dbx01 : w8.cell? ⟨w4.heap.size, 1, none⟩ = some (.slice fx04 fx05 fx06) := (Rows.bcell (T := 32) (d := 3) (b := w4.heap.size) (cs := [.slice fx01 fx02 fx03, .slice fx04 fx05 fx06, .int .i64 q0]) (q := 1) (HR.out.right.right.left) (List.mem_singleton.2 rfl) rfl).1
  have dbx02 : w8.cell? ⟨w4.heap.size, 2, none⟩ = some (.int .i64 q0) := (Rows.bcell (T := 32) (d := 3) (b := w4.heap.size) (cs := [.slice fx01 fx02 fx03, .slice fx04 fx05 fx06, .int .i64 q0]) (q := 2) (HR.out.right.right.left) (List.mem_singleton.2 rfl) rfl).1
  have tbx0 : w4.heap.size < w8.heap.size := (Rows.bcell (T := 32) (d := 3) (b := w4.heap.size) (cs := [.slice fx01 fx02 fx03, .slice fx04 fx05 fx06, .int .i64 q0]) (q := 0) (HR.out.right.right.left) (List.mem_singleton.2 rfl) rfl).2
  have dbW0 : w8.cell? ⟨w3.heap.size, 0, none⟩ = some (.slice fW1 fW2 fW3) := (Rows.bcell (T := 32) (d := 3) (b := w3.heap.size) (cs := [.slice fW1 fW2 fW3, .slice fW4 fW5 fW6, .int .i64 XQ]) (q := 0) (HR.out.right.right.right.right.left) (List.mem_singleton.2 rfl) rfl).1
  have dbW1 : w8.cell? ⟨w3.heap.size, 1, none⟩ = some (.slice fW4 fW5 fW6) := (Rows.bcell (T := 32) (d := 3) (b := w3.heap.size) (cs := [.slice fW1 fW2 fW3, .slice fW4 fW5 fW6, .int .i64 XQ]) (q := 1) (HR.out.right.right.right.right.left) (List.mem_singleton.2 rfl) rfl).1
  have dbW2 : w8.cell? ⟨w3.heap.size, 2, none⟩ = some (.int .i64 XQ) := (Rows.bcell (T := 32) (d := 3) (b := w3.heap.size) (cs := [.slice fW1 fW2 fW3, .slice fW4 fW5 fW6, .int .i64 XQ]) (q := 2) (HR.out.right.right.right.right.left) (List.mem_singleton.2 rfl) rfl).1
  have tbW : w3.heap.size < w8.heap.size := (Rows.bcell (T := 32) (d := 3) (b := w3.heap.size) (cs := [.slice fW1 fW2 fW3, .slice fW4 fW5 fW6, .int .i64 XQ]) (q := 0) (HR.out.right.right.right.right.left) (List.mem_singleton.2 rfl) rfl).2
  have da00 : w8.cell? ⟨w.heap.size, 0, none⟩ = some (.slice Aa0 na0 ca0) := (Rows.bcell (T := 25) (d := 3) (b := w.heap.size) (cs := [.slice Aa0 na0 ca0, .slice Ab0 nb0 cb0, .int .i64 q0]) (q := 0) (HR.out.right.right.right.right.right.right) (List.mem_singleton.2 rfl) rfl).1
  have da01 : w8.cell? ⟨w.heap.size, 1, none⟩ = some (.slice Ab0 nb0 cb0) := (Rows.bcell (T := 25) (d := 3) (b := w.heap.size) (cs := [.slice Aa0 na0 ca0, .slice Ab0 nb0 cb0, .int .i64 q0]) (q := 1) (HR.out.right.right.right.right.right.right) (List.mem_singleton.2 rfl) rfl).1
  have da02 : w8.cell? ⟨w.heap.size, 2, none⟩ = some (.int .i64 q0) := (Rows.bcell (T := 25) (d := 3) (b := w.heap.size) (cs := [.slice Aa0 na0 ca0, .slice Ab0 nb0 cb0, .int .i64 q0]) (q := 2) (HR.out.right.right.right.right.right.right) (List.mem_singleton.2 rfl) rfl).1
  have ta0 : w.heap.size < w8.heap.size := (Rows.bcell (T := 25) (d := 3) (b := w.heap.size) (cs := [.slice Aa0 na0 ca0, .slice Ab0 nb0 cb0, .int .i64 q0]) (q := 0) (HR.out.right.right.right.right.right.right) (List.mem_singleton.2 rfl) rfl).2
  replace HR := hid (HR.out.perm (((((List.perm_append_comm_assoc _ _ _).append_left _).trans (List.perm_append_comm_assoc _ _ _)).append_left _).trans (List.perm_append_comm_assoc _ _ _)))
  go_wp2_with fail
  refine (markTreeX_c (k := 1) Sx0.out HR.out HB.out.size D0.out (by omega)).mono ?_
  rintro e w9 ⟨rx0, rsx0, rfl, hstx0, hr, hb⟩
  replace HR := hid hr
  replace HB := hid (HB.out.trans hb)
  have Stx0 := hid hstx0
  clear hr hb hstx0 Sx0
  clear dbG0 dbG1 dbG2 tbG dbx00 dbx01 dbx02 tbx0 dbW0 dbW1 dbW2 tbW da00 da01 da02 ta0
  have dbG0 : w9.cell? ⟨w5.heap.size, 0, none⟩ = some (.slice fG1 fG2 fG3) := (Rows.bcell (T := 32) (d := 3) (b := w5.heap.size) (cs := [.slice fG1 fG2 fG3, .slice fG4 fG5 fG6, .int .i64 XQ]) (q := 0) (HR.out.right.left) (List.mem_singleton.2 rfl) rfl).1
  have dbG1 : w9.cell? ⟨w5.heap.size, 1, none⟩ = some (.slice fG4 fG5 fG6) := (Rows.bcell (T := 32) (d := 3) (b := w5.heap.size) (cs := [.slice fG1 fG2 fG3, .slice fG4 fG5 fG6, .int .i64 XQ]) (q := 1) (HR.out.right.left) (List.mem_singleton.2 rfl) rfl).1
  have dbG2 : w9.cell? ⟨w5.heap.size, 2, none⟩ = some (.int .i64 XQ) := (Rows.bcell (T := 32) (d := 3) (b := w5.heap.size) (cs := [.slice fG1 fG2 fG3, .slice fG4 fG5 fG6, .int .i64 XQ]) (q := 2) (HR.out.right.left) (List.mem_singleton.2 rfl) rfl).1
  have tbG : w5.heap.size < w9.heap.size := (Rows.bcell (T := 32) (d := 3) (b := w5.heap.size) (cs := [.slice fG1 fG2 fG3, .slice fG4 fG5 fG6, .int .i64 XQ]) (q := 0) (HR.out.right.left) (List.mem_singleton.2 rfl) rfl).2
  have dbx00 : w9.cell? ⟨w4.heap.size, 0, none⟩ = some (.slice fx01 fx02 fx03) := (Rows.bcell (T := 32) (d := 3) (b := w4.heap.size) (cs := [.slice fx01 fx02 fx03, .slice fx04 fx05 fx06, .int .i64 q0]) (q := 0) (HR.out.right.right.right.left) (List.mem_singleton.2 rfl) rfl).1
  have dbx01 : w9.cell? ⟨w4.heap.size, 1, none⟩ = some (.slice fx04 fx05 fx06) := (Rows.bcell (T := 32) (d := 3) (b := w4.heap.size) (cs := [.slice fx01 fx02 fx03, .slice fx04 fx05 fx06, .int .i64 q0]) (q := 1) (HR.out.right.right.right.left) (List.mem_singleton.2 rfl) rfl).1
  have dbx02 : w9.cell? ⟨w4.heap.size, 2, none⟩ = some (.int .i64 q0) := (Rows.bcell (T := 32) (d := 3) (b := w4.heap.size) (cs := [.slice fx01 fx02 fx03, .slice fx04 fx05 fx06, .int .i64 q0]) (q := 2) (HR.out.right.right.right.left) (List.mem_singleton.2 rfl) rfl).1
  have tbx0 : w4.heap.size < w9.heap.size := (Rows.bcell (T := 32) (d := 3) (b := w4.heap.size) (cs := [.slice fx01 fx02 fx03, .slice fx04 fx05 fx06, .int .i64 q0]) (q := 0) (HR.out.right.right.right.left) (List.mem_singleton.2 rfl) rfl).2
  have dbW0 : w9.cell? ⟨w3.heap.size, 0, none⟩ = some (.slice fW1 fW2 fW3) := (Rows.bcell (T := 32) (d := 3) (b := w3.heap.size) (cs := [.slice fW1 fW2 fW3, .slice fW4 fW5 fW6, .int .i64 XQ]) (q := 0) (HR.out.right.right.right.right.left) (List.mem_singleton.2 rfl) rfl).1
  have dbW1 : w9.cell? ⟨w3.heap.size, 1, none⟩ = some (.slice fW4 fW5 fW6) := (Rows.bcell (T := 32) (d := 3) (b := w3.heap.size) (cs := [.slice fW1 fW2 fW3, .slice fW4 fW5 fW6, .int .i64 XQ]) (q := 1) (HR.out.right.right.right.right.left) (List.mem_singleton.2 rfl) rfl).1
  have dbW2 : w9.cell? ⟨w3.heap.size, 2, none⟩ = some (.int .i64 XQ) := (Rows.bcell (T := 32) (d := 3) (b := w3.heap.size) (cs := [.slice fW1 fW2 fW3, .slice fW4 fW5 fW6, .int .i64 XQ]) (q := 2) (HR.out.right.right.right.right.left) (List.mem_singleton.2 rfl) rfl).1
  have tbW : w3.heap.size < w9.heap.size := (Rows.bcell (T := 32) (d := 3) (b := w3.heap.size) (cs := [.slice fW1 fW2 fW3, .slice fW4 fW5 fW6, .int .i64 XQ]) (q := 0) (HR.out.right.right.right.right.left) (List.mem_singleton.2 rfl) rfl).2
  have da00 : w9.cell? ⟨w.heap.size, 0, none⟩ = some (.slice Aa0 na0 ca0) := (Rows.bcell (T := 25) (d := 3) (b := w.heap.size) (cs := [.slice Aa0 na0 ca0, .slice Ab0 nb0 cb0, .int .i64 q0]) (q := 0) (HR.out.right.right.right.right.right.right) (List.mem_singleton.2 rfl) rfl).1
  have da01 : w9.cell? ⟨w.heap.size, 1, none⟩ = some (.slice Ab0 nb0 cb0) := (Rows.bcell (T := 25) (d := 3) (b := w.heap.size) (cs := [.slice Aa0 na0 ca0, .slice Ab0 nb0 cb0, .int .i64 q0]) (q := 1) (HR.out.right.right.right.right.right.right) (List.mem_singleton.2 rfl) rfl).1
  have da02 : w9.cell? ⟨w.heap.size, 2, none⟩ = some (.int .i64 q0) := (Rows.bcell (T := 25) (d := 3) (b := w.heap.size) (cs := [.slice Aa0 na0 ca0, .slice Ab0 nb0 cb0, .int .i64 q0]) (q := 2) (HR.out.right.right.right.right.right.right) (List.mem_singleton.2 rfl) rfl).1
  have ta0 : w.heap.size < w9.heap.size := (Rows.bcell (T := 25) (d := 3) (b := w.heap.size) (cs := [.slice Aa0 na0 ca0, .slice Ab0 nb0 cb0, .int .i64 q0]) (q := 0) (HR.out.right.right.right.right.right.right) (List.mem_singleton.2 rfl) rfl).2
  replace HR := hid (HR.out.sub (List.sublist_append_right _ _))
  clear Stx0
  replace HR := hid (HR.out.sub ((List.Sublist.refl _).append ((List.Sublist.refl _).append (List.sublist_append_right _ _))))
  clear dbG0 dbG1 dbG2 tbG dbx00 dbx01 dbx02 tbx0 dbW0 dbW1 dbW2 tbW da00 da01 da02 ta0
  have dbG0 : w9.cell? ⟨w5.heap.size, 0, none⟩ = some (.slice fG1 fG2 fG3) := (Rows.bcell (T := 32) (d := 3) (b := w5.heap.size) (cs := [.slice fG1 fG2 fG3, .slice fG4 fG5 fG6, .int .i64 XQ]) (q := 0) (HR.out.left) (List.mem_singleton.2 rfl) rfl).1
  have dbG1 : w9.cell? ⟨w5.heap.size, 1, none⟩ = some (.slice fG4 fG5 fG6) := (Rows.bcell (T := 32) (d := 3) (b := w5.heap.size) (cs := [.slice fG1 fG2 fG3, .slice fG4 fG5 fG6, .int .i64 XQ]) (q := 1) (HR.out.left) (List.mem_singleton.2 rfl) rfl).1
  have dbG2 : w9.cell? ⟨w5.heap.size, 2, none⟩ = some (.int .i64 XQ) := (Rows.bcell (T := 32) (d := 3) (b := w5.heap.size) (cs := [.slice fG1 fG2 fG3, .slice fG4 fG5 fG6, .int .i64 XQ]) (q := 2) (HR.out.left) (List.mem_singleton.2 rfl) rfl).1
  have tbG : w5.heap.size < w9.heap.size := (Rows.bcell (T := 32) (d := 3) (b := w5.heap.size) (cs := [.slice fG1 fG2 fG3, .slice fG4 fG5 fG6, .int .i64 XQ]) (q := 0) (HR.out.left) (List.mem_singleton.2 rfl) rfl).2
  have dbW0 : w9.cell? ⟨w3.heap.size, 0, none⟩ = some (.slice fW1 fW2 fW3) := (Rows.bcell (T := 32) (d := 3) (b := w3.heap.size) (cs := [.slice fW1 fW2 fW3, .slice fW4 fW5 fW6, .int .i64 XQ]) (q := 0) (HR.out.right.right.left) (List.mem_singleton.2 rfl) rfl).1
  have dbW1 : w9.cell? ⟨w3.heap.size, 1, none⟩ = some (.slice fW4 fW5 fW6) := (Rows.bcell (T := 32) (d := 3) (b := w3.heap.size) (cs := [.slice fW1 fW2 fW3, .slice fW4 fW5 fW6, .int .i64 XQ]) (q := 1) (HR.out.right.right.left) (List.mem_singleton.2 rfl) rfl).1
  have dbW2 : w9.cell? ⟨w3.heap.size, 2, none⟩ = some (.int .i64 XQ) := (Rows.bcell (T := 32) (d := 3) (b := w3.heap.size) (cs := [.slice fW1 fW2 fW3, .slice fW4 fW5 fW6, .int .i64 XQ]) (q := 2) (HR.out.right.right.left) (List.mem_singleton.2 rfl) rfl).1
  have tbW : w3.heap.size < w9.heap.size := (Rows.bcell (T := 32) (d := 3) (b := w3.heap.size) (cs := [.slice fW1 fW2 fW3, .slice fW4 fW5 fW6, .int .i64 XQ]) (q := 0) (HR.out.right.right.left) (List.mem_singleton.2 rfl) rfl).2
  have da00 : w9.cell? ⟨w.heap.size, 0, none⟩ = some (.slice Aa0 na0 ca0) := (Rows.bcell (T := 25) (d := 3) (b := w.heap.size) (cs := [.slice Aa0 na0 ca0, .slice Ab0 nb0 cb0, .int .i64 q0]) (q := 0) (HR.out.right.right.right.right) (List.mem_singleton.2 rfl) rfl).1
  have da01 : w9.cell? ⟨w.heap.size, 1, none⟩ = some (.slice Ab0 nb0 cb0) := (Rows.bcell (T := 25) (d := 3) (b := w.heap.size) (cs := [.slice Aa0 na0 ca0, .slice Ab0 nb0 cb0, .int .i64 q0]) (q := 1) (HR.out.right.right.right.right) (List.mem_singleton.2 rfl) rfl).1
  have da02 : w9.cell? ⟨w.heap.size, 2, none⟩ = some (.int .i64 q0) := (Rows.bcell (T := 25) (d := 3) (b := w.heap.size) (cs := [.slice Aa0 na0 ca0, .slice Ab0 nb0 cb0, .int .i64 q0]) (q := 2) (HR.out.right.right.right.right) (List.mem_singleton.2 rfl) rfl).1
  have ta0 : w.heap.size < w9.heap.size := (Rows.bcell (T := 25) (d := 3) (b := w.heap.size) (cs := [.slice Aa0 na0 ca0, .slice Ab0 nb0 cb0, .int .i64 q0]) (q := 0) (HR.out.right.right.right.right) (List.mem_singleton.2 rfl) rfl).2
  go_wp2_with fail
  refine (eqTreeX_c SG.out (HR.out.right.left) SW.out (HR.out.right.right.right.left) DX.out).mono ?_
  rintro e w10 ⟨rfl, hb⟩
  replace HR := hid (HR.out.below hb)
  replace HB := hid (HB.out.trans (hb.mono HB.out.size))
  clear hb
  clear dbG0 dbG1 dbG2 tbG dbW0 dbW1 dbW2 tbW da00 da01 da02 ta0
  have dbG0 : w10.cell? ⟨w5.heap.size, 0, none⟩ = some (.slice fG1 fG2 fG3) := (Rows.bcell (T := 32) (d := 3) (b := w5.heap.size) (cs := [.slice fG1 fG2 fG3, .slice fG4 fG5 fG6, .int .i64 XQ]) (q := 0) (HR.out.left) (List.mem_singleton.2 rfl) rfl).1
  have dbG1 : w10.cell? ⟨w5.heap.size, 1, none⟩ = some (.slice fG4 fG5 fG6) := (Rows.bcell (T := 32) (d := 3) (b := w5.heap.size) (cs := [.slice fG1 fG2 fG3, .slice fG4 fG5 fG6, .int .i64 XQ]) (q := 1) (HR.out.left) (List.mem_singleton.2 rfl) rfl).1
  have dbG2 : w10.cell? ⟨w5.heap.size, 2, none⟩ = some (.int .i64 XQ) := (Rows.bcell (T := 32) (d := 3) (b := w5.heap.size) (cs := [.slice fG1 fG2 fG3, .slice fG4 fG5 fG6, .int .i64 XQ]) (q := 2) (HR.out.left) (List.mem_singleton.2 rfl) rfl).1
  have tbG : w5.heap.size < w10.heap.size := (Rows.bcell (T := 32) (d := 3) (b := w5.heap.size) (cs := [.slice fG1 fG2 fG3, .slice fG4 fG5 fG6, .int .i64 XQ]) (q := 0) (HR.out.left) (List.mem_singleton.2 rfl) rfl).2
  have dbW0 : w10.cell? ⟨w3.heap.size, 0, none⟩ = some (.slice fW1 fW2 fW3) := (Rows.bcell (T := 32) (d := 3) (b := w3.heap.size) (cs := [.slice fW1 fW2 fW3, .slice fW4 fW5 fW6, .int .i64 XQ]) (q := 0) (HR.out.right.right.left) (List.mem_singleton.2 rfl) rfl).1
  have dbW1 : w10.cell? ⟨w3.heap.size, 1, none⟩ = some (.slice fW4 fW5 fW6) := (Rows.bcell (T := 32) (d := 3) (b := w3.heap.size) (cs := [.slice fW1 fW2 fW3, .slice fW4 fW5 fW6, .int .i64 XQ]) (q := 1) (HR.out.right.right.left) (List.mem_singleton.2 rfl) rfl).1
  have dbW2 : w10.cell? ⟨w3.heap.size, 2, none⟩ = some (.int .i64 XQ) := (Rows.bcell (T := 32) (d := 3) (b := w3.heap.size) (cs := [.slice fW1 fW2 fW3, .slice fW4 fW5 fW6, .int .i64 XQ]) (q := 2) (HR.out.right.right.left) (List.mem_singleton.2 rfl) rfl).1
  have tbW : w3.heap.size < w10.heap.size := (Rows.bcell (T := 32) (d := 3) (b := w3.heap.size) (cs := [.slice fW1 fW2 fW3, .slice fW4 fW5 fW6, .int .i64 XQ]) (q := 0) (HR.out.right.right.left) (List.mem_singleton.2 rfl) rfl).2
  have da00 : w10.cell? ⟨w.heap.size, 0, none⟩ = some (.slice Aa0 na0 ca0) := (Rows.bcell (T := 25) (d := 3) (b := w.heap.size) (cs := [.slice Aa0 na0 ca0, .slice Ab0 nb0 cb0, .int .i64 q0]) (q := 0) (HR.out.right.right.right.right) (List.mem_singleton.2 rfl) rfl).1
  have da01 : w10.cell? ⟨w.heap.size, 1, none⟩ = some (.slice Ab0 nb0 cb0) := (Rows.bcell (T := 25) (d := 3) (b := w.heap.size) (cs := [.slice Aa0 na0 ca0, .slice Ab0 nb0 cb0, .int .i64 q0]) (q := 1) (HR.out.right.right.right.right) (List.mem_singleton.2 rfl) rfl).1
  have da02 : w10.cell? ⟨w.heap.size, 2, none⟩ = some (.int .i64 q0) := (Rows.bcell (T := 25) (d := 3) (b := w.heap.size) (cs := [.slice Aa0 na0 ca0, .slice Ab0 nb0 cb0, .int .i64 q0]) (q := 2) (HR.out.right.right.right.right) (List.mem_singleton.2 rfl) rfl).1
  have ta0 : w.heap.size < w10.heap.size := (Rows.bcell (T := 25) (d := 3) (b := w.heap.size) (cs := [.slice Aa0 na0 ca0, .slice Ab0 nb0 cb0, .int .i64 q0]) (q := 0) (HR.out.right.right.right.right) (List.mem_singleton.2 rfl) rfl).2
  replace HR := hid (HR.out.perm (List.perm_append_comm_assoc _ _ _))
  go_wp2_with fail
  refine (markTreeX_c (k := 1) SG.out HR.out HB.out.size DX.out (by omega)).mono ?_
  rintro e w11 ⟨rG, rsG, rfl, hstG, hr, hb⟩
  replace HR := hid hr
  replace HB := hid (HB.out.trans hb)
  have StG := hid hstG
  clear hr hb hstG SG
  clear dbG0 dbG1 dbG2 tbG dbW0 dbW1 dbW2 tbW da00 da01 da02 ta0
  have dbG0 : w11.cell? ⟨w5.heap.size, 0, none⟩ = some (.slice fG1 fG2 fG3) := (Rows.bcell (T := 32) (d := 3) (b := w5.heap.size) (cs := [.slice fG1 fG2 fG3, .slice fG4 fG5 fG6, .int .i64 XQ]) (q := 0) (HR.out.right.left) (List.mem_singleton.2 rfl) rfl).1
  have dbG1 : w11.cell? ⟨w5.heap.size, 1, none⟩ = some (.slice fG4 fG5 fG6) := (Rows.bcell (T := 32) (d := 3) (b := w5.heap.size) (cs := [.slice fG1 fG2 fG3, .slice fG4 fG5 fG6, .int .i64 XQ]) (q := 1) (HR.out.right.left) (List.mem_singleton.2 rfl) rfl).1
  have dbG2 : w11.cell? ⟨w5.heap.size, 2, none⟩ = some (.int .i64 XQ) := (Rows.bcell (T := 32) (d := 3) (b := w5.heap.size) (cs := [.slice fG1 fG2 fG3, .slice fG4 fG5 fG6, .int .i64 XQ]) (q := 2) (HR.out.right.left) (List.mem_singleton.2 rfl) rfl).1
  have tbG : w5.heap.size < w11.heap.size := (Rows.bcell (T := 32) (d := 3) (b := w5.heap.size) (cs := [.slice fG1 fG2 fG3, .slice fG4 fG5 fG6, .int .i64 XQ]) (q := 0) (HR.out.right.left) (List.mem_singleton.2 rfl) rfl).2
  have dbW0 : w11.cell? ⟨w3.heap.size, 0, none⟩ = some (.slice fW1 fW2 fW3) := (Rows.bcell (T := 32) (d := 3) (b := w3.heap.size) (cs := [.slice fW1 fW2 fW3, .slice fW4 fW5 fW6, .int .i64 XQ]) (q := 0) (HR.out.right.right.left) (List.mem_singleton.2 rfl) rfl).1
  have dbW1 : w11.cell? ⟨w3.heap.size, 1, none⟩ = some (.slice fW4 fW5 fW6) := (Rows.bcell (T := 32) (d := 3) (b := w3.heap.size) (cs := [.slice fW1 fW2 fW3, .slice fW4 fW5 fW6, .int .i64 XQ]) (q := 1) (HR.out.right.right.left) (List.mem_singleton.2 rfl) rfl).1
  have dbW2 : w11.cell? ⟨w3.heap.size, 2, none⟩ = some (.int .i64 XQ) := (Rows.bcell (T := 32) (d := 3) (b := w3.heap.size) (cs := [.slice fW1 fW2 fW3, .slice fW4 fW5 fW6, .int .i64 XQ]) (q := 2) (HR.out.right.right.left) (List.mem_singleton.2 rfl) rfl).1
  have tbW : w3.heap.size < w11.heap.size := (Rows.bcell (T := 32) (d := 3) (b := w3.heap.size) (cs := [.slice fW1 fW2 fW3, .slice fW4 fW5 fW6, .int .i64 XQ]) (q := 0) (HR.out.right.right.left) (List.mem_singleton.2 rfl) rfl).2
  have da00 : w11.cell? ⟨w.heap.size, 0, none⟩ = some (.slice Aa0 na0 ca0) := (Rows.bcell (T := 25) (d := 3) (b := w.heap.size) (cs := [.slice Aa0 na0 ca0, .slice Ab0 nb0 cb0, .int .i64 q0]) (q := 0) (HR.out.right.right.right.right) (List.mem_singleton.2 rfl) rfl).1
  have da01 : w11.cell? ⟨w.heap.size, 1, none⟩ = some (.slice Ab0 nb0 cb0) := (Rows.bcell (T := 25) (d := 3) (b := w.heap.size) (cs := [.slice Aa0 na0 ca0, .slice Ab0 nb0 cb0, .int .i64 q0]) (q := 1) (HR.out.right.right.right.right) (List.mem_singleton.2 rfl) rfl).1
  have da02 : w11.cell? ⟨w.heap.size, 2, none⟩ = some (.int .i64 q0) := (Rows.bcell (T := 25) (d := 3) (b := w.heap.size) (cs := [.slice Aa0 na0 ca0, .slice Ab0 nb0 cb0, .int .i64 q0]) (q := 2) (HR.out.right.right.right.right) (List.mem_singleton.2 rfl) rfl).1
  have ta0 : w.heap.size < w11.heap.size := (Rows.bcell (T := 25) (d := 3) (b := w.heap.size) (cs := [.slice Aa0 na0 ca0, .slice Ab0 nb0 cb0, .int .i64 q0]) (q := 0) (HR.out.right.right.right.right) (List.mem_singleton.2 rfl) rfl).2
  go_wp2_with fail
  refine (heldTreeX_c StG.out (HR.out.left)).mono ?_
  rintro e w12 ⟨rfl, hb⟩
  replace HR := hid (HR.out.below hb)
  replace HB := hid (HB.out.trans (hb.mono HB.out.size))
  clear hb
  clear dbG0 dbG1 dbG2 tbG dbW0 dbW1 dbW2 tbW da00 da01 da02 ta0
  have dbG0 : w12.cell? ⟨w5.heap.size, 0, none⟩ = some (.slice fG1 fG2 fG3) := (Rows.bcell (T := 32) (d := 3) (b := w5.heap.size) (cs := [.slice fG1 fG2 fG3, .slice fG4 fG5 fG6, .int .i64 XQ]) (q := 0) (HR.out.right.left) (List.mem_singleton.2 rfl) rfl).1
  have dbG1 : w12.cell? ⟨w5.heap.size, 1, none⟩ = some (.slice fG4 fG5 fG6) := (Rows.bcell (T := 32) (d := 3) (b := w5.heap.size) (cs := [.slice fG1 fG2 fG3, .slice fG4 fG5 fG6, .int .i64 XQ]) (q := 1) (HR.out.right.left) (List.mem_singleton.2 rfl) rfl).1
  have dbG2 : w12.cell? ⟨w5.heap.size, 2, none⟩ = some (.int .i64 XQ) := (Rows.bcell (T := 32) (d := 3) (b := w5.heap.size) (cs := [.slice fG1 fG2 fG3, .slice fG4 fG5 fG6, .int .i64 XQ]) (q := 2) (HR.out.right.left) (List.mem_singleton.2 rfl) rfl).1
  have tbG : w5.heap.size < w12.heap.size := (Rows.bcell (T := 32) (d := 3) (b := w5.heap.size) (cs := [.slice fG1 fG2 fG3, .slice fG4 fG5 fG6, .int .i64 XQ]) (q := 0) (HR.out.right.left) (List.mem_singleton.2 rfl) rfl).2
  have dbW0 : w12.cell? ⟨w3.heap.size, 0, none⟩ = some (.slice fW1 fW2 fW3) := (Rows.bcell (T := 32) (d := 3) (b := w3.heap.size) (cs := [.slice fW1 fW2 fW3, .slice fW4 fW5 fW6, .int .i64 XQ]) (q := 0) (HR.out.right.right.left) (List.mem_singleton.2 rfl) rfl).1
  have dbW1 : w12.cell? ⟨w3.heap.size, 1, none⟩ = some (.slice fW4 fW5 fW6) := (Rows.bcell (T := 32) (d := 3) (b := w3.heap.size) (cs := [.slice fW1 fW2 fW3, .slice fW4 fW5 fW6, .int .i64 XQ]) (q := 1) (HR.out.right.right.left) (List.mem_singleton.2 rfl) rfl).1
  have dbW2 : w12.cell? ⟨w3.heap.size, 2, none⟩ = some (.int .i64 XQ) := (Rows.bcell (T := 32) (d := 3) (b := w3.heap.size) (cs := [.slice fW1 fW2 fW3, .slice fW4 fW5 fW6, .int .i64 XQ]) (q := 2) (HR.out.right.right.left) (List.mem_singleton.2 rfl) rfl).1
  have tbW : w3.heap.size < w12.heap.size := (Rows.bcell (T := 32) (d := 3) (b := w3.heap.size) (cs := [.slice fW1 fW2 fW3, .slice fW4 fW5 fW6, .int .i64 XQ]) (q := 0) (HR.out.right.right.left) (List.mem_singleton.2 rfl) rfl).2
  have da00 : w12.cell? ⟨w.heap.size, 0, none⟩ = some (.slice Aa0 na0 ca0) := (Rows.bcell (T := 25) (d := 3) (b := w.heap.size) (cs := [.slice Aa0 na0 ca0, .slice Ab0 nb0 cb0, .int .i64 q0]) (q := 0) (HR.out.right.right.right.right) (List.mem_singleton.2 rfl) rfl).1
  have da01 : w12.cell? ⟨w.heap.size, 1, none⟩ = some (.slice Ab0 nb0 cb0) := (Rows.bcell (T := 25) (d := 3) (b := w.heap.size) (cs := [.slice Aa0 na0 ca0, .slice Ab0 nb0 cb0, .int .i64 q0]) (q := 1) (HR.out.right.right.right.right) (List.mem_singleton.2 rfl) rfl).1
  have da02 : w12.cell? ⟨w.heap.size, 2, none⟩ = some (.int .i64 q0) := (Rows.bcell (T := 25) (d := 3) (b := w.heap.size) (cs := [.slice Aa0 na0 ca0, .slice Ab0 nb0 cb0, .int .i64 q0]) (q := 2) (HR.out.right.right.right.right) (List.mem_singleton.2 rfl) rfl).1
  have ta0 : w.heap.size < w12.heap.size := (Rows.bcell (T := 25) (d := 3) (b := w.heap.size) (cs := [.slice Aa0 na0 ca0, .slice Ab0 nb0 cb0, .int .i64 q0]) (q := 0) (HR.out.right.right.right.right) (List.mem_singleton.2 rfl) rfl).2
  go_wp2_with fail
  refine (toTreeX_c Aa0 na0 ca0 Ab0 nb0 cb0 w.heap.size q0 la0 lb0 _ (T0.out.below HB.out (Nat.le_refl _)) F0.out HB.out.size).mono ?_
  rintro e w13 ⟨v, rs, rfl, hs, hr, hb⟩
  have Sz0 := hid hs
  obtain ⟨fz01, fz02, fz03, fz04, fz05, fz06, rfl⟩ := (hs.at_ hr D0.out).form
  clear hs
  replace HR := hid (HR.out.newer hb hr HB.out.size)
  replace HB := hid (HB.out.trans (hb.mono HB.out.size))
  clear hb hr
  clear dbG0 dbG1 dbG2 tbG dbW0 dbW1 dbW2 tbW da00 da01 da02 ta0
  have dbG0 : w13.cell? ⟨w5.heap.size, 0, none⟩ = some (.slice fG1 fG2 fG3) := (Rows.bcell (T := 32) (d := 3) (b := w5.heap.size) (cs := [.slice fG1 fG2 fG3, .slice fG4 fG5 fG6, .int .i64 XQ]) (q := 0) (HR.out.right.right.left) (List.mem_singleton.2 rfl) rfl).1
  have dbG1 : w13.cell? ⟨w5.heap.size, 1, none⟩ = some (.slice fG4 fG5 fG6) := (Rows.bcell (T := 32) (d := 3) (b := w5.heap.size) (cs := [.slice fG1 fG2 fG3, .slice fG4 fG5 fG6, .int .i64 XQ]) (q := 1) (HR.out.right.right.left) (List.mem_singleton.2 rfl) rfl).1
  have dbG2 : w13.cell? ⟨w5.heap.size, 2, none⟩ = some (.int .i64 XQ) := (Rows.bcell (T := 32) (d := 3) (b := w5.heap.size) (cs := [.slice fG1 fG2 fG3, .slice fG4 fG5 fG6, .int .i64 XQ]) (q := 2) (HR.out.right.right.left) (List.mem_singleton.2 rfl) rfl).1
  have tbG : w5.heap.size < w13.heap.size := (Rows.bcell (T := 32) (d := 3) (b := w5.heap.size) (cs := [.slice fG1 fG2 fG3, .slice fG4 fG5 fG6, .int .i64 XQ]) (q := 0) (HR.out.right.right.left) (List.mem_singleton.2 rfl) rfl).2
  have dbW0 : w13.cell? ⟨w3.heap.size, 0, none⟩ = some (.slice fW1 fW2 fW3) := (Rows.bcell (T := 32) (d := 3) (b := w3.heap.size) (cs := [.slice fW1 fW2 fW3, .slice fW4 fW5 fW6, .int .i64 XQ]) (q := 0) (HR.out.right.right.right.left) (List.mem_singleton.2 rfl) rfl).1
  have dbW1 : w13.cell? ⟨w3.heap.size, 1, none⟩ = some (.slice fW4 fW5 fW6) := (Rows.bcell (T := 32) (d := 3) (b := w3.heap.size) (cs := [.slice fW1 fW2 fW3, .slice fW4 fW5 fW6, .int .i64 XQ]) (q := 1) (HR.out.right.right.right.left) (List.mem_singleton.2 rfl) rfl).1
  have dbW2 : w13.cell? ⟨w3.heap.size, 2, none⟩ = some (.int .i64 XQ) := (Rows.bcell (T := 32) (d := 3) (b := w3.heap.size) (cs := [.slice fW1 fW2 fW3, .slice fW4 fW5 fW6, .int .i64 XQ]) (q := 2) (HR.out.right.right.right.left) (List.mem_singleton.2 rfl) rfl).1
  have tbW : w3.heap.size < w13.heap.size := (Rows.bcell (T := 32) (d := 3) (b := w3.heap.size) (cs := [.slice fW1 fW2 fW3, .slice fW4 fW5 fW6, .int .i64 XQ]) (q := 0) (HR.out.right.right.right.left) (List.mem_singleton.2 rfl) rfl).2
  have da00 : w13.cell? ⟨w.heap.size, 0, none⟩ = some (.slice Aa0 na0 ca0) := (Rows.bcell (T := 25) (d := 3) (b := w.heap.size) (cs := [.slice Aa0 na0 ca0, .slice Ab0 nb0 cb0, .int .i64 q0]) (q := 0) (HR.out.right.right.right.right.right) (List.mem_singleton.2 rfl) rfl).1
  have da01 : w13.cell? ⟨w.heap.size, 1, none⟩ = some (.slice Ab0 nb0 cb0) := (Rows.bcell (T := 25) (d := 3) (b := w.heap.size) (cs := [.slice Aa0 na0 ca0, .slice Ab0 nb0 cb0, .int .i64 q0]) (q := 1) (HR.out.right.right.right.right.right) (List.mem_singleton.2 rfl) rfl).1
  have da02 : w13.cell? ⟨w.heap.size, 2, none⟩ = some (.int .i64 q0) := (Rows.bcell (T := 25) (d := 3) (b := w.heap.size) (cs := [.slice Aa0 na0 ca0, .slice Ab0 nb0 cb0, .int .i64 q0]) (q := 2) (HR.out.right.right.right.right.right) (List.mem_singleton.2 rfl) rfl).1
  have ta0 : w.heap.size < w13.heap.size := (Rows.bcell (T := 25) (d := 3) (b := w.heap.size) (cs := [.slice Aa0 na0 ca0, .slice Ab0 nb0 cb0, .int .i64 q0]) (q := 0) (HR.out.right.right.right.right.right) (List.mem_singleton.2 rfl) rfl).2
  go_wp2_with fail
  refine (cI.out _ _ _ (Sz0.out.at_ (HR.out.left) D0.out) (Nat.le_refl _)).mono ?_
  rintro e w14 ⟨v, rs, rfl, hs, hr, hb⟩
  have Sh := hid hs
  obtain ⟨fh1, fh2, fh3, fh4, fh5, fh6, rfl⟩ := (hs.at_ hr DX.out).form
  clear hs
  replace HR := hid (HR.out.newer hb hr HB.out.size)
  replace HB := hid (HB.out.trans (hb.mono HB.out.size))
  clear hb hr
  clear dbG0 dbG1 dbG2 tbG dbW0 dbW1 dbW2 tbW da00 da01 da02 ta0
  have dbG0 : w14.cell? ⟨w5.heap.size, 0, none⟩ = some (.slice fG1 fG2 fG3) := (Rows.bcell (T := 32) (d := 3) (b := w5.heap.size) (cs := [.slice fG1 fG2 fG3, .slice fG4 fG5 fG6, .int .i64 XQ]) (q := 0) (HR.out.right.right.right.left) (List.mem_singleton.2 rfl) rfl).1
  have dbG1 : w14.cell? ⟨w5.heap.size, 1, none⟩ = some (.slice fG4 fG5 fG6) := (Rows.bcell (T := 32) (d := 3) (b := w5.heap.size) (cs := [.slice fG1 fG2 fG3, .slice fG4 fG5 fG6, .int .i64 XQ]) (q := 1) (HR.out.right.right.right.left) (List.mem_singleton.2 rfl) rfl).1
  have dbG2 : w14.cell? ⟨w5.heap.size, 2, none⟩ = some (.int .i64 XQ) := (Rows.bcell (T := 32) (d := 3) (b := w5.heap.size) (cs := [.slice fG1 fG2 fG3, .slice fG4 fG5 fG6, .int .i64 XQ]) (q := 2) (HR.out.right.right.right.left) (List.mem_singleton.2 rfl) rfl).1
  have tbG : w5.heap.size < w14.heap.size := (Rows.bcell (T := 32) (d := 3) (b := w5.heap.size) (cs := [.slice fG1 fG2 fG3, .slice fG4 fG5 fG6, .int .i64 XQ]) (q := 0) (HR.out.right.right.right.left) (List.mem_singleton.2 rfl) rfl).2
  have dbW0 : w14.cell? ⟨w3.heap.size, 0, none⟩ = some (.slice fW1 fW2 fW3) := (Rows.bcell (T := 32) (d := 3) (b := w3.heap.size) (cs := [.slice fW1 fW2 fW3, .slice fW4 fW5 fW6, .int .i64 XQ]) (q := 0) (HR.out.right.right.right.right.left) (List.mem_singleton.2 rfl) rfl).1
  have dbW1 : w14.cell? ⟨w3.heap.size, 1, none⟩ = some (.slice fW4 fW5 fW6) := (Rows.bcell (T := 32) (d := 3) (b := w3.heap.size) (cs := [.slice fW1 fW2 fW3, .slice fW4 fW5 fW6, .int .i64 XQ]) (q := 1) (HR.out.right.right.right.right.left) (List.mem_singleton.2 rfl) rfl).1
  have dbW2 : w14.cell? ⟨w3.heap.size, 2, none⟩ = some (.int .i64 XQ) := (Rows.bcell (T := 32) (d := 3) (b := w3.heap.size) (cs := [.slice fW1 fW2 fW3, .slice fW4 fW5 fW6, .int .i64 XQ]) (q := 2) (HR.out.right.right.right.right.left) (List.mem_singleton.2 rfl) rfl).1
  have tbW : w3.heap.size < w14.heap.size := (Rows.bcell (T := 32) (d := 3) (b := w3.heap.size) (cs := [.slice fW1 fW2 fW3, .slice fW4 fW5 fW6, .int .i64 XQ]) (q := 0) (HR.out.right.right.right.right.left) (List.mem_singleton.2 rfl) rfl).2
  have da00 : w14.cell? ⟨w.heap.size, 0, none⟩ = some (.slice Aa0 na0 ca0) := (Rows.bcell (T := 25) (d := 3) (b := w.heap.size) (cs := [.slice Aa0 na0 ca0, .slice Ab0 nb0 cb0, .int .i64 q0]) (q := 0) (HR.out.right.right.right.right.right.right) (List.mem_singleton.2 rfl) rfl).1
  have da01 : w14.cell? ⟨w.heap.size, 1, none⟩ = some (.slice Ab0 nb0 cb0) := (Rows.bcell (T := 25) (d := 3) (b := w.heap.size) (cs := [.slice Aa0 na0 ca0, .slice Ab0 nb0 cb0, .int .i64 q0]) (q := 1) (HR.out.right.right.right.right.right.right) (List.mem_singleton.2 rfl) rfl).1
  have da02 : w14.cell? ⟨w.heap.size, 2, none⟩ = some (.int .i64 q0) := (Rows.bcell (T := 25) (d := 3) (b := w.heap.size) (cs := [.slice Aa0 na0 ca0, .slice Ab0 nb0 cb0, .int .i64 q0]) (q := 2) (HR.out.right.right.right.right.right.right) (List.mem_singleton.2 rfl) rfl).1
  have ta0 : w.heap.size < w14.heap.size := (Rows.bcell (T := 25) (d := 3) (b := w.heap.size) (cs := [.slice Aa0 na0 ca0, .slice Ab0 nb0 cb0, .int .i64 q0]) (q := 0) (HR.out.right.right.right.right.right.right) (List.mem_singleton.2 rfl) rfl).2
  have hb : Below w14.heap.size w14 (w14.alloc (.cells #[.slice fh1 fh2 fh3, .slice fh4 fh5 fh6, .int .i64 XQ] 32)) := (Below.refl _ _).alloc (Nat.le_refl _) _
  have hr := Rows.box w14 #[.slice fh1 fh2 fh3, .slice fh4 fh5 fh6, .int .i64 XQ] 32 3 rfl
  replace HR := hid (HR.out.newer hb hr HB.out.size)
  replace HB := hid (HB.out.trans (hb.mono HB.out.size))
  clear hb hr
  clear dbG0 dbG1 dbG2 tbG dbW0 dbW1 dbW2 tbW da00 da01 da02 ta0
  have dbh0 : (w14.alloc (.cells #[.slice fh1 fh2 fh3, .slice fh4 fh5 fh6, .int .i64 XQ] 32)).cell? ⟨w14.heap.size, 0, none⟩ = some (.slice fh1 fh2 fh3) := (Rows.bcell (T := 32) (d := 3) (b := w14.heap.size) (cs := [.slice fh1 fh2 fh3, .slice fh4 fh5 fh6, .int .i64 XQ]) (q := 0) (HR.out.left) (List.mem_singleton.2 rfl) rfl).1
  have dbh1 : (w14.alloc (.cells #[.slice fh1 fh2 fh3, .slice fh4 fh5 fh6, .int .i64 XQ] 32)).cell? ⟨w14.heap.size, 1, none⟩ = some (.slice fh4 fh5 fh6) := (Rows.bcell (T := 32) (d := 3) (b := w14.heap.size) (cs := [.slice fh1 fh2 fh3, .slice fh4 fh5 fh6, .int .i64 XQ]) (q := 1) (HR.out.left) (List.mem_singleton.2 rfl) rfl).1
  have dbh2 : (w14.alloc (.cells #[.slice fh1 fh2 fh3, .slice fh4 fh5 fh6, .int .i64 XQ] 32)).cell? ⟨w14.heap.size, 2, none⟩ = some (.int .i64 XQ) := (Rows.bcell (T := 32) (d := 3) (b := w14.heap.size) (cs := [.slice fh1 fh2 fh3, .slice fh4 fh5 fh6, .int .i64 XQ]) (q := 2) (HR.out.left) (List.mem_singleton.2 rfl) rfl).1
  have tbh : w14.heap.size < (w14.alloc (.cells #[.slice fh1 fh2 fh3, .slice fh4 fh5 fh6, .int .i64 XQ] 32)).heap.size := (Rows.bcell (T := 32) (d := 3) (b := w14.heap.size) (cs := [.slice fh1 fh2 fh3, .slice fh4 fh5 fh6, .int .i64 XQ]) (q := 0) (HR.out.left) (List.mem_singleton.2 rfl) rfl).2
  have dbG0 : (w14.alloc (.cells #[.slice fh1 fh2 fh3, .slice fh4 fh5 fh6, .int .i64 XQ] 32)).cell? ⟨w5.heap.size, 0, none⟩ = some (.slice fG1 fG2 fG3) := (Rows.bcell (T := 32) (d := 3) (b := w5.heap.size) (cs := [.slice fG1 fG2 fG3, .slice fG4 fG5 fG6, .int .i64 XQ]) (q := 0) (HR.out.right.right.right.right.left) (List.mem_singleton.2 rfl) rfl).1
  have dbG1 : (w14.alloc (.cells #[.slice fh1 fh2 fh3, .slice fh4 fh5 fh6, .int .i64 XQ] 32)).cell? ⟨w5.heap.size, 1, none⟩ = some (.slice fG4 fG5 fG6) := (Rows.bcell (T := 32) (d := 3) (b := w5.heap.size) (cs := [.slice fG1 fG2 fG3, .slice fG4 fG5 fG6, .int .i64 XQ]) (q := 1) (HR.out.right.right.right.right.left) (List.mem_singleton.2 rfl) rfl).1
  have dbG2 : (w14.alloc (.cells #[.slice fh1 fh2 fh3, .slice fh4 fh5 fh6, .int .i64 XQ] 32)).cell? ⟨w5.heap.size, 2, none⟩ = some (.int .i64 XQ) := (Rows.bcell (T := 32) (d := 3) (b := w5.heap.size) (cs := [.slice fG1 fG2 fG3, .slice fG4 fG5 fG6, .int .i64 XQ]) (q := 2) (HR.out.right.right.right.right.left) (List.mem_singleton.2 rfl) rfl).1
  have tbG : w5.heap.size < (w14.alloc (.cells #[.slice fh1 fh2 fh3, .slice fh4 fh5 fh6, .int .i64 XQ] 32)).heap.size := (Rows.bcell (T := 32) (d := 3) (b := w5.heap.size) (cs := [.slice fG1 fG2 fG3, .slice fG4 fG5 fG6, .int .i64 XQ]) (q := 0) (HR.out.right.right.right.right.left) (List.mem_singleton.2 rfl) rfl).2
  have dbW0 : (w14.alloc (.cells #[.slice fh1 fh2 fh3, .slice fh4 fh5 fh6, .int .i64 XQ] 32)).cell? ⟨w3.heap.size, 0, none⟩ = some (.slice fW1 fW2 fW3) := (Rows.bcell (T := 32) (d := 3) (b := w3.heap.size) (cs := [.slice fW1 fW2 fW3, .slice fW4 fW5 fW6, .int .i64 XQ]) (q := 0) (HR.out.right.right.right.right.right.left) (List.mem_singleton.2 rfl) rfl).1
  have dbW1 : (w14.alloc (.cells #[.slice fh1 fh2 fh3, .slice fh4 fh5 fh6, .int .i64 XQ] 32)).cell? ⟨w3.heap.size, 1, none⟩ = some (.slice fW4 fW5 fW6) := (Rows.bcell (T := 32) (d := 3) (b := w3.heap.size) (cs := [.slice fW1 fW2 fW3, .slice fW4 fW5 fW6, .int .i64 XQ]) (q := 1) (HR.out.right.right.right.right.right.left) (List.mem_singleton.2 rfl) rfl).1
  have dbW2 : (w14.alloc (.cells #[.slice fh1 fh2 fh3, .slice fh4 fh5 fh6, .int .i64 XQ] 32)).cell? ⟨w3.heap.size, 2, none⟩ = some (.int .i64 XQ) := (Rows.bcell (T := 32) (d := 3) (b := w3.heap.size) (cs := [.slice fW1 fW2 fW3, .slice fW4 fW5 fW6, .int .i64 XQ]) (q := 2) (HR.out.right.right.right.right.right.left) (List.mem_singleton.2 rfl) rfl).1
  have tbW : w3.heap.size < (w14.alloc (.cells #[.slice fh1 fh2 fh3, .slice fh4 fh5 fh6, .int .i64 XQ] 32)).heap.size := (Rows.bcell (T := 32) (d := 3) (b := w3.heap.size) (cs := [.slice fW1 fW2 fW3, .slice fW4 fW5 fW6, .int .i64 XQ]) (q := 0) (HR.out.right.right.right.right.right.left) (List.mem_singleton.2 rfl) rfl).2
  have da00 : (w14.alloc (.cells #[.slice fh1 fh2 fh3, .slice fh4 fh5 fh6, .int .i64 XQ] 32)).cell? ⟨w.heap.size, 0, none⟩ = some (.slice Aa0 na0 ca0) := (Rows.bcell (T := 25) (d := 3) (b := w.heap.size) (cs := [.slice Aa0 na0 ca0, .slice Ab0 nb0 cb0, .int .i64 q0]) (q := 0) (HR.out.right.right.right.right.right.right.right) (List.mem_singleton.2 rfl) rfl).1
  have da01 : (w14.alloc (.cells #[.slice fh1 fh2 fh3, .slice fh4 fh5 fh6, .int .i64 XQ] 32)).cell? ⟨w.heap.size, 1, none⟩ = some (.slice Ab0 nb0 cb0) := (Rows.bcell (T := 25) (d := 3) (b := w.heap.size) (cs := [.slice Aa0 na0 ca0, .slice Ab0 nb0 cb0, .int .i64 q0]) (q := 1) (HR.out.right.right.right.right.right.right.right) (List.mem_singleton.2 rfl) rfl).1
  have da02 : (w14.alloc (.cells #[.slice fh1 fh2 fh3, .slice fh4 fh5 fh6, .int .i64 XQ] 32)).cell? ⟨w.heap.size, 2, none⟩ = some (.int .i64 q0) := (Rows.bcell (T := 25) (d := 3) (b := w.heap.size) (cs := [.slice Aa0 na0 ca0, .slice Ab0 nb0 cb0, .int .i64 q0]) (q := 2) (HR.out.right.right.right.right.right.right.right) (List.mem_singleton.2 rfl) rfl).1
  have ta0 : w.heap.size < (w14.alloc (.cells #[.slice fh1 fh2 fh3, .slice fh4 fh5 fh6, .int .i64 XQ] 32)).heap.size := (Rows.bcell (T := 25) (d := 3) (b := w.heap.size) (cs := [.slice Aa0 na0 ca0, .slice Ab0 nb0 cb0, .int .i64 q0]) (q := 0) (HR.out.right.right.right.right.right.right.right) (List.mem_singleton.2 rfl) rfl).2
  replace HR := hid (HR.out.sub ((List.Sublist.refl _).append ((List.Sublist.refl _).append (List.sublist_append_right _ _))))
  clear Sz0
  go_wp2_with fail
  refine (eqTreeX_c Sh.out (HR.out.right.left) SW.out (HR.out.right.right.right.right.right.left) DX.out).mono ?_
  rintro e w15 ⟨rfl, hb⟩
  replace HR := hid (HR.out.below hb)
  replace HB := hid (HB.out.trans (hb.mono HB.out.size))
  clear hb
  clear dbh0 dbh1 dbh2 tbh dbG0 dbG1 dbG2 tbG dbW0 dbW1 dbW2 tbW da00 da01 da02 ta0
  have dbh0 : w15.cell? ⟨w14.heap.size, 0, none⟩ = some (.slice fh1 fh2 fh3) := (Rows.bcell (T := 32) (d := 3) (b := w14.heap.size) (cs := [.slice fh1 fh2 fh3, .slice fh4 fh5 fh6, .int .i64 XQ]) (q := 0) (HR.out.left) (List.mem_singleton.2 rfl) rfl).1
  have dbh1 : w15.cell? ⟨w14.heap.size, 1, none⟩ = some (.slice fh4 fh5 fh6) := (Rows.bcell (T := 32) (d := 3) (b := w14.heap.size) (cs := [.slice fh1 fh2 fh3, .slice fh4 fh5 fh6, .int .i64 XQ]) (q := 1) (HR.out.left) (List.mem_singleton.2 rfl) rfl).1
  have dbh2 : w15.cell? ⟨w14.heap.size, 2, none⟩ = some (.int .i64 XQ) := (Rows.bcell (T := 32) (d := 3) (b := w14.heap.size) (cs := [.slice fh1 fh2 fh3, .slice fh4 fh5 fh6, .int .i64 XQ]) (q := 2) (HR.out.left) (List.mem_singleton.2 rfl) rfl).1
  have tbh : w14.heap.size < w15.heap.size := (Rows.bcell (T := 32) (d := 3) (b := w14.heap.size) (cs := [.slice fh1 fh2 fh3, .slice fh4 fh5 fh6, .int .i64 XQ]) (q := 0) (HR.out.left) (List.mem_singleton.2 rfl) rfl).2
  have dbG0 : w15.cell? ⟨w5.heap.size, 0, none⟩ = some (.slice fG1 fG2 fG3) := (Rows.bcell (T := 32) (d := 3) (b := w5.heap.size) (cs := [.slice fG1 fG2 fG3, .slice fG4 fG5 fG6, .int .i64 XQ]) (q := 0) (HR.out.right.right.right.left) (List.mem_singleton.2 rfl) rfl).1
  have dbG1 : w15.cell? ⟨w5.heap.size, 1, none⟩ = some (.slice fG4 fG5 fG6) := (Rows.bcell (T := 32) (d := 3) (b := w5.heap.size) (cs := [.slice fG1 fG2 fG3, .slice fG4 fG5 fG6, .int .i64 XQ]) (q := 1) (HR.out.right.right.right.left) (List.mem_singleton.2 rfl) rfl).1
  have dbG2 : w15.cell? ⟨w5.heap.size, 2, none⟩ = some (.int .i64 XQ) := (Rows.bcell (T := 32) (d := 3) (b := w5.heap.size) (cs := [.slice fG1 fG2 fG3, .slice fG4 fG5 fG6, .int .i64 XQ]) (q := 2) (HR.out.right.right.right.left) (List.mem_singleton.2 rfl) rfl).1
  have tbG : w5.heap.size < w15.heap.size := (Rows.bcell (T := 32) (d := 3) (b := w5.heap.size) (cs := [.slice fG1 fG2 fG3, .slice fG4 fG5 fG6, .int .i64 XQ]) (q := 0) (HR.out.right.right.right.left) (List.mem_singleton.2 rfl) rfl).2
  have dbW0 : w15.cell? ⟨w3.heap.size, 0, none⟩ = some (.slice fW1 fW2 fW3) := (Rows.bcell (T := 32) (d := 3) (b := w3.heap.size) (cs := [.slice fW1 fW2 fW3, .slice fW4 fW5 fW6, .int .i64 XQ]) (q := 0) (HR.out.right.right.right.right.left) (List.mem_singleton.2 rfl) rfl).1
  have dbW1 : w15.cell? ⟨w3.heap.size, 1, none⟩ = some (.slice fW4 fW5 fW6) := (Rows.bcell (T := 32) (d := 3) (b := w3.heap.size) (cs := [.slice fW1 fW2 fW3, .slice fW4 fW5 fW6, .int .i64 XQ]) (q := 1) (HR.out.right.right.right.right.left) (List.mem_singleton.2 rfl) rfl).1
  have dbW2 : w15.cell? ⟨w3.heap.size, 2, none⟩ = some (.int .i64 XQ) := (Rows.bcell (T := 32) (d := 3) (b := w3.heap.size) (cs := [.slice fW1 fW2 fW3, .slice fW4 fW5 fW6, .int .i64 XQ]) (q := 2) (HR.out.right.right.right.right.left) (List.mem_singleton.2 rfl) rfl).1
  have tbW : w3.heap.size < w15.heap.size := (Rows.bcell (T := 32) (d := 3) (b := w3.heap.size) (cs := [.slice fW1 fW2 fW3, .slice fW4 fW5 fW6, .int .i64 XQ]) (q := 0) (HR.out.right.right.right.right.left) (List.mem_singleton.2 rfl) rfl).2
  have da00 : w15.cell? ⟨w.heap.size, 0, none⟩ = some (.slice Aa0 na0 ca0) := (Rows.bcell (T := 25) (d := 3) (b := w.heap.size) (cs := [.slice Aa0 na0 ca0, .slice Ab0 nb0 cb0, .int .i64 q0]) (q := 0) (HR.out.right.right.right.right.right.right) (List.mem_singleton.2 rfl) rfl).1
  have da01 : w15.cell? ⟨w.heap.size, 1, none⟩ = some (.slice Ab0 nb0 cb0) := (Rows.bcell (T := 25) (d := 3) (b := w.heap.size) (cs := [.slice Aa0 na0 ca0, .slice Ab0 nb0 cb0, .int .i64 q0]) (q := 1) (HR.out.right.right.right.right.right.right) (List.mem_singleton.2 rfl) rfl).1
  have da02 : w15.cell? ⟨w.heap.size, 2, none⟩ = some (.int .i64 q0) := (Rows.bcell (T := 25) (d := 3) (b := w.heap.size) (cs := [.slice Aa0 na0 ca0, .slice Ab0 nb0 cb0, .int .i64 q0]) (q := 2) (HR.out.right.right.right.right.right.right) (List.mem_singleton.2 rfl) rfl).1
  have ta0 : w.heap.size < w15.heap.size := (Rows.bcell (T := 25) (d := 3) (b := w.heap.size) (cs := [.slice Aa0 na0 ca0, .slice Ab0 nb0 cb0, .int .i64 q0]) (q := 0) (HR.out.right.right.right.right.right.right) (List.mem_singleton.2 rfl) rfl).2
  go_wp2_with fail
  refine (heldTreeX_c StG.out (HR.out.right.right.left)).mono ?_
  rintro e w16 ⟨rfl, hb⟩
  replace HR := hid (HR.out.below hb)
  replace HB := hid (HB.out.trans (hb.mono HB.out.size))
  clear hb
  clear dbh0 dbh1 dbh2 tbh dbG0 dbG1 dbG2 tbG dbW0 dbW1 dbW2 tbW da00 da01 da02 ta0
  have dbh0 : w16.cell? ⟨w14.heap.size, 0, none⟩ = some (.slice fh1 fh2 fh3) := (Rows.bcell (T := 32) (d := 3) (b := w14.heap.size) (cs := [.slice fh1 fh2 fh3, .slice fh4 fh5 fh6, .int .i64 XQ]) (q := 0) (HR.out.left) (List.mem_singleton.2 rfl) rfl).1
  have dbh1 : w16.cell? ⟨w14.heap.size, 1, none⟩ = some (.slice fh4 fh5 fh6) := (Rows.bcell (T := 32) (d := 3) (b := w14.heap.size) (cs := [.slice fh1 fh2 fh3, .slice fh4 fh5 fh6, .int .i64 XQ]) (q := 1) (HR.out.left) (List.mem_singleton.2 rfl) rfl).1
  have dbh2 : w16.cell? ⟨w14.heap.size, 2, none⟩ = some (.int .i64 XQ) := (Rows.bcell (T := 32) (d := 3) (b := w14.heap.size) (cs := [.slice fh1 fh2 fh3, .slice fh4 fh5 fh6, .int .i64 XQ]) (q := 2) (HR.out.left) (List.mem_singleton.2 rfl) rfl).1
  have tbh : w14.heap.size < w16.heap.size := (Rows.bcell (T := 32) (d := 3) (b := w14.heap.size) (cs := [.slice fh1 fh2 fh3, .slice fh4 fh5 fh6, .int .i64 XQ]) (q := 0) (HR.out.left) (List.mem_singleton.2 rfl) rfl).2
  have dbG0 : w16.cell? ⟨w5.heap.size, 0, none⟩ = some (.slice fG1 fG2 fG3) := (Rows.bcell (T := 32) (d := 3) (b := w5.heap.size) (cs := [.slice fG1 fG2 fG3, .slice fG4 fG5 fG6, .int .i64 XQ]) (q := 0) (HR.out.right.right.right.left) (List.mem_singleton.2 rfl) rfl).1
  have dbG1 : w16.cell? ⟨w5.heap.size, 1, none⟩ = some (.slice fG4 fG5 fG6) := (Rows.bcell (T := 32) (d := 3) (b := w5.heap.size) (cs := [.slice fG1 fG2 fG3, .slice fG4 fG5 fG6, .int .i64 XQ]) (q := 1) (HR.out.right.right.right.left) (List.mem_singleton.2 rfl) rfl).1
  have dbG2 : w16.cell? ⟨w5.heap.size, 2, none⟩ = some (.int .i64 XQ) := (Rows.bcell (T := 32) (d := 3) (b := w5.heap.size) (cs := [.slice fG1 fG2 fG3, .slice fG4 fG5 fG6, .int .i64 XQ]) (q := 2) (HR.out.right.right.right.left) (List.mem_singleton.2 rfl) rfl).1
  have tbG : w5.heap.size < w16.heap.size := (Rows.bcell (T := 32) (d := 3) (b := w5.heap.size) (cs := [.slice fG1 fG2 fG3, .slice fG4 fG5 fG6, .int .i64 XQ]) (q := 0) (HR.out.right.right.right.left) (List.mem_singleton.2 rfl) rfl).2
  have dbW0 : w16.cell? ⟨w3.heap.size, 0, none⟩ = some (.slice fW1 fW2 fW3) := (Rows.bcell (T := 32) (d := 3) (b := w3.heap.size) (cs := [.slice fW1 fW2 fW3, .slice fW4 fW5 fW6, .int .i64 XQ]) (q := 0) (HR.out.right.right.right.right.left) (List.mem_singleton.2 rfl) rfl).1
  have dbW1 : w16.cell? ⟨w3.heap.size, 1, none⟩ = some (.slice fW4 fW5 fW6) := (Rows.bcell (T := 32) (d := 3) (b := w3.heap.size) (cs := [.slice fW1 fW2 fW3, .slice fW4 fW5 fW6, .int .i64 XQ]) (q := 1) (HR.out.right.right.right.right.left) (List.mem_singleton.2 rfl) rfl).1
  have dbW2 : w16.cell? ⟨w3.heap.size, 2, none⟩ = some (.int .i64 XQ) := (Rows.bcell (T := 32) (d := 3) (b := w3.heap.size) (cs := [.slice fW1 fW2 fW3, .slice fW4 fW5 fW6, .int .i64 XQ]) (q := 2) (HR.out.right.right.right.right.left) (List.mem_singleton.2 rfl) rfl).1
  have tbW : w3.heap.size < w16.heap.size := (Rows.bcell (T := 32) (d := 3) (b := w3.heap.size) (cs := [.slice fW1 fW2 fW3, .slice fW4 fW5 fW6, .int .i64 XQ]) (q := 0) (HR.out.right.right.right.right.left) (List.mem_singleton.2 rfl) rfl).2
  have da00 : w16.cell? ⟨w.heap.size, 0, none⟩ = some (.slice Aa0 na0 ca0) := (Rows.bcell (T := 25) (d := 3) (b := w.heap.size) (cs := [.slice Aa0 na0 ca0, .slice Ab0 nb0 cb0, .int .i64 q0]) (q := 0) (HR.out.right.right.right.right.right.right) (List.mem_singleton.2 rfl) rfl).1
  have da01 : w16.cell? ⟨w.heap.size, 1, none⟩ = some (.slice Ab0 nb0 cb0) := (Rows.bcell (T := 25) (d := 3) (b := w.heap.size) (cs := [.slice Aa0 na0 ca0, .slice Ab0 nb0 cb0, .int .i64 q0]) (q := 1) (HR.out.right.right.right.right.right.right) (List.mem_singleton.2 rfl) rfl).1
  have da02 : w16.cell? ⟨w.heap.size, 2, none⟩ = some (.int .i64 q0) := (Rows.bcell (T := 25) (d := 3) (b := w.heap.size) (cs := [.slice Aa0 na0 ca0, .slice Ab0 nb0 cb0, .int .i64 q0]) (q := 2) (HR.out.right.right.right.right.right.right) (List.mem_singleton.2 rfl) rfl).1
  have ta0 : w.heap.size < w16.heap.size := (Rows.bcell (T := 25) (d := 3) (b := w.heap.size) (cs := [.slice Aa0 na0 ca0, .slice Ab0 nb0 cb0, .int .i64 q0]) (q := 0) (HR.out.right.right.right.right.right.right) (List.mem_singleton.2 rfl) rfl).2
  go_wp2_with fail
  go_ret
  exact ⟨rfl, HB.out⟩
end Go.Proofs.Ytbidlmejonpadaa
