/-
  WALK: the law FnExactSpotsOf. By gen_tree2.py.
-/
import Derived.Test.YtpfnjkmkenaipaaU6
import Derived.Test.YtpfnjkmkenaipaaOSpot
import Derived.Test.YtpfnjkmkenaipaaMarks
namespace Go.Proofs.Ytpfnjkmkenaipaa
open Go.RowKit Nm
set_option linter.unusedSimpArgs false
set_option linter.unusedVariables false

set_option maxHeartbeats 16000000 in
set_option maxRecDepth 100000 in
theorem walk_FnExactSpotsOf (Aa0 : Option Addr) (na0 ca0 : Nat) (Ab0 : Option Addr) (nb0 cb0 : Nat) (q0 : Int) (la0 : List LgrV) (lb0 : List HndV) (a1 : ByteArray) (w : World) (t0 : treeRaw w w.heap.size Aa0 na0 ca0 Ab0 nb0 cb0 la0 lb0) (m1 : a1.size ≤ maxLen) :
    Calls Try.prog 3 #[.agg #[.slice Aa0 na0 ca0, .slice Ab0 nb0 cb0, .int .i64 q0], .string a1] w (BoolPost w true) := by
  have T0 := hid t0
  clear t0
  have HB := hid (show Below w.heap.size w (w.alloc (.cells #[.slice Aa0 na0 ca0, .slice Ab0 nb0 cb0, .int .i64 q0] 25)) from (Below.refl _ _).alloc (Nat.le_refl _) _)
  have HR := hid (Rows.box w #[.slice Aa0 na0 ca0, .slice Ab0 nb0 cb0, .int .i64 q0] 25 3 rfl)
  have m1' := m1
  unfold maxLen at m1'
  by_cases q1 : (1048576 : Int) < (a1.size : Int)
  · go_enter Try.func3, Try.ntmps3
    go_wp2_with fail
    go_ret
    exact ⟨rfl, HB.out⟩
  have z1 : a1.size ≤ maxTxt := by unfold maxTxt; omega
  have da00 : (w.alloc (.cells #[.slice Aa0 na0 ca0, .slice Ab0 nb0 cb0, .int .i64 q0] 25)).cell? ⟨w.heap.size, 0, none⟩ = some (.slice Aa0 na0 ca0) := (Rows.bcell (T := 25) (d := 3) (b := w.heap.size) (cs := [.slice Aa0 na0 ca0, .slice Ab0 nb0 cb0, .int .i64 q0]) (q := 0) (HR.out) (List.mem_singleton.2 rfl) rfl).1
  have da01 : (w.alloc (.cells #[.slice Aa0 na0 ca0, .slice Ab0 nb0 cb0, .int .i64 q0] 25)).cell? ⟨w.heap.size, 1, none⟩ = some (.slice Ab0 nb0 cb0) := (Rows.bcell (T := 25) (d := 3) (b := w.heap.size) (cs := [.slice Aa0 na0 ca0, .slice Ab0 nb0 cb0, .int .i64 q0]) (q := 1) (HR.out) (List.mem_singleton.2 rfl) rfl).1
  have da02 : (w.alloc (.cells #[.slice Aa0 na0 ca0, .slice Ab0 nb0 cb0, .int .i64 q0] 25)).cell? ⟨w.heap.size, 2, none⟩ = some (.int .i64 q0) := (Rows.bcell (T := 25) (d := 3) (b := w.heap.size) (cs := [.slice Aa0 na0 ca0, .slice Ab0 nb0 cb0, .int .i64 q0]) (q := 2) (HR.out) (List.mem_singleton.2 rfl) rfl).1
  have ta0 : w.heap.size < (w.alloc (.cells #[.slice Aa0 na0 ca0, .slice Ab0 nb0 cb0, .int .i64 q0] 25)).heap.size := (Rows.bcell (T := 25) (d := 3) (b := w.heap.size) (cs := [.slice Aa0 na0 ca0, .slice Ab0 nb0 cb0, .int .i64 q0]) (q := 0) (HR.out) (List.mem_singleton.2 rfl) rfl).2
  go_enter Try.func3, Try.ntmps3
  go_wp2_with fail
  refine (szTree_c Aa0 na0 ca0 Ab0 nb0 cb0 w.heap.size q0 la0 lb0 _ _ (T0.out.below HB.out (Nat.le_refl _)) HB.out.size (by omega) (by omega)).mono ?_
  rintro e w1 ⟨r0, rfl, hb, hr⟩
  replace HR := hid (HR.out.below hb)
  replace HB := hid (HB.out.trans (hb.mono HB.out.size))
  clear hb
  clear da00 da01 da02 ta0
  have da00 : w1.cell? ⟨w.heap.size, 0, none⟩ = some (.slice Aa0 na0 ca0) := (Rows.bcell (T := 25) (d := 3) (b := w.heap.size) (cs := [.slice Aa0 na0 ca0, .slice Ab0 nb0 cb0, .int .i64 q0]) (q := 0) (HR.out) (List.mem_singleton.2 rfl) rfl).1
  have da01 : w1.cell? ⟨w.heap.size, 1, none⟩ = some (.slice Ab0 nb0 cb0) := (Rows.bcell (T := 25) (d := 3) (b := w.heap.size) (cs := [.slice Aa0 na0 ca0, .slice Ab0 nb0 cb0, .int .i64 q0]) (q := 1) (HR.out) (List.mem_singleton.2 rfl) rfl).1
  have da02 : w1.cell? ⟨w.heap.size, 2, none⟩ = some (.int .i64 q0) := (Rows.bcell (T := 25) (d := 3) (b := w.heap.size) (cs := [.slice Aa0 na0 ca0, .slice Ab0 nb0 cb0, .int .i64 q0]) (q := 2) (HR.out) (List.mem_singleton.2 rfl) rfl).1
  have ta0 : w.heap.size < w1.heap.size := (Rows.bcell (T := 25) (d := 3) (b := w.heap.size) (cs := [.slice Aa0 na0 ca0, .slice Ab0 nb0 cb0, .int .i64 q0]) (q := 0) (HR.out) (List.mem_singleton.2 rfl) rfl).2
  rcases hr with hr | ⟨hr0, hr1, hfit⟩
  · go_wp2_with fail
    go_ret
    exact ⟨rfl, HB.out⟩
  have F0 := hid hfit
  have D0 := hid (fit_data T0.out hfit)
  clear hfit
  have cS := fun (W : World) (v : Value) (B : Nat) (h : TreeIn W B v (lsOf la0) (hsOf lb0) q0) (hB : B ≤ W.heap.size) => specSpotsOf_c a1 h hB z1
  have cI := fun (W : World) (v : Value) (B : Nat) (h : TreeIn W B v (lsOf la0) (hsOf lb0) q0) (hB : B ≤ W.heap.size) => implSpotsOf_c a1 h hB (txt_len z1)
  have XL : (spotsT (lsOf la0) (hsOf lb0) q0 a1.data.toList).length ≤ 1048576 := Nat.le_trans (spotsT_len _ _ _ _) (by omega)
  generalize spotsT (lsOf la0) (hsOf lb0) q0 a1.data.toList = X at cS cI XL
  replace cS := hid cS
  replace cI := hid cI
  go_wp2_with fail
  refine (toTreeX_c Aa0 na0 ca0 Ab0 nb0 cb0 w.heap.size q0 la0 lb0 _ (T0.out.below HB.out (Nat.le_refl _)) F0.out HB.out.size).mono ?_
  rintro e w2 ⟨v, rs, rfl, hs, hr, hb⟩
  have Ss0 := hid hs
  obtain ⟨fs01, fs02, fs03, fs04, fs05, fs06, rfl⟩ := (hs.at_ hr D0.out).form
  clear hs
  replace HR := hid (HR.out.newer hb hr HB.out.size)
  replace HB := hid (HB.out.trans (hb.mono HB.out.size))
  clear hb hr
  clear da00 da01 da02 ta0
  have da00 : w2.cell? ⟨w.heap.size, 0, none⟩ = some (.slice Aa0 na0 ca0) := (Rows.bcell (T := 25) (d := 3) (b := w.heap.size) (cs := [.slice Aa0 na0 ca0, .slice Ab0 nb0 cb0, .int .i64 q0]) (q := 0) (HR.out.right) (List.mem_singleton.2 rfl) rfl).1
  have da01 : w2.cell? ⟨w.heap.size, 1, none⟩ = some (.slice Ab0 nb0 cb0) := (Rows.bcell (T := 25) (d := 3) (b := w.heap.size) (cs := [.slice Aa0 na0 ca0, .slice Ab0 nb0 cb0, .int .i64 q0]) (q := 1) (HR.out.right) (List.mem_singleton.2 rfl) rfl).1
  have da02 : w2.cell? ⟨w.heap.size, 2, none⟩ = some (.int .i64 q0) := (Rows.bcell (T := 25) (d := 3) (b := w.heap.size) (cs := [.slice Aa0 na0 ca0, .slice Ab0 nb0 cb0, .int .i64 q0]) (q := 2) (HR.out.right) (List.mem_singleton.2 rfl) rfl).1
  have ta0 : w.heap.size < w2.heap.size := (Rows.bcell (T := 25) (d := 3) (b := w.heap.size) (cs := [.slice Aa0 na0 ca0, .slice Ab0 nb0 cb0, .int .i64 q0]) (q := 0) (HR.out.right) (List.mem_singleton.2 rfl) rfl).2
  go_wp2_with fail
  refine (cS.out _ _ _ (Ss0.out.at_ (HR.out.left) D0.out) (Nat.le_refl _)).mono ?_
  rintro e w3 ⟨v, rfl, ho, hb⟩
  have hr := Rows.one (r := ⟨_, _, _, _, _⟩) ho
  obtain ⟨AW, kW, rfl, _, _⟩ := (Sl.of_own ho).form
  clear ho
  replace HR := hid (HR.out.newer hb hr HB.out.size)
  replace HB := hid (HB.out.trans (hb.mono HB.out.size))
  clear hb hr
  clear da00 da01 da02 ta0
  have da00 : w3.cell? ⟨w.heap.size, 0, none⟩ = some (.slice Aa0 na0 ca0) := (Rows.bcell (T := 25) (d := 3) (b := w.heap.size) (cs := [.slice Aa0 na0 ca0, .slice Ab0 nb0 cb0, .int .i64 q0]) (q := 0) (HR.out.right.right) (List.mem_singleton.2 rfl) rfl).1
  have da01 : w3.cell? ⟨w.heap.size, 1, none⟩ = some (.slice Ab0 nb0 cb0) := (Rows.bcell (T := 25) (d := 3) (b := w.heap.size) (cs := [.slice Aa0 na0 ca0, .slice Ab0 nb0 cb0, .int .i64 q0]) (q := 1) (HR.out.right.right) (List.mem_singleton.2 rfl) rfl).1
  have da02 : w3.cell? ⟨w.heap.size, 2, none⟩ = some (.int .i64 q0) := (Rows.bcell (T := 25) (d := 3) (b := w.heap.size) (cs := [.slice Aa0 na0 ca0, .slice Ab0 nb0 cb0, .int .i64 q0]) (q := 2) (HR.out.right.right) (List.mem_singleton.2 rfl) rfl).1
  have ta0 : w.heap.size < w3.heap.size := (Rows.bcell (T := 25) (d := 3) (b := w.heap.size) (cs := [.slice Aa0 na0 ca0, .slice Ab0 nb0 cb0, .int .i64 q0]) (q := 0) (HR.out.right.right) (List.mem_singleton.2 rfl) rfl).2
  replace HR := hid (HR.out.sub ((List.Sublist.refl _).append (List.sublist_append_right _ _)))
  clear Ss0
  go_wp2_with fail
  refine (toTreeX_c Aa0 na0 ca0 Ab0 nb0 cb0 w.heap.size q0 la0 lb0 _ (T0.out.below HB.out (Nat.le_refl _)) F0.out HB.out.size).mono ?_
  rintro e w4 ⟨v, rs, rfl, hs, hr, hb⟩
  have Sx0 := hid hs
  obtain ⟨fx01, fx02, fx03, fx04, fx05, fx06, rfl⟩ := (hs.at_ hr D0.out).form
  clear hs
  replace HR := hid (HR.out.newer hb hr HB.out.size)
  replace HB := hid (HB.out.trans (hb.mono HB.out.size))
  clear hb hr
  clear da00 da01 da02 ta0
  have da00 : w4.cell? ⟨w.heap.size, 0, none⟩ = some (.slice Aa0 na0 ca0) := (Rows.bcell (T := 25) (d := 3) (b := w.heap.size) (cs := [.slice Aa0 na0 ca0, .slice Ab0 nb0 cb0, .int .i64 q0]) (q := 0) (HR.out.right.right) (List.mem_singleton.2 rfl) rfl).1
  have da01 : w4.cell? ⟨w.heap.size, 1, none⟩ = some (.slice Ab0 nb0 cb0) := (Rows.bcell (T := 25) (d := 3) (b := w.heap.size) (cs := [.slice Aa0 na0 ca0, .slice Ab0 nb0 cb0, .int .i64 q0]) (q := 1) (HR.out.right.right) (List.mem_singleton.2 rfl) rfl).1
  have da02 : w4.cell? ⟨w.heap.size, 2, none⟩ = some (.int .i64 q0) := (Rows.bcell (T := 25) (d := 3) (b := w.heap.size) (cs := [.slice Aa0 na0 ca0, .slice Ab0 nb0 cb0, .int .i64 q0]) (q := 2) (HR.out.right.right) (List.mem_singleton.2 rfl) rfl).1
  have ta0 : w.heap.size < w4.heap.size := (Rows.bcell (T := 25) (d := 3) (b := w.heap.size) (cs := [.slice Aa0 na0 ca0, .slice Ab0 nb0 cb0, .int .i64 q0]) (q := 0) (HR.out.right.right) (List.mem_singleton.2 rfl) rfl).2
  have hb : Below w4.heap.size w4 (w4.alloc (.cells #[.slice fx01 fx02 fx03, .slice fx04 fx05 fx06, .int .i64 q0] 32)) := (Below.refl _ _).alloc (Nat.le_refl _) _
  have hr := Rows.box w4 #[.slice fx01 fx02 fx03, .slice fx04 fx05 fx06, .int .i64 q0] 32 3 rfl
  replace HR := hid (HR.out.newer hb hr HB.out.size)
  replace HB := hid (HB.out.trans (hb.mono HB.out.size))
  clear hb hr
  clear da00 da01 da02 ta0
  have dbx00 : (w4.alloc (.cells #[.slice fx01 fx02 fx03, .slice fx04 fx05 fx06, .int .i64 q0] 32)).cell? ⟨w4.heap.size, 0, none⟩ = some (.slice fx01 fx02 fx03) := (Rows.bcell (T := 32) (d := 3) (b := w4.heap.size) (cs := [.slice fx01 fx02 fx03, .slice fx04 fx05 fx06, .int .i64 q0]) (q := 0) (HR.out.left) (List.mem_singleton.2 rfl) rfl).1
  have dbx01 : (w4.alloc (.cells #[.slice fx01 fx02 fx03, .slice fx04 fx05 fx06, .int .i64 q0] 32)).cell? ⟨w4.heap.size, 1, none⟩ = some (.slice fx04 fx05 fx06) := (Rows.bcell (T := 32) (d := 3) (b := w4.heap.size) (cs := [.slice fx01 fx02 fx03, .slice fx04 fx05 fx06, .int .i64 q0]) (q := 1) (HR.out.left) (List.mem_singleton.2 rfl) rfl).1
  have dbx02 : (w4.alloc (.cells #[.slice fx01 fx02 fx03, .slice fx04 fx05 fx06, .int .i64 q0] 32)).cell? ⟨w4.heap.size, 2, none⟩ = some (.int .i64 q0) := (Rows.bcell (T := 32) (d := 3) (b := w4.heap.size) (cs := [.slice fx01 fx02 fx03, .slice fx04 fx05 fx06, .int .i64 q0]) (q := 2) (HR.out.left) (List.mem_singleton.2 rfl) rfl).1
  have tbx0 : w4.heap.size < (w4.alloc (.cells #[.slice fx01 fx02 fx03, .slice fx04 fx05 fx06, .int .i64 q0] 32)).heap.size := (Rows.bcell (T := 32) (d := 3) (b := w4.heap.size) (cs := [.slice fx01 fx02 fx03, .slice fx04 fx05 fx06, .int .i64 q0]) (q := 0) (HR.out.left) (List.mem_singleton.2 rfl) rfl).2
  have da00 : (w4.alloc (.cells #[.slice fx01 fx02 fx03, .slice fx04 fx05 fx06, .int .i64 q0] 32)).cell? ⟨w.heap.size, 0, none⟩ = some (.slice Aa0 na0 ca0) := (Rows.bcell (T := 25) (d := 3) (b := w.heap.size) (cs := [.slice Aa0 na0 ca0, .slice Ab0 nb0 cb0, .int .i64 q0]) (q := 0) (HR.out.right.right.right) (List.mem_singleton.2 rfl) rfl).1
  have da01 : (w4.alloc (.cells #[.slice fx01 fx02 fx03, .slice fx04 fx05 fx06, .int .i64 q0] 32)).cell? ⟨w.heap.size, 1, none⟩ = some (.slice Ab0 nb0 cb0) := (Rows.bcell (T := 25) (d := 3) (b := w.heap.size) (cs := [.slice Aa0 na0 ca0, .slice Ab0 nb0 cb0, .int .i64 q0]) (q := 1) (HR.out.right.right.right) (List.mem_singleton.2 rfl) rfl).1
  have da02 : (w4.alloc (.cells #[.slice fx01 fx02 fx03, .slice fx04 fx05 fx06, .int .i64 q0] 32)).cell? ⟨w.heap.size, 2, none⟩ = some (.int .i64 q0) := (Rows.bcell (T := 25) (d := 3) (b := w.heap.size) (cs := [.slice Aa0 na0 ca0, .slice Ab0 nb0 cb0, .int .i64 q0]) (q := 2) (HR.out.right.right.right) (List.mem_singleton.2 rfl) rfl).1
  have ta0 : w.heap.size < (w4.alloc (.cells #[.slice fx01 fx02 fx03, .slice fx04 fx05 fx06, .int .i64 q0] 32)).heap.size := (Rows.bcell (T := 25) (d := 3) (b := w.heap.size) (cs := [.slice Aa0 na0 ca0, .slice Ab0 nb0 cb0, .int .i64 q0]) (q := 0) (HR.out.right.right.right) (List.mem_singleton.2 rfl) rfl).2
  go_wp2_with fail
  refine (cI.out _ _ _ (Sx0.out.at_ (HR.out.right.left) D0.out) (Nat.le_refl _)).mono ?_
  rintro e w5 ⟨v, rfl, ho, hb⟩
  have hr := Rows.one (r := ⟨_, _, _, _, _⟩) ho
  obtain ⟨AG, kG, rfl, _, _⟩ := (Sl.of_own ho).form
  clear ho
  replace HR := hid (HR.out.newer hb hr HB.out.size)
  replace HB := hid (HB.out.trans (hb.mono HB.out.size))
  clear hb hr
  clear dbx00 dbx01 dbx02 tbx0 da00 da01 da02 ta0
  have dbx00 : w5.cell? ⟨w4.heap.size, 0, none⟩ = some (.slice fx01 fx02 fx03) := (Rows.bcell (T := 32) (d := 3) (b := w4.heap.size) (cs := [.slice fx01 fx02 fx03, .slice fx04 fx05 fx06, .int .i64 q0]) (q := 0) (HR.out.right.left) (List.mem_singleton.2 rfl) rfl).1
  have dbx01 : w5.cell? ⟨w4.heap.size, 1, none⟩ = some (.slice fx04 fx05 fx06) := (Rows.bcell (T := 32) (d := 3) (b := w4.heap.size) (cs := [.slice fx01 fx02 fx03, .slice fx04 fx05 fx06, .int .i64 q0]) (q := 1) (HR.out.right.left) (List.mem_singleton.2 rfl) rfl).1
  have dbx02 : w5.cell? ⟨w4.heap.size, 2, none⟩ = some (.int .i64 q0) := (Rows.bcell (T := 32) (d := 3) (b := w4.heap.size) (cs := [.slice fx01 fx02 fx03, .slice fx04 fx05 fx06, .int .i64 q0]) (q := 2) (HR.out.right.left) (List.mem_singleton.2 rfl) rfl).1
  have tbx0 : w4.heap.size < w5.heap.size := (Rows.bcell (T := 32) (d := 3) (b := w4.heap.size) (cs := [.slice fx01 fx02 fx03, .slice fx04 fx05 fx06, .int .i64 q0]) (q := 0) (HR.out.right.left) (List.mem_singleton.2 rfl) rfl).2
  have da00 : w5.cell? ⟨w.heap.size, 0, none⟩ = some (.slice Aa0 na0 ca0) := (Rows.bcell (T := 25) (d := 3) (b := w.heap.size) (cs := [.slice Aa0 na0 ca0, .slice Ab0 nb0 cb0, .int .i64 q0]) (q := 0) (HR.out.right.right.right.right) (List.mem_singleton.2 rfl) rfl).1
  have da01 : w5.cell? ⟨w.heap.size, 1, none⟩ = some (.slice Ab0 nb0 cb0) := (Rows.bcell (T := 25) (d := 3) (b := w.heap.size) (cs := [.slice Aa0 na0 ca0, .slice Ab0 nb0 cb0, .int .i64 q0]) (q := 1) (HR.out.right.right.right.right) (List.mem_singleton.2 rfl) rfl).1
  have da02 : w5.cell? ⟨w.heap.size, 2, none⟩ = some (.int .i64 q0) := (Rows.bcell (T := 25) (d := 3) (b := w.heap.size) (cs := [.slice Aa0 na0 ca0, .slice Ab0 nb0 cb0, .int .i64 q0]) (q := 2) (HR.out.right.right.right.right) (List.mem_singleton.2 rfl) rfl).1
  have ta0 : w.heap.size < w5.heap.size := (Rows.bcell (T := 25) (d := 3) (b := w.heap.size) (cs := [.slice Aa0 na0 ca0, .slice Ab0 nb0 cb0, .int .i64 q0]) (q := 0) (HR.out.right.right.right.right) (List.mem_singleton.2 rfl) rfl).2
  go_wp2_with fail
  refine (eqSpotS_c _ _ _ _ X _ (Sl.of_own (HR.out.left).head) (Sl.of_own (HR.out.right.right.right.left).head) (Nat.le_refl _)).mono ?_
  rintro e w6 ⟨rfl, hb⟩
  replace HR := hid (HR.out.below hb)
  replace HB := hid (HB.out.trans (hb.mono HB.out.size))
  clear hb
  clear dbx00 dbx01 dbx02 tbx0 da00 da01 da02 ta0
  have dbx00 : w6.cell? ⟨w4.heap.size, 0, none⟩ = some (.slice fx01 fx02 fx03) := (Rows.bcell (T := 32) (d := 3) (b := w4.heap.size) (cs := [.slice fx01 fx02 fx03, .slice fx04 fx05 fx06, .int .i64 q0]) (q := 0) (HR.out.right.left) (List.mem_singleton.2 rfl) rfl).1
  have dbx01 : w6.cell? ⟨w4.heap.size, 1, none⟩ = some (.slice fx04 fx05 fx06) := (Rows.bcell (T := 32) (d := 3) (b := w4.heap.size) (cs := [.slice fx01 fx02 fx03, .slice fx04 fx05 fx06, .int .i64 q0]) (q := 1) (HR.out.right.left) (List.mem_singleton.2 rfl) rfl).1
  have dbx02 : w6.cell? ⟨w4.heap.size, 2, none⟩ = some (.int .i64 q0) := (Rows.bcell (T := 32) (d := 3) (b := w4.heap.size) (cs := [.slice fx01 fx02 fx03, .slice fx04 fx05 fx06, .int .i64 q0]) (q := 2) (HR.out.right.left) (List.mem_singleton.2 rfl) rfl).1
  have tbx0 : w4.heap.size < w6.heap.size := (Rows.bcell (T := 32) (d := 3) (b := w4.heap.size) (cs := [.slice fx01 fx02 fx03, .slice fx04 fx05 fx06, .int .i64 q0]) (q := 0) (HR.out.right.left) (List.mem_singleton.2 rfl) rfl).2
  have da00 : w6.cell? ⟨w.heap.size, 0, none⟩ = some (.slice Aa0 na0 ca0) := (Rows.bcell (T := 25) (d := 3) (b := w.heap.size) (cs := [.slice Aa0 na0 ca0, .slice Ab0 nb0 cb0, .int .i64 q0]) (q := 0) (HR.out.right.right.right.right) (List.mem_singleton.2 rfl) rfl).1
  have da01 : w6.cell? ⟨w.heap.size, 1, none⟩ = some (.slice Ab0 nb0 cb0) := (Rows.bcell (T := 25) (d := 3) (b := w.heap.size) (cs := [.slice Aa0 na0 ca0, .slice Ab0 nb0 cb0, .int .i64 q0]) (q := 1) (HR.out.right.right.right.right) (List.mem_singleton.2 rfl) rfl).1
  have da02 : w6.cell? ⟨w.heap.size, 2, none⟩ = some (.int .i64 q0) := (Rows.bcell (T := 25) (d := 3) (b := w.heap.size) (cs := [.slice Aa0 na0 ca0, .slice Ab0 nb0 cb0, .int .i64 q0]) (q := 2) (HR.out.right.right.right.right) (List.mem_singleton.2 rfl) rfl).1
  have ta0 : w.heap.size < w6.heap.size := (Rows.bcell (T := 25) (d := 3) (b := w.heap.size) (cs := [.slice Aa0 na0 ca0, .slice Ab0 nb0 cb0, .int .i64 q0]) (q := 0) (HR.out.right.right.right.right) (List.mem_singleton.2 rfl) rfl).2
  go_wp2_with fail
  refine wp_region_held_drew (S := (fun w' : World => w'.cell? ⟨w4.heap.size, 0, none⟩ = some (.slice fx01 fx02 fx03) ∧ w'.cell? ⟨w4.heap.size, 1, none⟩ = some (.slice fx04 fx05 fx06) ∧ w'.cell? ⟨w4.heap.size, 2, none⟩ = some (.int .i64 q0) ∧ w'.cell? ⟨w.heap.size, 0, none⟩ = some (.slice Aa0 na0 ca0) ∧ w'.cell? ⟨w.heap.size, 1, none⟩ = some (.slice Ab0 nb0 cb0) ∧ w'.cell? ⟨w.heap.size, 2, none⟩ = some (.int .i64 q0))) (by kernel_rfl) ⟨dbx00, dbx01, dbx02, da00, da01, da02⟩ (fun hS => ?_)
  refine wpAnyH_take (i := 0) (oi := ?oi101) (v := ?v101) ?hi101 (by kernel_rfl) ?hf101 ?hr101 ?hQ101 (Or.inl ⟨?hw101, ?hy101⟩) (by assumption) ?rest101
  case hi101 => simp only [List.getElem?_toArray, List.getElem?_cons_succ, List.getElem?_cons_zero]; rfl
  case hf101 => kernel_rfl
  case hr101 => kernel_rfl
  case hw101 => rfl
  case hy101 => (intro w hSw; (try dsimp only at hSw); go_simp; all_goals (first | done | with_reducible rfl))
  case hQ101 => exact fun _ _ _ h => h
  simp only [Act.put, List.setIfInBounds_toArray, List.set_cons_zero, List.set_cons_succ]
  refine wpAnyH_take (i := 1) (oi := ?oi102) (v := ?v102) ?hi102 (by kernel_rfl) ?hf102 ?hr102 ?hQ102 (Or.inl ⟨?hw102, ?hy102⟩) (by assumption) ?rest102
  case hi102 => simp only [List.getElem?_toArray, List.getElem?_cons_succ, List.getElem?_cons_zero]; rfl
  case hf102 => kernel_rfl
  case hr102 => kernel_rfl
  case hw102 => rfl
  case hy102 => (intro w hSw; (try dsimp only at hSw); go_simp; all_goals (first | done | with_reducible rfl))
  case hQ102 => exact fun _ _ _ h => h
  simp only [Act.put, List.setIfInBounds_toArray, List.set_cons_zero, List.set_cons_succ]
  refine wpAnyH_ready (rs := [2]) (by kernel_rfl) (by simp) ?_
  refine AllReadyH.cons (o := ?oi103) ?hi103 (fun K hK => ?step103) AllReadyH.nil
  case hi103 => simp only [List.getElem?_toArray, List.getElem?_cons_succ, List.getElem?_cons_zero]; rfl
  rw [if_pos (by rfl)]
  go_simp
  go_at_call 10
  refine (toTreeX_c Aa0 na0 ca0 Ab0 nb0 cb0 w.heap.size q0 la0 lb0 _ (T0.out.below HB.out.drew (Nat.le_refl _)) F0.out HB.out.drew.size).mono ?_
  rintro e w7 ⟨v, rs, rfl, hs, hr, hb⟩
  refine hK.out _ _ ⟨(hb.cell (p := ⟨w4.heap.size, _, none⟩) tbx0).trans dbx00, (hb.cell (p := ⟨w4.heap.size, _, none⟩) tbx0).trans dbx01, (hb.cell (p := ⟨w4.heap.size, _, none⟩) tbx0).trans dbx02, (hb.cell (p := ⟨w.heap.size, _, none⟩) ta0).trans da00, (hb.cell (p := ⟨w.heap.size, _, none⟩) ta0).trans da01, (hb.cell (p := ⟨w.heap.size, _, none⟩) ta0).trans da02⟩ (fun hS9 => ?_)
  have HR2 := hid ((HR.out.below ((Below.refl _ _).drew)).newer hb hr HB.out.drew.size)
  replace tbx0 := Nat.lt_of_lt_of_le tbx0 hb.size
  replace ta0 := Nat.lt_of_lt_of_le ta0 hb.size
  refine wpAnyH_ready (rs := [3]) (by kernel_rfl) (by simp) ?_
  refine AllReadyH.cons (o := ?oi104) ?hi104 (fun K hK => ?step104) AllReadyH.nil
  case hi104 => simp only [List.getElem?_toArray, List.getElem?_cons_succ, List.getElem?_cons_zero]; rfl
  rw [if_pos (by rfl)]
  go_simp
  go_at_call 13
  refine (eqTreeX_c Sx0.out (HR2.out.right.right.right.left) hs HR2.out.left D0.out).mono ?_
  rintro e w8 ⟨rfl, hb9⟩
  refine hK.out _ _ ⟨(hb9.cell (p := ⟨w4.heap.size, _, none⟩) tbx0).trans hS9.1, (hb9.cell (p := ⟨w4.heap.size, _, none⟩) tbx0).trans hS9.2.1, (hb9.cell (p := ⟨w4.heap.size, _, none⟩) tbx0).trans hS9.2.2.1, (hb9.cell (p := ⟨w.heap.size, _, none⟩) ta0).trans hS9.2.2.2.1, (hb9.cell (p := ⟨w.heap.size, _, none⟩) ta0).trans hS9.2.2.2.2.1, (hb9.cell (p := ⟨w.heap.size, _, none⟩) ta0).trans hS9.2.2.2.2.2⟩ (fun hS9 => ?_)
  have hb := ((Below.refl w6.heap.size w6).drew.trans hb).trans (hb9.mono ((Below.refl w6.heap.size w6).drew.trans hb).size)
  replace HR := hid (HR2.out.right.below hb9)
  clear HR2 hb9 hr hs
  refine wpAnyH_take (i := 4) (oi := ?oi105) (v := ?v105) ?hi105 (by kernel_rfl) ?hf105 ?hr105 ?hQ105 (Or.inl ⟨?hw105, ?hy105⟩) (by assumption) ?rest105
  case hi105 => simp only [List.getElem?_toArray, List.getElem?_cons_succ, List.getElem?_cons_zero]; rfl
  case hf105 => kernel_rfl
  case hr105 => kernel_rfl
  case hw105 => rfl
  case hy105 => (intro w hSw; (try dsimp only at hSw); go_simp; all_goals (first | done | with_reducible rfl))
  case hQ105 => exact fun _ _ _ h => h
  simp only [Act.put, List.setIfInBounds_toArray, List.set_cons_zero, List.set_cons_succ]
  refine wpAnyH_done (by kernel_rfl) ?_ _
  replace HB := hid (HB.out.trans (hb.mono HB.out.size))
  clear hb
  clear dbx00 dbx01 dbx02 tbx0 da00 da01 da02 ta0
  have dbx00 : w8.cell? ⟨w4.heap.size, 0, none⟩ = some (.slice fx01 fx02 fx03) := (Rows.bcell (T := 32) (d := 3) (b := w4.heap.size) (cs := [.slice fx01 fx02 fx03, .slice fx04 fx05 fx06, .int .i64 q0]) (q := 0) (HR.out.right.left) (List.mem_singleton.2 rfl) rfl).1
  have dbx01 : w8.cell? ⟨w4.heap.size, 1, none⟩ = some (.slice fx04 fx05 fx06) := (Rows.bcell (T := 32) (d := 3) (b := w4.heap.size) (cs := [.slice fx01 fx02 fx03, .slice fx04 fx05 fx06, .int .i64 q0]) (q := 1) (HR.out.right.left) (List.mem_singleton.2 rfl) rfl).1
  have dbx02 : w8.cell? ⟨w4.heap.size, 2, none⟩ = some (.int .i64 q0) := (Rows.bcell (T := 32) (d := 3) (b := w4.heap.size) (cs := [.slice fx01 fx02 fx03, .slice fx04 fx05 fx06, .int .i64 q0]) (q := 2) (HR.out.right.left) (List.mem_singleton.2 rfl) rfl).1
  have tbx0 : w4.heap.size < w8.heap.size := (Rows.bcell (T := 32) (d := 3) (b := w4.heap.size) (cs := [.slice fx01 fx02 fx03, .slice fx04 fx05 fx06, .int .i64 q0]) (q := 0) (HR.out.right.left) (List.mem_singleton.2 rfl) rfl).2
  have da00 : w8.cell? ⟨w.heap.size, 0, none⟩ = some (.slice Aa0 na0 ca0) := (Rows.bcell (T := 25) (d := 3) (b := w.heap.size) (cs := [.slice Aa0 na0 ca0, .slice Ab0 nb0 cb0, .int .i64 q0]) (q := 0) (HR.out.right.right.right.right) (List.mem_singleton.2 rfl) rfl).1
  have da01 : w8.cell? ⟨w.heap.size, 1, none⟩ = some (.slice Ab0 nb0 cb0) := (Rows.bcell (T := 25) (d := 3) (b := w.heap.size) (cs := [.slice Aa0 na0 ca0, .slice Ab0 nb0 cb0, .int .i64 q0]) (q := 1) (HR.out.right.right.right.right) (List.mem_singleton.2 rfl) rfl).1
  have da02 : w8.cell? ⟨w.heap.size, 2, none⟩ = some (.int .i64 q0) := (Rows.bcell (T := 25) (d := 3) (b := w.heap.size) (cs := [.slice Aa0 na0 ca0, .slice Ab0 nb0 cb0, .int .i64 q0]) (q := 2) (HR.out.right.right.right.right) (List.mem_singleton.2 rfl) rfl).1
  have ta0 : w.heap.size < w8.heap.size := (Rows.bcell (T := 25) (d := 3) (b := w.heap.size) (cs := [.slice Aa0 na0 ca0, .slice Ab0 nb0 cb0, .int .i64 q0]) (q := 0) (HR.out.right.right.right.right) (List.mem_singleton.2 rfl) rfl).2
  replace HR := hid (HR.out.perm (((List.perm_append_comm_assoc _ _ _).append_left _).trans (List.perm_append_comm_assoc _ _ _)))
  go_wp2_with fail
  refine (markTreeX_c (k := 1) Sx0.out HR.out HB.out.size D0.out (by omega)).mono ?_
  rintro e w9 ⟨rx0, rsx0, rfl, hstx0, hr, hb⟩
  replace HR := hid hr
  replace HB := hid (HB.out.trans hb)
  have Stx0 := hid hstx0
  clear hr hb hstx0 Sx0
  clear dbx00 dbx01 dbx02 tbx0 da00 da01 da02 ta0
  have dbx00 : w9.cell? ⟨w4.heap.size, 0, none⟩ = some (.slice fx01 fx02 fx03) := (Rows.bcell (T := 32) (d := 3) (b := w4.heap.size) (cs := [.slice fx01 fx02 fx03, .slice fx04 fx05 fx06, .int .i64 q0]) (q := 0) (HR.out.right.right.left) (List.mem_singleton.2 rfl) rfl).1
  have dbx01 : w9.cell? ⟨w4.heap.size, 1, none⟩ = some (.slice fx04 fx05 fx06) := (Rows.bcell (T := 32) (d := 3) (b := w4.heap.size) (cs := [.slice fx01 fx02 fx03, .slice fx04 fx05 fx06, .int .i64 q0]) (q := 1) (HR.out.right.right.left) (List.mem_singleton.2 rfl) rfl).1
  have dbx02 : w9.cell? ⟨w4.heap.size, 2, none⟩ = some (.int .i64 q0) := (Rows.bcell (T := 32) (d := 3) (b := w4.heap.size) (cs := [.slice fx01 fx02 fx03, .slice fx04 fx05 fx06, .int .i64 q0]) (q := 2) (HR.out.right.right.left) (List.mem_singleton.2 rfl) rfl).1
  have tbx0 : w4.heap.size < w9.heap.size := (Rows.bcell (T := 32) (d := 3) (b := w4.heap.size) (cs := [.slice fx01 fx02 fx03, .slice fx04 fx05 fx06, .int .i64 q0]) (q := 0) (HR.out.right.right.left) (List.mem_singleton.2 rfl) rfl).2
  have da00 : w9.cell? ⟨w.heap.size, 0, none⟩ = some (.slice Aa0 na0 ca0) := (Rows.bcell (T := 25) (d := 3) (b := w.heap.size) (cs := [.slice Aa0 na0 ca0, .slice Ab0 nb0 cb0, .int .i64 q0]) (q := 0) (HR.out.right.right.right.right) (List.mem_singleton.2 rfl) rfl).1
  have da01 : w9.cell? ⟨w.heap.size, 1, none⟩ = some (.slice Ab0 nb0 cb0) := (Rows.bcell (T := 25) (d := 3) (b := w.heap.size) (cs := [.slice Aa0 na0 ca0, .slice Ab0 nb0 cb0, .int .i64 q0]) (q := 1) (HR.out.right.right.right.right) (List.mem_singleton.2 rfl) rfl).1
  have da02 : w9.cell? ⟨w.heap.size, 2, none⟩ = some (.int .i64 q0) := (Rows.bcell (T := 25) (d := 3) (b := w.heap.size) (cs := [.slice Aa0 na0 ca0, .slice Ab0 nb0 cb0, .int .i64 q0]) (q := 2) (HR.out.right.right.right.right) (List.mem_singleton.2 rfl) rfl).1
  have ta0 : w.heap.size < w9.heap.size := (Rows.bcell (T := 25) (d := 3) (b := w.heap.size) (cs := [.slice Aa0 na0 ca0, .slice Ab0 nb0 cb0, .int .i64 q0]) (q := 0) (HR.out.right.right.right.right) (List.mem_singleton.2 rfl) rfl).2
  replace HR := hid (HR.out.sub (List.sublist_append_right _ _))
  clear Stx0
  replace HR := hid (HR.out.sub ((List.Sublist.refl _).append (List.sublist_append_right _ _)))
  clear dbx00 dbx01 dbx02 tbx0 da00 da01 da02 ta0
  have da00 : w9.cell? ⟨w.heap.size, 0, none⟩ = some (.slice Aa0 na0 ca0) := (Rows.bcell (T := 25) (d := 3) (b := w.heap.size) (cs := [.slice Aa0 na0 ca0, .slice Ab0 nb0 cb0, .int .i64 q0]) (q := 0) (HR.out.right.right) (List.mem_singleton.2 rfl) rfl).1
  have da01 : w9.cell? ⟨w.heap.size, 1, none⟩ = some (.slice Ab0 nb0 cb0) := (Rows.bcell (T := 25) (d := 3) (b := w.heap.size) (cs := [.slice Aa0 na0 ca0, .slice Ab0 nb0 cb0, .int .i64 q0]) (q := 1) (HR.out.right.right) (List.mem_singleton.2 rfl) rfl).1
  have da02 : w9.cell? ⟨w.heap.size, 2, none⟩ = some (.int .i64 q0) := (Rows.bcell (T := 25) (d := 3) (b := w.heap.size) (cs := [.slice Aa0 na0 ca0, .slice Ab0 nb0 cb0, .int .i64 q0]) (q := 2) (HR.out.right.right) (List.mem_singleton.2 rfl) rfl).1
  have ta0 : w.heap.size < w9.heap.size := (Rows.bcell (T := 25) (d := 3) (b := w.heap.size) (cs := [.slice Aa0 na0 ca0, .slice Ab0 nb0 cb0, .int .i64 q0]) (q := 0) (HR.out.right.right) (List.mem_singleton.2 rfl) rfl).2
  go_wp2_with fail
  refine (eqSpotS_c _ _ _ _ X _ (Sl.of_own (HR.out.left).head) (Sl.of_own (HR.out.right.left).head) (Nat.le_refl _)).mono ?_
  rintro e w10 ⟨rfl, hb⟩
  replace HR := hid (HR.out.below hb)
  replace HB := hid (HB.out.trans (hb.mono HB.out.size))
  clear hb
  clear da00 da01 da02 ta0
  have da00 : w10.cell? ⟨w.heap.size, 0, none⟩ = some (.slice Aa0 na0 ca0) := (Rows.bcell (T := 25) (d := 3) (b := w.heap.size) (cs := [.slice Aa0 na0 ca0, .slice Ab0 nb0 cb0, .int .i64 q0]) (q := 0) (HR.out.right.right) (List.mem_singleton.2 rfl) rfl).1
  have da01 : w10.cell? ⟨w.heap.size, 1, none⟩ = some (.slice Ab0 nb0 cb0) := (Rows.bcell (T := 25) (d := 3) (b := w.heap.size) (cs := [.slice Aa0 na0 ca0, .slice Ab0 nb0 cb0, .int .i64 q0]) (q := 1) (HR.out.right.right) (List.mem_singleton.2 rfl) rfl).1
  have da02 : w10.cell? ⟨w.heap.size, 2, none⟩ = some (.int .i64 q0) := (Rows.bcell (T := 25) (d := 3) (b := w.heap.size) (cs := [.slice Aa0 na0 ca0, .slice Ab0 nb0 cb0, .int .i64 q0]) (q := 2) (HR.out.right.right) (List.mem_singleton.2 rfl) rfl).1
  have ta0 : w.heap.size < w10.heap.size := (Rows.bcell (T := 25) (d := 3) (b := w.heap.size) (cs := [.slice Aa0 na0 ca0, .slice Ab0 nb0 cb0, .int .i64 q0]) (q := 0) (HR.out.right.right) (List.mem_singleton.2 rfl) rfl).2
  have hG := hid (show w10.ownsRow w.heap.size 50 2 (.slice AG X.length kG) X.length (X.flatMap spcells) from HR.out.head)
  go_wp2_with fail
  refine (markSpotS_c _ _ _ 1 _ _ hG.out (by omega)).mono ?_
  rintro e w11 ⟨rfl, ⟨ysG, ho, hM⟩, hg⟩
  have hlo := own_lt hG.out
  replace HR := hid (Rows.write1 HR.out hg ho)
  replace HB := hid (HB.out.grown hg HB.out.size hlo)
  have MG := hid hM
  clear ho hM hg hG hlo
  clear da00 da01 da02 ta0
  have da00 : w11.cell? ⟨w.heap.size, 0, none⟩ = some (.slice Aa0 na0 ca0) := (Rows.bcell (T := 25) (d := 3) (b := w.heap.size) (cs := [.slice Aa0 na0 ca0, .slice Ab0 nb0 cb0, .int .i64 q0]) (q := 0) (HR.out.right.right) (List.mem_singleton.2 rfl) rfl).1
  have da01 : w11.cell? ⟨w.heap.size, 1, none⟩ = some (.slice Ab0 nb0 cb0) := (Rows.bcell (T := 25) (d := 3) (b := w.heap.size) (cs := [.slice Aa0 na0 ca0, .slice Ab0 nb0 cb0, .int .i64 q0]) (q := 1) (HR.out.right.right) (List.mem_singleton.2 rfl) rfl).1
  have da02 : w11.cell? ⟨w.heap.size, 2, none⟩ = some (.int .i64 q0) := (Rows.bcell (T := 25) (d := 3) (b := w.heap.size) (cs := [.slice Aa0 na0 ca0, .slice Ab0 nb0 cb0, .int .i64 q0]) (q := 2) (HR.out.right.right) (List.mem_singleton.2 rfl) rfl).1
  have ta0 : w.heap.size < w11.heap.size := (Rows.bcell (T := 25) (d := 3) (b := w.heap.size) (cs := [.slice Aa0 na0 ca0, .slice Ab0 nb0 cb0, .int .i64 q0]) (q := 0) (HR.out.right.right) (List.mem_singleton.2 rfl) rfl).2
  go_wp2_with fail
  refine (heldSpotS_c _ X.length _ 1 ysG _ (Sl.of_own (HR.out.left).head) (Nat.le_refl _) MG.out (by omega)).mono ?_
  rintro e w12 ⟨rfl, hb⟩
  replace HR := hid (HR.out.below hb)
  replace HB := hid (HB.out.trans (hb.mono HB.out.size))
  clear hb
  clear da00 da01 da02 ta0
  have da00 : w12.cell? ⟨w.heap.size, 0, none⟩ = some (.slice Aa0 na0 ca0) := (Rows.bcell (T := 25) (d := 3) (b := w.heap.size) (cs := [.slice Aa0 na0 ca0, .slice Ab0 nb0 cb0, .int .i64 q0]) (q := 0) (HR.out.right.right) (List.mem_singleton.2 rfl) rfl).1
  have da01 : w12.cell? ⟨w.heap.size, 1, none⟩ = some (.slice Ab0 nb0 cb0) := (Rows.bcell (T := 25) (d := 3) (b := w.heap.size) (cs := [.slice Aa0 na0 ca0, .slice Ab0 nb0 cb0, .int .i64 q0]) (q := 1) (HR.out.right.right) (List.mem_singleton.2 rfl) rfl).1
  have da02 : w12.cell? ⟨w.heap.size, 2, none⟩ = some (.int .i64 q0) := (Rows.bcell (T := 25) (d := 3) (b := w.heap.size) (cs := [.slice Aa0 na0 ca0, .slice Ab0 nb0 cb0, .int .i64 q0]) (q := 2) (HR.out.right.right) (List.mem_singleton.2 rfl) rfl).1
  have ta0 : w.heap.size < w12.heap.size := (Rows.bcell (T := 25) (d := 3) (b := w.heap.size) (cs := [.slice Aa0 na0 ca0, .slice Ab0 nb0 cb0, .int .i64 q0]) (q := 0) (HR.out.right.right) (List.mem_singleton.2 rfl) rfl).2
  go_wp2_with fail
  refine (toTreeX_c Aa0 na0 ca0 Ab0 nb0 cb0 w.heap.size q0 la0 lb0 _ (T0.out.below HB.out (Nat.le_refl _)) F0.out HB.out.size).mono ?_
  rintro e w13 ⟨v, rs, rfl, hs, hr, hb⟩
  have Sz0 := hid hs
  obtain ⟨fz01, fz02, fz03, fz04, fz05, fz06, rfl⟩ := (hs.at_ hr D0.out).form
  clear hs
  replace HR := hid (HR.out.newer hb hr HB.out.size)
  replace HB := hid (HB.out.trans (hb.mono HB.out.size))
  clear hb hr
  clear da00 da01 da02 ta0
  have da00 : w13.cell? ⟨w.heap.size, 0, none⟩ = some (.slice Aa0 na0 ca0) := (Rows.bcell (T := 25) (d := 3) (b := w.heap.size) (cs := [.slice Aa0 na0 ca0, .slice Ab0 nb0 cb0, .int .i64 q0]) (q := 0) (HR.out.right.right.right) (List.mem_singleton.2 rfl) rfl).1
  have da01 : w13.cell? ⟨w.heap.size, 1, none⟩ = some (.slice Ab0 nb0 cb0) := (Rows.bcell (T := 25) (d := 3) (b := w.heap.size) (cs := [.slice Aa0 na0 ca0, .slice Ab0 nb0 cb0, .int .i64 q0]) (q := 1) (HR.out.right.right.right) (List.mem_singleton.2 rfl) rfl).1
  have da02 : w13.cell? ⟨w.heap.size, 2, none⟩ = some (.int .i64 q0) := (Rows.bcell (T := 25) (d := 3) (b := w.heap.size) (cs := [.slice Aa0 na0 ca0, .slice Ab0 nb0 cb0, .int .i64 q0]) (q := 2) (HR.out.right.right.right) (List.mem_singleton.2 rfl) rfl).1
  have ta0 : w.heap.size < w13.heap.size := (Rows.bcell (T := 25) (d := 3) (b := w.heap.size) (cs := [.slice Aa0 na0 ca0, .slice Ab0 nb0 cb0, .int .i64 q0]) (q := 0) (HR.out.right.right.right) (List.mem_singleton.2 rfl) rfl).2
  go_wp2_with fail
  refine (cI.out _ _ _ (Sz0.out.at_ (HR.out.left) D0.out) (Nat.le_refl _)).mono ?_
  rintro e w14 ⟨v, rfl, ho, hb⟩
  have hr := Rows.one (r := ⟨_, _, _, _, _⟩) ho
  obtain ⟨Ah, kh, rfl, _, _⟩ := (Sl.of_own ho).form
  clear ho
  replace HR := hid (HR.out.newer hb hr HB.out.size)
  replace HB := hid (HB.out.trans (hb.mono HB.out.size))
  clear hb hr
  clear da00 da01 da02 ta0
  have da00 : w14.cell? ⟨w.heap.size, 0, none⟩ = some (.slice Aa0 na0 ca0) := (Rows.bcell (T := 25) (d := 3) (b := w.heap.size) (cs := [.slice Aa0 na0 ca0, .slice Ab0 nb0 cb0, .int .i64 q0]) (q := 0) (HR.out.right.right.right.right) (List.mem_singleton.2 rfl) rfl).1
  have da01 : w14.cell? ⟨w.heap.size, 1, none⟩ = some (.slice Ab0 nb0 cb0) := (Rows.bcell (T := 25) (d := 3) (b := w.heap.size) (cs := [.slice Aa0 na0 ca0, .slice Ab0 nb0 cb0, .int .i64 q0]) (q := 1) (HR.out.right.right.right.right) (List.mem_singleton.2 rfl) rfl).1
  have da02 : w14.cell? ⟨w.heap.size, 2, none⟩ = some (.int .i64 q0) := (Rows.bcell (T := 25) (d := 3) (b := w.heap.size) (cs := [.slice Aa0 na0 ca0, .slice Ab0 nb0 cb0, .int .i64 q0]) (q := 2) (HR.out.right.right.right.right) (List.mem_singleton.2 rfl) rfl).1
  have ta0 : w.heap.size < w14.heap.size := (Rows.bcell (T := 25) (d := 3) (b := w.heap.size) (cs := [.slice Aa0 na0 ca0, .slice Ab0 nb0 cb0, .int .i64 q0]) (q := 0) (HR.out.right.right.right.right) (List.mem_singleton.2 rfl) rfl).2
  replace HR := hid (HR.out.sub ((List.Sublist.refl _).append (List.sublist_append_right _ _)))
  clear Sz0
  go_wp2_with fail
  refine (eqSpotS_c _ _ _ _ X _ (Sl.of_own (HR.out.left).head) (Sl.of_own (HR.out.right.right.left).head) (Nat.le_refl _)).mono ?_
  rintro e w15 ⟨rfl, hb⟩
  replace HR := hid (HR.out.below hb)
  replace HB := hid (HB.out.trans (hb.mono HB.out.size))
  clear hb
  clear da00 da01 da02 ta0
  have da00 : w15.cell? ⟨w.heap.size, 0, none⟩ = some (.slice Aa0 na0 ca0) := (Rows.bcell (T := 25) (d := 3) (b := w.heap.size) (cs := [.slice Aa0 na0 ca0, .slice Ab0 nb0 cb0, .int .i64 q0]) (q := 0) (HR.out.right.right.right) (List.mem_singleton.2 rfl) rfl).1
  have da01 : w15.cell? ⟨w.heap.size, 1, none⟩ = some (.slice Ab0 nb0 cb0) := (Rows.bcell (T := 25) (d := 3) (b := w.heap.size) (cs := [.slice Aa0 na0 ca0, .slice Ab0 nb0 cb0, .int .i64 q0]) (q := 1) (HR.out.right.right.right) (List.mem_singleton.2 rfl) rfl).1
  have da02 : w15.cell? ⟨w.heap.size, 2, none⟩ = some (.int .i64 q0) := (Rows.bcell (T := 25) (d := 3) (b := w.heap.size) (cs := [.slice Aa0 na0 ca0, .slice Ab0 nb0 cb0, .int .i64 q0]) (q := 2) (HR.out.right.right.right) (List.mem_singleton.2 rfl) rfl).1
  have ta0 : w.heap.size < w15.heap.size := (Rows.bcell (T := 25) (d := 3) (b := w.heap.size) (cs := [.slice Aa0 na0 ca0, .slice Ab0 nb0 cb0, .int .i64 q0]) (q := 0) (HR.out.right.right.right) (List.mem_singleton.2 rfl) rfl).2
  go_wp2_with fail
  refine (heldSpotS_c _ X.length _ 1 ysG _ (Sl.of_own (HR.out.right.left).head) (Nat.le_refl _) MG.out (by omega)).mono ?_
  rintro e w16 ⟨rfl, hb⟩
  replace HR := hid (HR.out.below hb)
  replace HB := hid (HB.out.trans (hb.mono HB.out.size))
  clear hb
  clear da00 da01 da02 ta0
  have da00 : w16.cell? ⟨w.heap.size, 0, none⟩ = some (.slice Aa0 na0 ca0) := (Rows.bcell (T := 25) (d := 3) (b := w.heap.size) (cs := [.slice Aa0 na0 ca0, .slice Ab0 nb0 cb0, .int .i64 q0]) (q := 0) (HR.out.right.right.right) (List.mem_singleton.2 rfl) rfl).1
  have da01 : w16.cell? ⟨w.heap.size, 1, none⟩ = some (.slice Ab0 nb0 cb0) := (Rows.bcell (T := 25) (d := 3) (b := w.heap.size) (cs := [.slice Aa0 na0 ca0, .slice Ab0 nb0 cb0, .int .i64 q0]) (q := 1) (HR.out.right.right.right) (List.mem_singleton.2 rfl) rfl).1
  have da02 : w16.cell? ⟨w.heap.size, 2, none⟩ = some (.int .i64 q0) := (Rows.bcell (T := 25) (d := 3) (b := w.heap.size) (cs := [.slice Aa0 na0 ca0, .slice Ab0 nb0 cb0, .int .i64 q0]) (q := 2) (HR.out.right.right.right) (List.mem_singleton.2 rfl) rfl).1
  have ta0 : w.heap.size < w16.heap.size := (Rows.bcell (T := 25) (d := 3) (b := w.heap.size) (cs := [.slice Aa0 na0 ca0, .slice Ab0 nb0 cb0, .int .i64 q0]) (q := 0) (HR.out.right.right.right) (List.mem_singleton.2 rfl) rfl).2
  go_wp2_with fail
  go_ret
  exact ⟨rfl, HB.out⟩
end Go.Proofs.Ytpfnjkmkenaipaa
