/-
  WALK: the law FnShowWarningsOnce. By gen_dso.py.
-/
import Derived.Test.YtaniaadmphojeaaDoorE44
namespace Go.Proofs.YtaniaadmphojeaaDoor
open Go.RowKit Go.Proofs.YtaniaadmphojeaaDoor.Nm
set_option linter.unusedSimpArgs false
set_option linter.unusedVariables false

/-- the counts that are there before round k -/
def cellsK (f : Nat → Nat) (k : Nat) : List Value := [.int .i64 0, if 1 < k then .int .i64 (f 1 : Int) else .int .i64 0, if 2 < k then .int .i64 (f 2 : Int) else .int .i64 0, if 3 < k then .int .i64 (f 3 : Int) else .int .i64 0, if 4 < k then .int .i64 (f 4 : Int) else .int .i64 0]
theorem cellsK_set (f : Nat → Nat) (k : Nat) (h : 1 ≤ k ∧ k ≤ 4) : (cellsK f k).set k (.int .i64 (f k : Int)) = cellsK f (k + 1) := by
  rcases (show k = 1 ∨ k = 2 ∨ k = 3 ∨ k = 4 by omega) with rfl | rfl | rfl | rfl <;> rfl
theorem cellsK_at (f : Nat → Nat) (k : Nat) (h : 1 ≤ k ∧ k ≤ 4) : (cellsK f k)[k]? = some (.int .i64 0) := by
  rcases (show k = 1 ∨ k = 2 ∨ k = 3 ∨ k = 4 by omega) with rfl | rfl | rfl | rfl <;> rfl

set_option maxHeartbeats 8000000 in
set_option maxRecDepth 100000 in
theorem walk_FnShowWarningsOnce (a0 : Option Addr) (len0 cap0 : Nat) (z0 : List Int) (w : World) (w0 : IsRow .u8 w a0 len0 cap0 z0) :
    Calls Tryd.prog 6 #[.slice a0 len0 cap0] w (BoolPost w true) := by
  have hb0 := w0.leW
  by_cases h1 : (1048576 : Int) < (len0 : Int)
  · go_enter Tryd.func6, Tryd.ntmps6
    go_wp2_with fail
    go_ret
    exact ⟨rfl, Below.refl _ _⟩
  have DR := hid (drawShowWarnings_c a0 len0 cap0 z0 w w0)
  clear w0
  go_enter Tryd.func6, Tryd.ntmps6
  go_wp2_with fail
  refine DR.out.mono ?_
  rintro e w1 ⟨v, v2, rs, l, rfl, hrw, hb, hrf, hr6, hf, hl12⟩
  have ho1 : w1.ownsRow w.heap.size 44 4 v rs.length (rs.flatMap rucells) := hrw.head
  have ho2 : w1.ownsRow w.heap.size 53 3 v2 l.length (l.flatMap wncells) := (Rows.right (a := [⟨44, 4, rs.length, v, rs.flatMap rucells⟩]) hrw).head
  obtain ⟨A, c, rfl, hnc, hcm⟩ := (Sl.of_own ho1).form
  obtain ⟨Al, cl, rfl, hlc, hlm⟩ := (Sl.of_own ho2).form
  unfold maxLen at hcm hlm
  have SL := hid (show Wrns w1 w1.heap.size l.length (.slice Al l.length cl) l from ⟨Sl.of_own ho2, fun x hx => by have h := hf x hx; unfold wncellsFit maxTxt; omega⟩)
  have HB := hid hb
  have CW := hid (fun (W : World) (hW : Below w1.heap.size w1 W) => specValidWarningsX_c (.slice Al l.length cl) l.length w1.heap.size l W (SL.out.below hW (Nat.le_refl _)) hW.size)
  have LI0 := hid (fun (W : World) (hW : Below w1.heap.size w1 W) => (show WrnsIn W W.heap.size (.slice Al l.length cl) l from ⟨(SL.out.below hW (Nat.le_refl _)).more hW.size, by unfold maxTxt; omega⟩))
  have KI := hid (fun (a : Int) (W : World) (hW : Below w1.heap.size w1 W) => (show Calls Tryd.prog 12 #[.slice (some ⟨W.heap.size, 0, none⟩) 1 1, .slice Al l.length cl] (W.alloc (.cells #[.int .i64 a, .string ⟨#[]⟩, .string ⟨#[]⟩, .int .i64 0] 44)) (ShowPost (W.alloc (.cells #[.int .i64 a, .string ⟨#[]⟩, .string ⟨#[]⟩, .int .i64 0] 44)) (shX [allR a] l)) from
    implShow_c (rulLit_in W a) (LI0.out _ (hW.alloc hW.size _)) (Nat.le_refl _)))
  have KS := hid (fun (a : Int) (W : World) (hW : Below w1.heap.size w1 W) => (show Calls Tryd.prog 9 #[.slice (some ⟨W.heap.size, 0, none⟩) 1 1, .slice Al l.length cl] (W.alloc (.cells #[.int .i64 a, .string ⟨#[]⟩, .string ⟨#[]⟩, .int .i64 0] 44)) (ShowPost (W.alloc (.cells #[.int .i64 a, .string ⟨#[]⟩, .string ⟨#[]⟩, .int .i64 0] 44)) (shX [allR a] l)) from
    specShow_c (rulLit_in W a) (LI0.out _ (hW.alloc hW.size _)) (Nat.le_refl _)))
  have PU := hid (fun (h : wrnsOk l = true) => cnt_up h)
  have PL := hid (fun a => shX_len [allR a] l)
  generalize hqw : wrnsOk l = qw at *
  generalize hln : l.length = n at *
  generalize hrn : rs.length = nr at *
  replace hln := hid hln
  clear ho1 ho2 hb hf hrf hrw DR hrn hqw
  go_wp2_with fail
  refine (CW.out _ (Below.refl _ _)).mono ?_
  rintro e w2 ⟨rfl, hb⟩
  have H2 := hid hb
  clear hb CW
  cases qw with
  | false =>
    go_wp2_with fail
    go_ret
    exact ⟨rfl, HB.out.trans (H2.out.mono HB.out.size)⟩
  | true =>
    replace PU := hid (PU.out (by trivial))
    have KB0 := hid (Blk.new w2 #[.int .i64 0, .int .i64 0, .int .i64 0, .int .i64 0, .int .i64 0] 49)
    have H3 := hid (H2.out.alloc H2.out.size (.cells #[.int .i64 0, .int .i64 0, .int .i64 0, .int .i64 0, .int .i64 0] 49))
    have hbx : w1.heap.size ≤ w2.heap.size := H2.out.size
    go_wp2_with fail
    generalize w2.alloc (.cells #[.int .i64 0, .int .i64 0, .int .i64 0, .int .i64 0, .int .i64 0] 49) = w3 at *
    generalize w2.heap.size = bx at *
    clear H2
    go_loopw [6, 7, 8, 9, 10] (fun iv sv uv tv xv wr => ∃ (k : Nat), iv = .int .i64 k ∧ 1 ≤ k ∧ k ≤ 5 ∧ Hid (Blk wr bx (cellsK (fun j => cntA (j : Int) l) k)) ∧ Hid (Below w1.heap.size w1 wr)) (fun iv _ _ _ _ _ => 5 - (intOf iv).toNat)
    case atStart => exact ⟨1, rfl, Nat.le_refl _, by omega, KB0.out, H3.out⟩
    case round =>
      clear KB0 H3
      rename World => wr
      obtain ⟨k, rfl, hk1, hk5, KB, HBr⟩ := hrel
      by_cases hlt : k < 5
      · have k0 : (k : Int) ≤ 4 := by omega
        have k1 : (0 : Int) ≤ (k : Int) := by omega
        have k2 : ((k : Int)).toNat = k := by simp
        have k3 : (k : Int) < 5 := by omega
        have k4 : k < 5 := hlt
        have I1 := hid (KI.out (k : Int) wr HBr.out)
        have hpl := PL.out (k : Int)
        have HCA := hid (show (shX [allR (k : Int)] l).1.length = cntA (k : Int) l from rfl)
        have H4 := hid (HBr.out.alloc HBr.out.size (.cells #[.int .i64 (k : Int), .string ⟨#[]⟩, .string ⟨#[]⟩, .int .i64 0] 44))
        have KB4 := hid (KB.out.alloc (.cells #[.int .i64 (k : Int), .string ⟨#[]⟩, .string ⟨#[]⟩, .int .i64 0] 44))
        have KSk := hid (fun (W : World) (hW : Below w1.heap.size w1 W) => KS.out (k : Int) W hW)
        generalize shX [allR (k : Int)] l = Y at *
        obtain ⟨ys, yb⟩ := Y
        dsimp only at hpl
        go_wp2_with fail
        refine I1.out.mono ?_
        rintro e w5 ⟨u, rs0, rfl, hs, hr, hb⟩
        obtain ⟨A5, n5, c5, rfl⟩ := hs.form hr
        have hc5 := hid (show n5 = ys.length from hs.count hr)
        have S5 := hid (show Sl w5 w5.heap.size 1 ys.length (.slice A5 n5 c5) (ys.map vint) from (hs.at_ hr (show ys.length ≤ maxTxt by unfold maxTxt; omega)).1)
        have H5 := hid (H4.out.trans (hb.mono H4.out.size))
        have KB5 := hid (KB4.out.to hb)
        clear hs hr hb I1 H4 KB4 KB
        have I2 := hid (KSk.out w5 H5.out)
        have H6 := hid (H5.out.alloc H5.out.size (.cells #[.int .i64 (k : Int), .string ⟨#[]⟩, .string ⟨#[]⟩, .int .i64 0] 44))
        have KB6 := hid (KB5.out.alloc (.cells #[.int .i64 (k : Int), .string ⟨#[]⟩, .string ⟨#[]⟩, .int .i64 0] 44))
        have S6 := hid (S5.out.below ((Below.refl w5.heap.size w5).alloc (Nat.le_refl _) (.cells #[.int .i64 (k : Int), .string ⟨#[]⟩, .string ⟨#[]⟩, .int .i64 0] 44)) (Nat.le_refl _))
        have hs56 : w5.heap.size ≤ (w5.alloc (.cells #[.int .i64 (k : Int), .string ⟨#[]⟩, .string ⟨#[]⟩, .int .i64 0] 44)).heap.size := by simp
        go_wp2_with fail
        refine I2.out.mono ?_
        rintro e w7 ⟨u, rs0, rfl, hs, hr, hb⟩
        obtain ⟨A7, n7, c7, rfl⟩ := hs.form hr
        have S7 := hid (show Sl w7 w7.heap.size 1 ys.length (.slice A7 n7 c7) (ys.map vint) from (hs.at_ hr (show ys.length ≤ maxTxt by unfold maxTxt; omega)).1)
        have H7 := hid (H6.out.trans (hb.mono H6.out.size))
        have KB7 := hid (KB6.out.to hb)
        have S8 := hid (S6.out.below hb hs56)
        have hs57 : w5.heap.size ≤ w7.heap.size := Nat.le_trans hs56 hb.size
        have E7 := hid (equalInts_c S8.out S7.out hs57 (Nat.le_refl _))
        clear hs hr hb I2 H6 KB6 H5 KB5 S5 S6 hs56 KSk
        go_wp2_with fail
        refine E7.out.mono ?_
        rintro e w8 ⟨rfl, hb⟩
        have H8 := hid (H7.out.trans (hb.mono H7.out.size))
        have KB8 := hid (KB7.out.to hb)
        obtain ⟨c0, f0⟩ := KB8.out.2 k _ (cellsK_at _ k (by omega))
        have hn5 := hid (show (n5 : Int) = ((cntA (k : Int) l : Nat) : Int) by rw [hc5.out, ← HCA.out])
        clear hb E7 H7 KB7 S7 S8
        go_wp2_with fail
        have KB9 := KB8.out.set k (.int .i64 (n5 : Int))
        rw [hn5.out, cellsK_set (fun j => cntA (j : Int) l) k (by omega)] at KB9
        have KBx := hid KB9
        have H9 := hid (H8.out.setCell (p := ⟨bx, k, none⟩) hbx (.int .i64 (n5 : Int)))
        rw [hn5.out] at H9
        clear KB9
        go_roundw
        case rel => exact ⟨k + 1, by go_num, by omega, by omega, by rw [hn5.out]; exact KBx.out, by rw [hn5.out]; exact H9.out⟩
        case measure => simp [intOf]; omega
      · obtain rfl : k = 5 := by omega
        have k0 : ¬ (((5 : Nat) : Int) ≤ 4) := by omega
        have KB5 := hid (show Blk wr bx [.int .i64 0, .int .i64 (cntA 1 l : Int), .int .i64 (cntA 2 l : Int), .int .i64 (cntA 3 l : Int), .int .i64 (cntA 4 l : Int)] from KB.out)
        have HLT := hid (World.ownsRow_lit wr #[] 0 (Nat.le_refl _) (by unfold maxLen; omega) (by simp) : (wr.alloc (.cells #[] 9)).ownsRow wr.heap.size 9 1 (.slice (some ⟨wr.heap.size, 0, none⟩) 0 0) 0 [])
        have KB6 := hid (KB5.out.alloc (.cells #[] 9))
        have H6 := hid (HBr.out.alloc HBr.out.size (.cells #[] 9))
        have hbr : bx < wr.heap.size := KB5.out.1
        have hwr1 : w1.heap.size ≤ wr.heap.size := HBr.out.size
        have hs6 : wr.heap.size ≤ (wr.alloc (.cells #[] 9)).heap.size := by simp
        go_wp2_with fail
        generalize wr.alloc (.cells #[] 9) = w6 at *
        generalize wr.heap.size = gb at *
        have HS6 := hid hs6
        clear KB5 KB HBr hs6
        go_loopw [11, 12] (fun av iv w7 => ∃ (k q : Nat) (S : List (List UInt8)) (A9 : Option Addr) (c9 : Nat), iv = .int .i64 k ∧ av = .slice A9 q c9 ∧ k ≤ n ∧ q ≤ k ∧ Hid (S.length = q ∧ q + dis S ((l.drop k).map (·.tx)) = dis [] (l.map (·.tx))) ∧ Hid (w7.ownsRow gb 9 1 (.slice A9 q c9) q (S.map txt)) ∧ Hid (Blk w7 bx [.int .i64 0, .int .i64 (cntA 1 l : Int), .int .i64 (cntA 2 l : Int), .int .i64 (cntA 3 l : Int), .int .i64 (cntA 4 l : Int)]) ∧ Hid (Below w1.heap.size w1 w7) ∧ Hid (gb ≤ w7.heap.size)) (fun _ iv _ => n - (intOf iv).toNat)
        case atStart => exact ⟨0, 0, [], _, _, rfl, rfl, Nat.zero_le _, Nat.le_refl _, ⟨rfl, by simp⟩, HLT.out, KB6.out, H6.out, HS6.out⟩
        case round =>
          clear HLT KB6 H6 HS6
          rename World => w7
          obtain ⟨k, q, S, A9, c9, rfl, rfl, hk, hqk, HD, HO, KB, HB7, HS⟩ := hrel
          by_cases hlt2 : k < n
          · obtain ⟨b, ob, tx, md, ln, rfl, hbB, hx, c0, c1, c2⟩ := wncells_at (show Sl w7 w1.heap.size 3 n (.slice Al n cl) (l.flatMap wncells) from (SL.out.below HB7.out (Nat.le_refl _)).1) hlt2
            have CH := hid (hasTextW_c (.slice A9 q c9) q w7.heap.size S tx w7 (Sl.of_own HO.out) (Nat.le_refl _))
            have hd := drop_one hx
            have hbw7 : b < w7.heap.size := by have := HB7.out.size; omega
            by_cases hm : tx.data.toList ∈ S
            · rw [decide_eq_true hm] at CH
              have HD2 := hid (show S.length = q ∧ q + dis S ((l.drop (k + 1)).map (·.tx)) = dis [] (l.map (·.tx)) by
                have h9 := HD.out
                rw [hd, List.map_cons, dis_hit hm] at h9
                exact h9)
              clear hx hd hm HD
              go_wp2_with fail
              refine CH.out.mono ?_
              rintro e w8 ⟨rfl, hb⟩
              have HO8 := hid (own_below HO.out hb)
              have KB8 := hid (KB.out.to hb)
              have H8 := hid (HB7.out.trans (hb.mono HB7.out.size))
              have HS8 := hid (Nat.le_trans HS.out hb.size)
              clear hb
              go_wp2_with fail
              go_roundw
              case rel => exact ⟨k + 1, q, S, A9, c9, by go_num, rfl, by omega, by omega, HD2.out, HO8.out, KB8.out, H8.out, HS8.out⟩
              case measure => simp [intOf]; omega
            · rw [decide_eq_false hm] at CH
              have HD2 := hid (show (S ++ [tx.data.toList]).length = q + 1 ∧ q + 1 + dis (S ++ [tx.data.toList]) ((l.drop (k + 1)).map (·.tx)) = dis [] (l.map (·.tx)) by
                have h9 := HD.out
                rw [hd, List.map_cons, dis_new hm] at h9
                exact ⟨by rw [List.length_append, h9.1]; rfl, by omega⟩)
              obtain ⟨i0, hi, hz0, hz1, hz2⟩ := info_parts Tryd.infoStr
              clear hx hd hm HD
              go_wp2_with fail
              refine CH.out.mono ?_
              rintro e w8 ⟨rfl, hb⟩
              have HO8 := hid (own_below HO.out hb)
              have KB8 := hid (KB.out.to hb)
              have H8 := hid (HB7.out.trans (hb.mono HB7.out.size))
              have HS8 := hid (Nat.le_trans HS.out hb.size)
              have c0' := (hb.cell (p := ⟨b, ob + k * 3, none⟩) hbw7).trans c0
              clear hb c0 c1 c2
              go_wp2_with (at_builtin; refine wpList_app1 w8 rfl (.tmp 68) (.tmp 74) 50 rfl gb 9 i0 (.string ByteArray.empty) 1 16 Tryd.underlying50 hi hz0 hz1 hz2 rfl (by decide) _ q _ (by rfl) HO8.out [.string tx] 1 9 (by rfl) rfl (one_cell rfl) (by unfold maxLen; omega) (by omega) HS8.out ?_)
              intro v9 w9 ho9 hb9
              obtain ⟨A10, c10, rfl, -, -⟩ := (Sl.of_own ho9).form
              have HO9 := hid (show w9.ownsRow gb 9 1 (.slice A10 (q + 1) c10) (q + 1) ((S ++ [tx.data.toList]).map txt) by simpa [txt_data] using ho9)
              have KB9 := hid (KB8.out.below hb9 hbr)
              have H9 := hid (H8.out.trans (hb9.mono hwr1))
              have HS9 := hid (Nat.le_trans HS8.out hb9.size)
              clear ho9 hb9 c0'
              go_wp2_with fail
              go_roundw
              case rel => exact ⟨k + 1, q + 1, _, A10, c10, by go_num, rfl, by omega, by omega, HD2.out, HO9.out, KB9.out, H9.out, HS9.out⟩
              case measure => simp [intOf]; omega
          · obtain rfl : k = n := by omega
            have h9 := HD.out.2
            rw [List.drop_eq_nil_of_le (by rw [hln.out]; exact Nat.le_refl _)] at h9
            have hq9 : q = cntA 2 l := by rw [PU.out.1]; simpa [dis] using h9
            obtain ⟨d1, _⟩ := KB.out.2 1 _ rfl
            obtain ⟨d2, _⟩ := KB.out.2 2 _ rfl
            obtain ⟨d3, _⟩ := KB.out.2 3 _ rfl
            obtain ⟨d4, _⟩ := KB.out.2 4 _ rfl
            have p1 := PU.out.2.1
            have p2 := PU.out.2.2.1
            have p3 := PU.out.2.2.2
            generalize cntA 1 l = x1 at *
            generalize cntA 2 l = x2 at *
            generalize cntA 3 l = x3 at *
            generalize cntA 4 l = x4 at *
            subst hq9
            have b2 : ((q : Int) == (q : Int)) = true := by simp
            have b3 : (q : Int) ≤ (x3 : Int) := by omega
            have b4 : (x3 : Int) ≤ (x4 : Int) := by omega
            have b5 : (x4 : Int) ≤ (x1 : Int) := by omega
            clear h9
            go_wp2_with fail
            go_ret
            exact ⟨ret_bool (by simp [p1, p2, p3]), HB.out.trans (HB7.out.mono HB.out.size)⟩
end Go.Proofs.YtaniaadmphojeaaDoor
