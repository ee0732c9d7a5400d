/-
  WALKS: mutate, DrawValidName; the law FnValidName.
-/
import Derived.Test.YtjninonimacmgaaW12
namespace Go.Proofs.Ytjninonimacmgaa
open Go.RowKit Nm
set_option linter.unusedSimpArgs false
set_option linter.unusedVariables false

def bytes1 : List (List UInt8) := [[48], [32], [45], [44], [61], [97], [10], [123], [125]]
def bytes2 : List (List UInt8) := [[32], [10], [120], [125]]

theorem grown_dr {a w : World} {row : Option Nat} (h : a.grownBy w row) : a.grownBy w.drew row := ⟨h.os, h.tape, h.output, h.size, h.block⟩
theorem ret_txt {R p dp most : Nat} {w w' : World} {x : ByteArray} {p' : Nat} (hx : x.size ≤ most) (hp : p' ≤ p + dp) (hr : Rdr w' R p') (hg : w.grownBy w' (some R)) : TxtPost R p dp most w (.returned (.string x)) w' :=
  ⟨x, p', hx, rfl, hp, hr, hg⟩

set_option maxHeartbeats 4000000 in
set_option maxRecDepth 100000 in
theorem mutate_c (R p : Nat) (s : ByteArray) (w : World) (hr : Rdr w R p) (hp : p ≤ 900000) (hs : s.size ≤ 1000) :
    Calls Try.prog 36 #[.pointer (some ⟨R, 0, none⟩), .string s] w (TxtPost R p 3 (s.size + 1) w) := by
  have c1 := hid (pick_c R p (((s.size + 1 : Nat) : Int)) w hr (by omega) (by omega))
  clear hr
  go_enter Try.func36, Try.ntmps36
  go_wp2_with fail
  rw [show ((s.size : Int) + 1) = ((s.size + 1 : Nat) : Int) by omega]
  refine c1.out.mono ?_
  rintro e w1 ⟨k, rfl, hk1, _, hr1, hg1⟩
  have hk : k ≤ s.size := by have := hk1 (by omega); omega
  have c2 := hid (pick_c R (p + 1) 5 w1 hr1 (by omega) (by omega))
  have H1 := hid (And.intro hr1 hg1)
  clear hr1 hg1 hk1 c1
  go_wp2_with fail
  refine c2.out.mono ?_
  rintro e w2 ⟨m, rfl, hm1, _, hr2, hg2⟩
  have hm : m < 5 := by have := hm1 (by omega); omega
  have hlt := hr2.lt
  have H2 := hid (And.intro hr2 (grown_tr H1.out.2 hg2))
  clear hr2 hg2 hm1 c2 H1
  have hRa : Rdr (w2.alloc (.cells (bytes1.map txt).toArray 9)).drew R (p + 2) := H2.out.1.below (((Below.refl _ _).alloc (Nat.le_refl _) _).drew)
  have A1 := hid (of_c R (p + 2) w2.heap.size 9 9 bytes1 (w2.alloc (.cells (bytes1.map txt).toArray 9)).drew hRa (by omega) rfl (by omega) (by omega) (by omega) (heap_alloc_new w2 _))
  clear hRa
  have A2 := hid (of_c R (p + 2) w2.heap.size 4 4 bytes2 (w2.alloc (.cells (bytes2.map txt).toArray 9)) (H2.out.1.below ((Below.refl _ _).alloc (Nat.le_refl _) _)) (by omega) rfl (by omega) (by omega) (by omega) (heap_alloc_new w2 _))
  rcases (show m = 0 ∨ m = 1 ∨ m = 2 ∨ m = 3 ∨ m = 4 by omega) with rfl | rfl | rfl | rfl | rfl
  · by_cases hks : k < s.size
    · have q1 : IntKind.i64.wrap ((k : Int) + 1) = (k : Int) + 1 := by rw [IntKind.wrap_i64]; omega
      have q2 : (0 : Int) ≤ (k : Int) + 1 := by omega
      have q3 : ((k : Int) + 1).toNat = k + 1 := rfl
      have q4 : (k : Int) + 1 ≤ (s.size : Int) := by omega
      have z1 : (s.extract 0 k).size ≤ 1000 := by rw [ByteArray.size_extract]; omega
      have z2 : (s.extract (k + 1) s.size).size ≤ 1000 := by rw [ByteArray.size_extract]; omega
      go_wp2_with fail
      go_region_with (go_at_call 50; refine A1.out.mono ?_; rintro e w3 ⟨x, hx, rfl, hr3, hg3⟩; have hxl : x.size ≤ 1 := (by rw [Lib.size_eq]; exact (show ∀ l ∈ bytes1, l.length ≤ 1 by decide) _ hx); have z3 : (s.extract 0 k ++ x).size ≤ 1001 := (by rw [ByteArray.size_append]; omega); have H3 := hid (And.intro hr3 hg3); clear hr3 hg3 hx)
      have G3 := grown_tr H2.out.2 (grown_tr (grown_dr (World.grownBy_alloc w2 _ _)) H3.out.2)
      have HG := hid (And.intro H3.out.1 G3)
      clear H3 G3 A1 A2 q1 q2 q3 q4
      have z4 : (s.extract 0 k).size = k := by rw [ByteArray.size_extract]; omega
      have z5 : (s.extract (k + 1) s.size).size = s.size - (k + 1) := by rw [ByteArray.size_extract]; omega
      have Z := hid (show (s.extract 0 k ++ x ++ s.extract (k + 1) s.size).size ≤ s.size + 1 by simp only [ByteArray.size_append, z4, z5]; omega)
      clear z4 z5
      go_wp2_with fail
      go_ret
      exact ret_txt Z.out (by omega) HG.out.1 HG.out.2
    · go_wp2_with fail
      go_ret
      exact ret_txt (by omega) (by omega) H2.out.1 H2.out.2
  · by_cases hks : k < s.size
    · have q1 : IntKind.i64.wrap ((k : Int) + 1) = (k : Int) + 1 := by rw [IntKind.wrap_i64]; omega
      have q2 : (0 : Int) ≤ (k : Int) + 1 := by omega
      have q3 : ((k : Int) + 1).toNat = k + 1 := rfl
      have q4 : (k : Int) + 1 ≤ (s.size : Int) := by omega
      have z1 : (s.extract 0 k).size ≤ 1000 := by rw [ByteArray.size_extract]; omega
      have z2 : (s.extract (k + 1) s.size).size ≤ 1000 := by rw [ByteArray.size_extract]; omega
      go_wp2_with fail
      go_region_with (go_at_call 50; refine A1.out.mono ?_; rintro e w3 ⟨x, hx, rfl, hr3, hg3⟩; have hxl : x.size ≤ 1 := (by rw [Lib.size_eq]; exact (show ∀ l ∈ bytes1, l.length ≤ 1 by decide) _ hx); have z3 : (s.extract 0 k ++ x).size ≤ 1001 := (by rw [ByteArray.size_append]; omega); have H3 := hid (And.intro hr3 hg3); clear hr3 hg3 hx)
      have G3 := grown_tr H2.out.2 (grown_tr (grown_dr (World.grownBy_alloc w2 _ _)) H3.out.2)
      have HG := hid (And.intro H3.out.1 G3)
      clear H3 G3 A1 A2 q1 q2 q3 q4
      have z4 : (s.extract 0 k).size = k := by rw [ByteArray.size_extract]; omega
      have z5 : (s.extract (k + 1) s.size).size = s.size - (k + 1) := by rw [ByteArray.size_extract]; omega
      have Z := hid (show (s.extract 0 k ++ x ++ s.extract (k + 1) s.size).size ≤ s.size + 1 by simp only [ByteArray.size_append, z4, z5]; omega)
      clear z4 z5
      go_wp2_with fail
      go_ret
      exact ret_txt Z.out (by omega) HG.out.1 HG.out.2
    · go_wp2_with fail
      go_ret
      exact ret_txt (by omega) (by omega) H2.out.1 H2.out.2
  · go_wp2_with fail
    go_ret
    exact ret_txt (by rw [Lib.size_eq, Lib.extract_data]; simp; omega) (by omega) H2.out.1 H2.out.2
  · go_wp2_with fail
    refine A2.out.mono ?_
    rintro e w3 ⟨x, hx, rfl, hr3, hg3⟩
    have hxl : x.size ≤ 1 := by rw [Lib.size_eq]; exact (show ∀ l ∈ bytes2, l.length ≤ 1 by decide) _ hx
    have H3 := hid (And.intro hr3 (grown_tr H2.out.2 (grown_tr (World.grownBy_alloc w2 _ _) hg3)))
    clear hr3 hg3 hx A1 A2
    go_wp2_with fail
    go_ret
    exact ret_txt (by rw [ByteArray.size_append]; omega) (by omega) H3.out.1 H3.out.2
  · go_wp2_with fail
    go_ret
    exact ret_txt (by omega) (by omega) H2.out.1 H2.out.2

set_option maxHeartbeats 1000000 in
set_option maxRecDepth 100000 in
theorem drawValidName_c (a : Option Addr) (len cap : Nat) (z : List Int) (w : World) (h : IsRow .u8 w a len cap z) :
    Calls Try.prog 12 #[.slice a len cap] w (DrawnPost 20 w) := by
  have hcall := hid (newReader_c a len cap z w h)
  clear h
  go_enter Try.func12, Try.ntmps12
  go_wp2_with fail
  refine hcall.out.mono ?_
  rintro e w1 ⟨rfl, hr1, hb1⟩
  have H1 := hid (And.intro hr1 hb1)
  clear hr1 hb1
  go_wp2_with fail
  refine (anyName_c _ 0 w1 H1.out.1 (by omega)).mono ?_
  rintro e w2 ⟨x, p', hx, rfl, hp', hr2, hg2⟩
  have H2 := hid (And.intro hr2 hg2)
  clear hr2 hg2
  go_wp2_with fail
  refine (pick_c _ p' 3 w2 H2.out.1 (by omega) (by omega)).mono ?_
  rintro e w3 ⟨k, rfl, _, _, hr3, hg3⟩
  have H3 := hid (And.intro hr3 (grown_tr H2.out.2 hg3))
  clear hr3 hg3
  by_cases hk : k = 0
  · subst hk
    go_wp2_with fail
    refine (mutate_c _ _ x w3 H3.out.1 (by omega) (by omega)).mono ?_
    rintro e w4 ⟨y, p4, hy, rfl, hp4, hr4, hg4⟩
    have H4 := hid (And.intro hr4 (grown_tr H3.out.2 hg4))
    clear hr4 hg4
    go_wp2_with fail
    go_ret
    exact ⟨y, by omega, rfl, H1.out.2.trans (below_own H4.out.2 H1.out.2.size (Nat.le_refl _))⟩
  · have b0 : ((k : Int) == 0) = false := by simpa using hk
    clear hk
    go_wp2_with fail
    go_ret
    exact ⟨x, by omega, rfl, H1.out.2.trans (below_own H3.out.2 H1.out.2.size (Nat.le_refl _))⟩

theorem cut_facts (l : List UInt8) (h : nameOk l = true) : nameOk (joinS [46] ((pw l).take ((pw l).length - 1))) = true ∧ isB l (joinS [46] ((pw l).take ((pw l).length - 1))) = true := by
  have e : pw l = partsL l := by unfold pw; rw [h]; rfl
  rw [e, joinS_dot]
  obtain ⟨h1, h2⟩ := words_prefix h (List.take_prefix ((partsL l).length - 1) (partsL l))
  obtain ⟨h3, h4⟩ := nameOk_join _ h1 h2
  refine ⟨h3, ?_⟩
  rw [isB_iff l _ h h3, h4]
  exact List.take_prefix _ _

set_option maxHeartbeats 4000000 in
set_option maxRecDepth 100000 in
theorem walk_FnValidName (a0 : Option Addr) (len0 cap0 : Nat) (z0 : List Int) (w : World) (w0 : IsRow .u8 w a0 len0 cap0 z0) :
    Calls Try.prog 3 #[.slice a0 len0 cap0] w (BoolPost w true) := by
  have hb0 := w0.bound
  by_cases h1 : (1048576 : Int) < (len0 : Int)
  · go_enter Try.func3, Try.ntmps3
    go_wp2_with fail
    go_ret
    exact ⟨rfl, Below.refl _ _⟩
  have D := hid (drawValidName_c a0 len0 cap0 z0 w w0)
  clear w0
  go_enter Try.func3, Try.ntmps3
  go_wp2_with fail
  refine D.out.mono ?_
  rintro e w1 ⟨a, ha, rfl, hB⟩
  have HB := hid hB
  clear hB D
  have V := hid (fun W => implValidName_c a W (by unfold maxLen; omega))
  have U := hid (fun W => specValidName_c a W (by omega))
  have P := hid (fun W => implPartsOf_c a W (by unfold maxLen; omega))
  have hl : (pw a.data.toList).length ≤ 4 := by
    unfold pw
    split
    · rename_i h; exact ((nameOk_iff _).1 h).2
    · simp
  have F := hid (cut_facts a.data.toList)
  have T := hid (show ∀ x ∈ pw a.data.toList, x.length ≤ 22 from fun x hx => by
    unfold pw at hx
    split at hx
    · obtain ⟨k, hk⟩ := List.mem_iff_getElem?.1 hx
      have := word_size _ _ _ hk
      rw [← Lib.size_eq] at this; omega
    · cases hx)
  generalize hx : nameOk a.data.toList = p at V U F
  clear hx
  generalize hws : pw a.data.toList = ws at P F T hl
  clear hws
  go_wp2_with fail
  refine (V.out _).mono ?_
  rintro e w2 ⟨rfl, hB⟩
  have HB2 := hid (HB.out.trans (hB.mono HB.out.size))
  clear hB HB
  go_wp2_with fail
  refine (U.out _).mono ?_
  rintro e w3 ⟨rfl, hB⟩
  have HB3 := hid (HB2.out.trans (hB.mono HB2.out.size))
  clear hB HB2
  cases p with
  | false =>
    go_wp2_with fail
    refine (U.out _).mono ?_
    rintro e w4 ⟨rfl, hB⟩
    have HB4 := hid (HB3.out.trans (hB.mono HB3.out.size))
    clear hB HB3
    go_wp2_with fail
    go_ret
    exact ⟨rfl, HB4.out⟩
  | true =>
    obtain ⟨f1, f2⟩ := F.out (by trivial)
    have K := hid (And.intro f1 f2)
    clear f1 f2 F
    go_wp2_with fail
    refine (P.out _).mono ?_
    rintro e w4 ⟨v, rfl, ho, hB⟩
    obtain ⟨A, c, rfl, hnc, _⟩ := (Sl.of_own ho).form
    have HB4 := hid (HB3.out.trans (hB.mono HB3.out.size))
    have SO := hid (Sl.of_own ho)
    clear hB HB3 ho
    go_wp2_with fail
    go_loop [6, 7] (fun av kv => ∃ (k : Nat) (x : ByteArray), kv = .int .i64 k ∧ av = .string x ∧ k ≤ ws.length - 1 ∧ x.size ≤ 100 * k ∧ Hid (x.data.toList = joinS [46] (ws.take k))) (fun _ kv => ws.length - (intOf kv).toNat)
    case atStart => exact ⟨0, ByteArray.empty, rfl, rfl, by omega, Nat.le_refl _, by show _ = _; simp [joinS]⟩
    case round =>
      obtain ⟨k, x, rfl, rfl, hk, hxs, HX⟩ := hrel
      by_cases hlt : (k : Int) + 1 < (ws.length : Int)
      · obtain ⟨b, o, q, rfl, hbB, hq1, hcq⟩ := SO.out.text (k := k) (by omega)
        have hq4 := T.out _ (List.mem_of_getElem? hq1)
        rw [← Lib.size_eq] at hq4
        have HJ := hid (joinS_take [46] ws k _ hq1)
        clear hq1 hbB
        by_cases h0 : 0 < k
        · go_wp2_with fail
          refine ⟨⟨k + 1, _, by go_num, rfl, by omega, ?_, ?_⟩, by simp [intOf]; omega⟩
          · have : (⟨#[46]⟩ : ByteArray).size = 1 := rfl
            simp only [ByteArray.size_append]; omega
          · show _ = _
            rw [HJ.out, if_neg (by omega)]
            simp only [ByteArray.data_append, Array.toList_append, HX.out, List.append_assoc]
        · obtain rfl : k = 0 := by omega
          have hx0 : x = ByteArray.empty := (bytes_eq_iff _ _).1 (by rw [HX.out]; simp [joinS])
          subst hx0
          simp only [Nat.add_zero] at hcq
          go_wp2_with fail
          refine ⟨⟨1, _, by go_num, rfl, by omega, ?_, ?_⟩, by simp [intOf]; omega⟩
          · omega
          · show _ = _
            rw [HJ.out, if_pos rfl]
      · have hkl : k = ws.length - 1 := by omega
        subst hkl
        have N := hid (fun W => implValidName_c x W (by unfold maxLen; omega))
        rw [show nameOk x.data.toList = true by rw [HX.out]; exact K.out.1] at N
        have B := hid (fun W => implIsBelow_c a x W (by omega) (by omega))
        rw [show isB a.data.toList x.data.toList = true by rw [HX.out]; exact K.out.2] at B
        go_wp2_with fail
        refine (N.out _).mono ?_
        rintro e w5 ⟨rfl, hB⟩
        have HB5 := hid (HB4.out.trans (hB.mono HB4.out.size))
        clear hB HB4
        go_wp2_with fail
        refine (B.out _).mono ?_
        rintro e w6 ⟨rfl, hB⟩
        have HB6 := hid (HB5.out.trans (hB.mono HB5.out.size))
        clear hB HB5
        go_wp2_with fail
        go_ret
        exact ⟨rfl, HB6.out⟩
end Go.Proofs.Ytjninonimacmgaa
