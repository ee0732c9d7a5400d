/-
  DRAWS: lists of records. By gen_d2.py.
-/
import Derived.Test.YthgkkckbncgfmaaD2
namespace Go.Proofs.Ythgkkckbncgfmaa
open Go.RowKit Nm
set_option linter.unusedSimpArgs false
set_option linter.unusedVariables false

/-- drawn records: at most m, laid in memory of their own -/
def RecsPost (R p dp m : Nat) (w : World) (e : Ending) (w' : World) : Prop :=
  ∃ (v : Value) (l : List Rec) (p' : Nat), e = .returned v ∧ l.length ≤ m ∧ (∀ x ∈ l, x.nm.length ≤ 20 ∧ x.tx.length ≤ 20) ∧ w'.ownsRow w.heap.size 33 4 v l.length (l.flatMap rcells) ∧ p' ≤ p + dp ∧ Rdr w' R p' ∧ w.grownBy w' (some R)
theorem fit_add {l : List Rec} {x : Rec} (h : ∀ x ∈ l, x.nm.length ≤ 20 ∧ x.tx.length ≤ 20) (hx : x.nm.length ≤ 20 ∧ x.tx.length ≤ 20) : ∀ y ∈ l ++ [x], y.nm.length ≤ 20 ∧ y.tx.length ≤ 20 := by
  intro y hy
  rcases List.mem_append.1 hy with hy | hy
  · exact h y hy
  · rw [List.mem_singleton.1 hy]; exact hx

set_option maxHeartbeats 4000000 in
set_option maxRecDepth 100000 in
theorem goodRecords_c (R p : Nat) (w : World) (hr : Rdr w R p) (hp : p ≤ 700000) :
    Calls Try.prog 56 #[.pointer (some ⟨R, 0, none⟩)] w (RecsPost R p 120 12 w) := by
  have hlt := hr.lt
  have HL := hid (World.ownsRow_lit w #[] 0 (Nat.le_refl _) (by unfold maxLen; omega) (by simp) : (w.alloc (.cells #[] 33)).ownsRow w.heap.size 33 4 (.slice (some ⟨w.heap.size, 0, none⟩) 0 0) 0 [])
  have C := hid (one_lit R p 8 [3, 4, 2, 5, 1, 0, 8, 12] (w.alloc (.cells #[] 33)) (hr.below ((Below.refl _ _).alloc (Nat.le_refl _) _)) (by omega) rfl (by omega) (by omega) 0 12 (by decide))
  simp only [World.size_alloc] at C
  have G0 := hid (show w.grownBy (w.alloc (.cells #[] 33)) (some R) from World.grownBy_alloc w _ _)
  clear hr
  go_enter Try.func56, Try.ntmps56
  go_wp2_with fail
  refine C.out.mono ?_
  rintro e w1 ⟨n, ⟨hn0, hn1⟩, rfl, hr1, hg1⟩
  have G1 := hid (grown_tr G0.out hg1)
  have O1 := hid (own_off HL.out hg1 hlt)
  have R1 := hid hr1
  have hs1 : w.heap.size < w1.heap.size := by have := hg1.size; simp at this; omega
  generalize hbase : w.heap.size = base at *
  replace hbase := hid hbase
  clear hr1 hg1 C HL G0
  go_wp2_with fail
  go_loopw [3, 4] (fun av nv wr => ∃ (v : Value) (q : Int) (l : List Rec) (p' : Nat), av = v ∧ nv = .int .i64 q ∧ 0 ≤ q ∧ (l.length : Int) + q ≤ 12 ∧ p' ≤ p + 1 + 7 * l.length ∧ Hid (∀ x ∈ l, x.nm.length ≤ 20 ∧ x.tx.length ≤ 20) ∧ Hid (wr.ownsRow base 33 4 v l.length (l.flatMap rcells)) ∧ Hid (Rdr wr R p') ∧ Hid (w.grownBy wr (some R)) ∧ base < wr.heap.size) (fun _ nv _ => (intOf nv).toNat)
  case atStart => exact ⟨_, n, [], p + 1, rfl, rfl, hn0, by simpa using hn1, by simp, (fun x hx => by cases hx), O1.out, R1.out, G1.out, hs1⟩
  case round =>
    obtain ⟨v, q, l, p', rfl, rfl, hq0, hq1, hp', HF, HO, HR, HG, hsz⟩ := hrel
    obtain ⟨A, c, rfl, hnc, hcm⟩ := (Sl.of_own HO.out).form
    unfold maxLen at hcm
    generalize hln : l.length = ln at *
    replace hln := hid hln
    by_cases hq : 0 < q
    · have C1 := hid (aRecord_c R p' wr HR.out (by omega))
      go_wp2_with fail
      refine C1.out.mono ?_
      rintro e w2 ⟨nm, tx, lv, sq, p2, ⟨hnm, htx⟩, ⟨hl0, hl1⟩, ⟨hs0, hs1⟩, rfl, hp2, hr2, hg2⟩
      have G2 := hid (grown_new (grown_tr HG.out hg2) ((Below.refl w2.heap.size w2).alloc (Nat.le_refl _) (.cells #[.string nm, .int .i64 lv, .string tx, .int .i64 sq] 33)))
      have O2 := hid ((own_off HO.out hg2 (by omega)).alloc (.cells #[.string nm, .int .i64 lv, .string tx, .int .i64 sq] 33))
      have B2 := hid (Blk.new w2 #[.string nm, .int .i64 lv, .string tx, .int .i64 sq] 33)
      have R2 := hid (hr2.below ((Below.refl _ _).alloc (Nat.le_refl _) (.cells #[.string nm, .int .i64 lv, .string tx, .int .i64 sq] 33)))
      have hsz2 : wr.heap.size ≤ w2.heap.size := hg2.size
      have HLT := hid (fun g h => (HO.out.lt g h).2)
      clear hr2 hg2 C1 HO HR HG
      rcases Nat.eq_zero_or_pos ln with hz | hz
      · subst hz
        have KB := B2.out
        obtain ⟨k0, _⟩ := KB.2 0 _ rfl
        obtain ⟨k1, _⟩ := KB.2 1 _ rfl
        obtain ⟨k2, _⟩ := KB.2 2 _ rfl
        obtain ⟨k3, _⟩ := KB.2 3 _ rfl
        have HOx := hid (show World.ownsRow _ base 33 4 _ l.length (l.flatMap rcells) from by rw [hln.out]; exact O2.out)
        have hlx : l.length ≤ 1048576 := by rw [hln.out]; omega
        go_wp2_with (at_builtin; refine appRecord _ rfl (.tmp 33) (.tmp 35) rfl base _ l (by rfl) HOx.out nm lv tx sq _ _ _ (by rfl) (by simp) hlx (by first | omega | (simp; omega)) ?_)
        intro v5 w5 ho5 hb5
        have HO5 := hid ho5
        have HR5 := hid (Rdr.low R2.out hb5 hlt)
        have HG5 := hid (show w.grownBy w5 (some R) from grown_low G2.out (by rw [hbase.out]; exact hb5))
        have hs5 : base < w5.heap.size := Nat.lt_of_lt_of_le (by first | omega | (simp; omega)) hb5.size
        clear ho5 hb5
        go_wp2_with fail
        go_roundw
        case rel => exact ⟨_, q - 1, l ++ [(⟨nm.data.toList, lv, tx.data.toList, sq⟩ : Rec)], p2, rfl, by go_num, by omega, by rw [List.length_append, hln.out]; simp; omega, by rw [List.length_append, hln.out]; simp; omega, fit_add HF.out (by rw [← Lib.size_eq, ← Lib.size_eq]; exact ⟨hnm, htx⟩), (by show World.ownsRow _ _ _ _ _ _ _; simpa using HO5.out), HR5.out, HG5.out, hs5⟩
        case measure => simp [intOf]; omega
      · have hzi : decide ((0 : Int) < (ln : Int)) = true := by simp; omega
        go_wp2_with fail
        have hw3 : w2.heap.size < (w2.alloc (.cells #[.string nm, .int .i64 lv, .string tx, .int .i64 sq] 33)).heap.size := by simp
        generalize hb1 : w2.heap.size = b1 at *
        have hbb : base < b1 := by omega
        generalize w2.alloc (.cells #[.string nm, .int .i64 lv, .string tx, .int .i64 sq] 33) = w3 at *
        clear hb1
        have C3 := hid (pick_c R p2 4 w3 R2.out (by omega) (by omega))
        refine C3.out.mono ?_
        rintro e w4 ⟨k, rfl, hk1, hk2, hr4, hg4⟩
        have hk4 : k < 4 := by have := hk1 (by omega); omega
        have G4 := hid (grown_tr G2.out hg4)
        have O4 := hid (own_off O2.out hg4 (by omega))
        have B4 := hid (B2.out.kept hg4 (by simp; omega))
        have R4 := hid hr4
        have hsz4 : w3.heap.size ≤ w4.heap.size := hg4.size
        clear hr4 hg4 hk1 hk2 C3 R2 G2 O2 B2
        rcases Nat.eq_zero_or_pos k with hk0 | hk0
        · subst hk0
          obtain ⟨g, rfl, hglt⟩ := own_some O4.out (by omega)
          obtain ⟨x, hx⟩ : ∃ x, l[ln - 1]? = some x := ⟨_, List.getElem?_eq_getElem (by rw [hln.out]; omega)⟩
          obtain ⟨xn, xl, xt, xs⟩ := x
          have hfx := HF.out _ (List.mem_of_getElem? hx)
          have at_ : ∀ j, j < 4 → (l.flatMap rcells)[(ln - 1) * 4 + j]? = (rcells ⟨xn, xl, xt, xs⟩)[j]? := fun j hj => flat_get rcells 4 rcells_len l (ln - 1) j _ hx hj
          have c0 := (O4.out.cellAt ((ln - 1) * 4) (by omega)).trans (at_ 0 (by omega))
          have c1 := (O4.out.cellAt ((ln - 1) * 4 + 1) (by omega)).trans (at_ 1 (by omega))
          have c2 := (O4.out.cellAt ((ln - 1) * 4 + 2) (by omega)).trans (at_ 2 (by omega))
          have c3 := (O4.out.cellAt ((ln - 1) * 4 + 3) (by omega)).trans (at_ 3 (by omega))
          obtain ⟨n2, hn2⟩ : ∃ n2 : ByteArray, Hid (txt xn = .string n2 ∧ n2.data.toList = xn) := txt_mk xn
          obtain ⟨t2, ht2⟩ : ∃ t2 : ByteArray, Hid (txt xt = .string t2 ∧ t2.data.toList = xt) := txt_mk xt
          simp only [rcells, List.getElem?_cons_zero, List.getElem?_cons_succ, hn2.out.1, ht2.out.1] at c0 c1 c2 c3
          have q1 : IntKind.i64.wrap ((ln : Int) - 1) = (ln : Int) - 1 := by rw [IntKind.wrap_i64]; omega
          have q2 : (0 : Int) ≤ (ln : Int) - 1 := by omega
          have q3 : ((ln : Int) - 1).toNat = ln - 1 := by omega
          have q4 : (ln : Int) - 1 < (ln : Int) := by omega
          have KB := B4.out
          obtain ⟨k0, g0⟩ := KB.2 0 _ rfl
          obtain ⟨k1, g1⟩ := KB.2 1 _ rfl
          obtain ⟨k2, g2⟩ := KB.2 2 _ rfl
          obtain ⟨k3, g3⟩ := KB.2 3 _ rfl
          clear hx at_
          have hgb : g ≠ b1 := by have := HLT.out g rfl; omega
          have HFX := hid hfx
          go_wp2_with fail
          have B5 := hid ((((KB.set 0 (.string n2)).set 1 (.int .i64 xl)).set 2 (.string t2)).set 3 (.int .i64 xs))
          have O5 := hid (own_cellset (own_cellset (own_cellset (own_cellset O4.out hgb (j := 0) (u := .string n2)) hgb (j := 1) (u := .int .i64 xl)) hgb (j := 2) (u := .string t2)) hgb (j := 3) (u := .int .i64 xs))
          have R5 := hid ((((R4.out.set (j := 0) (u := .string n2) (Nat.lt_trans hlt hbb)).set (j := 1) (u := .int .i64 xl) (Nat.lt_trans hlt hbb)).set (j := 2) (u := .string t2) (Nat.lt_trans hlt hbb)).set (j := 3) (u := .int .i64 xs) (Nat.lt_trans hlt hbb))
          have hbw : w.heap.size ≤ b1 := by rw [hbase.out]; omega
          have G5 := hid (grown_at (j := 3) (u := .int .i64 xs) (grown_at (j := 2) (u := .string t2) (grown_at (j := 1) (u := .int .i64 xl) (grown_at (j := 0) (u := .string n2) G4.out hbw) hbw) hbw) hbw)
          have hs5 : w4.heap.size ≤ ((((w4.setCell ⟨b1, 0, none⟩ (.string n2)).setCell ⟨b1, 1, none⟩ (.int .i64 xl)).setCell ⟨b1, 2, none⟩ (.string t2)).setCell ⟨b1, 3, none⟩ (.int .i64 xs)).heap.size := by simp
          clear KB k0 k1 k2 k3 g0 g1 g2 g3 c0 c1 c2 c3 B4 O4 R4 G4
          generalize (((w4.setCell ⟨b1, 0, none⟩ (.string n2)).setCell ⟨b1, 1, none⟩ (.int .i64 xl)).setCell ⟨b1, 2, none⟩ (.string t2)).setCell ⟨b1, 3, none⟩ (.int .i64 xs) = w5 at *
          have C6 := hid (pick_c R (p2 + 1) 10 w5 R5.out (by omega) (by omega))
          refine C6.out.mono ?_
          rintro e w6 ⟨kk, rfl, hk1, hk2, hr6, hg6⟩
          have hk6 : (kk : Int) < 10 := hk1 (by omega)
          have G6 := hid (grown_tr G5.out hg6)
          have O6 := hid (own_off O5.out hg6 (by omega))
          have B6 := hid (B5.out.kept hg6 (by simp; omega))
          have R6 := hid hr6
          have hsz6 : w5.heap.size ≤ w6.heap.size := hg6.size
          obtain ⟨_, g3⟩ := B6.out.2 3 _ rfl
          have hn20 : n2.size ≤ 20 ∧ t2.size ≤ 20 := by rw [Lib.size_eq, Lib.size_eq, hn2.out.2, ht2.out.2]; exact HFX.out
          clear hr6 hg6 hk1 hk2 C6 R5 G5 O5 B5
          have KB := B6.out
          obtain ⟨k0, _⟩ := KB.2 0 _ rfl
          obtain ⟨k1, _⟩ := KB.2 1 _ rfl
          obtain ⟨k2, _⟩ := KB.2 2 _ rfl
          obtain ⟨k3, _⟩ := KB.2 3 _ rfl
          have HOx := hid (show World.ownsRow _ base 33 4 _ l.length (l.flatMap rcells) from by rw [hln.out]; exact (own_cellset O6.out hgb (j := 3) (u := .int .i64 (kk : Int))))
          have hlx : l.length ≤ 1048576 := by rw [hln.out]; omega
          go_wp2_with (at_builtin; refine appRecord _ rfl (.tmp 33) (.tmp 35) rfl base _ l (by rfl) HOx.out n2 xl t2 (kk : Int) _ _ _ (by rfl) (by simp) hlx (by first | omega | (simp; omega)) ?_)
          intro v5 w5 ho5 hb5
          have HO5 := hid ho5
          have HR5 := hid (Rdr.low (R6.out.set (b := b1) (j := 3) (u := .int .i64 (kk : Int)) (Nat.lt_trans hlt hbb)) hb5 hlt)
          have HG5 := hid (show w.grownBy w5 (some R) from grown_low (grown_at (b := b1) (j := 3) (u := .int .i64 (kk : Int)) G6.out hbw) (by rw [hbase.out]; exact hb5))
          have hs5 : base < w5.heap.size := Nat.lt_of_lt_of_le (by first | omega | (simp; omega)) hb5.size
          clear ho5 hb5
          go_wp2_with fail
          go_roundw
          case rel => exact ⟨_, q - 1, l ++ [(⟨n2.data.toList, xl, t2.data.toList, (kk : Int)⟩ : Rec)], p2 + 1 + 1, rfl, by go_num, by omega, by rw [List.length_append, hln.out]; simp; omega, by rw [List.length_append, hln.out]; simp; omega, fit_add HF.out (by rw [← Lib.size_eq, ← Lib.size_eq]; exact hn20), (by show World.ownsRow _ _ _ _ _ _ _; simpa using HO5.out), HR5.out, HG5.out, hs5⟩
          case measure => simp [intOf]; omega

        · have q0 : ((k : Int) == 0) = false := by simp; omega
          have KB := B4.out
          obtain ⟨k0, _⟩ := KB.2 0 _ rfl
          obtain ⟨k1, _⟩ := KB.2 1 _ rfl
          obtain ⟨k2, _⟩ := KB.2 2 _ rfl
          obtain ⟨k3, _⟩ := KB.2 3 _ rfl
          have HOx := hid (show World.ownsRow _ base 33 4 _ l.length (l.flatMap rcells) from by rw [hln.out]; exact O4.out)
          have hlx : l.length ≤ 1048576 := by rw [hln.out]; omega
          go_wp2_with (at_builtin; refine appRecord _ rfl (.tmp 33) (.tmp 35) rfl base _ l (by rfl) HOx.out nm lv tx sq _ _ _ (by rfl) (by simp) hlx (by first | omega | (simp; omega)) ?_)
          intro v5 w5 ho5 hb5
          have HO5 := hid ho5
          have HR5 := hid (Rdr.low R4.out hb5 hlt)
          have HG5 := hid (show w.grownBy w5 (some R) from grown_low G4.out (by rw [hbase.out]; exact hb5))
          have hs5 : base < w5.heap.size := Nat.lt_of_lt_of_le (by first | omega | (simp; omega)) hb5.size
          clear ho5 hb5
          go_wp2_with fail
          go_roundw
          case rel => exact ⟨_, q - 1, l ++ [(⟨nm.data.toList, lv, tx.data.toList, sq⟩ : Rec)], p2 + 1, rfl, by go_num, by omega, by rw [List.length_append, hln.out]; simp; omega, by rw [List.length_append, hln.out]; simp; omega, fit_add HF.out (by rw [← Lib.size_eq, ← Lib.size_eq]; exact ⟨hnm, htx⟩), (by show World.ownsRow _ _ _ _ _ _ _; simpa using HO5.out), HR5.out, HG5.out, hs5⟩
          case measure => simp [intOf]; omega


    · obtain rfl : q = 0 := by omega
      go_wp2_with fail
      go_ret
      have hb := hbase.out
      have hl := hln.out
      subst hb hl
      exact ⟨_, l, p', rfl, by omega, HF.out, HO.out, by omega, HR.out, HG.out⟩
end Go.Proofs.Ythgkkckbncgfmaa
