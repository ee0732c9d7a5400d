/-
  DRAWS: records that are valid. By gen_recg.py.
-/
import Derived.Test.YtihigemelekflaaE38
namespace Go.Proofs.Ytihigemelekflaa
open Go.RowKit Nm
set_option linter.unusedSimpArgs false
set_option linter.unusedVariables false

def TextPost (R p : Nat) (w : World) (e : Ending) (w' : World) : Prop :=
  ∃ (x : ByteArray) (p' : Nat), (x.size ≤ 20 ∧ x.data.toList ∈ texts7) ∧ e = .returned (.string x) ∧ p' ≤ p + 1 ∧ Rdr w' R p' ∧ w.grownBy w' (some R)
set_option maxHeartbeats 1000000 in
set_option maxRecDepth 100000 in
theorem aTextG_c (R p : Nat) (w : World) (hr : Rdr w R p) (hp : p ≤ 1000000) :
    Calls Try.prog 25 #[.pointer (some ⟨R, 0, none⟩)] w (TextPost R p w) := by
  have C := hid (of_litV R p 7 20 texts7 w hr hp rfl (by omega) (by omega) (by decide))
  clear hr
  go_enter Try.func25, Try.ntmps25
  go_wp2_with fail
  refine C.out.mono ?_
  rintro e w1 ⟨x, p1, h1, rfl, h2, h3, h4⟩
  have H := hid (And.intro h3 h4)
  clear h3 h4
  go_wp2_with fail
  go_ret
  exact ⟨x, p1, h1, rfl, h2, H.out.1, H.out.2⟩


theorem rec_ok {nm tx : List UInt8} {lv sq : Int} (h1 : nameOk nm = true) (h2 : tx ∈ texts7) (h3 : 1 ≤ lv) (h4 : lv ≤ 60) (h5 : 0 ≤ sq) (h6 : sq ≤ 999) : recOk ⟨nm, lv, tx, sq⟩ = true := by
  have ht : ∀ l ∈ texts7, textOk l = true := by decide
  unfold recOk
  simp only [Bool.and_eq_true, decide_eq_true_eq]
  exact ⟨h1, h3, h4, ht _ h2, h5, h6⟩
theorem rec_seq {nm tx : List UInt8} {lv sq z : Int} (h : recOk ⟨nm, lv, tx, sq⟩ = true) (h5 : 0 ≤ z) (h6 : z ≤ 999) : recOk ⟨nm, lv, tx, z⟩ = true := by
  unfold recOk at h ⊢
  simp only [Bool.and_eq_true, decide_eq_true_eq] at h ⊢
  exact ⟨h.1, h.2.1, h.2.2.1, h.2.2.2.1, h5, h6⟩
/-- a valid record, drawn -/
def RecPostG (R p dp : Nat) (w : World) (e : Ending) (w' : World) : Prop :=
  ∃ (nm tx : ByteArray) (lv sq : Int) (p' : Nat), (nm.size ≤ 20 ∧ tx.size ≤ 20) ∧ recOk ⟨nm.data.toList, lv, tx.data.toList, sq⟩ = true ∧ e = .returned (.agg #[.string nm, .int .i64 lv, .string tx, .int .i64 sq]) ∧ p' ≤ p + dp ∧ Rdr w' R p' ∧ w.grownBy w' (some R)
set_option maxHeartbeats 2000000 in
set_option maxRecDepth 100000 in
theorem aRecordG_c (R p : Nat) (w : World) (hr : Rdr w R p) (hp : p ≤ 900000) :
    Calls Try.prog 19 #[.pointer (some ⟨R, 0, none⟩)] w (RecPostG R p 4 w) := by
  have hlt := hr.lt
  have K0 := hid (Blk.new w #[.string ByteArray.empty, .int .i64 0, .string ByteArray.empty, .int .i64 0] 32)
  have C := hid (aNameG_c R p _ (hr.below ((Below.refl _ _).alloc (Nat.le_refl _) (.cells #[.string ByteArray.empty, .int .i64 0, .string ByteArray.empty, .int .i64 0] 32))) (by omega))
  clear hr
  go_enter Try.func19, Try.ntmps19
  go_wp2_with fail
  refine C.out.mono ?_
  rintro e w1 ⟨nm, p1, ⟨hnm, hnmo⟩, rfl, hp1, hr1, hg1⟩
  replace hnmo := hid hnmo
  have G1 := hid (grown_tr (World.grownBy_alloc w _ _) hg1)
  have K1 := hid (K0.out.kept hg1 (by simp; omega))
  have C2 := hid (one_lit R p1 8 [20, 30, 10, 40, 50, 15, 1, 60] w1 hr1 (by omega) rfl (by omega) (by omega) 1 60 (by decide))
  clear hr1 hg1 C
  go_wp2_with fail
  refine C2.out.mono ?_
  rintro e w2 ⟨lv, hlv, rfl, hr2, hg2⟩
  have G2 := hid (grown_tr G1.out hg2)
  have K2 := hid (K1.out.kept hg2 (by simp; omega))
  have C3 := hid (aTextG_c R (p1 + 1) w2 hr2 (by omega))
  clear hr2 hg2 C2 K0 K1 G1
  go_wp2_with fail
  refine C3.out.mono ?_
  rintro e w3 ⟨tx, p3, ⟨htx, htxm⟩, rfl, hp3, hr3, hg3⟩
  replace htxm := hid htxm
  have G3 := hid (grown_tr G2.out hg3)
  have K3 := hid (K2.out.kept hg3 (by simp; omega))
  have C4 := hid (pick_c R p3 10 w3 hr3 (by omega) (by omega))
  clear hr3 hg3 C3 K2 G2
  go_wp2_with fail
  refine C4.out.mono ?_
  rintro e w4 ⟨k, rfl, hk1, hk2, hr4, hg4⟩
  have hk : (k : Int) < 10 := hk1 (by omega)
  have G4 := hid (grown_tr G3.out hg4)
  have K4 := K3.out.kept hg4 (by simp; omega)
  have R4 := hid hr4
  obtain ⟨k0, g0⟩ := K4.2 0 _ rfl
  obtain ⟨k1, g1⟩ := K4.2 1 _ rfl
  obtain ⟨k2, g2⟩ := K4.2 2 _ rfl
  obtain ⟨k3, g3⟩ := K4.2 3 _ rfl
  clear hr4 hg4 C4 K3 G3 hk1 hk2
  go_wp2_with fail
  have RB := (((K4.set 0 (.string nm)).set 1 (.int .i64 lv)).set 2 (.string tx)).set 3 (.int .i64 (k : Int))
  have f0 := (RB.2 0 _ rfl).1
  have f1 := (RB.2 1 _ rfl).1
  have f2 := (RB.2 2 _ rfl).1
  have f3 := (RB.2 3 _ rfl).1
  refine bodyPost_ret (v := .agg #[.string nm, .int .i64 lv, .string tx, .int .i64 (k : Int)]) (by simp [results, Try.results19, go_sem, f0, f1, f2, f3]) rfl ?_
  refine ⟨nm, tx, lv, k, p3 + 1, ⟨by omega, htx⟩, rec_ok hnmo.out htxm.out hlv.1 hlv.2 (by omega) (by omega), rfl, by omega, ?_, ?_⟩
  · exact (((R4.out.set hlt).set hlt).set hlt).set hlt
  · exact grown_at (grown_at (grown_at (grown_at G4.out (Nat.le_refl _)) (Nat.le_refl _)) (Nat.le_refl _)) (Nat.le_refl _)

def recGd (x : Rec) : Prop := (x.nm.length ≤ 20 ∧ x.tx.length ≤ 20) ∧ recOk x = true
theorem gd_add {l : List Rec} {x : Rec} (h : ∀ x ∈ l, recGd x) (hx : recGd x) : ∀ y ∈ l ++ [x], recGd y := by
  intro y hy
  rcases List.mem_append.1 hy with hy | hy
  · exact h y hy
  · rw [List.mem_singleton.1 hy]; exact hx
/-- valid records, drawn -/
def RecsPostG (R p dp m : Nat) (w : World) (e : Ending) (w' : World) : Prop :=
  ∃ (v : Value) (l : List Rec) (p' : Nat), e = .returned v ∧ l.length ≤ m ∧ (∀ x ∈ l, recGd x) ∧ w'.ownsRow w.heap.size 32 4 v l.length (l.flatMap rcells) ∧ p' ≤ p + dp ∧ Rdr w' R p' ∧ w.grownBy w' (some R)
set_option maxHeartbeats 4000000 in
set_option maxRecDepth 100000 in
theorem goodRecordsG_c (R p : Nat) (w : World) (hr : Rdr w R p) (hp : p ≤ 700000) :
    Calls Try.prog 11 #[.pointer (some ⟨R, 0, none⟩)] w (RecsPostG R p 120 12 w) := by
  have hlt := hr.lt
  have HL := hid (World.ownsRow_lit w #[] 0 (Nat.le_refl _) (by unfold maxLen; omega) (by simp) : (w.alloc (.cells #[] 32)).ownsRow w.heap.size 32 4 (.slice (some ⟨w.heap.size, 0, none⟩) 0 0) 0 [])
  have C := hid (one_lit R p 8 [3, 4, 2, 5, 1, 0, 8, 12] (w.alloc (.cells #[] 32)) (hr.below ((Below.refl _ _).alloc (Nat.le_refl _) _)) (by omega) rfl (by omega) (by omega) 0 12 (by decide))
  simp only [World.size_alloc] at C
  have G0 := hid (show w.grownBy (w.alloc (.cells #[] 32)) (some R) from World.grownBy_alloc w _ _)
  clear hr
  go_enter Try.func11, Try.ntmps11
  go_wp2_with fail
  refine C.out.mono ?_
  rintro e w1 ⟨n, ⟨hn0, hn1⟩, rfl, hr1, hg1⟩
  have G1 := hid (grown_tr G0.out hg1)
  have O1 := hid (own_off HL.out hg1 hlt)
  have R1 := hid hr1
  have hs1 : w.heap.size < w1.heap.size := by have := hg1.size; simp at this; omega
  generalize hbase : w.heap.size = base at *
  replace hbase := hid hbase
  clear hr1 hg1 C HL G0
  go_wp2_with fail
  go_loopw [3, 4] (fun av nv wr => ∃ (v : Value) (q : Int) (l : List Rec) (p' : Nat), av = v ∧ nv = .int .i64 q ∧ 0 ≤ q ∧ (l.length : Int) + q ≤ 12 ∧ p' ≤ p + 1 + 7 * l.length ∧ Hid (∀ x ∈ l, recGd x) ∧ Hid (wr.ownsRow base 32 4 v l.length (l.flatMap rcells)) ∧ Hid (Rdr wr R p') ∧ Hid (w.grownBy wr (some R)) ∧ base < wr.heap.size) (fun _ nv _ => (intOf nv).toNat)
  case atStart => exact ⟨_, n, [], p + 1, rfl, rfl, hn0, by simpa using hn1, by simp, (fun x hx => by cases hx), O1.out, R1.out, G1.out, hs1⟩
  case round =>
    obtain ⟨v, q, l, p', rfl, rfl, hq0, hq1, hp', HF, HO, HR, HG, hsz⟩ := hrel
    obtain ⟨A, c, rfl, hnc, hcm⟩ := (Sl.of_own HO.out).form
    unfold maxLen at hcm
    generalize hln : l.length = ln at *
    replace hln := hid hln
    by_cases hq : 0 < q
    · have C1 := hid (aRecordG_c R p' wr HR.out (by omega))
      go_wp2_with fail
      refine C1.out.mono ?_
      rintro e w2 ⟨nm, tx, lv, sq, p2, ⟨hnm, htx⟩, hrok, rfl, hp2, hr2, hg2⟩
      replace hrok := hid hrok
      have G2 := hid (grown_new (grown_tr HG.out hg2) ((Below.refl w2.heap.size w2).alloc (Nat.le_refl _) (.cells #[.string nm, .int .i64 lv, .string tx, .int .i64 sq] 32)))
      have O2 := hid ((own_off HO.out hg2 (by omega)).alloc (.cells #[.string nm, .int .i64 lv, .string tx, .int .i64 sq] 32))
      have B2 := hid (Blk.new w2 #[.string nm, .int .i64 lv, .string tx, .int .i64 sq] 32)
      have R2 := hid (hr2.below ((Below.refl _ _).alloc (Nat.le_refl _) (.cells #[.string nm, .int .i64 lv, .string tx, .int .i64 sq] 32)))
      have hsz2 : wr.heap.size ≤ w2.heap.size := hg2.size
      have HLT := hid (fun g h => (HO.out.lt g h).2)
      clear hr2 hg2 C1 HO HR HG
      rcases Nat.eq_zero_or_pos ln with hz | hz
      · subst hz
        have KB := B2.out
        obtain ⟨k0, _⟩ := KB.2 0 _ rfl
        obtain ⟨k1, _⟩ := KB.2 1 _ rfl
        obtain ⟨k2, _⟩ := KB.2 2 _ rfl
        obtain ⟨k3, _⟩ := KB.2 3 _ rfl
        have HOx := hid (show World.ownsRow _ base 32 4 _ l.length (l.flatMap rcells) from by rw [hln.out]; exact O2.out)
        have hlx : l.length ≤ 1048576 := by rw [hln.out]; omega
        go_wp2_with (at_builtin; refine appRecord _ rfl (.tmp 33) (.tmp 35) rfl base _ l (by rfl) HOx.out nm lv tx sq _ _ _ (by rfl) (by simp) hlx (by first | omega | (simp; omega)) ?_)
        intro v5 w5 ho5 hb5
        have HO5 := hid ho5
        have HR5 := hid (Rdr.low R2.out hb5 hlt)
        have HG5 := hid (show w.grownBy w5 (some R) from grown_low G2.out (by rw [hbase.out]; exact hb5))
        have hs5 : base < w5.heap.size := Nat.lt_of_lt_of_le (by first | omega | (simp; omega)) hb5.size
        clear ho5 hb5
        go_wp2_with fail
        go_roundw
        case rel => exact ⟨_, q - 1, l ++ [(⟨nm.data.toList, lv, tx.data.toList, sq⟩ : Rec)], p2, rfl, by go_num, by omega, by rw [List.length_append, hln.out]; simp; omega, by rw [List.length_append, hln.out]; simp; omega, gd_add HF.out ⟨by rw [← Lib.size_eq, ← Lib.size_eq]; exact ⟨hnm, htx⟩, hrok.out⟩, (by show World.ownsRow _ _ _ _ _ _ _; simpa using HO5.out), HR5.out, HG5.out, hs5⟩
        case measure => simp [intOf]; omega
      · have hzi : decide ((0 : Int) < (ln : Int)) = true := by simp; omega
        go_wp2_with fail
        have hw3 : w2.heap.size < (w2.alloc (.cells #[.string nm, .int .i64 lv, .string tx, .int .i64 sq] 32)).heap.size := by simp
        generalize hb1 : w2.heap.size = b1 at *
        have hbb : base < b1 := by omega
        generalize w2.alloc (.cells #[.string nm, .int .i64 lv, .string tx, .int .i64 sq] 32) = w3 at *
        clear hb1
        have C3 := hid (pick_c R p2 4 w3 R2.out (by omega) (by omega))
        refine C3.out.mono ?_
        rintro e w4 ⟨k, rfl, hk1, hk2, hr4, hg4⟩
        have hk4 : k < 4 := by have := hk1 (by omega); omega
        have G4 := hid (grown_tr G2.out hg4)
        have O4 := hid (own_off O2.out hg4 (by omega))
        have B4 := hid (B2.out.kept hg4 (by simp; omega))
        have R4 := hid hr4
        have hsz4 : w3.heap.size ≤ w4.heap.size := hg4.size
        clear hr4 hg4 hk1 hk2 C3 R2 G2 O2 B2
        rcases Nat.eq_zero_or_pos k with hk0 | hk0
        · subst hk0
          obtain ⟨g, rfl, hglt⟩ := own_some O4.out (by omega)
          obtain ⟨x, hx⟩ : ∃ x, l[ln - 1]? = some x := ⟨_, List.getElem?_eq_getElem (by rw [hln.out]; omega)⟩
          obtain ⟨xn, xl, xt, xs⟩ := x
          have hfx := HF.out _ (List.mem_of_getElem? hx)
          have at_ : ∀ j, j < 4 → (l.flatMap rcells)[(ln - 1) * 4 + j]? = (rcells ⟨xn, xl, xt, xs⟩)[j]? := fun j hj => flat_get rcells 4 rcells_len l (ln - 1) j _ hx hj
          have c0 := (O4.out.cellAt ((ln - 1) * 4) (by omega)).trans (at_ 0 (by omega))
          have c1 := (O4.out.cellAt ((ln - 1) * 4 + 1) (by omega)).trans (at_ 1 (by omega))
          have c2 := (O4.out.cellAt ((ln - 1) * 4 + 2) (by omega)).trans (at_ 2 (by omega))
          have c3 := (O4.out.cellAt ((ln - 1) * 4 + 3) (by omega)).trans (at_ 3 (by omega))
          obtain ⟨n2, hn2⟩ : ∃ n2 : ByteArray, Hid (txt xn = .string n2 ∧ n2.data.toList = xn) := txt_mk xn
          obtain ⟨t2, ht2⟩ : ∃ t2 : ByteArray, Hid (txt xt = .string t2 ∧ t2.data.toList = xt) := txt_mk xt
          simp only [rcells, List.getElem?_cons_zero, List.getElem?_cons_succ, hn2.out.1, ht2.out.1] at c0 c1 c2 c3
          have q1 : IntKind.i64.wrap ((ln : Int) - 1) = (ln : Int) - 1 := by rw [IntKind.wrap_i64]; omega
          have q2 : (0 : Int) ≤ (ln : Int) - 1 := by omega
          have q3 : ((ln : Int) - 1).toNat = ln - 1 := by omega
          have q4 : (ln : Int) - 1 < (ln : Int) := by omega
          have KB := B4.out
          obtain ⟨k0, g0⟩ := KB.2 0 _ rfl
          obtain ⟨k1, g1⟩ := KB.2 1 _ rfl
          obtain ⟨k2, g2⟩ := KB.2 2 _ rfl
          obtain ⟨k3, g3⟩ := KB.2 3 _ rfl
          clear hx at_
          have hgb : g ≠ b1 := by have := HLT.out g rfl; omega
          have HFX := hid hfx
          go_wp2_with fail
          have B5 := hid ((((KB.set 0 (.string n2)).set 1 (.int .i64 xl)).set 2 (.string t2)).set 3 (.int .i64 xs))
          have O5 := hid (own_cellset (own_cellset (own_cellset (own_cellset O4.out hgb (j := 0) (u := .string n2)) hgb (j := 1) (u := .int .i64 xl)) hgb (j := 2) (u := .string t2)) hgb (j := 3) (u := .int .i64 xs))
          have R5 := hid ((((R4.out.set (j := 0) (u := .string n2) (Nat.lt_trans hlt hbb)).set (j := 1) (u := .int .i64 xl) (Nat.lt_trans hlt hbb)).set (j := 2) (u := .string t2) (Nat.lt_trans hlt hbb)).set (j := 3) (u := .int .i64 xs) (Nat.lt_trans hlt hbb))
          have hbw : w.heap.size ≤ b1 := by rw [hbase.out]; omega
          have G5 := hid (grown_at (j := 3) (u := .int .i64 xs) (grown_at (j := 2) (u := .string t2) (grown_at (j := 1) (u := .int .i64 xl) (grown_at (j := 0) (u := .string n2) G4.out hbw) hbw) hbw) hbw)
          have hs5 : w4.heap.size ≤ ((((w4.setCell ⟨b1, 0, none⟩ (.string n2)).setCell ⟨b1, 1, none⟩ (.int .i64 xl)).setCell ⟨b1, 2, none⟩ (.string t2)).setCell ⟨b1, 3, none⟩ (.int .i64 xs)).heap.size := by simp
          clear KB k0 k1 k2 k3 g0 g1 g2 g3 c0 c1 c2 c3 B4 O4 R4 G4
          generalize (((w4.setCell ⟨b1, 0, none⟩ (.string n2)).setCell ⟨b1, 1, none⟩ (.int .i64 xl)).setCell ⟨b1, 2, none⟩ (.string t2)).setCell ⟨b1, 3, none⟩ (.int .i64 xs) = w5 at *
          have C6 := hid (pick_c R (p2 + 1) 10 w5 R5.out (by omega) (by omega))
          refine C6.out.mono ?_
          rintro e w6 ⟨kk, rfl, hk1, hk2, hr6, hg6⟩
          have hk6 : (kk : Int) < 10 := hk1 (by omega)
          have G6 := hid (grown_tr G5.out hg6)
          have O6 := hid (own_off O5.out hg6 (by omega))
          have B6 := hid (B5.out.kept hg6 (by simp; omega))
          have R6 := hid hr6
          have hsz6 : w5.heap.size ≤ w6.heap.size := hg6.size
          obtain ⟨_, g3⟩ := B6.out.2 3 _ rfl
          have hn20 : n2.size ≤ 20 ∧ t2.size ≤ 20 := by rw [Lib.size_eq, Lib.size_eq, hn2.out.2, ht2.out.2]; exact HFX.out.1
          clear hr6 hg6 hk1 hk2 C6 R5 G5 O5 B5
          have KB := B6.out
          obtain ⟨k0, _⟩ := KB.2 0 _ rfl
          obtain ⟨k1, _⟩ := KB.2 1 _ rfl
          obtain ⟨k2, _⟩ := KB.2 2 _ rfl
          obtain ⟨k3, _⟩ := KB.2 3 _ rfl
          have HOx := hid (show World.ownsRow _ base 32 4 _ l.length (l.flatMap rcells) from by rw [hln.out]; exact (own_cellset O6.out hgb (j := 3) (u := .int .i64 (kk : Int))))
          have hlx : l.length ≤ 1048576 := by rw [hln.out]; omega
          go_wp2_with (at_builtin; refine appRecord _ rfl (.tmp 33) (.tmp 35) rfl base _ l (by rfl) HOx.out n2 xl t2 (kk : Int) _ _ _ (by rfl) (by simp) hlx (by first | omega | (simp; omega)) ?_)
          intro v5 w5 ho5 hb5
          have HO5 := hid ho5
          have HR5 := hid (Rdr.low (R6.out.set (b := b1) (j := 3) (u := .int .i64 (kk : Int)) (Nat.lt_trans hlt hbb)) hb5 hlt)
          have HG5 := hid (show w.grownBy w5 (some R) from grown_low (grown_at (b := b1) (j := 3) (u := .int .i64 (kk : Int)) G6.out hbw) (by rw [hbase.out]; exact hb5))
          have hs5 : base < w5.heap.size := Nat.lt_of_lt_of_le (by first | omega | (simp; omega)) hb5.size
          clear ho5 hb5
          go_wp2_with fail
          go_roundw
          case rel => exact ⟨_, q - 1, l ++ [(⟨n2.data.toList, xl, t2.data.toList, (kk : Int)⟩ : Rec)], p2 + 1 + 1, rfl, by go_num, by omega, by rw [List.length_append, hln.out]; simp; omega, by rw [List.length_append, hln.out]; simp; omega, gd_add HF.out ⟨by rw [← Lib.size_eq, ← Lib.size_eq]; exact hn20, by rw [hn2.out.2, ht2.out.2]; exact rec_seq HFX.out.2 (by omega) (by omega)⟩, (by show World.ownsRow _ _ _ _ _ _ _; simpa using HO5.out), HR5.out, HG5.out, hs5⟩
          case measure => simp [intOf]; omega

        · have q0 : ((k : Int) == 0) = false := by simp; omega
          have KB := B4.out
          obtain ⟨k0, _⟩ := KB.2 0 _ rfl
          obtain ⟨k1, _⟩ := KB.2 1 _ rfl
          obtain ⟨k2, _⟩ := KB.2 2 _ rfl
          obtain ⟨k3, _⟩ := KB.2 3 _ rfl
          have HOx := hid (show World.ownsRow _ base 32 4 _ l.length (l.flatMap rcells) from by rw [hln.out]; exact O4.out)
          have hlx : l.length ≤ 1048576 := by rw [hln.out]; omega
          go_wp2_with (at_builtin; refine appRecord _ rfl (.tmp 33) (.tmp 35) rfl base _ l (by rfl) HOx.out nm lv tx sq _ _ _ (by rfl) (by simp) hlx (by first | omega | (simp; omega)) ?_)
          intro v5 w5 ho5 hb5
          have HO5 := hid ho5
          have HR5 := hid (Rdr.low R4.out hb5 hlt)
          have HG5 := hid (show w.grownBy w5 (some R) from grown_low G4.out (by rw [hbase.out]; exact hb5))
          have hs5 : base < w5.heap.size := Nat.lt_of_lt_of_le (by first | omega | (simp; omega)) hb5.size
          clear ho5 hb5
          go_wp2_with fail
          go_roundw
          case rel => exact ⟨_, q - 1, l ++ [(⟨nm.data.toList, lv, tx.data.toList, sq⟩ : Rec)], p2 + 1, rfl, by go_num, by omega, by rw [List.length_append, hln.out]; simp; omega, by rw [List.length_append, hln.out]; simp; omega, gd_add HF.out ⟨by rw [← Lib.size_eq, ← Lib.size_eq]; exact ⟨hnm, htx⟩, hrok.out⟩, (by show World.ownsRow _ _ _ _ _ _ _; simpa using HO5.out), HR5.out, HG5.out, hs5⟩
          case measure => simp [intOf]; omega


    · obtain rfl : q = 0 := by omega
      go_wp2_with fail
      go_ret
      have hb := hbase.out
      have hl := hln.out
      subst hb hl
      exact ⟨_, l, p', rfl, by omega, HF.out, HO.out, by omega, HR.out, HG.out⟩
end Go.Proofs.Ytihigemelekflaa
